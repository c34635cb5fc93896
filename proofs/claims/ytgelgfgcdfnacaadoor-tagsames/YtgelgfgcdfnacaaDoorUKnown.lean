/-
  The walk of the laws' known: true. The library's number MaxLen and the table of package refs are there.
-/
import Derived.Test.YtgelgfgcdfnacaaDoorUWayAll
import Derived.Test.YtgelgfgcdfnacaaDoorRHtml
import Derived.Deep.QuietTactic
import Derived.BigQuiet
namespace Go.Proofs.YtgelgfgcdfnacaaDoor
open Go.RowKit

/-- What a law tells: true; nothing old is changed. -/
def Yes (w : World) (e : Ending) (w' : World) : Prop := e = .returned (.bool true) ∧ Below w.heap.size w w'
/-- A token that Read told, of a tag that ends. -/
def TokOut (K : Int) (nm : List UInt8) (rs : List (List UInt8 × List UInt8)) (self : Bool) (n : Nat) (w : World) (e : Ending) (w' : World) : Prop :=
  ∃ v, e = .returned (.tuple #[.agg #[.int .i64 K, .string ⟨nm.toArray⟩, v, .bool self, .string ⟨#[]⟩], .int .i64 (n : Int)]) ∧ AttrsAt w' v rs ∧ Below w.heap.size w w'
theorem ReadOut.tok {K : Int} {nm : List UInt8} {rs : List (List UInt8 × List UInt8)} {self : Bool} {n : Nat} {w : World} {e : Ending} {w' : World} (h : ReadOut K nm (some (rs, self), n) w e w') : TokOut K nm rs self n w e w' := by
  obtain ⟨h | ⟨rs', self', v, h1, h2, h3⟩, hb⟩ := h
  · cases h.1
  · have e1 := Option.some.inj h1
    injection e1 with e2 e3
    subst e2 e3
    exact ⟨v, h2, h3, hb⟩
theorem read_is (s : ByteArray) (K : Int) (nm : List UInt8) (rs : List (List UInt8 × List UInt8)) (self : Bool) (n : Nat) (w : World) (hmax : HasMax w) (hea : HasEarly w) (hat : atPlace s.data.toList 0 = true) (hs : s.size ≤ 268435456)
    (hK : tagKd s.data.toList 0 = K) (hN : tagNm s.data.toList 0 = nm) (hR : tagRd s.data.toList 0 = (some (rs, self), n)) : Calls Tryd.prog 40 #[.string s, .int .i64 0] w (TokOut K nm rs self n w) := by
  have h := read_any s 0 w hmax hea hat hs
  rw [hK, hN, hR] at h
  exact h.mono fun _ _ hh => hh.tok
theorem At_is (s : ByteArray) (b : Bool) (hat : atPlace s.data.toList 0 = b) (hs : s.size ≤ 1073741824) (w : World) : Calls Tryd.prog 41 #[.string s, .int .i64 0] w (Gives (.bool b) w) := by
  have h := at_any s 0 w (by omega) (by omega) hs
  rw [hat] at h
  exact h
theorem tok_cells (w : World) (v0 v1 v2 v3 v4 : Value) (j : Nat) : (w.alloc (.cells #[v0, v1, v2, v3, v4] 27)).cell? ⟨w.heap.size, j, none⟩ = (#[v0, v1, v2, v3, v4] : Array Value)[j]? := World.cell?_alloc_mark w _ 27 (0, 0) j

set_option maxHeartbeats 4000000 in
set_option maxRecDepth 100000 in
theorem known3_yes (w : World) (hmax : HasMax w) (hea : HasEarly w) : Calls Tryd.prog 24 #[] w (Yes w) := by
  have R1 := fun W h1 h2 => Lib.hid (read_is ⟨#[60, 65, 32, 98, 61, 47, 62, 120]⟩ 1 [97] [([98], [47])] false 7 W h1 h2 (by decide) (by decide) (by decide) (by decide) (by decide))
  have R2 := fun W h1 h2 => Lib.hid (read_is ⟨#[60, 98, 114, 47, 62]⟩ 1 [98, 114] [] true 5 W h1 h2 (by decide) (by decide) (by decide) (by decide) (by decide))
  have R3 := fun W => Lib.hid (At_is ⟨#[97]⟩ false (by decide) (by decide) W)
  have HMX := Lib.hid hmax
  have HEA := Lib.hid hea
  have hE := hea.size
  clear hmax hea
  go_enter Tryd.func24, Tryd.ntmps24
  go_wp2_with fail
  refine (R1 _ HMX.out HEA.out).out.mono ?_
  rintro e w1 ⟨v, rfl, ⟨p, cap, rfl, hv⟩, b1⟩
  obtain ⟨g, rfl, hg, hc0, hc1⟩ := hv 0 (by decide)
  have B1 := Lib.hid (b1.alloc b1.size (.cells #[.int .i64 1, .string ⟨[97].toArray⟩, .slice (some ⟨g, 0, none⟩) [(([98] : List UInt8), ([47] : List UInt8))].length cap, .bool false, .string ⟨#[]⟩] 27))
  go_wp2_with fail
  have k0 := tok_cells w1 (.int .i64 1) (.string ⟨#[97]⟩) (.slice (some ⟨g, 0, none⟩) 1 cap) (.bool false) (.string ⟨#[]⟩)
  have a0 : (w1.alloc (.cells #[.int .i64 1, .string ⟨#[97]⟩, .slice (some ⟨g, 0, none⟩) 1 cap, .bool false, .string ⟨#[]⟩] 27)).cell? ⟨g, 0, none⟩ = some (.string ⟨#[98]⟩) := by rw [World.cell?_alloc_lt _ _ _ (by simpa using hg)]; exact hc0
  have a1 : (w1.alloc (.cells #[.int .i64 1, .string ⟨#[97]⟩, .slice (some ⟨g, 0, none⟩) 1 cap, .bool false, .string ⟨#[]⟩] 27)).cell? ⟨g, 1, none⟩ = some (.string ⟨#[47]⟩) := by rw [World.cell?_alloc_lt _ _ _ (by simpa using hg)]; exact hc1
  have hz : (w1.alloc (.cells #[.int .i64 1, .string ⟨#[97]⟩, .slice (some ⟨g, 0, none⟩) 1 cap, .bool false, .string ⟨#[]⟩] 27)).heap.size = w1.heap.size + 1 := by simp
  have B2 : Below w.heap.size w (w1.alloc (.cells #[.int .i64 1, .string ⟨#[97]⟩, .slice (some ⟨g, 0, none⟩) 1 cap, .bool false, .string ⟨#[]⟩] 27)) := b1.alloc b1.size _
  clear hc0 hc1 hv B1
  generalize w1.alloc (.cells #[.int .i64 1, .string ⟨#[97]⟩, .slice (some ⟨g, 0, none⟩) 1 cap, .bool false, .string ⟨#[]⟩] 27) = W1 at *
  refine (R2 _ (HMX.out.below B2) (HEA.out.below B2 hE)).out.mono ?_
  rintro e w2 ⟨v2, rfl, ⟨p2, cap2, rfl, hv2⟩, b2⟩
  clear hv2
  have l0 := (b2.cell (p := ⟨w1.heap.size, 0, none⟩) (by rw [hz]; simp)).trans (k0 0)
  have l1 := (b2.cell (p := ⟨w1.heap.size, 1, none⟩) (by rw [hz]; simp)).trans (k0 1)
  have l2 := (b2.cell (p := ⟨w1.heap.size, 2, none⟩) (by rw [hz]; simp)).trans (k0 2)
  have l3 := (b2.cell (p := ⟨w1.heap.size, 3, none⟩) (by rw [hz]; simp)).trans (k0 3)
  have l4 := (b2.cell (p := ⟨g, 0, none⟩) (by rw [hz]; simp; omega)).trans a0
  have l5 := (b2.cell (p := ⟨g, 1, none⟩) (by rw [hz]; simp; omega)).trans a1
  have B3 := Lib.hid (B2.trans (b2.mono B2.size))
  have hz2 : w1.heap.size < w2.heap.size := by have := b2.size; omega
  have hz3 : g < w2.heap.size := by omega
  clear k0 a0 a1 b2 hz B2 R1 R2 b1
  go_wp2_with fail
  refine (R3 _).out.mono ?_
  rintro e w3 ⟨rfl, rfl⟩
  go_wp2
  go_ret
  exact ⟨rfl, B3.out.alloc B3.out.size _⟩
end Go.Proofs.YtgelgfgcdfnacaaDoor
