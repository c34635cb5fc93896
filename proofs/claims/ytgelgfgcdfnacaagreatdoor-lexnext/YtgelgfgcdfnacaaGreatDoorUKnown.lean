/-
  The walk of the laws' known: true. The library's number MaxLen and the table of package refs are there.
-/
import Derived.Test.YtgelgfgcdfnacaaGreatDoorUWayAll
import Derived.Test.YtgelgfgcdfnacaaGreatDoorRHtml
import Derived.Deep.QuietTactic
import Derived.BigQuiet
namespace Go.Proofs.YtgelgfgcdfnacaaGreatDoor
open Go.RowKit

/-- What a law tells: true; nothing old is changed. -/
def Yes (w : World) (e : Ending) (w' : World) : Prop := e = .returned (.bool true) ∧ Below w.heap.size w w'
/-- A token that Read told, of a tag that ends. -/
def TokOut (K : Int) (nm : List UInt8) (rs : List (List UInt8 × List UInt8)) (self : Bool) (n : Nat) (w : World) (e : Ending) (w' : World) : Prop :=
  ∃ v, e = .returned (.tuple #[.agg #[.int .i64 K, .string ⟨nm.toArray⟩, v, .bool self, .string ⟨#[]⟩], .int .i64 (n : Int)]) ∧ AttrsAt w' v rs ∧ Below w.heap.size w w'
theorem ReadOut.tok {K : Int} {nm : List UInt8} {rs : List (List UInt8 × List UInt8)} {self : Bool} {n : Nat} {w : World} {e : Ending} {w' : World} (h : ReadOut K nm (some (rs, self), n) w e w') : TokOut K nm rs self n w e w' := by
  obtain ⟨h | ⟨rs', self', v, h1, h2, h3⟩, hb⟩ := h
  · cases h.1
  · have e1 := Option.some.inj h1
    injection e1 with e2 e3
    subst e2 e3
    exact ⟨v, h2, h3, hb⟩
theorem read_is (s : ByteArray) (K : Int) (nm : List UInt8) (rs : List (List UInt8 × List UInt8)) (self : Bool) (n : Nat) (w : World) (hmax : HasMax w) (hea : HasEarly w) (hat : atPlace s.data.toList 0 = true) (hs : s.size ≤ 268435456)
    (hK : tagKd s.data.toList 0 = K) (hN : tagNm s.data.toList 0 = nm) (hR : tagRd s.data.toList 0 = (some (rs, self), n)) : Calls Tryz.prog 49 #[.string s, .int .i64 0] w (TokOut K nm rs self n w) := by
  have h := read_any s 0 w hmax hea hat hs
  rw [hK, hN, hR] at h
  exact h.mono fun _ _ hh => hh.tok
theorem At_is (s : ByteArray) (b : Bool) (hat : atPlace s.data.toList 0 = b) (hs : s.size ≤ 1073741824) (w : World) : Calls Tryz.prog 34 #[.string s, .int .i64 0] w (Gives (.bool b) w) := by
  have h := at_any s 0 w (by omega) (by omega) hs
  rw [hat] at h
  exact h
theorem tok_cells (w : World) (v0 v1 v2 v3 v4 : Value) (j : Nat) : (w.alloc (.cells #[v0, v1, v2, v3, v4] 33)).cell? ⟨w.heap.size, j, none⟩ = (#[v0, v1, v2, v3, v4] : Array Value)[j]? := World.cell?_alloc_mark w _ 33 (0, 0) j

end Go.Proofs.YtgelgfgcdfnacaaGreatDoor
