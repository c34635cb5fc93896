/-
  The walks of the reference's Find and Alike. Any rows of attributes.
-/
import Derived.Test.YtgelgfgcdfnacaaDoorUAttr
import Derived.Deep.QuietTactic
import Derived.BigQuiet
namespace Go.Proofs.YtgelgfgcdfnacaaDoor
open Go.RowKit

/-- The slice v holds the attributes rs in w. -/
def AttrsAt (w : World) (v : Value) (rs : List (List UInt8 × List UInt8)) : Prop :=
  ∃ p cap, v = .slice p rs.length cap ∧ ∀ j (hj : j < rs.length), ∃ g, p = some ⟨g, 0, none⟩ ∧ g < w.heap.size ∧ w.cell? ⟨g, j * 2, none⟩ = some (.string ⟨rs[j].1.toArray⟩) ∧ w.cell? ⟨g, j * 2 + 1, none⟩ = some (.string ⟨rs[j].2.toArray⟩)
theorem AttrsAt.below {w w' : World} {v : Value} {rs : List (List UInt8 × List UInt8)} (h : AttrsAt w v rs) (hb : Below w.heap.size w w') : AttrsAt w' v rs := by
  obtain ⟨p, cap, rfl, hc⟩ := h
  refine ⟨p, cap, rfl, fun j hj => ?_⟩
  obtain ⟨g, h1, h2, h3, h4⟩ := hc j hj
  exact ⟨g, h1, Nat.lt_of_lt_of_le h2 hb.size, (hb.cell (p := ⟨g, j * 2, none⟩) h2).trans h3, (hb.cell (p := ⟨g, j * 2 + 1, none⟩) h2).trans h4⟩

/-- What Find tells of a row. -/
def findV (rs : List (List UInt8 × List UInt8)) (n : List UInt8) : Option (List UInt8) := (rs.find? fun a => a.1 == n).map (·.2)
theorem findV_step (rs : List (List UInt8 × List UInt8)) (n : List UInt8) (k : Nat) (h : k < rs.length) (hn : rs[k].1 ≠ n) : findV (rs.drop k) n = findV (rs.drop (k + 1)) n := by
  unfold findV
  rw [List.drop_eq_getElem_cons h, List.find?_cons_of_neg (by simpa using hn)]
theorem findV_hit (rs : List (List UInt8 × List UInt8)) (n : List UInt8) (k : Nat) (h : k < rs.length) (hn : rs[k].1 = n) : findV (rs.drop k) n = some rs[k].2 := by
  unfold findV
  rw [List.drop_eq_getElem_cons h, List.find?_cons_of_pos (by simpa using hn)]
  rfl
theorem findV_end (rs : List (List UInt8 × List UInt8)) (n : List UInt8) (k : Nat) (h : ¬ k < rs.length) : findV (rs.drop k) n = none := by
  unfold findV
  rw [List.drop_eq_nil_of_le (by omega)]
  rfl
/-- What Find tells. -/
def FindOut (r : Option (List UInt8)) (w : World) (e : Ending) (w' : World) : Prop := e = .returned (.tuple #[.string ⟨(r.getD []).toArray⟩, .bool r.isSome]) ∧ w = w'

set_option maxHeartbeats 1000000 in
set_option maxRecDepth 100000 in
theorem ralike_any (a b : Value) (rs : List (List UInt8 × List UInt8)) (w : World) (ha : AttrsAt w a rs) (hb : AttrsAt w b rs) (hN : rs.length ≤ 4294967296) : Calls Tryd.prog 52 #[a, b] w fun e w' => e = .returned (.bool true) ∧ ∃ q, w' = w.drewN q := by
  obtain ⟨p, cap, rfl, hc⟩ := ha
  obtain ⟨p2, cap2, rfl, hc2⟩ := hb
  have HC := Lib.hid hc
  have HC2 := Lib.hid hc2
  clear hc hc2
  go_enter Tryd.func52, Tryd.ntmps52
  go_wp2
  go_loopw [5] (fun i wr => ∃ (k q : Nat), k ≤ rs.length ∧ i = .int .i64 k ∧ wr = w.drewN q) (fun i _ => rs.length - (intOf i).toNat)
  case atStart => exact ⟨0, 0, Nat.zero_le _, rfl, rfl⟩
  case round =>
    obtain ⟨k, q, hk, rfl, rfl⟩ := hrel
    by_cases hlt : k < rs.length
    · obtain ⟨g, rfl, hg, h0, h1⟩ := HC.out k hlt
      obtain ⟨g2, rfl, hg2, e0, e1⟩ := HC2.out k hlt
      have k0 : (0 : Int) ≤ (k : Int) := by omega
      have k1 : (k : Int) < (rs.length : Int) := by omega
      generalize (⟨rs[k].1.toArray⟩ : ByteArray) = A at *
      generalize (⟨rs[k].2.toArray⟩ : ByteArray) = B at *
      go_wp2
      go_quiet (fail)
      go_wp2
      exact ⟨⟨k + 1, _, by omega, by go_num, rfl⟩, by simp [intOf]; omega⟩
    · go_wp2
      go_ret
      exact ⟨rfl, q, rfl⟩
end Go.Proofs.YtgelgfgcdfnacaaDoor
