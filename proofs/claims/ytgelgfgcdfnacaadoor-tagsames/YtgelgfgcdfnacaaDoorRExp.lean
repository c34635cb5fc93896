/-
  The walk of the reference's Expand. Any text of at most 2^30 bytes.
-/
import Derived.Test.YtgelgfgcdfnacaaDoorRRef2
namespace Go.Proofs.YtgelgfgcdfnacaaDoor
open Go.RowKit

theorem slice_byte (s : ByteArray) (k : Nat) (W : World) (h : k < s.size) : (Instr.slice 9 (.string s) (some (.int .i64 (k : Int))) (some (.int .i64 ((k : Int) + 1))) none).run Tryd.prog W = .ok (.string (s.extract k (k + 1))) W :=
  slice_part s k 1 W (by omega)
theorem drop_at (s : ByteArray) (k : Nat) (h : k < s.size) : s.data.toList.drop k = s[k] :: s.data.toList.drop (k + 1) := List.drop_eq_getElem_cons (by simpa using h)
theorem exp_byte (s : ByteArray) (k : Nat) (attr : Bool) (h : k < s.size) (h0 : (Plain.ref (s.data.toList.drop k) attr).2 = 0) : Plain.expand (s.data.toList.drop k) attr = [s[k]] ++ Plain.expand (s.data.toList.drop (k + 1)) attr := by
  rw [drop_at s k h] at h0 ⊢
  rw [Plain.expand_byte _ _ _ h0]
  rfl
theorem exp_ref (s : ByteArray) (k : Nat) (attr : Bool) (h : k < s.size) (h0 : (Plain.ref (s.data.toList.drop k) attr).2 ≠ 0) :
    Plain.expand (s.data.toList.drop k) attr = (Plain.ref (s.data.toList.drop k) attr).1 ++ Plain.expand (s.data.toList.drop (k + (Plain.ref (s.data.toList.drop k) attr).2)) attr := by
  have e := drop_at s k h
  generalize hR : Plain.ref (s.data.toList.drop k) attr = R at *
  conv => lhs; rw [e]
  rw [e] at hR
  rw [Plain.expand_ref _ _ _ (by rw [hR]; exact h0), hR, ← e, List.drop_drop]

end Go.Proofs.YtgelgfgcdfnacaaDoor
