/-
  The walks of the reference's Ref. Any text of at most 2^32 bytes.
-/
import Derived.Test.YtgelgfgcdfnacaaDoorRRef
import Derived.Deep.QuietTactic
import Derived.BigQuiet
namespace Go.Proofs.YtgelgfgcdfnacaaDoor
open Go.RowKit

theorem tail_of (s : ByteArray) (k : Nat) : (s.extract k s.size).data.toList = s.data.toList.drop k := by
  rw [Lib.extract_data, List.take_of_length_le (by simp)]
theorem pre_is (t p : List UInt8) (b : Bool) (h : (p <+: t) ↔ b = true) : Lib.hasPrefix t p = b := by
  unfold Lib.hasPrefix
  rw [Bool.eq_iff_iff, List.isPrefixOf_iff_prefix]
  exact h

theorem quiet_gives {f : FuncId} {args : Array Value} {v : Value} (h : ∀ W, Hid (Calls Tryd.prog f args W (Gives v W))) (w : World) (a n : Nat) : Calls Tryd.prog f args (w.drewN (a + n)) fun e w'' => e = .returned v ∧ ∃ m, w'' = w.drewN (a + m) :=
  (h (w.drewN (a + n))).out.mono fun _ _ hh => ⟨hh.1, n, hh.2.symm⟩

theorem bar_semi (s : ByteArray) (L : Nat) (h : L < s.size) (h59 : s[L].toNat = 59) : (true && Plain.barred s.data.toList L) = false := by
  unfold Plain.barred
  rw [Plain.getD_get s L h, h59]
  rfl
theorem bar_end (s : ByteArray) (L : Nat) (h : ¬ L + 1 < s.size) : (true && Plain.barred s.data.toList L) = false := by
  unfold Plain.barred
  rw [Plain.getD_end s (L + 1) h]
  have : Plain.goesOn 0 = false := by decide
  rw [this]
  simp
theorem bar_at (s : ByteArray) (L : Nat) (h : L < s.size) (h59 : s[L].toNat ≠ 59) (h1 : 1 + L < s.size) : (true && Plain.barred s.data.toList L) = Plain.goesOn s[1 + L] := by
  unfold Plain.barred
  rw [Plain.getD_get s L h, show L + 1 = 1 + L by omega, Plain.getD_get s (1 + L) h1, decide_eq_true h59]
  rfl
theorem goes_yes (c : UInt8) (h : c.toNat = 61 ∨ letB c.toNat = true ∨ Plain.digV c < 10) : Plain.goesOn c = true := by
  unfold Plain.goesOn
  rw [decide_eq_true_eq]
  rcases h with h | h | h
  · omega
  · unfold letB at h
    rw [decide_eq_true_eq] at h
    omega
  · unfold Plain.digV at h
    (repeat' split at h) <;> omega
theorem goes_no (c : UInt8) (h1 : c.toNat ≠ 61) (h2 : letB c.toNat = false) (h3 : ¬ Plain.digV c < 10) : Plain.goesOn c = false := by
  unfold Plain.goesOn
  rw [decide_eq_false_iff_not]
  unfold letB at h2
  rw [decide_eq_false_iff_not] at h2
  unfold Plain.digV at h3
  (repeat' split at h3) <;> omega

theorem ref_none (s : ByteArray) (attr : Bool) (h : s.size < 2) : Plain.ref s.data.toList attr = ([], 0) := by
  unfold Plain.ref
  split
  · rw [Plain.getD_end s 1 (by omega), if_neg (by decide)]
    refine Plain.named_none _ _ ?_
    rw [List.drop_eq_nil_of_le (by simp; omega)]
    rfl
  · rfl
theorem ref_first (s : ByteArray) (attr : Bool) (h : 0 < s.size) (h0 : s[0].toNat ≠ 38) : Plain.ref s.data.toList attr = ([], 0) := by
  refine Plain.ref_plain _ _ ?_
  rw [Plain.getD_get s 0 h]
  exact h0
theorem ref_number (s : ByteArray) (attr : Bool) (h : 1 < s.size) (h0 : s[0].toNat = 38) (h1 : s[1].toNat = 35) : Plain.ref s.data.toList attr = rnumbered s.data.toList := by
  unfold Plain.ref rnumbered
  rw [Plain.getD_get s 0 (by omega), if_pos h0, Plain.getD_get s 1 h, if_pos h1]
theorem ref_named (s : ByteArray) (attr : Bool) (h : 1 < s.size) (h0 : s[0].toNat = 38) (h1 : s[1].toNat ≠ 35) : Plain.ref s.data.toList attr = Plain.named s.data.toList attr := by
  unfold Plain.ref
  rw [Plain.getD_get s 0 (by omega), if_pos h0, Plain.getD_get s 1 h, if_neg h1]

theorem slice_from (s : ByteArray) (k : Nat) (W : World) (h : k ≤ s.size) : (Instr.slice 9 (.string s) (some (.int .i64 (k : Int))) none none).run Tryd.prog W = .ok (.string (s.extract k s.size)) W := by
  rw [run_slice_string_from_if W 9 s .i64 (k : Int) Tryd.underlying9, if_pos (by omega)]
  simp
/-- What the loop over the names keeps, as a value. -/
def BestV (t : List UInt8) (k : Nat) (v : Value) : Prop := ∃ b : Int, v = .int .i64 b ∧ Plain.BestAt t k b

end Go.Proofs.YtgelgfgcdfnacaaDoor
