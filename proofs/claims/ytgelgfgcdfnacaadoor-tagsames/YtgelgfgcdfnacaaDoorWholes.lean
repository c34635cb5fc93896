/-
  The walks of Whole and Decode: of the reference and of the program. Any text of at most 2^32 bytes.
-/
import Derived.Test.YtgelgfgcdfnacaaDoorPart
namespace Go.Proofs.YtgelgfgcdfnacaaDoor
open Go.RowKit

theorem part_bound (s : ByteArray) (k : Nat) (h : k < s.size) : k + Plain.partK (s.data.toList.drop k) ≤ s.size ∧ (Plain.partB (s.data.toList.drop k) = true → 1 ≤ Plain.partK (s.data.toList.drop k)) := by
  rw [drop_cons s k h]
  have := Plain.partK_le s[k] (s.data.toList.drop (k + 1))
  simp at this
  exact ⟨by omega, Plain.partK_pos _ _⟩
theorem whole_yes (s : ByteArray) (k : Nat) (h : k < s.size) (hb : Plain.partB (s.data.toList.drop k) = true) : Plain.whole (s.data.toList.drop k) = Plain.whole (s.data.toList.drop (k + Plain.partK (s.data.toList.drop k))) := by
  have hp := (part_bound s k h).2 hb
  have hd := drop_cons s k h
  rw [hd] at hb hp
  generalize hK : Plain.partK (s.data.toList.drop k) = K
  rw [hd] at hK ⊢
  unfold Plain.whole
  rw [Plain.wholeS, hb, Bool.true_and, Plain.wholeS_drop, hK, List.drop_drop]
  unfold Plain.whole
  rw [show k + 1 + (K - 1) = k + K by omega]
theorem whole_no (s : ByteArray) (k : Nat) (h : k < s.size) (hb : Plain.partB (s.data.toList.drop k) = false) : Plain.whole (s.data.toList.drop k) = false := by
  have hd := drop_cons s k h
  rw [hd] at hb ⊢
  unfold Plain.whole
  rw [Plain.wholeS, hb, Bool.false_and]
theorem whole_end (s : ByteArray) (k : Nat) (h : ¬ k < s.size) : Plain.whole (s.data.toList.drop k) = true := by
  rw [List.drop_eq_nil_of_le (by simp; omega)]
  rfl

theorem dec_yes (s : ByteArray) (k : Nat) (h : k < s.size) (hb : Plain.partB (s.data.toList.drop k) = true) :
    Plain.dec (s.data.toList.drop k) = (s.data.toList.drop k).take (Plain.partK (s.data.toList.drop k)) ++ Plain.dec (s.data.toList.drop (k + Plain.partK (s.data.toList.drop k))) := by
  have hp := (part_bound s k h).2 hb
  have hd := drop_cons s k h
  generalize hK : Plain.partK (s.data.toList.drop k) = K at *
  rw [hd] at hb hK
  conv => lhs; rw [hd, Plain.dec_cons, if_pos hb, hK, ← hd]
  rw [List.drop_drop, show max K 1 = K by omega]
theorem dec_no (s : ByteArray) (k : Nat) (h : k < s.size) (hb : Plain.partB (s.data.toList.drop k) = false) :
    Plain.dec (s.data.toList.drop k) = Plain.bad ++ Plain.dec (s.data.toList.drop (k + max (Plain.partK (s.data.toList.drop k)) 1)) := by
  have hd := drop_cons s k h
  generalize hK : Plain.partK (s.data.toList.drop k) = K at *
  rw [hd] at hb hK
  conv => lhs; rw [hd, Plain.dec_cons, if_neg (by simp [hb]), hK, ← hd]
  rw [List.drop_drop]

theorem int_eq {k : IntKind} {a b : Int} (h : a = b) : Value.int k a = Value.int k b := by rw [h]
theorem str_app (a b : List UInt8) : (⟨a.toArray⟩ : ByteArray) ++ ⟨b.toArray⟩ = ⟨(a ++ b).toArray⟩ := by
  apply ByteArray.ext
  simp [ByteArray.data_append]
theorem ext_part (s : ByteArray) (k K : Nat) : s.extract k (k + K) = ⟨((s.data.toList.drop k).take K).toArray⟩ := by
  apply ByteArray.ext
  apply Array.toList_inj.1
  rw [Lib.extract_data, show k + K - k = K by omega]
theorem slice_part (s : ByteArray) (k K : Nat) (W : World) (h : k + K ≤ s.size) : (Instr.slice 9 (.string s) (some (.int .i64 (k : Int))) (some (.int .i64 ((k : Int) + (K : Int)))) none).run Tryd.prog W = .ok (.string (s.extract k (k + K))) W := by
  rw [run_slice_string W 9 s .i64 .i64 k ((k : Int) + K) Tryd.underlying9 (by omega) (by omega) (by omega)]
  rfl
theorem mark_at (s : ByteArray) : ((s.extract 0 3).toList == [239, 187, 191]) = Lib.hasPrefix s.data.toList Plain.mark := by
  rw [Lib.toList_data, Lib.extract_data]
  unfold Lib.hasPrefix
  simp only [List.drop_zero, Nat.sub_zero]
  rw [Bool.eq_iff_iff, beq_iff_eq, List.isPrefixOf_iff_prefix]
  constructor
  · intro h
    have := List.take_prefix 3 s.data.toList
    rw [h] at this
    exact this
  · rintro ⟨r, hr⟩
    rw [← hr]
    rfl
theorem mark_short (l : List UInt8) (h : ¬ 3 ≤ l.length) : Lib.hasPrefix l Plain.mark = false := by
  cases hh : Lib.hasPrefix l Plain.mark
  · rfl
  · unfold Lib.hasPrefix at hh
    rw [List.isPrefixOf_iff_prefix] at hh
    have := hh.length_le
    simp [Plain.mark] at this
    omega
theorem decode_marked (s : ByteArray) (h : Lib.hasPrefix s.data.toList Plain.mark = true) : Plain.decode s.data.toList = Plain.dec (s.extract 3 s.size).data.toList := by
  unfold Plain.decode Lib.trimPrefix
  rw [if_pos h, Lib.extract_data, List.take_of_length_le (by simp)]
  rfl
theorem decode_bare (s : ByteArray) (h : Lib.hasPrefix s.data.toList Plain.mark = false) : Plain.decode s.data.toList = Plain.dec s.data.toList := by
  unfold Plain.decode Lib.trimPrefix
  rw [if_neg (by simp [h])]

end Go.Proofs.YtgelgfgcdfnacaaDoor
