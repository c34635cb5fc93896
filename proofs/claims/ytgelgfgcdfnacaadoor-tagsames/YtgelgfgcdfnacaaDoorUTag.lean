/-
  The walks of the reference's Clear, blanks, At, Index of one byte. Any text of at most 2^30 bytes.
-/
import Derived.Test.YtgelgfgcdfnacaaDoorRExp
import Derived.Test.YtgelgfgcdfnacaaDoorPlainAll
namespace Go.Proofs.YtgelgfgcdfnacaaDoor
open Go.RowKit

theorem byte_text (s : ByteArray) (k : Nat) (W : World) (h : k < s.size) : (Instr.slice 9 (.string s) (some (.int .i64 (k : Int))) (some (.int .i64 ((k : Int) + 1))) none).run Tryd.prog W = .ok (.string ⟨#[s[k]]⟩) W := by
  rw [slice_byte s k W h, ext_part, drop_at s k h]
  rfl
theorem len_of (s : ByteArray) : s.data.toList.length = s.size := by simp
theorem take_next (s : ByteArray) (k : Nat) (h : k < s.size) : s.data.toList.take (k + 1) = s.data.toList.take k ++ [s[k]] := by
  rw [List.take_succ_eq_append_getElem (by simpa using h)]
  rfl

set_option maxHeartbeats 1000000 in
set_option maxRecDepth 100000 in
theorem rclear_any (s : ByteArray) (w : World) (hs : s.size ≤ 1073741824) : Calls Tryd.prog 20 #[.string s] w (Gives (.string ⟨(Plain.clear s.data.toList).toArray⟩) w) := by
  go_enter Tryd.func20, Tryd.ntmps20
  go_wp2
  go_loop [3, 4] (fun o v => ∃ (k : Nat) (acc : List UInt8), k ≤ s.size ∧ v = .int .i64 k ∧ o = .string ⟨acc.toArray⟩ ∧ acc.length ≤ 3 * k ∧ acc = Plain.clear (s.data.toList.take k)) (fun _ v => s.size - (intOf v).toNat)
  case atStart => exact ⟨0, [], Nat.zero_le _, rfl, rfl, by simp, rfl⟩
  case round =>
    obtain ⟨k, acc, hk, rfl, rfl, hal, hacc⟩ := hrel
    have HA := Lib.hid hacc
    clear hacc
    by_cases hlt : k < s.size
    · have hsl := fun W => byte_text s k W hlt
      have HN := Lib.hid (take_next s k hlt)
      have h8 : s[k].toNat < 256 := s[k].toNat_lt
      have hsa : (⟨acc.toArray⟩ : ByteArray).size ≤ 3 * k := by show acc.toArray.size ≤ _; simpa using hal
      by_cases h0 : s[k].toNat = 0
      · have q0 : ((s[k].toNat : Int) == 0) = true := by simp [h0]
        have H0 := Lib.hid h0
        clear h0
        go_wp2
        refine ⟨⟨k + 1, acc ++ Plain.bad, by omega, by go_num, congrArg Value.string (str_app acc Plain.bad), by simp [Plain.bad]; omega, ?_⟩, by simp [intOf]; omega⟩
        rw [HN.out, Plain.clear_snoc, if_pos H0.out, HA.out]
      · have q0 : ((s[k].toNat : Int) == 0) = false := beq_eq_false_iff_ne.2 (by omega)
        have H0 := Lib.hid h0
        clear h0
        go_wp2
        refine ⟨⟨k + 1, acc ++ [s[k]], by omega, by go_num, congrArg Value.string (str_app acc [s[k]]), by simp; omega, ?_⟩, by simp [intOf]; omega⟩
        rw [HN.out, Plain.clear_snoc, if_neg H0.out, HA.out]
    · go_wp2
      go_ret
      refine ⟨?_, rfl⟩
      rw [HA.out, List.take_of_length_le (by simp; omega)]
      rfl

theorem drop_getD (l : List UInt8) (k j : Nat) : (l.drop k).getD j 0 = l.getD (k + j) 0 := by
  rw [List.getD_eq_getElem?_getD, List.getD_eq_getElem?_getD, List.getElem?_drop]
theorem at_first (s : ByteArray) (k : Nat) (h : k < s.size) (h0 : s[k].toNat ≠ 60) : Plain.atTag (s.data.toList.drop k) = false := by
  unfold Plain.atTag
  rw [drop_getD, Nat.add_zero, Plain.getD_get s k h, decide_eq_false h0]
  rfl
theorem at_short (s : ByteArray) (k : Nat) (h : ¬ k + 1 < s.size) : Plain.atTag (s.data.toList.drop k) = false := by
  unfold Plain.atTag
  rw [drop_getD, drop_getD, Plain.getD_end s (k + 1) h]
  have e1 : Plain.isLetter 0 = false := by decide
  rw [e1]
  simp
theorem at_slash (s : ByteArray) (k : Nat) (h : k + 1 < s.size) (h0 : s[k].toNat = 60) (h1 : s[k + 1].toNat = 47) : Plain.atTag (s.data.toList.drop k) = Plain.isLetter (s.data.toList.getD (k + 2) 0) := by
  unfold Plain.atTag
  rw [drop_getD, drop_getD, drop_getD, Nat.add_zero, Plain.getD_get s k (by omega), Plain.getD_get s (k + 1) h, decide_eq_true h0, decide_eq_true h1]
  have e1 : Plain.isLetter s[k + 1] = false := by unfold Plain.isLetter; rw [h1]; decide
  rw [e1]
  simp
theorem at_letter (s : ByteArray) (k : Nat) (h : k + 1 < s.size) (h0 : s[k].toNat = 60) (h1 : s[k + 1].toNat ≠ 47) : Plain.atTag (s.data.toList.drop k) = Plain.isLetter s[k + 1] := by
  unfold Plain.atTag
  rw [drop_getD, drop_getD, drop_getD, Nat.add_zero, Plain.getD_get s k (by omega), Plain.getD_get s (k + 1) h, decide_eq_true h0, decide_eq_false h1]
  simp
/-- Does a tag begin at that place? -/
def atPlace (l : List UInt8) (at_ : Int) : Bool := decide (0 ≤ at_) && (decide (at_ < (l.length : Int)) && Plain.atTag (l.drop at_.toNat))

theorem find_yes (c : UInt8) (l : List UInt8) (f i : Nat) (hR : Plain.RunAt (fun x => x != c) l f i) (hi : i < l.length) (he : l[i] = c) : Plain.findB c l f = some i := by
  have hs := hR.stop (fun _ => by simp [he])
  unfold Plain.findB
  rw [if_pos, hs]
  · have := hR.1
    congr 1
    omega
  · have : c ∈ l.drop f := by
      rw [List.mem_iff_getElem]
      have := hR.1
      refine ⟨i - f, by rw [List.length_drop]; omega, ?_⟩
      rw [List.getElem_drop]
      have e : f + (i - f) = i := by omega
      simp only [e]
      exact he
    simpa using this
theorem find_no (c : UInt8) (l : List UInt8) (f i : Nat) (hR : Plain.RunAt (fun x => x != c) l f i) (hi : ¬ i < l.length) : Plain.findB c l f = none := by
  have hs := hR.stop (fun h => absurd h hi)
  unfold Plain.findB
  rw [if_neg]
  intro hc
  have hlt := Plain.runP_mem c (l.drop f) (by simpa using hc)
  have := hR.2.1
  rw [hs, List.length_drop] at hlt
  omega
/-- Where a byte stands, as the reference tells it. -/
def findI (c : UInt8) (l : List UInt8) (f : Nat) : Int := match Plain.findB c l f with | some i => (i : Int) | none => -1

set_option maxHeartbeats 1000000 in
set_option maxRecDepth 100000 in
theorem rfind_any (s : ByteArray) (c : UInt8) (f : Nat) (w : World) (hf : f ≤ s.size) (hs : s.size ≤ 1073741824) : Calls Tryd.prog 17 #[.string s, .string ⟨#[c]⟩, .int .i64 (f : Int)] w (Gives (.int .i64 (findI c s.data.toList f)) w) := by
  have HL := Lib.hid (len_of s)
  go_enter Tryd.func17, Tryd.ntmps17
  go_wp2
  go_loop [7] (fun v => ∃ i : Nat, v = .int .i64 (i : Int) ∧ Plain.RunAt (fun x => x != c) s.data.toList f i) (fun v => s.size + 1 - (intOf v).toNat)
  case atStart => exact ⟨f, by simp, Plain.RunAt.start _ _ _ (by rw [HL.out]; exact hf)⟩
  case round =>
    obtain ⟨i, rfl, hR⟩ := hrel
    have h1 := hR.1
    have h2 := hR.2.1
    rw [HL.out] at h2
    have HR := Lib.hid hR
    clear hR
    by_cases hlt : i < s.size
    · have hlt' : i < s.data.toList.length := by rw [HL.out]; exact hlt
      have hsl := fun W => byte_text s i W hlt
      by_cases hq : s[i] = c
      · have HF := Lib.hid (find_yes c _ f i HR.out hlt' hq)
        have hq' : (s[i] == c) = true := beq_iff_eq.2 hq
        clear hq
        go_wp2
        go_ret
        refine ⟨ret_is ?_, rfl⟩
        unfold findI
        rw [HF.out]
      · have HST := Lib.hid (HR.out.step hlt' (show (s[i] != c) = true by simpa using hq))
        have hq' : (s[i] == c) = false := beq_eq_false_iff_ne.2 hq
        clear hq
        go_wp2
        exact ⟨⟨i + 1, by go_num, HST.out⟩, by simp [intOf]; omega⟩
    · have HF := Lib.hid (find_no c _ f i HR.out (by rw [HL.out]; exact hlt))
      go_wp2
      go_ret
      refine ⟨ret_is ?_, rfl⟩
      unfold findI
      rw [HF.out]
end Go.Proofs.YtgelgfgcdfnacaaDoor
