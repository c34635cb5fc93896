/-
  The walks of the reference's ending, closed. Any text of at most 2^28 bytes.
-/
import Derived.Test.YtgelgfgcdfnacaaGreatDoorXRef
import Derived.Deep.RegionWith
namespace Go.Proofs.YtgelgfgcdfnacaaGreatDoor
open Go.RowKit

/-- Where the end stands; none: -1. -/
def endI (last l : List UInt8) (k : Nat) : Int := if endL last l k < l.length then ((endL last l k : Nat) : Int) else -1
theorem endI_end (last l : List UInt8) (k : Nat) (h : l.length ≤ k) : endI last l k = -1 := by
  unfold endI
  rw [endL_end last l k h, if_neg (by omega)]
theorem endI_hit (last l : List UInt8) (k : Nat) (h : k < l.length) (he : endA last (l.drop k) = true) : endI last l k = (k : Int) := by
  unfold endI
  rw [endL_hit last l k h he, if_pos h]
theorem endI_miss (last l : List UInt8) (k : Nat) (h : k < l.length) (he : endA last (l.drop k) = false) : endI last l k = endI last l (k + 1) := by
  unfold endI
  rw [endL_miss last l k h he]
theorem endI_none (last l : List UInt8) : ∀ (m k : Nat), l.length - k = m → (∀ i, k ≤ i → i < l.length → endA last (l.drop i) = false) → endI last l k = -1
  | 0, k, hm, _ => endI_end last l k (by omega)
  | m + 1, k, hm, h => by
    rw [endI_miss last l k (by omega) (h k (Nat.le_refl _) (by omega))]
    exact endI_none last l m (k + 1) (by omega) (fun i h1 h2 => h i (by omega) h2)

theorem endA_lettered (last l : List UInt8) (c : UInt8) (r : List UInt8) (hL : last = c :: r) (hc : Plain.isLetter c = true) (h : 2 + last.length < l.length) : endA last l = ([60, 47].isPrefixOf l && ((Plain.fold ((l.drop 2).take last.length) == Plain.fold last) && inEnd l[2 + last.length])) := by
  subst hL
  exact endA_good c r l hc h
theorem endA_place (s A : ByteArray) (i : Nat) (c : UInt8) (r : List UInt8) (hL : A.data.toList = c :: r) (hc : Plain.isLetter c = true) (h : i + 2 + A.size < s.size) : endA A.data.toList (s.data.toList.drop i) = ([60, 47].isPrefixOf (s.data.toList.drop i) && ((Plain.fold (s.extract (i + 2) (i + 2 + A.size)).data.toList == Plain.fold A.data.toList) && inEnd s[i + 2 + A.size])) := by
  rw [endA_lettered _ _ c r hL hc (by rw [List.length_drop, len_of, len_of]; omega), List.getElem_drop, List.drop_drop, mid_list, List.drop_take, show i + 2 + A.size - (i + 2) = A.size by omega]
  have e : i + (2 + A.size) = i + 2 + A.size := by omega
  simp only [len_of, e]
  rfl

set_option maxHeartbeats 4000000 in
set_option maxRecDepth 100000 in
theorem rending_any (s A : ByteArray) (k : Nat) (w : World) (hk : k ≤ s.size) (hs : s.size ≤ 268435456) (hA : A.size ≤ 1000) : Calls Tryz.prog 58 #[.string s, .int .i64 (k : Int), .string A] w (Brings (.int .i64 (endI A.data.toList s.data.toList k)) w) := by
  have HL := Lib.hid (len_of s)
  by_cases hA0 : A.size = 0
  · have q0 : A.toList.isEmpty = true := by
      rw [text_none A (List.eq_nil_of_length_eq_zero (by rw [len_of]; exact hA0))]
      rfl
    have HN : Hid (endI A.data.toList s.data.toList k = -1) := Lib.hid (endI_none _ _ _ k rfl (fun i _ _ => endA_bad _ _ (Or.inl (List.eq_nil_of_length_eq_zero (by rw [len_of]; exact hA0)))))
    go_enter Tryz.func58, Tryz.ntmps58
    go_wp2_with fail
    go_ret
    exact ⟨ret_is HN.out.symm, Below.refl _ _⟩
  · have q0 : A.toList.isEmpty = false := by
      have := text_some A (by omega)
      simpa using this
    have hA1 : 0 < A.size := by omega
    have hcons : A.data.toList = A[0] :: A.data.toList.drop 1 := by
      have := drop_at A 0 hA1
      rw [List.drop_zero] at this
      exact this
    have HLT := fun W => Lib.hid (letter_at A[0].toNat _ W A[0].toNat_lt (show letB A[0].toNat = Plain.isLetter A[0] from rfl))
    cases hl : Plain.isLetter A[0]
    · rw [hl] at HLT
      have HN : Hid (endI A.data.toList s.data.toList k = -1) := Lib.hid (endI_none _ _ _ k rfl (fun i _ _ => endA_bad _ _ (Or.inr ⟨_, _, hcons, hl⟩)))
      clear hcons hl
      go_enter Tryz.func58, Tryz.ntmps58
      go_wp2_with fail
      refine (HLT _).out.mono ?_
      rintro e w1 ⟨rfl, rfl⟩
      go_wp2_with fail
      go_ret
      exact ⟨ret_is HN.out.symm, Below.refl _ _⟩
    · rw [hl] at HLT
      have HCO := Lib.hid hcons
      have HLE := Lib.hid hl
      clear hcons hl
      go_enter Tryz.func58, Tryz.ntmps58
      go_wp2_with fail
      refine (HLT _).out.mono ?_
      rintro e w1 ⟨rfl, rfl⟩
      go_wp2_with fail
      have HFA : Hid (∀ W, Below w.heap.size w W → Calls Tryz.prog 45 #[.string A] W fun e w' => e = .returned (.string ⟨(Plain.fold A.data.toList).toArray⟩) ∧ Below w.heap.size w w') := Lib.hid fun W hb => (rfold_any A W (by unfold maxLen; omega)).mono fun e w' ⟨he, b⟩ => ⟨he, hb.trans (b.mono hb.size)⟩
      generalize hFA : (⟨(Plain.fold A.data.toList).toArray⟩ : ByteArray) = FA at *
      have HFAL : Hid (FA.data.toList = Plain.fold A.data.toList) := Lib.hid (by rw [← hFA])
      clear hFA
      go_loopw [7] (fun v wr => ∃ i : Nat, i ≤ s.size ∧ v = .int .i64 (i : Int) ∧ endI A.data.toList s.data.toList k = endI A.data.toList s.data.toList i ∧ Below w.heap.size w wr) (fun v _ => s.size - (intOf v).toNat)
      case atStart => exact ⟨k, hk, rfl, rfl, Below.refl _ _⟩
      case round =>
        obtain ⟨i, hi, rfl, hE, hB⟩ := hrel
        have HE := Lib.hid hE
        have HB := Lib.hid hB
        clear hE hB
        by_cases hlt : i + 2 + A.size < s.size
        · have hlt' : (i : Int) + 2 + (A.size : Int) < (s.size : Int) := by omega
          have hil : i < s.data.toList.length := by rw [HL.out]; omega
          have hG := endA_place s A i _ _ HCO.out HLE.out hlt
          have hsl1 : ∀ W, (Instr.slice 9 (.string s) (some (.int .i64 (i : Int))) (some (.int .i64 ((i : Int) + 2))) none).run Tryz.prog W = .ok (.string (s.extract i (i + 2))) W := fun W => by
            have := slice_mid s i (i + 2) W (by omega) (by omega)
            rwa [show ((i + 2 : Nat) : Int) = (i : Int) + 2 by omega] at this
          have hsl2 : ∀ W, (Instr.slice 9 (.string s) (some (.int .i64 ((i : Int) + 2))) (some (.int .i64 ((i : Int) + 2 + (A.size : Int)))) none).run Tryz.prog W = .ok (.string (s.extract (i + 2) (i + 2 + A.size))) W := fun W => by
            have := slice_mid s (i + 2) (i + 2 + A.size) W (by omega) (by omega)
            rwa [show ((i + 2 + A.size : Nat) : Int) = (i : Int) + 2 + (A.size : Int) by omega, show ((i + 2 : Nat) : Int) = (i : Int) + 2 by omega] at this
          have q1 := part_is s ⟨#[60, 47]⟩ i (by show i + 2 ≤ _; omega)
          rw [show (⟨#[60, 47]⟩ : ByteArray).data.toList = [60, 47] from rfl] at q1
          have q1' : ((s.extract i (i + 2)).toList == [60, 47]) = [60, 47].isPrefixOf (s.data.toList.drop i) := by
            rw [Lib.toList_data, Lib.toList_data] at q1
            rw [← q1, Lib.toList_data]
            rfl
          clear q1
          have hMs : (s.extract (i + 2) (i + 2 + A.size)).size ≤ 268435456 := by simp; omega
          generalize s.extract i (i + 2) = P at *
          generalize s.extract (i + 2) (i + 2 + A.size) = M at *
          have h8 : s[i + 2 + A.size].toNat < 256 := s[i + 2 + A.size].toNat_lt
          have HMI := Lib.hid (endI_miss A.data.toList s.data.toList i hil)
          have HHI := Lib.hid (endI_hit A.data.toList s.data.toList i hil)
          cases hb1 : [60, 47].isPrefixOf (s.data.toList.drop i)
          · rw [hb1] at q1' hG
            rw [Bool.false_and] at hG
            have HN := Lib.hid (HMI.out hG)
            clear hb1 hG
            go_wp2_with fail
            exact ⟨⟨i + 1, by omega, by go_num, HE.out.trans HN.out, HB.out⟩, by simp [intOf]; omega⟩
          · rw [hb1] at q1' hG
            rw [Bool.true_and] at hG
            clear hb1
            have HFM : Hid (∀ W, Below w.heap.size w W → Calls Tryz.prog 45 #[.string M] W fun e w' => e = .returned (.string ⟨(Plain.fold M.data.toList).toArray⟩) ∧ Below w.heap.size w w') := Lib.hid fun W hb => (rfold_any M W (by unfold maxLen; omega)).mono fun e w' ⟨he, b⟩ => ⟨he, hb.trans (b.mono hb.size)⟩
            generalize hFM : (⟨(Plain.fold M.data.toList).toArray⟩ : ByteArray) = FM at *
            have hFML : FM.data.toList = Plain.fold M.data.toList := by rw [← hFM]
            clear hFM
            have q2 : (FM.toList == FA.toList) = (Plain.fold M.data.toList == Plain.fold A.data.toList) := by rw [Lib.toList_data, Lib.toList_data, hFML, HFAL.out]
            clear hFML
            cases hb2 : (Plain.fold M.data.toList == Plain.fold A.data.toList)
            · rw [hb2] at q2 hG
              rw [Bool.false_and] at hG
              have HN := Lib.hid (HMI.out hG)
              clear hb2 hG
              go_wp2_with fail
              refine (HFM.out _ HB.out).mono ?_
              rintro e w2 ⟨rfl, b2⟩
              go_wp2_with fail
              refine (HFA.out _ b2).mono ?_
              rintro e w3 ⟨rfl, b3⟩
              go_wp2_with fail
              exact ⟨⟨i + 1, by omega, by go_num, HE.out.trans HN.out, b3⟩, by simp [intOf]; omega⟩
            · rw [hb2] at q2 hG
              rw [Bool.true_and] at hG
              clear hb2
              cases hbl : Plain.blankB s[i + 2 + A.size]
              · have HBL := fun W => Lib.hid (rblank_no s[i + 2 + A.size] W hbl)
                by_cases h47 : s[i + 2 + A.size].toNat = 47
                · have q3 : ((s[i + 2 + A.size].toNat : Int) == 47) = true := by simp [h47]
                  have HN := Lib.hid (HHI.out (by rw [hG]; unfold inEnd; rw [decide_eq_true h47]; rfl))
                  clear hbl h47 hG
                  go_wp2_with fail
                  refine (HFM.out _ HB.out).mono ?_
                  rintro e w2 ⟨rfl, b2⟩
                  go_wp2_with fail
                  refine (HFA.out _ b2).mono ?_
                  rintro e w3 ⟨rfl, b3⟩
                  go_wp2_with fail
                  refine (HBL _).out.mono ?_
                  rintro e w4 ⟨rfl, rfl⟩
                  go_wp2_with fail
                  go_ret
                  exact ⟨ret_is (by rw [HE.out, HN.out]), b3⟩
                · have q3 : ((s[i + 2 + A.size].toNat : Int) == 47) = false := beq_eq_false_iff_ne.2 (by omega)
                  by_cases h62 : s[i + 2 + A.size].toNat = 62
                  · have q4 : ((s[i + 2 + A.size].toNat : Int) == 62) = true := by simp [h62]
                    have HN := Lib.hid (HHI.out (by rw [hG]; unfold inEnd; rw [decide_eq_true h62]; simp))
                    clear hbl h47 h62 hG
                    go_wp2_with fail
                    refine (HFM.out _ HB.out).mono ?_
                    rintro e w2 ⟨rfl, b2⟩
                    go_wp2_with fail
                    refine (HFA.out _ b2).mono ?_
                    rintro e w3 ⟨rfl, b3⟩
                    go_wp2_with fail
                    refine (HBL _).out.mono ?_
                    rintro e w4 ⟨rfl, rfl⟩
                    go_wp2_with fail
                    go_ret
                    exact ⟨ret_is (by rw [HE.out, HN.out]), b3⟩
                  · have q4 : ((s[i + 2 + A.size].toNat : Int) == 62) = false := beq_eq_false_iff_ne.2 (by omega)
                    have HN := Lib.hid (HMI.out (by rw [hG]; unfold inEnd; rw [decide_eq_false h47, decide_eq_false h62, hbl]; rfl))
                    clear hbl h47 h62 hG
                    go_wp2_with fail
                    refine (HFM.out _ HB.out).mono ?_
                    rintro e w2 ⟨rfl, b2⟩
                    go_wp2_with fail
                    refine (HFA.out _ b2).mono ?_
                    rintro e w3 ⟨rfl, b3⟩
                    go_wp2_with fail
                    refine (HBL _).out.mono ?_
                    rintro e w4 ⟨rfl, rfl⟩
                    go_wp2_with fail
                    exact ⟨⟨i + 1, by omega, by go_num, HE.out.trans HN.out, b3⟩, by simp [intOf]; omega⟩
              · have HBL := fun W => Lib.hid (rblank_yes s[i + 2 + A.size] W hbl)
                have HN := Lib.hid (HHI.out (by rw [hG]; unfold inEnd; rw [hbl]; simp))
                clear hbl hG
                go_wp2_with fail
                refine (HFM.out _ HB.out).mono ?_
                rintro e w2 ⟨rfl, b2⟩
                go_wp2_with fail
                refine (HFA.out _ b2).mono ?_
                rintro e w3 ⟨rfl, b3⟩
                go_wp2_with fail
                refine (HBL _).out.mono ?_
                rintro e w4 ⟨rfl, rfl⟩
                go_wp2_with fail
                go_ret
                exact ⟨ret_is (by rw [HE.out, HN.out]), b3⟩
        · have hlt' : ¬ (i : Int) + 2 + (A.size : Int) < (s.size : Int) := by omega
          have HN : Hid (endI A.data.toList s.data.toList i = -1) := Lib.hid (endI_none _ _ _ i rfl (fun j h1 _ => endA_short _ _ (by rw [List.length_drop, HL.out, len_of]; omega)))
          go_wp2_with fail
          go_ret
          exact ⟨ret_is (by rw [HE.out, HN.out]), HB.out⟩
end Go.Proofs.YtgelgfgcdfnacaaGreatDoor
