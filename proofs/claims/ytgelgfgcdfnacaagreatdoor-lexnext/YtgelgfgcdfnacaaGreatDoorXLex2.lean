/-
  The walks of the program's behindMute, endsAt, endOf, upToEnd. Any text of at most 2^28 bytes; the library's number MaxLen and the table of package refs are there.
-/
import Derived.Test.YtgelgfgcdfnacaaGreatDoorXLex
namespace Go.Proofs.YtgelgfgcdfnacaaGreatDoor
open Go.RowKit

/-- begins, of one text that is made for the call. -/
theorem begins_one (s : ByteArray) (x : List UInt8) (b : Bool) (W : World) (hs : s.size ≤ 268435456) (h : begF x s.data.toList = b) (B : ByteArray) (hB : (⟨x.toArray⟩ : ByteArray) = B) :
    Calls Tryz.prog 32 #[.string s, .slice (some ⟨W.heap.size, 0, none⟩) 1 1] (W.alloc (.cells #[.string B] 9)) (fun e w' => e = .returned (.bool b) ∧ Below W.heap.size W w') := by
  subst hB
  have hT := TextsAt.made W [x] 9
  refine (begins_lex s _ [x] _ hT hs (by simp)).mono ?_
  rintro e w' ⟨rfl, hb⟩
  refine ⟨by rw [show [x].flatten = x by simp, h], ((Below.refl _ W).alloc (Nat.le_refl _) _).trans (hb.mono (by simp))⟩

set_option maxHeartbeats 2000000 in
set_option maxRecDepth 100000 in
theorem mute_lex (s : ByteArray) (k : Nat) (w : World) (hk : k ≤ s.size) (hs : s.size ≤ 268435456) : Calls Tryz.prog 21 #[.string s, .int .i64 (k : Int)] w (Brings (.int .i64 ((mute s.data.toList k : Nat) : Int)) w) := by
  have HL := Lib.hid (len_of s)
  go_enter Tryz.func21, Tryz.ntmps21
  go_wp2_with fail
  go_loopw [1] (fun v wr => ∃ i : Nat, i ≤ s.size ∧ v = .int .i64 (i : Int) ∧ mute s.data.toList k = mute s.data.toList i ∧ Below w.heap.size w wr) (fun v _ => s.size - (intOf v).toNat)
  case atStart => exact ⟨k, hk, rfl, rfl, Below.refl _ _⟩
  case round =>
    obtain ⟨i, hi, rfl, hM, hB⟩ := hrel
    have HM := Lib.hid hM
    have HB := Lib.hid hB
    clear hM hB
    have hes : (s.extract i s.size).size ≤ 268435456 := by simp; omega
    have HE := Lib.hid (from_list s i)
    cases h1 : begF doctype (s.data.toList.drop i)
    · have H1 := fun W => Lib.hid (begins_one (s.extract i s.size) doctype false W hes (by rw [from_list]; exact h1) _ rfl)
      cases h2 : begF [60, 47, 62] (s.data.toList.drop i)
      · have H2 := fun W => Lib.hid (begins_one (s.extract i s.size) [60, 47, 62] false W hes (by rw [from_list]; exact h2) _ rfl)
        have HN : Hid (mute s.data.toList i = i) := Lib.hid (mute_none _ _ (by unfold muteN; rw [h1, h2]; rfl))
        clear h1 h2
        go_wp2_with fail
        refine (H1 _).out.mono ?_
        rintro e w1 ⟨rfl, b1⟩
        go_wp2_with fail
        refine (H2 _).out.mono ?_
        rintro e w2 ⟨rfl, b2⟩
        go_wp2_with fail
        go_ret
        exact ⟨ret_is (by rw [HM.out, HN.out]), (HB.out.trans (b1.mono HB.out.size)).trans (b2.mono (Nat.le_trans HB.out.size b1.size))⟩
      · have H2 := fun W => Lib.hid (begins_one (s.extract i s.size) [60, 47, 62] true W hes (by rw [from_list]; exact h2) _ rfl)
        have hm : muteN s.data.toList i = some (i + 3) := by unfold muteN; rw [h1, h2]; rfl
        have hg := muteN_gt _ _ _ hm
        rw [HL.out] at hg
        have HN : Hid (mute s.data.toList i = mute s.data.toList (i + 3)) := Lib.hid (mute_some _ _ _ hm)
        clear h1 h2 hm
        go_wp2_with fail
        refine (H1 _).out.mono ?_
        rintro e w1 ⟨rfl, b1⟩
        go_wp2_with fail
        refine (H2 _).out.mono ?_
        rintro e w2 ⟨rfl, b2⟩
        go_wp2_with fail
        exact ⟨⟨i + 3, by omega, by go_num, HM.out.trans HN.out, (HB.out.trans (b1.mono HB.out.size)).trans (b2.mono (Nat.le_trans HB.out.size b1.size))⟩, by simp [intOf]; omega⟩
    · have H1 := fun W => Lib.hid (begins_one (s.extract i s.size) doctype true W hes (by rw [from_list]; exact h1) _ rfl)
      have hm : muteN s.data.toList i = some (upL [[62]] s.data.toList i).2 := by unfold muteN; rw [h1]; rfl
      have hg := muteN_gt _ _ _ hm
      rw [HL.out] at hg
      have HN : Hid (mute s.data.toList i = mute s.data.toList (upL [[62]] s.data.toList i).2) := Lib.hid (mute_some _ _ _ hm)
      have HU := fun W => Lib.hid (upto_lex s i _ [[62]] _ (TextsAt.made W [[62]] 9) hi hs (by simp))
      generalize upL [[62]] s.data.toList i = U at *
      obtain ⟨ua, ub⟩ := U
      clear h1 hm
      go_wp2_with fail
      refine (H1 _).out.mono ?_
      rintro e w1 ⟨rfl, b1⟩
      go_wp2_with fail
      refine (HU w1).out.mono ?_
      rintro e w2 ⟨rfl, rfl⟩
      go_wp2_with fail
      exact ⟨⟨ub, by omega, rfl, HM.out.trans HN.out, (HB.out.trans (b1.mono HB.out.size)).alloc (Nat.le_trans HB.out.size b1.size) _⟩, by simp [intOf]; omega⟩

theorem head_from (s : ByteArray) (j : Nat) (h : j < s.size) : ∃ hz : 0 < (s.extract j s.size).size, (s.extract j s.size)[0]'hz = s[j] := first_of s j h
theorem endA_at (s : ByteArray) (k : Nat) (last : List UInt8) (h1 : Plain.atTag (s.data.toList.drop k) = true) (h2 : begF ([60, 47] ++ Plain.fold last) (s.data.toList.drop k) = true) : (s.size ≤ k + 2 + last.length → endA last (s.data.toList.drop k) = false) ∧ ∀ h : k + 2 + last.length < s.size, endA last (s.data.toList.drop k) = inEnd s[k + 2 + last.length] := by
  unfold endA
  rw [h1, h2, Bool.true_and, Bool.true_and, List.drop_drop, show k + (2 + last.length) = k + 2 + last.length by omega]
  refine ⟨fun h => ?_, fun h => ?_⟩
  · rw [List.drop_eq_nil_of_le (by rw [len_of]; exact h)]
  · rw [drop_at s _ h]
set_option maxHeartbeats 2000000 in
set_option maxRecDepth 100000 in
theorem endsAt_lex (s L : ByteArray) (k : Nat) (last : List UInt8) (w : World) (hL : L.data.toList = Plain.fold last) (hk : k < s.size) (hs : s.size ≤ 268435456) (hl : L.size ≤ 268435456) : Calls Tryz.prog 48 #[.string s, .int .i64 (k : Int), .string L] w (Brings (.bool (endA last (s.data.toList.drop k))) w) := by
  have HA := fun W => Lib.hid (at_any s (k : Int) W (by omega) (by omega) (by omega))
  have hat : atPlace s.data.toList (k : Int) = Plain.atTag (s.data.toList.drop k) := by
    unfold atPlace
    rw [len_of, decide_eq_true (by omega), decide_eq_true (by omega), Bool.true_and, Bool.true_and, Int.toNat_natCast]
  rw [hat] at HA
  clear hat
  have hLl : last.length = L.size := by
    have := congrArg List.length hL
    rw [Plain.fold_length, len_of] at this
    omega
  cases h1 : Plain.atTag (s.data.toList.drop k)
  · have HE : Hid (endA last (s.data.toList.drop k) = false) := Lib.hid (by unfold endA; rw [h1, Bool.false_and])
    rw [h1] at HA
    clear h1
    go_enter Tryz.func48, Tryz.ntmps48
    go_wp2_with fail
    refine (HA _).out.mono ?_
    rintro e w1 ⟨rfl, rfl⟩
    go_wp2_with fail
    go_ret
    exact ⟨bool_is HE.out.symm, Below.refl _ _⟩
  · rw [h1] at HA
    have hes : (s.extract k s.size).size ≤ 268435456 := by simp; omega
    have HT : ∀ W : World, Hid (TextsAt (W.alloc (.cells #[.string ⟨#[60, 47]⟩, .string L] 9)) (.slice (some ⟨W.heap.size, 0, none⟩) 2 2) [[60, 47], L.data.toList]) := fun W => Lib.hid (TextsAt.made W [[60, 47], L.data.toList] 9)
    have HG := fun W => Lib.hid (begins_lex (s.extract k s.size) _ _ _ (HT W).out hes (by simp))
    have e1 : ([[60, 47], L.data.toList] : List (List UInt8)).flatten = [60, 47] ++ Plain.fold last := by rw [hL]; simp
    rw [e1, from_list] at HG
    cases h2 : begF ([60, 47] ++ Plain.fold last) (s.data.toList.drop k)
    · have HE : Hid (endA last (s.data.toList.drop k) = false) := Lib.hid (by unfold endA; rw [h2, Bool.false_and, Bool.and_false])
      rw [h2] at HG
      clear h1 h2 e1
      go_enter Tryz.func48, Tryz.ntmps48
      go_wp2_with fail
      refine (HA _).out.mono ?_
      rintro e w1 ⟨rfl, rfl⟩
      go_wp2_with fail
      refine (HG _).out.mono ?_
      rintro e w1 ⟨rfl, b1⟩
      go_wp2_with fail
      go_ret
      exact ⟨bool_is HE.out.symm, ((Below.refl _ w).alloc (Nat.le_refl _) _).trans (b1.mono (by simp))⟩
    · have hln := begF_len _ _ h2
      rw [List.length_append, Plain.fold_length, List.length_drop, len_of, hLl] at hln
      simp at hln
      have HE := Lib.hid (endA_at s k last h1 h2)
      rw [h2] at HG
      rw [hLl] at HE
      have hsl : ∀ W, (Instr.slice 9 (.string s) (some (.int .i64 ((k : Int) + 2 + (L.size : Int)))) none none).run Tryz.prog W = .ok (.string (s.extract (k + 2 + L.size) s.size)) W := fun W => by
        have := slice_onu s (k + 2) L.size W (by omega)
        rwa [show ((k + 2 : Nat) : Int) = (k : Int) + 2 by omega] at this
      clear h1 h2 e1
      by_cases hj : k + 2 + L.size < s.size
      · obtain ⟨hz, hfst⟩ := head_from s (k + 2 + L.size) hj
        have HR := Lib.hid (HE.out.2 hj)
        have hne : (s.extract (k + 2 + L.size) s.size).toList.isEmpty = false := by
          have := text_some _ hz
          simpa using this
        rw [← hfst] at HR
        clear hfst
        generalize s.extract (k + 2 + L.size) s.size = B at *
        have h8 : B[0].toNat < 256 := B[0].toNat_lt
        by_cases h47 : B[0].toNat = 47
        · have q1 : ((B[0].toNat : Int) == 47) = true := by simp [h47]
          have HV : Hid (inEnd B[0] = true) := Lib.hid (by unfold inEnd; rw [decide_eq_true h47]; rfl)
          clear h47
          go_enter Tryz.func48, Tryz.ntmps48
          go_wp2_with fail
          refine (HA _).out.mono ?_
          rintro e w1 ⟨rfl, rfl⟩
          go_wp2_with fail
          refine (HG _).out.mono ?_
          rintro e w1 ⟨rfl, b1⟩
          go_wp2_with fail
          go_ret
          exact ⟨bool_is (by rw [HR.out, HV.out]), ((Below.refl _ w).alloc (Nat.le_refl _) _).trans (b1.mono (by simp))⟩
        · have q1 : ((B[0].toNat : Int) == 47) = false := beq_eq_false_iff_ne.2 (by omega)
          by_cases h62 : B[0].toNat = 62
          · have q2 : ((B[0].toNat : Int) == 62) = true := by simp [h62]
            have HV : Hid (inEnd B[0] = true) := Lib.hid (by unfold inEnd; rw [decide_eq_true h62]; simp)
            clear h47 h62
            go_enter Tryz.func48, Tryz.ntmps48
            go_wp2_with fail
            refine (HA _).out.mono ?_
            rintro e w1 ⟨rfl, rfl⟩
            go_wp2_with fail
            refine (HG _).out.mono ?_
            rintro e w1 ⟨rfl, b1⟩
            go_wp2_with fail
            go_ret
            exact ⟨bool_is (by rw [HR.out, HV.out]), ((Below.refl _ w).alloc (Nat.le_refl _) _).trans (b1.mono (by simp))⟩
          · have q2 : ((B[0].toNat : Int) == 62) = false := beq_eq_false_iff_ne.2 (by omega)
            have HV : Hid (inEnd B[0] = Plain.blankB B[0]) := Lib.hid (by unfold inEnd; rw [decide_eq_false h47, decide_eq_false h62]; simp)
            clear h47 h62
            cases hb : Plain.blankB B[0]
            · have HW := fun W => Lib.hid (blank_no B[0] W hb)
              rw [hb] at HV
              clear hb
              go_enter Tryz.func48, Tryz.ntmps48
              go_wp2_with fail
              refine (HA _).out.mono ?_
              rintro e w1 ⟨rfl, rfl⟩
              go_wp2_with fail
              refine (HG _).out.mono ?_
              rintro e w1 ⟨rfl, b1⟩
              go_wp2_with fail
              refine (HW _).out.mono ?_
              rintro e w3 ⟨rfl, rfl⟩
              go_wp2_with fail
              go_ret
              exact ⟨bool_is (by rw [HR.out, HV.out]), ((Below.refl _ w).alloc (Nat.le_refl _) _).trans (b1.mono (by simp))⟩
            · have HW := fun W => Lib.hid (blank_yes B[0] W hb)
              rw [hb] at HV
              clear hb
              go_enter Tryz.func48, Tryz.ntmps48
              go_wp2_with fail
              refine (HA _).out.mono ?_
              rintro e w1 ⟨rfl, rfl⟩
              go_wp2_with fail
              refine (HG _).out.mono ?_
              rintro e w1 ⟨rfl, b1⟩
              go_wp2_with fail
              refine (HW _).out.mono ?_
              rintro e w3 ⟨rfl, rfl⟩
              go_wp2_with fail
              go_ret
              exact ⟨bool_is (by rw [HR.out, HV.out]), ((Below.refl _ w).alloc (Nat.le_refl _) _).trans (b1.mono (by simp))⟩
      · have HR := Lib.hid (HE.out.1 (by omega))
        have hem : (s.extract (k + 2 + L.size) s.size).toList = [] := text_none _ (by rw [from_list, List.drop_eq_nil_of_le (by rw [len_of]; omega)])
        generalize s.extract (k + 2 + L.size) s.size = B at *
        go_enter Tryz.func48, Tryz.ntmps48
        go_wp2_with fail
        refine (HA _).out.mono ?_
        rintro e w1 ⟨rfl, rfl⟩
        go_wp2_with fail
        refine (HG _).out.mono ?_
        rintro e w1 ⟨rfl, b1⟩
        go_wp2_with fail
        go_ret
        exact ⟨bool_is (by rw [HR.out]), ((Below.refl _ w).alloc (Nat.le_refl _) _).trans (b1.mono (by simp))⟩
end Go.Proofs.YtgelgfgcdfnacaaGreatDoor
