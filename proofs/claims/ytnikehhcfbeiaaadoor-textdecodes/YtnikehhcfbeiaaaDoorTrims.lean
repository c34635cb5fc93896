/-
  The walk of the reference's Trim: any text of at most maxLen bytes.
-/
import Derived.Test.YtnikehhcfbeiaaaDoorTexts
namespace Go.Proofs.YtnikehhcfbeiaaaDoor
open Go.RowKit

theorem drop_at (s : ByteArray) (f : Nat) (h : f < s.size) : s.data.toList.drop f = s[f] :: s.data.toList.drop (f + 1) := by
  have := List.drop_eq_getElem_cons (l := s.data.toList) (i := f) (by simpa using h)
  exact this
theorem take_drop_last (s : ByteArray) (f k : Nat) (h : f < k) (hk : k ≤ s.size) : (s.data.toList.take k).drop f = (s.data.toList.take (k - 1)).drop f ++ [s[k - 1]'(by omega)] := by
  have := List.take_succ_eq_append_getElem (l := s.data.toList) (i := k - 1) (by simp; omega)
  rw [show k - 1 + 1 = k by omega] at this
  rw [this, List.drop_append_of_le_length (by simp; omega)]
  rfl
theorem rtrim_last (s : ByteArray) (f k : Nat) (h : f < k) (hk : k ≤ s.size) (hf : Plain.Front ((s.data.toList.take k).drop f)) (hb : Plain.blankB (s[k - 1]'(by omega)) = true) :
    Plain.Front ((s.data.toList.take (k - 1)).drop f) ∧ Plain.trim ((s.data.toList.take (k - 1)).drop f) = Plain.trim ((s.data.toList.take k).drop f) := by
  have e := take_drop_last s f k h hk
  rw [e] at hf ⊢
  have := Plain.trim_snoc _ _ hf hb
  exact ⟨this.1, this.2.symm⟩
theorem rtrim_stays (s : ByteArray) (f k : Nat) (h : f < k) (hk : k ≤ s.size) (hf : Plain.Front ((s.data.toList.take k).drop f)) (hb : Plain.blankB (s[k - 1]'(by omega)) = false) :
    Plain.trim ((s.data.toList.take k).drop f) = (s.data.toList.take k).drop f := by
  have e := take_drop_last s f k h hk
  rw [e] at hf ⊢
  exact Plain.trim_same _ _ hf hb
theorem rtrim_empty (s : ByteArray) (f k : Nat) (h : ¬ f < k) : (⟨(Plain.trim ((s.data.toList.take k).drop f)).toArray⟩ : ByteArray) = s.extract f k := by
  rw [extract_list, List.drop_eq_nil_of_le (by simp; omega)]
  rfl

set_option maxHeartbeats 1000000 in
set_option maxRecDepth 100000 in
theorem rtrim_any (s : ByteArray) (w : World) (hs : s.size ≤ maxLen) :
    Calls Tryd.prog 30 #[.string s] w fun e w' => e = .returned (.string ⟨(Plain.trim s.data.toList).toArray⟩) ∧ w = w' := by
  unfold maxLen at hs
  go_enter Tryd.func30, Tryd.ntmps30
  go_wp2
  go_loop [3] (fun v => ∃ f : Nat, v = .int .i64 f ∧ f ≤ s.size ∧ Plain.trim (s.data.toList.drop f) = Plain.trim s.data.toList) (fun v => s.size - (intOf v).toNat)
  case atStart => exact ⟨0, rfl, Nat.zero_le _, rfl⟩
  case round =>
    obtain ⟨f, rfl, hf, htr⟩ := hrel
    have HTR := Lib.hid htr
    clear htr
    by_cases hlt : f < s.size
    · have HDR := Lib.hid (drop_at s f hlt)
      cases hbl : Plain.blankB s[f]
      · have HFR : Hid (Plain.Front (s.data.toList.drop f)) := Or.inr ⟨_, _, HDR.out, hbl⟩
        have HBL := Lib.hid hbl
        clear hbl HDR
        go_wp2_with (go_at_call 32; refine (rblank_no _ _ HBL.out).mono ?_; rintro e w1 ⟨rfl, rfl⟩)
        clear HBL
        go_loop [4] (fun v => ∃ k : Nat, v = .int .i64 k ∧ f ≤ k ∧ k ≤ s.size ∧ Plain.Front ((s.data.toList.take k).drop f) ∧ Plain.trim ((s.data.toList.take k).drop f) = Plain.trim s.data.toList) (fun v => (intOf v).toNat)
        case atStart =>
          refine ⟨s.size, rfl, hf, Nat.le_refl _, ?_, ?_⟩
          · rw [List.take_of_length_le (by simp)]; exact HFR.out
          · rw [List.take_of_length_le (by simp)]; exact HTR.out
        case round =>
          clear HTR HFR
          obtain ⟨k, rfl, hfk, hks, hfr, htr⟩ := hrel
          have HTR := Lib.hid htr
          have HFR := Lib.hid hfr
          clear htr hfr
          by_cases hlt2 : f < k
          · have hlt3 : k - 1 < s.size := by omega
            have hkk : ((k : Int) - 1).toNat = k - 1 := by omega
            cases hbl : Plain.blankB s[k - 1]
            · have HE := Lib.hid (rtrim_stays s f k hlt2 hks HFR.out hbl)
              have HBL := Lib.hid hbl
              clear hbl
              go_wp2_with (go_at_call 32; refine (rblank_no _ _ HBL.out).mono ?_; rintro e w1 ⟨rfl, rfl⟩)
              go_ret
              refine ⟨?_, rfl⟩
              rw [← HTR.out, HE.out, ← extract_list]
              rfl
            · have HE := Lib.hid (rtrim_last s f k hlt2 hks HFR.out hbl)
              have HBL := Lib.hid hbl
              clear hbl
              go_wp2_with (go_at_call 32; refine (rblank_yes _ _ HBL.out).mono ?_; rintro e w1 ⟨rfl, rfl⟩)
              refine ⟨⟨k - 1, by go_num, by omega, by omega, HE.out.1, HE.out.2.trans HTR.out⟩, by simp [intOf]; omega⟩
          · have HE := Lib.hid (rtrim_empty s f k hlt2)
            go_wp2
            go_ret
            refine ⟨?_, rfl⟩
            rw [← HTR.out, HE.out]
            rfl
      · have HE : Hid (Plain.trim (s.data.toList.drop (f + 1)) = Plain.trim (s.data.toList.drop f)) := by
          show _ = _
          rw [HDR.out, Plain.trim_cons _ _ hbl]
        have HBL := Lib.hid hbl
        clear hbl HDR
        go_wp2_with (go_at_call 32; refine (rblank_yes _ _ HBL.out).mono ?_; rintro e w1 ⟨rfl, rfl⟩)
        exact ⟨⟨f + 1, by go_num, by omega, HE.out.trans HTR.out⟩, by simp [intOf]; omega⟩
    · have HFR : Hid (Plain.Front (s.data.toList.drop f)) := Or.inl (List.drop_eq_nil_of_le (by simp; omega))
      go_wp2
      go_loop [4] (fun v => ∃ k : Nat, v = .int .i64 k ∧ f ≤ k ∧ k ≤ s.size ∧ Plain.Front ((s.data.toList.take k).drop f) ∧ Plain.trim ((s.data.toList.take k).drop f) = Plain.trim s.data.toList) (fun v => (intOf v).toNat)
      case atStart =>
        refine ⟨s.size, rfl, hf, Nat.le_refl _, ?_, ?_⟩
        · rw [List.take_of_length_le (by simp)]; exact HFR.out
        · rw [List.take_of_length_le (by simp)]; exact HTR.out
      case round =>
        clear HTR HFR
        obtain ⟨k, rfl, hfk, hks, hfr, htr⟩ := hrel
        have HTR := Lib.hid htr
        have HFR := Lib.hid hfr
        clear htr hfr
        by_cases hlt2 : f < k
        · exact absurd hlt2 (by omega)
        · have HE := Lib.hid (rtrim_empty s f k hlt2)
          go_wp2
          go_ret
          refine ⟨?_, rfl⟩
          rw [← HTR.out, HE.out]
          rfl
end Go.Proofs.YtnikehhcfbeiaaaDoor
