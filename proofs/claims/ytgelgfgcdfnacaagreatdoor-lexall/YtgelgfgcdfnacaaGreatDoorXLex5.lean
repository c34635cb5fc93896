/-
  The walk of the program's Next. Any text of at most 2^28 bytes, any place of it, any state; the library's number MaxLen and the table of package refs are there.
-/
import Derived.Test.YtgelgfgcdfnacaaGreatDoorXLex4
namespace Go.Proofs.YtgelgfgcdfnacaaGreatDoor
open Go.RowKit

theorem mute_twice (l : List UInt8) (k : Nat) (hk : k ≤ l.length) : mute l (mute l k) = mute l k := mute_none l _ (mute_ok l k hk).2.2

set_option maxHeartbeats 4000000 in
set_option maxRecDepth 100000 in
theorem next_lex (s A : ByteArray) (k st : Nat) (w : World) (hR : Ready w) (hk : k ≤ s.size) (hst : st ≤ 4) (hs : s.size ≤ 268435456) (hA : A.size ≤ 268435456) : Calls Tryz.prog 12 #[.string s, .int .i64 (k : Int), .int .i64 (st : Int), .string A] w (LexOut (nextT s.data.toList k st A.data.toList) w) := by
  have HR := Lib.hid hR
  have HX := Lib.hid (ResW.start w)
  have HL := Lib.hid (len_of s)
  clear hR
  by_cases hlt : k < s.size
  · have hlt' : k < s.data.toList.length := by rw [len_of]; exact hlt
    by_cases h3 : st = 3
    · subst h3
      have HD := Lib.hid (next_plain s.data.toList k A.data.toList hlt')
      go_enter Tryz.func12, Tryz.ntmps12
      go_wp2_with fail
      generalize w.alloc (.cells #[.int .i64 0, .string ⟨#[]⟩, .slice none 0 0, .bool false, .string ⟨#[]⟩] 33) = W0 at *
      refine (upToEnd_lex s ⟨#[]⟩ k 3 W0 (HR.out.below HX.out.below) hlt (by omega) hs (by decide)).mono ?_
      rintro e w2 ⟨v2, rfl, ha2, b2⟩
      have HX2 := Lib.hid (HX.out.on b2)
      obtain ⟨p2, cap2, hv2⟩ := ha2.form
      subst hv2
      have HA2 := Lib.hid ha2
      clear b2 ha2
      have hlt := HX2.out.lt
      have r0 := HX2.out.r 0
      have r1 := HX2.out.r 1
      have r2 := HX2.out.r 2
      have r3 := HX2.out.r 3
      have r4 := HX2.out.r 4
      have fr := HX2.out.fr
      generalize closedT s.data.toList k 3 (⟨#[]⟩ : ByteArray).data.toList = ST at *
      obtain ⟨⟨tk, tn, ta, ts, tt⟩, tb⟩ := ST
      go_wp2_with fail
      obtain ⟨d1, d2⟩ := HX2.out.done (HA2.out) (.int .i64 tk) (.string ⟨tn.toArray⟩) (.slice p2 ta.length cap2) (.bool ts) (.string ⟨tt.toArray⟩)
      refine bodyPost_ret (v := .tuple #[.agg #[.int .i64 tk, .string ⟨tn.toArray⟩, .slice p2 ta.length cap2, .bool ts, .string ⟨tt.toArray⟩], .int .i64 (tb : Int)]) (by simp [results, Tryz.results12, go_sem, *]) rfl ?_
      rw [← HD.out]
      exact ⟨_, rfl, d2, d1⟩
    · by_cases h12 : st = 1 ∨ st = 2
      · have HD : Hid (nextT s.data.toList k st A.data.toList = closedT s.data.toList k st A.data.toList) := Lib.hid (by unfold nextT; rw [if_neg (by omega), if_neg h3, if_pos h12])
        have q3 : ((st : Int) == 3) = false := beq_eq_false_iff_ne.2 (by omega)
        have q12 : (((st : Int) == 1) = true) ∨ (((st : Int) == 1) = false ∧ ((st : Int) == 2) = true) := by
          rcases h12 with h | h
          · left; simp [h]
          · right; simp [h]
        clear h12 h3
        rcases q12 with q1 | ⟨q1, q2⟩
        · go_enter Tryz.func12, Tryz.ntmps12
          go_wp2_with fail
          generalize w.alloc (.cells #[.int .i64 0, .string ⟨#[]⟩, .slice none 0 0, .bool false, .string ⟨#[]⟩] 33) = W0 at *
          refine (upToEnd_lex s A k st W0 (HR.out.below HX.out.below) hlt hst hs hA).mono ?_
          rintro e w2 ⟨v2, rfl, ha2, b2⟩
          have HX2 := Lib.hid (HX.out.on b2)
          obtain ⟨p2, cap2, hv2⟩ := ha2.form
          subst hv2
          have HA2 := Lib.hid ha2
          clear b2 ha2
          have hlt := HX2.out.lt
          have r0 := HX2.out.r 0
          have r1 := HX2.out.r 1
          have r2 := HX2.out.r 2
          have r3 := HX2.out.r 3
          have r4 := HX2.out.r 4
          have fr := HX2.out.fr
          generalize closedT s.data.toList k st A.data.toList = ST at *
          obtain ⟨⟨tk, tn, ta, ts, tt⟩, tb⟩ := ST
          go_wp2_with fail
          obtain ⟨d1, d2⟩ := HX2.out.done (HA2.out) (.int .i64 tk) (.string ⟨tn.toArray⟩) (.slice p2 ta.length cap2) (.bool ts) (.string ⟨tt.toArray⟩)
          refine bodyPost_ret (v := .tuple #[.agg #[.int .i64 tk, .string ⟨tn.toArray⟩, .slice p2 ta.length cap2, .bool ts, .string ⟨tt.toArray⟩], .int .i64 (tb : Int)]) (by simp [results, Tryz.results12, go_sem, *]) rfl ?_
          rw [HD.out]
          exact ⟨_, rfl, d2, d1⟩
        · go_enter Tryz.func12, Tryz.ntmps12
          go_wp2_with fail
          generalize w.alloc (.cells #[.int .i64 0, .string ⟨#[]⟩, .slice none 0 0, .bool false, .string ⟨#[]⟩] 33) = W0 at *
          refine (upToEnd_lex s A k st W0 (HR.out.below HX.out.below) hlt hst hs hA).mono ?_
          rintro e w2 ⟨v2, rfl, ha2, b2⟩
          have HX2 := Lib.hid (HX.out.on b2)
          obtain ⟨p2, cap2, hv2⟩ := ha2.form
          subst hv2
          have HA2 := Lib.hid ha2
          clear b2 ha2
          have hlt := HX2.out.lt
          have r0 := HX2.out.r 0
          have r1 := HX2.out.r 1
          have r2 := HX2.out.r 2
          have r3 := HX2.out.r 3
          have r4 := HX2.out.r 4
          have fr := HX2.out.fr
          generalize closedT s.data.toList k st A.data.toList = ST at *
          obtain ⟨⟨tk, tn, ta, ts, tt⟩, tb⟩ := ST
          go_wp2_with fail
          obtain ⟨d1, d2⟩ := HX2.out.done (HA2.out) (.int .i64 tk) (.string ⟨tn.toArray⟩) (.slice p2 ta.length cap2) (.bool ts) (.string ⟨tt.toArray⟩)
          refine bodyPost_ret (v := .tuple #[.agg #[.int .i64 tk, .string ⟨tn.toArray⟩, .slice p2 ta.length cap2, .bool ts, .string ⟨tt.toArray⟩], .int .i64 (tb : Int)]) (by simp [results, Tryz.results12, go_sem, *]) rfl ?_
          rw [HD.out]
          exact ⟨_, rfl, d2, d1⟩
      · have hm := mute_ok s.data.toList k (by omega)
        have HMM := Lib.hid (mute_twice s.data.toList k (by omega))
        have HU := fun W => Lib.hid (mute_lex s k W hk hs)
        have HU2 := fun W => Lib.hid (mute_lex s (mute s.data.toList k) W (by rw [← len_of]; exact hm.2.1) hs)
        rw [HMM.out] at HU2
        have hm2 := hm.2.1
        rw [HL.out] at hm2
        by_cases h4 : st = 4
        · subst h4
          have HN := Lib.hid (next_at s.data.toList k 4 A.data.toList hlt' (Or.inr rfl))
          clear hm HMM h12 h3
          generalize mute s.data.toList k = m at *
          cases hsec : section_.isPrefixOf (s.data.toList.drop m)
          · have HP := fun W => Lib.hid (has_lex s ⟨section_.toArray⟩ m false hsec W)
            have HD : Hid (nextT s.data.toList k 4 A.data.toList = dataT s.data.toList m) := Lib.hid (by rw [HN.out, if_neg]; rintro ⟨_, q⟩; rw [hsec] at q; cases q)
            clear hsec HN
            go_enter Tryz.func12, Tryz.ntmps12
            go_wp2_with fail
            generalize w.alloc (.cells #[.int .i64 0, .string ⟨#[]⟩, .slice none 0 0, .bool false, .string ⟨#[]⟩] 33) = W0 at *
            refine (HU W0).out.mono ?_
            rintro e w1 ⟨rfl, b1⟩
            have HX1 := Lib.hid (HX.out.on b1)
            clear b1 HX
            go_wp2_with fail
            refine (HP _).out.mono ?_
            rintro e w3 ⟨rfl, rfl⟩
            go_wp2_with fail
            refine (HU2 w1).out.mono ?_
            rintro e w3 ⟨rfl, b3⟩
            have HX3 := Lib.hid (HX1.out.on b3)
            clear b3 HX1
            go_wp2_with fail
            refine (data_lex s m w3 (HR.out.below HX3.out.below) hm2 hs).mono ?_
            rintro e w2 ⟨v2, rfl, ha2, b2⟩
            have HX2 := Lib.hid (HX3.out.on b2)
            obtain ⟨p2, cap2, hv2⟩ := ha2.form
            subst hv2
            have HA2 := Lib.hid ha2
            clear b2 ha2
            have hlt := HX2.out.lt
            have r0 := HX2.out.r 0
            have r1 := HX2.out.r 1
            have r2 := HX2.out.r 2
            have r3 := HX2.out.r 3
            have r4 := HX2.out.r 4
            have fr := HX2.out.fr
            generalize dataT s.data.toList m = ST at *
            obtain ⟨⟨tk, tn, ta, ts, tt⟩, tb⟩ := ST
            go_wp2_with fail
            obtain ⟨d1, d2⟩ := HX2.out.done (HA2.out) (.int .i64 tk) (.string ⟨tn.toArray⟩) (.slice p2 ta.length cap2) (.bool ts) (.string ⟨tt.toArray⟩)
            refine bodyPost_ret (v := .tuple #[.agg #[.int .i64 tk, .string ⟨tn.toArray⟩, .slice p2 ta.length cap2, .bool ts, .string ⟨tt.toArray⟩], .int .i64 (tb : Int)]) (by simp [results, Tryz.results12, go_sem, *]) rfl ?_
            rw [HD.out]
            exact ⟨_, rfl, d2, d1⟩
          · have HP := fun W => Lib.hid (has_lex s ⟨section_.toArray⟩ m true hsec W)
            have hm9 := isPrefix_drop _ _ m hsec
            rw [len_of] at hm9
            simp [section_] at hm9
            have HUP := fun W => Lib.hid (upto_lex s (m + 9) _ [[93, 93, 62]] (W.alloc (.cells #[.string ⟨#[93, 93, 62]⟩] 9)) (TextsAt.made W [[93, 93, 62]] 9) (by omega) hs (by simp))
            have hle := up_le [[93, 93, 62]] s.data.toList (m + 9) (by rw [len_of]; omega)
            rw [len_of] at hle
            have HD : Hid (nextT s.data.toList k 4 A.data.toList = (textT (mid s.data.toList (m + 9) (upL [[93, 93, 62]] s.data.toList (m + 9)).1), (upL [[93, 93, 62]] s.data.toList (m + 9)).2)) := Lib.hid (by rw [HN.out, if_pos ⟨rfl, hsec⟩])
            generalize upL [[93, 93, 62]] s.data.toList (m + 9) = U at *
            obtain ⟨ua, ub⟩ := U
            simp only at hle
            have hsl := fun W => slice_mid s (m + 9) ua W hle.1 (by omega)
            rw [show ((m + 9 : Nat) : Int) = (m : Int) + 9 by omega] at HUP hsl
            have HM := Lib.hid (mid_list s (m + 9) ua)
            generalize s.extract (m + 9) ua = M at *
            clear hsec HN
            go_enter Tryz.func12, Tryz.ntmps12
            go_wp2_with fail
            generalize w.alloc (.cells #[.int .i64 0, .string ⟨#[]⟩, .slice none 0 0, .bool false, .string ⟨#[]⟩] 33) = W0 at *
            refine (HU W0).out.mono ?_
            rintro e w1 ⟨rfl, b1⟩
            have HX1 := Lib.hid (HX.out.on b1)
            clear b1 HX
            go_wp2_with fail
            refine (HP _).out.mono ?_
            rintro e w3 ⟨rfl, rfl⟩
            go_wp2_with fail
            refine (HUP w1).out.mono ?_
            rintro e w3 ⟨rfl, rfl⟩
            have HX2 := Lib.hid (HX1.out.on ((Below.refl _ w1).alloc (Nat.le_refl _) (.cells #[.string ⟨#[93, 93, 62]⟩] 9)))
            generalize w1.alloc (.cells #[.string ⟨#[93, 93, 62]⟩] 9) = w2 at *
            clear HX1
            have hlt := HX2.out.lt
            have r0 := HX2.out.r 0
            have r1 := HX2.out.r 1
            have r2 := HX2.out.r 2
            have r3 := HX2.out.r 3
            have r4 := HX2.out.r 4
            have fr := HX2.out.fr
            go_wp2_with fail
            obtain ⟨d1, d2⟩ := HX2.out.done (AttrsAt.nil _) (.int .i64 3) (.string ⟨#[]⟩) (.slice none 0 0) (.bool false) (.string M)
            refine bodyPost_ret (v := .tuple #[.agg #[.int .i64 3, .string ⟨#[]⟩, .slice none 0 0, .bool false, .string M], .int .i64 (ub : Int)]) (by simp [results, Tryz.results12, go_sem, *]) rfl ?_
            rw [HD.out, show mid s.data.toList (m + 9) ua = M.data.toList from HM.out.symm]
            exact ⟨_, rfl, d2, d1⟩
        · have h0 : st = 0 := by omega
          subst h0
          have HN := Lib.hid (next_at s.data.toList k 0 A.data.toList hlt' (Or.inl rfl))
          have HD : Hid (nextT s.data.toList k 0 A.data.toList = dataT s.data.toList (mute s.data.toList k)) := Lib.hid (by rw [HN.out, if_neg (by simp)])
          clear hm HMM h12 h3 h4 HN
          generalize mute s.data.toList k = m at *
          go_enter Tryz.func12, Tryz.ntmps12
          go_wp2_with fail
          generalize w.alloc (.cells #[.int .i64 0, .string ⟨#[]⟩, .slice none 0 0, .bool false, .string ⟨#[]⟩] 33) = W0 at *
          refine (HU W0).out.mono ?_
          rintro e w1 ⟨rfl, b1⟩
          have HX1 := Lib.hid (HX.out.on b1)
          clear b1 HX
          go_wp2_with fail
          refine (data_lex s m w1 (HR.out.below HX1.out.below) hm2 hs).mono ?_
          rintro e w2 ⟨v2, rfl, ha2, b2⟩
          have HX2 := Lib.hid (HX1.out.on b2)
          obtain ⟨p2, cap2, hv2⟩ := ha2.form
          subst hv2
          have HA2 := Lib.hid ha2
          clear b2 ha2
          have hlt := HX2.out.lt
          have r0 := HX2.out.r 0
          have r1 := HX2.out.r 1
          have r2 := HX2.out.r 2
          have r3 := HX2.out.r 3
          have r4 := HX2.out.r 4
          have fr := HX2.out.fr
          generalize dataT s.data.toList m = ST at *
          obtain ⟨⟨tk, tn, ta, ts, tt⟩, tb⟩ := ST
          go_wp2_with fail
          obtain ⟨d1, d2⟩ := HX2.out.done (HA2.out) (.int .i64 tk) (.string ⟨tn.toArray⟩) (.slice p2 ta.length cap2) (.bool ts) (.string ⟨tt.toArray⟩)
          refine bodyPost_ret (v := .tuple #[.agg #[.int .i64 tk, .string ⟨tn.toArray⟩, .slice p2 ta.length cap2, .bool ts, .string ⟨tt.toArray⟩], .int .i64 (tb : Int)]) (by simp [results, Tryz.results12, go_sem, *]) rfl ?_
          rw [HD.out]
          exact ⟨_, rfl, d2, d1⟩
  · have HD : Hid (nextT s.data.toList k st A.data.toList = stopT s.data.toList) := Lib.hid (by unfold nextT; rw [if_pos (by rw [len_of]; omega)])
    go_enter Tryz.func12, Tryz.ntmps12
    go_wp2_with fail
    generalize w.alloc (.cells #[.int .i64 0, .string ⟨#[]⟩, .slice none 0 0, .bool false, .string ⟨#[]⟩] 33) = W0 at *
    refine (stop_lex s W0).mono ?_
    rintro e w2 ⟨v2, rfl, ha2, b2⟩
    have HX2 := Lib.hid (HX.out.on b2)
    obtain ⟨p2, cap2, hv2⟩ := ha2.form
    subst hv2
    have HA2 := Lib.hid ha2
    clear b2 ha2
    have hlt := HX2.out.lt
    have r0 := HX2.out.r 0
    have r1 := HX2.out.r 1
    have r2 := HX2.out.r 2
    have r3 := HX2.out.r 3
    have r4 := HX2.out.r 4
    have fr := HX2.out.fr
    generalize stopT s.data.toList = ST at *
    obtain ⟨⟨tk, tn, ta, ts, tt⟩, tb⟩ := ST
    go_wp2_with fail
    obtain ⟨d1, d2⟩ := HX2.out.done (HA2.out) (.int .i64 tk) (.string ⟨tn.toArray⟩) (.slice p2 ta.length cap2) (.bool ts) (.string ⟨tt.toArray⟩)
    refine bodyPost_ret (v := .tuple #[.agg #[.int .i64 tk, .string ⟨tn.toArray⟩, .slice p2 ta.length cap2, .bool ts, .string ⟨tt.toArray⟩], .int .i64 (tb : Int)]) (by simp [results, Tryz.results12, go_sem, *]) rfl ?_
    rw [HD.out]
    exact ⟨_, rfl, d2, d1⟩
end Go.Proofs.YtgelgfgcdfnacaaGreatDoor
