/-
  The walk of the program's data. Any text of at most 2^28 bytes; the library's number MaxLen and the table of package refs are there.
-/
import Derived.Test.YtgelgfgcdfnacaaGreatDoorXLex3
namespace Go.Proofs.YtgelgfgcdfnacaaGreatDoor
open Go.RowKit

theorem at_lex (s : ByteArray) (k : Nat) (b : Bool) (hk : k < s.size) (hs : s.size ≤ 268435456) (h : Plain.atTag (s.data.toList.drop k) = b) (W : World) : Calls Tryz.prog 34 #[.string s, .int .i64 (k : Int)] W (Gives (.bool b) W) := by
  have HA := at_any s (k : Int) W (by omega) (by omega) (by omega)
  have hat : atPlace s.data.toList (k : Int) = Plain.atTag (s.data.toList.drop k) := by
    unfold atPlace
    rw [len_of, decide_eq_true (by omega), decide_eq_true (by omega), Bool.true_and, Bool.true_and, Int.toNat_natCast]
  rwa [hat, h] at HA
theorem text_is (B : ByteArray) (l : List UInt8) (h : B.data.toList = l) (m : List UInt8) : (B.toList == m) = (l == m) := by rw [Lib.toList_data, h]

set_option maxHeartbeats 4000000 in
set_option maxRecDepth 100000 in
theorem data_lex (s : ByteArray) (k : Nat) (w : World) (hR : Ready w) (hk : k ≤ s.size) (hs : s.size ≤ 268435456) : Calls Tryz.prog 24 #[.string s, .int .i64 (k : Int)] w (LexOut (dataT s.data.toList k) w) := by
  have HR := Lib.hid hR
  have HX := Lib.hid (ResW.start w)
  have HL := Lib.hid (len_of s)
  clear hR
  by_cases hlt : k < s.size
  · have hlt' : ¬ s.data.toList.length ≤ k := by rw [len_of]; omega
    have q0 : (s.extract k s.size).toList.isEmpty = false := by
      obtain ⟨hz0, _⟩ := first_of s k hlt
      have := text_some _ hz0
      simpa using this
    cases h1 : Plain.atTag (s.data.toList.drop k)
    · have HA := fun W => Lib.hid (at_lex s k false hlt hs h1 W)
      cases h2 : [60, 33, 45, 45].isPrefixOf (s.data.toList.drop k)
      · have HP2 := fun W => Lib.hid (has_lex s ⟨#[60, 33, 45, 45]⟩ k false h2 W)
        cases h3 : [60, 33].isPrefixOf (s.data.toList.drop k)
        · have HP3 := fun W => Lib.hid (has_lex s ⟨#[60, 33]⟩ k false h3 W)
          cases h4 : ([60, 47].isPrefixOf (s.data.toList.drop k) && decide (k + 2 < s.data.toList.length))
          · cases h5 : [60, 63].isPrefixOf (s.data.toList.drop k)
            · have HP5 := fun W => Lib.hid (has_lex s ⟨#[60, 63]⟩ k false h5 W)
              have HD : Hid (dataT s.data.toList k = (textT (Plain.expand (mid s.data.toList k (upL [[60]] s.data.toList (k + 1)).1) false), (upL [[60]] s.data.toList (k + 1)).1)) := Lib.hid (by unfold dataT; rw [if_neg hlt', if_neg (by rw [h1]; decide), if_neg (by rw [h2]; decide), if_neg (by rw [h3, h4]; decide), if_neg (by rw [h5]; decide)])
              have HU := fun W => Lib.hid (upto_lex s (k + 1) _ [[60]] (W.alloc (.cells #[.string ⟨#[60]⟩] 9)) (TextsAt.made W [[60]] 9) (by omega) hs (by simp))
              have hle := up_le [[60]] s.data.toList (k + 1) (by rw [len_of]; omega)
              rw [len_of] at hle
              generalize upL [[60]] s.data.toList (k + 1) = U at *
              obtain ⟨ua, ub⟩ := U
              simp only at hle
              rw [show ((k + 1 : Nat) : Int) = (k : Int) + 1 by omega] at HU
              have hsl := fun W => slice_mid s k ua W (by omega) (by omega)
              have HM := Lib.hid (mid_list s k ua)
              have hms : (s.extract k ua).size ≤ 268435456 := by simp; omega
              generalize s.extract k ua = M at *
              cases h6 : [60, 47].isPrefixOf (s.data.toList.drop k)
              · have HP6 := fun W => Lib.hid (has_lex s ⟨#[60, 47]⟩ k false h6 W)
                clear h1 h2 h3 h4 h5 h6
                go_enter Tryz.func24, Tryz.ntmps24
                go_wp2_with fail
                refine (HA _).out.mono ?_
                rintro e w1 ⟨rfl, rfl⟩
                go_wp2_with fail
                refine (HP2 _).out.mono ?_
                rintro e w1 ⟨rfl, rfl⟩
                go_wp2_with fail
                refine (HP3 _).out.mono ?_
                rintro e w1 ⟨rfl, rfl⟩
                go_wp2_with fail
                refine (HP6 _).out.mono ?_
                rintro e w1 ⟨rfl, rfl⟩
                go_wp2_with fail
                refine (HP5 _).out.mono ?_
                rintro e w1 ⟨rfl, rfl⟩
                go_wp2_with fail
                have hz : w.heap.size + 1 = (w.alloc (.cells #[.int .i64 0, .string ⟨#[]⟩, .slice none 0 0, .bool false, .string ⟨#[]⟩] 33)).heap.size := by simp
                rw [hz]
                generalize w.alloc (.cells #[.int .i64 0, .string ⟨#[]⟩, .slice none 0 0, .bool false, .string ⟨#[]⟩] 33) = W0 at *
                have hb : Below W0.heap.size W0 (W0.alloc (.cells #[.string ⟨#[60]⟩] 9)) := (Below.refl _ _).alloc (Nat.le_refl _) _
                have HX1 := Lib.hid (HX.out.on hb)
                clear hb HX hz
                refine (HU W0).out.mono ?_
                rintro e w3 ⟨rfl, rfl⟩
                generalize W0.alloc (.cells #[.string ⟨#[60]⟩] 9) = W1 at *
                go_wp2_with fail
                refine (expand_any M false W1 (by omega) (HR.out.below HX1.out.below).early).mono ?_
                rintro e w2 ⟨rfl, b2⟩
                have HX2 := Lib.hid (HX1.out.on b2)
                clear b2 HX1
                have hlt := HX2.out.lt
                have r0 := HX2.out.r 0
                have r1 := HX2.out.r 1
                have r2 := HX2.out.r 2
                have r3 := HX2.out.r 3
                have r4 := HX2.out.r 4
                have fr := HX2.out.fr
                go_wp2_with fail
                obtain ⟨d1, d2⟩ := HX2.out.done (AttrsAt.nil _) (.int .i64 3) (.string ⟨#[]⟩) (.slice none 0 0) (.bool false) (.string ⟨(Plain.expand M.data.toList false).toArray⟩)
                refine bodyPost_ret (v := .tuple #[.agg #[.int .i64 3, .string ⟨#[]⟩, .slice none 0 0, .bool false, .string ⟨(Plain.expand M.data.toList false).toArray⟩], .int .i64 (ua : Int)]) (by simp [results, Tryz.results24, go_sem, *]) rfl ?_
                rw [HD.out, show mid s.data.toList k ua = M.data.toList from HM.out.symm]
                exact ⟨_, rfl, d2, d1⟩
              · have HP6 := fun W => Lib.hid (has_lex s ⟨#[60, 47]⟩ k true h6 W)
                have q1 : ((s.extract k s.size).toList == [60, 47]) = true := by
                  rw [text_is _ _ (from_list s k), beq_iff_eq]
                  rw [h6, Bool.true_and, decide_eq_false_iff_not, len_of] at h4
                  obtain ⟨r, hr⟩ := prefix_split _ _ h6
                  have hln := congrArg List.length hr
                  rw [List.length_drop, len_of, List.length_append] at hln
                  simp at hln
                  rw [hr, List.eq_nil_of_length_eq_zero (show r.length = 0 by omega)]
                  rfl
                clear h1 h2 h3 h4 h5 h6
                go_enter Tryz.func24, Tryz.ntmps24
                go_wp2_with fail
                refine (HA _).out.mono ?_
                rintro e w1 ⟨rfl, rfl⟩
                go_wp2_with fail
                refine (HP2 _).out.mono ?_
                rintro e w1 ⟨rfl, rfl⟩
                go_wp2_with fail
                refine (HP3 _).out.mono ?_
                rintro e w1 ⟨rfl, rfl⟩
                go_wp2_with fail
                refine (HP6 _).out.mono ?_
                rintro e w1 ⟨rfl, rfl⟩
                go_wp2_with fail
                refine (HP5 _).out.mono ?_
                rintro e w1 ⟨rfl, rfl⟩
                go_wp2_with fail
                have hz : w.heap.size + 1 = (w.alloc (.cells #[.int .i64 0, .string ⟨#[]⟩, .slice none 0 0, .bool false, .string ⟨#[]⟩] 33)).heap.size := by simp
                rw [hz]
                generalize w.alloc (.cells #[.int .i64 0, .string ⟨#[]⟩, .slice none 0 0, .bool false, .string ⟨#[]⟩] 33) = W0 at *
                have hb : Below W0.heap.size W0 (W0.alloc (.cells #[.string ⟨#[60]⟩] 9)) := (Below.refl _ _).alloc (Nat.le_refl _) _
                have HX1 := Lib.hid (HX.out.on hb)
                clear hb HX hz
                refine (HU W0).out.mono ?_
                rintro e w3 ⟨rfl, rfl⟩
                generalize W0.alloc (.cells #[.string ⟨#[60]⟩] 9) = W1 at *
                go_wp2_with fail
                refine (expand_any M false W1 (by omega) (HR.out.below HX1.out.below).early).mono ?_
                rintro e w2 ⟨rfl, b2⟩
                have HX2 := Lib.hid (HX1.out.on b2)
                clear b2 HX1
                have hlt := HX2.out.lt
                have r0 := HX2.out.r 0
                have r1 := HX2.out.r 1
                have r2 := HX2.out.r 2
                have r3 := HX2.out.r 3
                have r4 := HX2.out.r 4
                have fr := HX2.out.fr
                go_wp2_with fail
                obtain ⟨d1, d2⟩ := HX2.out.done (AttrsAt.nil _) (.int .i64 3) (.string ⟨#[]⟩) (.slice none 0 0) (.bool false) (.string ⟨(Plain.expand M.data.toList false).toArray⟩)
                refine bodyPost_ret (v := .tuple #[.agg #[.int .i64 3, .string ⟨#[]⟩, .slice none 0 0, .bool false, .string ⟨(Plain.expand M.data.toList false).toArray⟩], .int .i64 (ua : Int)]) (by simp [results, Tryz.results24, go_sem, *]) rfl ?_
                rw [HD.out, show mid s.data.toList k ua = M.data.toList from HM.out.symm]
                exact ⟨_, rfl, d2, d1⟩
            · have HP5 := fun W => Lib.hid (has_lex s ⟨#[60, 63]⟩ k true h5 W)
              have h6 : [60, 47].isPrefixOf (s.data.toList.drop k) = false := by
                obtain ⟨r, hr⟩ := prefix_split _ _ h5
                rw [hr]
                rfl
              have HP6 := fun W => Lib.hid (has_lex s ⟨#[60, 47]⟩ k false h6 W)
              have HD : Hid (dataT s.data.toList k = noteTo [[62]] s.data.toList (k + 1)) := Lib.hid (by unfold dataT; rw [if_neg hlt', if_neg (by rw [h1]; decide), if_neg (by rw [h2]; decide), if_neg (by rw [h3, h4]; decide), if_pos h5])
              clear h1 h2 h3 h4 h5 h6
              go_enter Tryz.func24, Tryz.ntmps24
              go_wp2_with fail
              refine (HA _).out.mono ?_
              rintro e w1 ⟨rfl, rfl⟩
              go_wp2_with fail
              refine (HP2 _).out.mono ?_
              rintro e w1 ⟨rfl, rfl⟩
              go_wp2_with fail
              refine (HP3 _).out.mono ?_
              rintro e w1 ⟨rfl, rfl⟩
              go_wp2_with fail
              refine (HP6 _).out.mono ?_
              rintro e w1 ⟨rfl, rfl⟩
              go_wp2_with fail
              refine (HP5 _).out.mono ?_
              rintro e w1 ⟨rfl, rfl⟩
              go_wp2_with fail
              have hz : w.heap.size + 1 = (w.alloc (.cells #[.int .i64 0, .string ⟨#[]⟩, .slice none 0 0, .bool false, .string ⟨#[]⟩] 33)).heap.size := by simp
              rw [hz]
              generalize w.alloc (.cells #[.int .i64 0, .string ⟨#[]⟩, .slice none 0 0, .bool false, .string ⟨#[]⟩] 33) = W0 at *
              have hb : Below W0.heap.size W0 (W0.alloc (.cells #[.string ⟨#[62]⟩] 9)) := (Below.refl _ _).alloc (Nat.le_refl _) _
              have HX1 := Lib.hid (HX.out.on hb)
              have HT : Hid (TextsAt (W0.alloc (.cells #[.string ⟨#[62]⟩] 9)) (.slice (some ⟨W0.heap.size, 0, none⟩) 1 1) [[62]]) := Lib.hid (TextsAt.made W0 [[62]] 9)
              clear hb HX hz
              generalize W0.alloc (.cells #[.string ⟨#[62]⟩] 9) = W1 at *
              refine (noteUpTo_lex s (k + 1) _ _ W1 (HR.out.below HX1.out.below) HT.out (by omega) hs (by simp)).mono ?_
              rintro e w2 ⟨v2, rfl, ha2, b2⟩
              have HX2 := Lib.hid (HX1.out.on b2)
              obtain ⟨p2, cap2, hv2⟩ := ha2.form
              subst hv2
              have HA2 := Lib.hid ha2
              clear b2 ha2
              have hlt := HX2.out.lt
              have r0 := HX2.out.r 0
              have r1 := HX2.out.r 1
              have r2 := HX2.out.r 2
              have r3 := HX2.out.r 3
              have r4 := HX2.out.r 4
              have fr := HX2.out.fr
              generalize noteTo [[62]] s.data.toList (k + 1) = ST at *
              obtain ⟨⟨tk, tn, ta, ts, tt⟩, tb⟩ := ST
              go_wp2_with fail
              obtain ⟨d1, d2⟩ := HX2.out.done (HA2.out) (.int .i64 tk) (.string ⟨tn.toArray⟩) (.slice p2 ta.length cap2) (.bool ts) (.string ⟨tt.toArray⟩)
              refine bodyPost_ret (v := .tuple #[.agg #[.int .i64 tk, .string ⟨tn.toArray⟩, .slice p2 ta.length cap2, .bool ts, .string ⟨tt.toArray⟩], .int .i64 (tb : Int)]) (by simp [results, Tryz.results24, go_sem, *]) rfl ?_
              rw [HD.out]
              exact ⟨_, rfl, d2, d1⟩
          · rw [Bool.and_eq_true, decide_eq_true_iff, len_of] at h4
            have HP6 := fun W => Lib.hid (has_lex s ⟨#[60, 47]⟩ k true h4.1 W)
            have q1 : ((s.extract k s.size).toList == [60, 47]) = false := by
              rw [text_is _ _ (from_list s k), beq_eq_false_iff_ne]
              intro q
              have hln := congrArg List.length q
              rw [List.length_drop, len_of] at hln
              simp at hln
              omega
            have HD : Hid (dataT s.data.toList k = noteTo [[62]] s.data.toList (k + 2)) := Lib.hid (by unfold dataT; rw [if_neg hlt', if_neg (by rw [h1]; decide), if_neg (by rw [h2]; decide), if_pos (by rw [h3, h4.1, len_of, decide_eq_true h4.2]; decide)])
            have hk2 := h4.2
            clear h1 h2 h3 h4
            go_enter Tryz.func24, Tryz.ntmps24
            go_wp2_with fail
            refine (HA _).out.mono ?_
            rintro e w1 ⟨rfl, rfl⟩
            go_wp2_with fail
            refine (HP2 _).out.mono ?_
            rintro e w1 ⟨rfl, rfl⟩
            go_wp2_with fail
            refine (HP3 _).out.mono ?_
            rintro e w1 ⟨rfl, rfl⟩
            go_wp2_with fail
            refine (HP6 _).out.mono ?_
            rintro e w1 ⟨rfl, rfl⟩
            go_wp2_with fail
            have hz : w.heap.size + 1 = (w.alloc (.cells #[.int .i64 0, .string ⟨#[]⟩, .slice none 0 0, .bool false, .string ⟨#[]⟩] 33)).heap.size := by simp
            rw [hz]
            generalize w.alloc (.cells #[.int .i64 0, .string ⟨#[]⟩, .slice none 0 0, .bool false, .string ⟨#[]⟩] 33) = W0 at *
            have hb : Below W0.heap.size W0 (W0.alloc (.cells #[.string ⟨#[62]⟩] 9)) := (Below.refl _ _).alloc (Nat.le_refl _) _
            have HX1 := Lib.hid (HX.out.on hb)
            have HT : Hid (TextsAt (W0.alloc (.cells #[.string ⟨#[62]⟩] 9)) (.slice (some ⟨W0.heap.size, 0, none⟩) 1 1) [[62]]) := Lib.hid (TextsAt.made W0 [[62]] 9)
            clear hb HX hz
            generalize W0.alloc (.cells #[.string ⟨#[62]⟩] 9) = W1 at *
            refine (noteUpTo_lex s (k + 2) _ _ W1 (HR.out.below HX1.out.below) HT.out (by omega) hs (by simp)).mono ?_
            rintro e w2 ⟨v2, rfl, ha2, b2⟩
            have HX2 := Lib.hid (HX1.out.on b2)
            obtain ⟨p2, cap2, hv2⟩ := ha2.form
            subst hv2
            have HA2 := Lib.hid ha2
            clear b2 ha2
            have hlt := HX2.out.lt
            have r0 := HX2.out.r 0
            have r1 := HX2.out.r 1
            have r2 := HX2.out.r 2
            have r3 := HX2.out.r 3
            have r4 := HX2.out.r 4
            have fr := HX2.out.fr
            generalize noteTo [[62]] s.data.toList (k + 2) = ST at *
            obtain ⟨⟨tk, tn, ta, ts, tt⟩, tb⟩ := ST
            go_wp2_with fail
            obtain ⟨d1, d2⟩ := HX2.out.done (HA2.out) (.int .i64 tk) (.string ⟨tn.toArray⟩) (.slice p2 ta.length cap2) (.bool ts) (.string ⟨tt.toArray⟩)
            refine bodyPost_ret (v := .tuple #[.agg #[.int .i64 tk, .string ⟨tn.toArray⟩, .slice p2 ta.length cap2, .bool ts, .string ⟨tt.toArray⟩], .int .i64 (tb : Int)]) (by simp [results, Tryz.results24, go_sem, *]) rfl ?_
            rw [HD.out]
            exact ⟨_, rfl, d2, d1⟩
        · have HP3 := fun W => Lib.hid (has_lex s ⟨#[60, 33]⟩ k true h3 W)
          have HD : Hid (dataT s.data.toList k = noteTo [[62]] s.data.toList (k + 2)) := Lib.hid (by unfold dataT; rw [if_neg hlt', if_neg (by rw [h1]; decide), if_neg (by rw [h2]; decide), if_pos (by rw [h3]; simp)])
          have hk2 := isPrefix_drop _ _ k h3
          rw [len_of] at hk2
          simp at hk2
          clear h1 h2 h3
          go_enter Tryz.func24, Tryz.ntmps24
          go_wp2_with fail
          refine (HA _).out.mono ?_
          rintro e w1 ⟨rfl, rfl⟩
          go_wp2_with fail
          refine (HP2 _).out.mono ?_
          rintro e w1 ⟨rfl, rfl⟩
          go_wp2_with fail
          refine (HP3 _).out.mono ?_
          rintro e w1 ⟨rfl, rfl⟩
          go_wp2_with fail
          have hz : w.heap.size + 1 = (w.alloc (.cells #[.int .i64 0, .string ⟨#[]⟩, .slice none 0 0, .bool false, .string ⟨#[]⟩] 33)).heap.size := by simp
          rw [hz]
          generalize w.alloc (.cells #[.int .i64 0, .string ⟨#[]⟩, .slice none 0 0, .bool false, .string ⟨#[]⟩] 33) = W0 at *
          have hb : Below W0.heap.size W0 (W0.alloc (.cells #[.string ⟨#[62]⟩] 9)) := (Below.refl _ _).alloc (Nat.le_refl _) _
          have HX1 := Lib.hid (HX.out.on hb)
          have HT : Hid (TextsAt (W0.alloc (.cells #[.string ⟨#[62]⟩] 9)) (.slice (some ⟨W0.heap.size, 0, none⟩) 1 1) [[62]]) := Lib.hid (TextsAt.made W0 [[62]] 9)
          clear hb HX hz
          generalize W0.alloc (.cells #[.string ⟨#[62]⟩] 9) = W1 at *
          refine (noteUpTo_lex s (k + 2) _ _ W1 (HR.out.below HX1.out.below) HT.out (by omega) hs (by simp)).mono ?_
          rintro e w2 ⟨v2, rfl, ha2, b2⟩
          have HX2 := Lib.hid (HX1.out.on b2)
          obtain ⟨p2, cap2, hv2⟩ := ha2.form
          subst hv2
          have HA2 := Lib.hid ha2
          clear b2 ha2
          have hlt := HX2.out.lt
          have r0 := HX2.out.r 0
          have r1 := HX2.out.r 1
          have r2 := HX2.out.r 2
          have r3 := HX2.out.r 3
          have r4 := HX2.out.r 4
          have fr := HX2.out.fr
          generalize noteTo [[62]] s.data.toList (k + 2) = ST at *
          obtain ⟨⟨tk, tn, ta, ts, tt⟩, tb⟩ := ST
          go_wp2_with fail
          obtain ⟨d1, d2⟩ := HX2.out.done (HA2.out) (.int .i64 tk) (.string ⟨tn.toArray⟩) (.slice p2 ta.length cap2) (.bool ts) (.string ⟨tt.toArray⟩)
          refine bodyPost_ret (v := .tuple #[.agg #[.int .i64 tk, .string ⟨tn.toArray⟩, .slice p2 ta.length cap2, .bool ts, .string ⟨tt.toArray⟩], .int .i64 (tb : Int)]) (by simp [results, Tryz.results24, go_sem, *]) rfl ?_
          rw [HD.out]
          exact ⟨_, rfl, d2, d1⟩
      · have HP2 := fun W => Lib.hid (has_lex s ⟨#[60, 33, 45, 45]⟩ k true h2 W)
        have HD : Hid (dataT s.data.toList k = remarkT s.data.toList (k + 4)) := Lib.hid (by unfold dataT; rw [if_neg hlt', if_neg (by rw [h1]; decide), if_pos h2])
        have hk2 := isPrefix_drop _ _ k h2
        rw [len_of] at hk2
        simp at hk2
        clear h1 h2
        go_enter Tryz.func24, Tryz.ntmps24
        go_wp2_with fail
        refine (HA _).out.mono ?_
        rintro e w1 ⟨rfl, rfl⟩
        go_wp2_with fail
        refine (HP2 _).out.mono ?_
        rintro e w1 ⟨rfl, rfl⟩
        go_wp2_with fail
        generalize w.alloc (.cells #[.int .i64 0, .string ⟨#[]⟩, .slice none 0 0, .bool false, .string ⟨#[]⟩] 33) = W0 at *
        refine (note_lex s (k + 4) W0 (HR.out.below HX.out.below) (by omega) hs).mono ?_
        rintro e w2 ⟨v2, rfl, ha2, b2⟩
        have HX2 := Lib.hid (HX.out.on b2)
        obtain ⟨p2, cap2, hv2⟩ := ha2.form
        subst hv2
        have HA2 := Lib.hid ha2
        clear b2 ha2
        have hlt := HX2.out.lt
        have r0 := HX2.out.r 0
        have r1 := HX2.out.r 1
        have r2 := HX2.out.r 2
        have r3 := HX2.out.r 3
        have r4 := HX2.out.r 4
        have fr := HX2.out.fr
        generalize remarkT s.data.toList (k + 4) = ST at *
        obtain ⟨⟨tk, tn, ta, ts, tt⟩, tb⟩ := ST
        go_wp2_with fail
        obtain ⟨d1, d2⟩ := HX2.out.done (HA2.out) (.int .i64 tk) (.string ⟨tn.toArray⟩) (.slice p2 ta.length cap2) (.bool ts) (.string ⟨tt.toArray⟩)
        refine bodyPost_ret (v := .tuple #[.agg #[.int .i64 tk, .string ⟨tn.toArray⟩, .slice p2 ta.length cap2, .bool ts, .string ⟨tt.toArray⟩], .int .i64 (tb : Int)]) (by simp [results, Tryz.results24, go_sem, *]) rfl ?_
        rw [HD.out]
        exact ⟨_, rfl, d2, d1⟩
    · have HA := fun W => Lib.hid (at_lex s k true hlt hs h1 W)
      have HD : Hid (dataT s.data.toList k = readL s.data.toList k) := Lib.hid (by unfold dataT; rw [if_neg hlt', if_pos h1])
      have H1 := Lib.hid h1
      clear h1
      go_enter Tryz.func24, Tryz.ntmps24
      go_wp2_with fail
      refine (HA _).out.mono ?_
      rintro e w1 ⟨rfl, rfl⟩
      go_wp2_with fail
      generalize w.alloc (.cells #[.int .i64 0, .string ⟨#[]⟩, .slice none 0 0, .bool false, .string ⟨#[]⟩] 33) = W0 at *
      refine (read_lex s k W0 (HR.out.below HX.out.below) H1.out hs).mono ?_
      rintro e w2 ⟨v2, rfl, ha2, b2⟩
      have HX2 := Lib.hid (HX.out.on b2)
      obtain ⟨p2, cap2, hv2⟩ := ha2.form
      subst hv2
      have HA2 := Lib.hid ha2
      clear b2 ha2
      have hlt := HX2.out.lt
      have r0 := HX2.out.r 0
      have r1 := HX2.out.r 1
      have r2 := HX2.out.r 2
      have r3 := HX2.out.r 3
      have r4 := HX2.out.r 4
      have fr := HX2.out.fr
      generalize readL s.data.toList k = ST at *
      obtain ⟨⟨tk, tn, ta, ts, tt⟩, tb⟩ := ST
      go_wp2_with fail
      obtain ⟨d1, d2⟩ := HX2.out.done (HA2.out) (.int .i64 tk) (.string ⟨tn.toArray⟩) (.slice p2 ta.length cap2) (.bool ts) (.string ⟨tt.toArray⟩)
      refine bodyPost_ret (v := .tuple #[.agg #[.int .i64 tk, .string ⟨tn.toArray⟩, .slice p2 ta.length cap2, .bool ts, .string ⟨tt.toArray⟩], .int .i64 (tb : Int)]) (by simp [results, Tryz.results24, go_sem, *]) rfl ?_
      rw [HD.out]
      exact ⟨_, rfl, d2, d1⟩
  · have HD : Hid (dataT s.data.toList k = stopT s.data.toList) := Lib.hid (by unfold dataT; rw [if_pos (by rw [len_of]; omega)])
    have q0 : (s.extract k s.size).toList.isEmpty = true := by
      rw [text_none _ (by rw [from_list, List.drop_eq_nil_of_le (by rw [len_of]; omega)])]
      rfl
    go_enter Tryz.func24, Tryz.ntmps24
    go_wp2_with fail
    generalize w.alloc (.cells #[.int .i64 0, .string ⟨#[]⟩, .slice none 0 0, .bool false, .string ⟨#[]⟩] 33) = W0 at *
    refine (stop_lex s W0).mono ?_
    rintro e w2 ⟨v2, rfl, ha2, b2⟩
    have HX2 := Lib.hid (HX.out.on b2)
    obtain ⟨p2, cap2, hv2⟩ := ha2.form
    subst hv2
    have HA2 := Lib.hid ha2
    clear b2 ha2
    have hlt := HX2.out.lt
    have r0 := HX2.out.r 0
    have r1 := HX2.out.r 1
    have r2 := HX2.out.r 2
    have r3 := HX2.out.r 3
    have r4 := HX2.out.r 4
    have fr := HX2.out.fr
    generalize stopT s.data.toList = ST at *
    obtain ⟨⟨tk, tn, ta, ts, tt⟩, tb⟩ := ST
    go_wp2_with fail
    obtain ⟨d1, d2⟩ := HX2.out.done (HA2.out) (.int .i64 tk) (.string ⟨tn.toArray⟩) (.slice p2 ta.length cap2) (.bool ts) (.string ⟨tt.toArray⟩)
    refine bodyPost_ret (v := .tuple #[.agg #[.int .i64 tk, .string ⟨tn.toArray⟩, .slice p2 ta.length cap2, .bool ts, .string ⟨tt.toArray⟩], .int .i64 (tb : Int)]) (by simp [results, Tryz.results24, go_sem, *]) rfl ?_
    rw [HD.out]
    exact ⟨_, rfl, d2, d1⟩
end Go.Proofs.YtgelgfgcdfnacaaGreatDoor
