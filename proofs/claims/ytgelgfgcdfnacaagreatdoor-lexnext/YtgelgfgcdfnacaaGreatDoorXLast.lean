/-
  The walks of the reference's step (any state) and Next. Any text of at most 2^28 bytes.
  The walk of the reference's All. Any text of at most 2^28 bytes, any state.
  The walk of the law LexNext: true, and nothing old is changed. The library's number MaxLen and the table of package refs are there.
  The walk of the law LexAll: true, and nothing old is changed. The library's number MaxLen and the table of package refs are there.
-/
import Derived.Test.YtgelgfgcdfnacaaGreatDoorXRef5
import Derived.Test.YtgelgfgcdfnacaaGreatDoorXRef6
import Derived.Test.YtgelgfgcdfnacaaGreatDoorXKnownAll
namespace Go.Proofs.YtgelgfgcdfnacaaGreatDoor
open Go.RowKit

theorem rstep_data0 (s A : ByteArray) (k : Nat) (w : World) (hk : k < s.size) (hs : s.size ≤ 268435456) : Calls Tryz.prog 25 #[.string s, .int .i64 (k : Int), .int .i64 0, .string A] w (StepOut s.data.toList k 0 A.data.toList w) := by
  cases h1 : Plain.atTag (s.data.toList.drop k)
  · cases h2 : [60, 33, 45, 45].isPrefixOf (s.data.toList.drop k)
    · by_cases h9 : 9 ≤ s.size - k
      · cases h3 : begF doctype (s.data.toList.drop k)
        · cases h4 : [60, 33].isPrefixOf (s.data.toList.drop k)
          · cases h5 : [60, 63].isPrefixOf (s.data.toList.drop k)
            · cases h6 : [60, 47, 62].isPrefixOf (s.data.toList.drop k)
              · cases h7 : [60, 47].isPrefixOf (s.data.toList.drop k)
                · exact rs0_textn s A k w hk hs h1 h2 h9 h3 h4 h5 h6 h7
                · by_cases hl2 : k + 2 < s.size
                  · exact rs0_slashn s A k w hk hs h1 h2 h9 h3 h4 h5 h6 h7 hl2
                  · omega
              · exact rs0_gapn s A k w hk hs h1 h2 h9 h3 h4 h5 h6
            · exact rs0_askn s A k w hk hs h1 h2 h9 h3 h4 h5
          · exact rs0_bangn s A k w hk hs h1 h2 h9 h3 h4
        · exact rs0_type s A k w hk hs h1 h2 h9 h3
      · have h3 : begF doctype (s.data.toList.drop k) = false := begF_short _ _ (by rw [List.length_drop, len_of]; show _ < 9; omega)
        cases h4 : [60, 33].isPrefixOf (s.data.toList.drop k)
        · cases h5 : [60, 63].isPrefixOf (s.data.toList.drop k)
          · cases h6 : [60, 47, 62].isPrefixOf (s.data.toList.drop k)
            · cases h7 : [60, 47].isPrefixOf (s.data.toList.drop k)
              · exact rs0_texts s A k w hk hs h1 h2 h9 h4 h5 h6 h7
              · by_cases hl2 : k + 2 < s.size
                · exact rs0_slashs s A k w hk hs h1 h2 h9 h4 h5 h6 h7 hl2
                · exact rs0_pair s A k w hk hs h1 h2 h9 h4 h5 h6 h7 hl2
            · exact rs0_gaps s A k w hk hs h1 h2 h9 h4 h5 h6
          · exact rs0_asks s A k w hk hs h1 h2 h9 h4 h5
        · exact rs0_bangs s A k w hk hs h1 h2 h9 h3 h4
    · exact rs0_mark s A k w hk hs h1 h2
  · exact rs0_tag s A k w hk hs h1
theorem rstep_data4 (s A : ByteArray) (k : Nat) (w : World) (hk : k < s.size) (hs : s.size ≤ 268435456) : Calls Tryz.prog 25 #[.string s, .int .i64 (k : Int), .int .i64 4, .string A] w (StepOut s.data.toList k 4 A.data.toList w) := by
  cases h1 : Plain.atTag (s.data.toList.drop k)
  · cases h2 : [60, 33, 45, 45].isPrefixOf (s.data.toList.drop k)
    · cases hsec : section_.isPrefixOf (s.data.toList.drop k)
      · by_cases h9 : 9 ≤ s.size - k
        · cases h3 : begF doctype (s.data.toList.drop k)
          · cases h4 : [60, 33].isPrefixOf (s.data.toList.drop k)
            · cases h5 : [60, 63].isPrefixOf (s.data.toList.drop k)
              · cases h6 : [60, 47, 62].isPrefixOf (s.data.toList.drop k)
                · cases h7 : [60, 47].isPrefixOf (s.data.toList.drop k)
                  · exact rs4_textn s A k w hk hs h1 h2 hsec h9 h3 h4 h5 h6 h7
                  · by_cases hl2 : k + 2 < s.size
                    · exact rs4_slashn s A k w hk hs h1 h2 hsec h9 h3 h4 h5 h6 h7 hl2
                    · omega
                · exact rs4_gapn s A k w hk hs h1 h2 hsec h9 h3 h4 h5 h6
              · exact rs4_askn s A k w hk hs h1 h2 hsec h9 h3 h4 h5
            · exact rs4_bangn s A k w hk hs h1 h2 hsec h9 h3 h4
          · exact rs4_type s A k w hk hs h1 h2 hsec h9 h3
        · have h3 : begF doctype (s.data.toList.drop k) = false := begF_short _ _ (by rw [List.length_drop, len_of]; show _ < 9; omega)
          cases h4 : [60, 33].isPrefixOf (s.data.toList.drop k)
          · cases h5 : [60, 63].isPrefixOf (s.data.toList.drop k)
            · cases h6 : [60, 47, 62].isPrefixOf (s.data.toList.drop k)
              · cases h7 : [60, 47].isPrefixOf (s.data.toList.drop k)
                · exact rs4_texts s A k w hk hs h1 h2 hsec h9 h4 h5 h6 h7
                · by_cases hl2 : k + 2 < s.size
                  · exact rs4_slashs s A k w hk hs h1 h2 hsec h9 h4 h5 h6 h7 hl2
                  · exact rs4_pair s A k w hk hs h1 h2 hsec h9 h4 h5 h6 h7 hl2
              · exact rs4_gaps s A k w hk hs h1 h2 hsec h9 h4 h5 h6
            · exact rs4_asks s A k w hk hs h1 h2 hsec h9 h4 h5
          · exact rs4_bangs s A k w hk hs h1 h2 hsec h9 h3 h4
      · exact rs4_sect s A k w hk hs h1 h2 hsec
    · exact rs4_mark s A k w hk hs h1 h2
  · exact rs4_tag s A k w hk hs h1
theorem rstep_any (s A : ByteArray) (k st : Nat) (w : World) (hk : k < s.size) (hst : st ≤ 4) (hs : s.size ≤ 268435456) (hA : A.size ≤ 1000) : Calls Tryz.prog 25 #[.string s, .int .i64 (k : Int), .int .i64 (st : Int), .string A] w (StepOut s.data.toList k st A.data.toList w) := by
  rcases (show st = 0 ∨ st = 1 ∨ st = 2 ∨ st = 3 ∨ st = 4 by omega) with rfl | rfl | rfl | rfl | rfl
  · exact rstep_data0 s A k w hk hs
  · exact rstep_closed s A k 1 w hk (Or.inl rfl) hs hA
  · exact rstep_closed s A k 2 w hk (Or.inr rfl) hs hA
  · exact rstep_plain s A k w hk hs
  · exact rstep_data4 s A k w hk hs

set_option maxHeartbeats 4000000 in
set_option maxRecDepth 100000 in
theorem rnext_any (s A : ByteArray) (k st : Nat) (w : World) (hk : k ≤ s.size) (hst : st ≤ 4) (hs : s.size ≤ 268435456) (hA : A.size ≤ 1000) : Calls Tryz.prog 13 #[.string s, .int .i64 (k : Int), .int .i64 (st : Int), .string A] w (LexOut (nextT s.data.toList k st A.data.toList) w) := by
  have HX := Lib.hid (ResW.start w)
  have HL := Lib.hid (len_of s)
  go_enter Tryz.func13, Tryz.ntmps13
  go_wp2_with fail
  generalize w.alloc (.cells #[.int .i64 0, .string ⟨#[]⟩, .slice none 0 0, .bool false, .string ⟨#[]⟩] 33) = W0 at *
  go_loopw [1] (fun v wr => ∃ i : Nat, i ≤ s.size ∧ v = .int .i64 (i : Int) ∧ nextT s.data.toList i st A.data.toList = nextT s.data.toList k st A.data.toList ∧ ResW w wr) (fun v _ => s.size - (intOf v).toNat)
  case atStart => exact ⟨k, hk, rfl, rfl, HX.out⟩
  case round =>
    obtain ⟨i, hi, rfl, hN, hX⟩ := hrel
    have HN := Lib.hid hN
    have HXr := Lib.hid hX
    clear hN hX HX
    by_cases hlt : i < s.size
    · have HST := Lib.hid (rstep_any s A i st wr hlt hst hs hA)
      go_wp2_with fail
      refine HST.out.mono ?_
      rintro e w2 h
      rcases h with ⟨v2, rfl, ha2, b2⟩ | ⟨K, N, p, n, c, b, T, q, rfl, h1, h2, h3, b2⟩
      · have HX2 := Lib.hid (HXr.out.on b2)
        obtain ⟨p2, cap2, hv2⟩ := ha2.form
        subst hv2
        have HA2 := Lib.hid ha2
        clear b2 ha2 HST
        have hlt2 := HX2.out.lt
        have r0 := HX2.out.r 0
        have r1 := HX2.out.r 1
        have r2 := HX2.out.r 2
        have r3 := HX2.out.r 3
        have r4 := HX2.out.r 4
        have fr := HX2.out.fr
        generalize nextT s.data.toList i st A.data.toList = ST at *
        obtain ⟨⟨tk, tn, ta, ts, tt⟩, tb⟩ := ST
        go_wp2_with fail
        obtain ⟨d1, d2⟩ := HX2.out.done (HA2.out) (.int .i64 tk) (.string ⟨tn.toArray⟩) (.slice p2 ta.length cap2) (.bool ts) (.string ⟨tt.toArray⟩)
        refine bodyPost_ret (v := .tuple #[.agg #[.int .i64 tk, .string ⟨tn.toArray⟩, .slice p2 ta.length cap2, .bool ts, .string ⟨tt.toArray⟩], .int .i64 (tb : Int)]) (by simp [results, Tryz.results13, go_sem, *]) rfl ?_
        rw [← HN.out]
        exact ⟨_, rfl, d2.below ((Below.refl _ _).alloc (Nat.le_refl _) _), d1.alloc d1.size _⟩
      · have HX2 := Lib.hid (HXr.out.on b2)
        have h2' : q ≤ s.size := by rw [← HL.out]; exact h2
        have HQ := Lib.hid (h3.trans HN.out)
        clear b2 HST h2 h3
        go_wp2_with fail
        exact ⟨⟨q, h2', rfl, HQ.out, HX2.out.on ((Below.refl _ _).alloc (Nat.le_refl _) _)⟩, by simp [intOf]; omega⟩
    · have HE : Hid (nextT s.data.toList k st A.data.toList = (⟨5, [], [], false, []⟩, s.size)) := Lib.hid (by rw [← HN.out, next_end _ _ _ _ (by rw [HL.out]; omega)]; unfold stopT; rw [HL.out])
      have hlt2 := HXr.out.lt
      have r0 := HXr.out.r 0
      have r1 := HXr.out.r 1
      have r2 := HXr.out.r 2
      have r3 := HXr.out.r 3
      have r4 := HXr.out.r 4
      have fr := HXr.out.fr
      go_wp2_with fail
      obtain ⟨d1, d2⟩ := HXr.out.done (AttrsAt.nil _) (.int .i64 5) (.string ⟨#[]⟩) (.slice none 0 0) (.bool false) (.string ⟨#[]⟩)
      refine bodyPost_ret (v := .tuple #[.agg #[.int .i64 5, .string ⟨#[]⟩, .slice none 0 0, .bool false, .string ⟨#[]⟩], .int .i64 (s.size : Int)]) (by simp [results, Tryz.results13, go_sem, *]) rfl ?_
      rw [HE.out]
      exact ⟨_, rfl, d2, d1⟩
end Go.Proofs.YtgelgfgcdfnacaaGreatDoor
namespace Go.Proofs.YtgelgfgcdfnacaaGreatDoor
open Go.RowKit

set_option maxHeartbeats 4000000 in
set_option maxRecDepth 100000 in
theorem rall_any (s A : ByteArray) (st : Nat) (w : World) (hst : st ≤ 4) (hs : s.size ≤ 268435456) (hA : A.size ≤ 1000) : Calls Tryz.prog 11 #[.string s, .int .i64 (st : Int), .string A] w (ToksOut (allT s.data.toList st A.data.toList 0) w) := by
  have HL := Lib.hid (len_of s)
  obtain ⟨i0, hi, hz0, hz1, hz2⟩ := info_tok
  have HI := Lib.hid (And.intro hi (And.intro hz0 (And.intro hz1 hz2)))
  clear hi hz0 hz1 hz2
  go_enter Tryz.func11, Tryz.ntmps11
  go_wp2_with fail
  go_loopw [7, 8] (fun v x wr => ∃ (k : Nat) (qs : List (Tok × Value)) (vp : Option Addr) (vc : Nat), v = .slice vp qs.length vc ∧ k ≤ s.size ∧ qs.length ≤ k ∧ x = .int .i64 (k : Int) ∧ allT s.data.toList st A.data.toList 0 = qs.map (·.1) ++ allT s.data.toList st A.data.toList k ∧ RowW w (.slice vp qs.length vc) qs wr) (fun _ x _ => s.size - (intOf x).toNat)
  case atStart => exact ⟨0, [], none, 0, rfl, Nat.zero_le _, Nat.zero_le _, rfl, rfl, RowW.start w⟩
  case round =>
    obtain ⟨k, qs, vp, vc, rfl, hk, hq, rfl, hall, hW⟩ := hrel
    have HALL := Lib.hid hall
    have HW := Lib.hid hW
    clear hall hW
    have hG := goes_next s.data.toList k st A.data.toList
    have HS5 := Lib.hid (allT_stop s.data.toList st A.data.toList k)
    have HST := Lib.hid (allT_step s.data.toList st A.data.toList k)
    unfold Goes at hG
    rw [HL.out] at hG
    have HNX := fun W => Lib.hid (rnext_any s A k st W hk hst hs hA)
    generalize nextT s.data.toList k st A.data.toList = T at *
    obtain ⟨⟨tk, tn, ta, ts, tt⟩, tb⟩ := T
    simp only at hG HS5 HST
    go_wp2_with fail
    refine (HNX wr).out.mono ?_
    rintro e w2 ⟨v2, rfl, ha2, b2⟩
    obtain ⟨p2, cap2, hv2⟩ := ha2.form
    subst hv2
    have HW2 := Lib.hid (HW.out.on b2)
    have HA2 := Lib.hid ha2
    clear b2 ha2 HW HNX
    have hsz := HW2.out.below.size
    go_wp2_with (first
      | (at_builtin; refine wpList_append_lies _ rfl _ _ 27 rfl w.heap.size 33 i0 (.agg #[.int .i64 0, .string ByteArray.empty, .slice none 0 0, .bool false, .string ByteArray.empty]) 5 72 Tryz.underlying27 HI.out.1 HI.out.2.1 HI.out.2.2.1 HI.out.2.2.2 rfl (by omega) _ qs.length (tokCells qs) rfl ((HW2.out.row.alloc _).alloc _) ⟨w2.heap.size + 1, 0, none⟩ 1 1 [.int .i64 tk, .string ⟨tn.toArray⟩, .slice p2 ta.length cap2, .bool ts, .string ⟨tt.toArray⟩] rfl rfl (World.news_of_block (cs := #[.int .i64 tk, .string ⟨tn.toArray⟩, .slice p2 ta.length cap2, .bool ts, .string ⟨tt.toArray⟩]) (by have := heap_alloc_new (w2.alloc (.cells #[.int .i64 tk, .string ⟨tn.toArray⟩, .slice p2 ta.length cap2, .bool ts, .string ⟨tt.toArray⟩] 33)) (.cells #[.int .i64 tk, .string ⟨tn.toArray⟩, .slice p2 ta.length cap2, .bool ts, .string ⟨tt.toArray⟩] 33); simpa using this)) (by simp [Value.oneCell']) (by omega) (by unfold maxLen; omega) (by omega) (by simp; omega) _ rfl ?_)
      | go_in)
    intro g cap w3 hr3 hg3 hor3 hlt3
    have hb2 : Below w2.heap.size w2 ((w2.alloc (.cells #[.int .i64 tk, .string ⟨tn.toArray⟩, .slice p2 ta.length cap2, .bool ts, .string ⟨tt.toArray⟩] 33)).alloc (.cells #[.int .i64 tk, .string ⟨tn.toArray⟩, .slice p2 ta.length cap2, .bool ts, .string ⟨tt.toArray⟩] 33)) := ((Below.refl _ w2).alloc (Nat.le_refl _) _).alloc (by simp) _
    have HWa := Lib.hid (HW2.out.on hb2)
    have HW3 := Lib.hid (HWa.out.more (q := (⟨tk, tn, ta, ts, tt⟩, .slice p2 ta.length cap2)) (HA2.out.below hb2) hg3 hr3)
    have hne : some w2.heap.size ≠ (Value.slice vp qs.length vc).ownBlock := fun e => by have := (HW2.out.row.lt _ e.symm).2; omega
    have c0 : w3.cell? ⟨w2.heap.size, 0, none⟩ = some (.int .i64 tk) := by
      rw [hg3.cell_far ⟨w2.heap.size, 0, none⟩ (by simp; omega) hne, World.cell?_alloc_lt _ _ _ (by simp)]
      exact World.cell?_alloc_mark w2 _ 33 (0, 0) 0
    have hl2 : w2.heap.size < w3.heap.size := by have := hg3.size; simp at this; omega
    clear hb2 HWa hr3 hg3 hor3 hlt3 hne HW2 HA2
    by_cases h5 : tk = 5
    · have q5 : (tk == 5) = true := by simp [h5]
      have HE := Lib.hid (HS5.out h5)
      clear HS5 HST h5
      go_wp2_with fail
      go_ret
      refine ⟨_, rfl, ?_, HW3.out.below⟩
      have := TokensAt.of_row HW3.out.row HW3.out.attrs
      rw [HALL.out, HE.out]
      rw [List.map_append] at this
      exact this
    · have q5 : (tk == 5) = false := beq_eq_false_iff_ne.2 h5
      have HE := Lib.hid (HST.out h5)
      have hgo : k < tb ∧ tb ≤ s.size := by rcases hG with h | h <;> omega
      clear HS5 HST h5 hG
      go_wp2_with fail
      refine ⟨⟨tb, qs ++ [(⟨tk, tn, ta, ts, tt⟩, .slice p2 ta.length cap2)], some ⟨g, 0, none⟩, cap, by rw [List.length_append]; rfl, hgo.2, by rw [List.length_append]; simp; omega, rfl, ?_, ?_⟩, by simp [intOf]; omega⟩
      · rw [HALL.out, HE.out]
        simp
      · have := HW3.out
        rw [show (qs ++ [((⟨tk, tn, ta, ts, tt⟩ : Tok), Value.slice p2 ta.length cap2)]).length = qs.length + 1 by simp]
        exact this
end Go.Proofs.YtgelgfgcdfnacaaGreatDoor
namespace Go.Proofs.YtgelgfgcdfnacaaGreatDoor
open Go.RowKit

set_option maxHeartbeats 8000000 in
set_option maxRecDepth 100000 in
theorem lexNext_walk (v : Value) (n : Nat) (z y k : Int) (w : World) (hv : IntsIn w v n) (z0 : -9223372036854775808 ≤ z) (z1 : z ≤ 9223372036854775807) (y0 : -9223372036854775808 ≤ y) (y1 : y ≤ 9223372036854775807) (g0 : -9223372036854775808 ≤ k) (g1 : k ≤ 9223372036854775807) (hmax : HasMax w) (hea : HasEarly w) :
    Calls Tryz.prog 4 #[v, .int .i64 z, .int .i64 y, .int .i64 k] w (Yes w) := by
  have HK := Lib.hid (known4_yes w ⟨hmax, hea⟩)
  have HR := Lib.hid (Ready.mk hmax hea)
  have HV := Lib.hid hv
  clear hmax hea hv
  have HQ := fun W => Lib.hid (within4 y 5 W y0 y1 (by omega) (by omega))
  have hst := (within_lt y 5 (by omega)).1
  generalize Within y 5 = st at *
  have HLA := fun W => Lib.hid (last4 k W g0 g1)
  have hla := Plain.lasts_ok (Within k 9) (within_lt k 9 (by omega)).1
  unfold LastOut at HLA
  obtain ⟨A, hA⟩ : ∃ A : ByteArray, (⟨(Plain.lasts.getD (Within k 9) []).toArray⟩ : ByteArray) = A := ⟨_, rfl⟩
  have hAs : A.size ≤ 20 := by rw [← hA]; show (Plain.lasts.getD (Within k 9) []).toArray.size ≤ _; rw [List.size_toArray]; exact hla
  rw [hA] at HLA
  clear hA hla
  go_enter Tryz.func4, Tryz.ntmps4
  go_wp2_with fail
  refine HK.out.mono ?_
  rintro e w1 ⟨rfl, b1⟩
  have HB1 := Lib.hid b1
  clear b1 HK
  go_wp2_with fail
  refine (html4_any v n w1 (HV.out.below HB1.out)).mono ?_
  rintro e w2 ⟨l, rfl, hl, b2⟩
  have HB2 := Lib.hid (HB1.out.trans (b2.mono HB1.out.size))
  clear b2 HB1 HV
  obtain ⟨s, hs⟩ : ∃ s : ByteArray, s = ⟨l.toArray⟩ := ⟨_, rfl⟩
  have hsz : s.size ≤ 40000 := by rw [hs]; show l.toArray.size ≤ _; simpa using hl
  rw [← hs]
  clear hs hl
  go_wp2_with fail
  refine (HQ _).out.mono ?_
  rintro e w3 ⟨rfl, rfl⟩
  have HW := fun W => Lib.hid (within4 z (s.size + 1) W z0 z1 (by omega) (by omega))
  have hr := (within_lt z (s.size + 1) (by omega)).1
  rw [show ((s.size + 1 : Nat) : Int) = (s.size : Int) + 1 by omega] at HW
  generalize Within z (s.size + 1) = r at *
  go_wp2_with fail
  refine (HW _).out.mono ?_
  rintro e w3 ⟨rfl, rfl⟩
  go_wp2_with fail
  refine (HLA _).out.mono ?_
  rintro e w3 ⟨rfl, b3⟩
  have HB3 := Lib.hid (HB2.out.trans (b3.mono HB2.out.size))
  clear b3 HB2
  have HN1 := fun W h => Lib.hid (next_lex s A r st W h (by omega) (by omega) (by omega) (by omega))
  have HN2 := fun W => Lib.hid (rnext_any s A r st W (by omega) (by omega) (by omega) (by omega))
  have hatt := nextT_attrs s.data.toList r st A.data.toList
  rw [len_of] at hatt
  generalize nextT s.data.toList r st A.data.toList = T at *
  obtain ⟨⟨tk, tn, ta, ts, tt⟩, tb⟩ := T
  simp only at hatt
  go_wp2_with fail
  refine (HN1 w3 (HR.out.below HB3.out)).out.mono ?_
  rintro e w4 ⟨v4, rfl, ha4, b4⟩
  obtain ⟨p4, cap4, hv4⟩ := ha4.form
  subst hv4
  have HA4 := Lib.hid ha4
  have HB4 := Lib.hid (HB3.out.trans (b4.mono HB3.out.size))
  clear ha4 b4 HB3 HN1
  go_wp2_with fail
  have hb5 : Below w4.heap.size w4 (w4.alloc (.cells #[.int .i64 tk, .string ⟨tn.toArray⟩, .slice p4 ta.length cap4, .bool ts, .string ⟨tt.toArray⟩] 33)) := (Below.refl _ w4).alloc (Nat.le_refl _) _
  have HB5 := Lib.hid (HB4.out.trans (hb5.mono HB4.out.size))
  have HA5 := Lib.hid (HA4.out.below hb5)
  have t5 := tok_cells w4 (.int .i64 tk) (.string ⟨tn.toArray⟩) (.slice p4 ta.length cap4) (.bool ts) (.string ⟨tt.toArray⟩)
  have hz5 : w4.heap.size < (w4.alloc (.cells #[.int .i64 tk, .string ⟨tn.toArray⟩, .slice p4 ta.length cap4, .bool ts, .string ⟨tt.toArray⟩] 33)).heap.size := by simp
  clear hb5 HB4 HA4
  generalize w4.alloc (.cells #[.int .i64 tk, .string ⟨tn.toArray⟩, .slice p4 ta.length cap4, .bool ts, .string ⟨tt.toArray⟩] 33) = W5 at *
  refine (HLA _).out.mono ?_
  rintro e w6 ⟨rfl, b6⟩
  have HB6 := Lib.hid (HB5.out.trans (b6.mono HB5.out.size))
  have HA6 := Lib.hid (HA5.out.below b6)
  have c5 : ∀ j, w6.cell? ⟨w4.heap.size, j, none⟩ = (#[.int .i64 tk, .string ⟨tn.toArray⟩, .slice p4 ta.length cap4, .bool ts, .string ⟨tt.toArray⟩] : Array Value)[j]? := fun j => (b6.cell (p := ⟨w4.heap.size, j, none⟩) hz5).trans (t5 j)
  have hz6 : w4.heap.size < w6.heap.size := Nat.lt_of_lt_of_le hz5 b6.size
  clear b6 HB5 HA5 t5 hz5
  go_wp2_with fail
  refine (HN2 w6).out.mono ?_
  rintro e w7 ⟨v7, rfl, ha7, b7⟩
  obtain ⟨p7, cap7, hv7⟩ := ha7.form
  subst hv7
  have HA7 := Lib.hid ha7
  have HA7' := Lib.hid (HA6.out.below b7)
  have HB7 := Lib.hid (HB6.out.trans (b7.mono HB6.out.size))
  have c7 : ∀ j, w7.cell? ⟨w4.heap.size, j, none⟩ = (#[.int .i64 tk, .string ⟨tn.toArray⟩, .slice p4 ta.length cap4, .bool ts, .string ⟨tt.toArray⟩] : Array Value)[j]? := fun j => (b7.cell (p := ⟨w4.heap.size, j, none⟩) hz6).trans (c5 j)
  have hz7 : w4.heap.size < w7.heap.size := Nat.lt_of_lt_of_le hz6 b7.size
  clear ha7 b7 HB6 HA6 c5 hz6 HN2
  have k0 := c7 0
  have k1 := c7 1
  have k2 := c7 2
  have k3 := c7 3
  have k4 := c7 4
  clear c7
  go_wp2_with fail
  have hb8 : Below w7.heap.size w7 (w7.alloc (.cells #[.int .i64 tk, .string ⟨tn.toArray⟩, .slice p7 ta.length cap7, .bool ts, .string ⟨tt.toArray⟩] 33)) := (Below.refl _ w7).alloc (Nat.le_refl _) _
  have HB8 := Lib.hid (HB7.out.trans (hb8.mono HB7.out.size))
  refine (rone_any tk ⟨tn.toArray⟩ ⟨tt.toArray⟩ ts _ _ ta _ (HA7'.out.below hb8) (HA7.out.below hb8) (by omega)).mono ?_
  rintro e w9 ⟨rfl, b9⟩
  have HB9 := Lib.hid (HB8.out.trans (b9.mono HB8.out.size))
  clear b9 hb8
  go_wp2_with fail
  go_ret
  exact ⟨rfl, HB9.out⟩
end Go.Proofs.YtgelgfgcdfnacaaGreatDoor
namespace Go.Proofs.YtgelgfgcdfnacaaGreatDoor
open Go.RowKit

set_option maxHeartbeats 8000000 in
set_option maxRecDepth 100000 in
theorem lexAll_walk (v : Value) (n : Nat) (raw : ByteArray) (y k : Int) (w : World) (hv : IntsIn w v n) (hraw : raw.size ≤ maxLen) (y0 : -9223372036854775808 ≤ y) (y1 : y ≤ 9223372036854775807) (g0 : -9223372036854775808 ≤ k) (g1 : k ≤ 9223372036854775807) (hmax : HasMax w) (hea : HasEarly w) :
    Calls Tryz.prog 3 #[v, .string raw, .int .i64 y, .int .i64 k] w (Yes w) := by
  have HK := Lib.hid (known4_yes w ⟨hmax, hea⟩)
  have HR := Lib.hid (Ready.mk hmax hea)
  have HV := Lib.hid hv
  unfold maxLen at hraw
  clear hmax hea hv
  by_cases hb : 200 < raw.size
  · have hb' : (200 : Int) < (raw.size : Int) := by omega
    go_enter Tryz.func3, Tryz.ntmps3
    go_wp2_with fail
    refine HK.out.mono ?_
    rintro e w1 ⟨rfl, b1⟩
    go_wp2_with fail
    go_ret
    exact ⟨rfl, b1⟩
  · have hb' : ¬ (200 : Int) < (raw.size : Int) := by omega
    have HQ := fun W => Lib.hid (within4 y 5 W y0 y1 (by omega) (by omega))
    have hst := (within_lt y 5 (by omega)).1
    generalize Within y 5 = st at *
    have HLA := fun W => Lib.hid (last4 k W g0 g1)
    have hla := Plain.lasts_ok (Within k 9) (within_lt k 9 (by omega)).1
    unfold LastOut at HLA
    obtain ⟨A, hA⟩ : ∃ A : ByteArray, (⟨(Plain.lasts.getD (Within k 9) []).toArray⟩ : ByteArray) = A := ⟨_, rfl⟩
    have hAs : A.size ≤ 20 := by rw [← hA]; show (Plain.lasts.getD (Within k 9) []).toArray.size ≤ _; rw [List.size_toArray]; exact hla
    rw [hA] at HLA
    clear hA hla
    go_enter Tryz.func3, Tryz.ntmps3
    go_wp2_with fail
    refine HK.out.mono ?_
    rintro e w1 ⟨rfl, b1⟩
    have HB1 := Lib.hid b1
    clear b1 HK
    go_wp2_with fail
    refine (html4_any v n w1 (HV.out.below HB1.out)).mono ?_
    rintro e w2 ⟨l, rfl, hl, b2⟩
    have HB2 := Lib.hid (HB1.out.trans (b2.mono HB1.out.size))
    clear b2 HB1 HV
    obtain ⟨s, hs⟩ : ∃ s : ByteArray, s = ⟨l.toArray⟩ := ⟨_, rfl⟩
    have hsz : s.size ≤ 40000 := by rw [hs]; show l.toArray.size ≤ _; simpa using hl
    rw [← hs]
    clear hs hl
    have hzs : (s ++ raw).size ≤ 50000 := by rw [ByteArray.size_append]; omega
    have hzs2 : (s ++ raw ++ s).size ≤ 100000 := by rw [ByteArray.size_append]; omega
    go_wp2_with fail
    refine (HQ _).out.mono ?_
    rintro e w3 ⟨rfl, rfl⟩
    go_wp2_with fail
    have TL1 : (allT (s).data.toList st A.data.toList 0).length ≤ (s).data.toList.length + 1 := allN_len _ _ _ _ _
    have TA1 : Hid (∀ t ∈ allT (s).data.toList st A.data.toList 0, t.attrs.length ≤ (s).data.toList.length + 1) := Lib.hid fun t ht => allN_attrs _ _ _ _ _ t ht
    rw [len_of] at TL1 TA1
    have HP1 := fun W h => Lib.hid (all_lex (s) A st W h (by omega) (by omega) (by omega))
    have HQ1 := fun W => Lib.hid (rall_any (s) A st W (by omega) (by omega) (by omega))
    generalize allT (s).data.toList st A.data.toList 0 = ts1 at *
    refine (HLA _).out.mono ?_
    rintro e a1 ⟨rfl, b⟩
    have HA1 := Lib.hid (HB2.out.trans (b.mono HB2.out.size))
    clear b HB2
    go_wp2_with fail
    refine (HP1 a1 (HR.out.below HA1.out)).out.mono ?_
    rintro e c1 ⟨x1, rfl, tx, b⟩
    have HC1 := Lib.hid (HA1.out.trans (b.mono HA1.out.size))
    have HX1 := Lib.hid tx
    clear b tx HA1 HP1
    go_wp2_with fail
    refine (HLA _).out.mono ?_
    rintro e d1 ⟨rfl, b⟩
    have HD1 := Lib.hid (HC1.out.trans (b.mono HC1.out.size))
    have HY1 := Lib.hid (HX1.out.below b)
    clear b HC1 HX1
    go_wp2_with fail
    refine (HQ1 d1).out.mono ?_
    rintro e f1 ⟨z1, rfl, tz, b⟩
    have HF1 := Lib.hid (HD1.out.trans (b.mono HD1.out.size))
    have HZ1 := Lib.hid tz
    have HV1 := Lib.hid (HY1.out.below b)
    clear b tz HD1 HY1 HQ1
    go_wp2_with fail
    refine (same4 x1 z1 ts1 f1 HV1.out HZ1.out (by omega) (fun t ht => by have := TA1.out t ht; omega)).mono ?_
    rintro e g1 ⟨rfl, b⟩
    have HG1 := Lib.hid (HF1.out.trans (b.mono HF1.out.size))
    clear b HF1 HZ1 HV1 TA1 TL1
    go_wp2_with fail
    have TL2 : (allT (raw).data.toList st A.data.toList 0).length ≤ (raw).data.toList.length + 1 := allN_len _ _ _ _ _
    have TA2 : Hid (∀ t ∈ allT (raw).data.toList st A.data.toList 0, t.attrs.length ≤ (raw).data.toList.length + 1) := Lib.hid fun t ht => allN_attrs _ _ _ _ _ t ht
    rw [len_of] at TL2 TA2
    have HP2 := fun W h => Lib.hid (all_lex (raw) A st W h (by omega) (by omega) (by omega))
    have HQ2 := fun W => Lib.hid (rall_any (raw) A st W (by omega) (by omega) (by omega))
    generalize allT (raw).data.toList st A.data.toList 0 = ts2 at *
    refine (HLA _).out.mono ?_
    rintro e a2 ⟨rfl, b⟩
    have HA2 := Lib.hid (HG1.out.trans (b.mono HG1.out.size))
    clear b HG1
    go_wp2_with fail
    refine (HP2 a2 (HR.out.below HA2.out)).out.mono ?_
    rintro e c2 ⟨x2, rfl, tx, b⟩
    have HC2 := Lib.hid (HA2.out.trans (b.mono HA2.out.size))
    have HX2 := Lib.hid tx
    clear b tx HA2 HP2
    go_wp2_with fail
    refine (HLA _).out.mono ?_
    rintro e d2 ⟨rfl, b⟩
    have HD2 := Lib.hid (HC2.out.trans (b.mono HC2.out.size))
    have HY2 := Lib.hid (HX2.out.below b)
    clear b HC2 HX2
    go_wp2_with fail
    refine (HQ2 d2).out.mono ?_
    rintro e f2 ⟨z2, rfl, tz, b⟩
    have HF2 := Lib.hid (HD2.out.trans (b.mono HD2.out.size))
    have HZ2 := Lib.hid tz
    have HV2 := Lib.hid (HY2.out.below b)
    clear b tz HD2 HY2 HQ2
    go_wp2_with fail
    refine (same4 x2 z2 ts2 f2 HV2.out HZ2.out (by omega) (fun t ht => by have := TA2.out t ht; omega)).mono ?_
    rintro e g2 ⟨rfl, b⟩
    have HG2 := Lib.hid (HF2.out.trans (b.mono HF2.out.size))
    clear b HF2 HZ2 HV2 TA2 TL2
    go_wp2_with fail
    have TL3 : (allT (s ++ raw ++ s).data.toList st A.data.toList 0).length ≤ (s ++ raw ++ s).data.toList.length + 1 := allN_len _ _ _ _ _
    have TA3 : Hid (∀ t ∈ allT (s ++ raw ++ s).data.toList st A.data.toList 0, t.attrs.length ≤ (s ++ raw ++ s).data.toList.length + 1) := Lib.hid fun t ht => allN_attrs _ _ _ _ _ t ht
    rw [len_of] at TL3 TA3
    have HP3 := fun W h => Lib.hid (all_lex (s ++ raw ++ s) A st W h (by omega) (by omega) (by omega))
    have HQ3 := fun W => Lib.hid (rall_any (s ++ raw ++ s) A st W (by omega) (by omega) (by omega))
    generalize allT (s ++ raw ++ s).data.toList st A.data.toList 0 = ts3 at *
    refine (HLA _).out.mono ?_
    rintro e a3 ⟨rfl, b⟩
    have HA3 := Lib.hid (HG2.out.trans (b.mono HG2.out.size))
    clear b HG2
    go_wp2_with fail
    refine (HP3 a3 (HR.out.below HA3.out)).out.mono ?_
    rintro e c3 ⟨x3, rfl, tx, b⟩
    have HC3 := Lib.hid (HA3.out.trans (b.mono HA3.out.size))
    have HX3 := Lib.hid tx
    clear b tx HA3 HP3
    go_wp2_with fail
    refine (HLA _).out.mono ?_
    rintro e d3 ⟨rfl, b⟩
    have HD3 := Lib.hid (HC3.out.trans (b.mono HC3.out.size))
    have HY3 := Lib.hid (HX3.out.below b)
    clear b HC3 HX3
    go_wp2_with fail
    refine (HQ3 d3).out.mono ?_
    rintro e f3 ⟨z3, rfl, tz, b⟩
    have HF3 := Lib.hid (HD3.out.trans (b.mono HD3.out.size))
    have HZ3 := Lib.hid tz
    have HV3 := Lib.hid (HY3.out.below b)
    clear b tz HD3 HY3 HQ3
    go_wp2_with fail
    refine (same4 x3 z3 ts3 f3 HV3.out HZ3.out (by omega) (fun t ht => by have := TA3.out t ht; omega)).mono ?_
    rintro e g3 ⟨rfl, b⟩
    have HG3 := Lib.hid (HF3.out.trans (b.mono HF3.out.size))
    clear b HF3 HZ3 HV3 TA3 TL3
    go_wp2_with fail
    go_ret
    exact ⟨rfl, HG3.out⟩
end Go.Proofs.YtgelgfgcdfnacaaGreatDoor
