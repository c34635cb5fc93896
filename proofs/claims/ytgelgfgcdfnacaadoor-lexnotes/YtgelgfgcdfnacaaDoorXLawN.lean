/-
  The walk of the law LexNotes: true, and nothing old is changed. The library's number MaxLen and the table of package refs are there.
-/
import Derived.Test.YtgelgfgcdfnacaaDoorXKnown
import Derived.Test.YtgelgfgcdfnacaaDoorXDoc2
namespace Go.Proofs.YtgelgfgcdfnacaaDoor
open Go.RowKit

theorem last_of (x : ByteArray) (h0 : x.size - 1 < x.size) (c : UInt8) (h : x.data.toList.getLast? = some c) : x[x.size - 1] = c := by
  rw [List.getLast?_eq_getElem?, len_of, List.getElem?_eq_getElem (by rw [len_of]; exact h0)] at h
  exact Option.some.inj h
theorem note_parts (x : ByteArray) (h : NoteOk x.data.toList) (hx : x.size ≤ 200) : ∃ S1 S2 : ByteArray, S1 = ⟨#[60, 33, 45, 45]⟩ ++ x ++ ⟨#[45, 45, 62, 120]⟩ ∧ S2 = ⟨#[60, 33, 45, 45]⟩ ++ x ++ ⟨#[45, 45, 33, 62]⟩ ∧ S1.size ≤ 300 ∧ S2.size ≤ 300 ∧ allT S1.data.toList 0 [] 0 = [⟨4, [], [], false, Plain.clear x.data.toList⟩, ⟨3, [], [], false, [120]⟩, ⟨5, [], [], false, []⟩] ∧ allT S2.data.toList 4 [] 0 = [⟨4, [], [], false, Plain.clear x.data.toList⟩, ⟨5, [], [], false, []⟩] := by
  refine ⟨_, _, rfl, rfl, ?_, ?_, ?_, ?_⟩
  · rw [ByteArray.size_append, ByteArray.size_append]; show 4 + x.size + 4 ≤ _; omega
  · rw [ByteArray.size_append, ByteArray.size_append]; show 4 + x.size + 4 ≤ _; omega
  · rw [show ((⟨#[60, 33, 45, 45]⟩ : ByteArray) ++ x ++ ⟨#[45, 45, 62, 120]⟩).data.toList = [60, 33, 45, 45] ++ x.data.toList ++ [45, 45, 62, 120] by simp]
    exact remark_data _ h
  · rw [show ((⟨#[60, 33, 45, 45]⟩ : ByteArray) ++ x ++ ⟨#[45, 45, 33, 62]⟩).data.toList = [60, 33, 45, 45] ++ x.data.toList ++ [45, 45, 33, 62] by simp]
    exact remark_deep _ h
theorem ask_parts (x : ByteArray) (h : (62 : UInt8) ∉ x.data.toList) (hx : x.size ≤ 200) : ∃ S3 : ByteArray, S3 = ⟨#[60, 63]⟩ ++ x ++ ⟨#[62, 120]⟩ ∧ S3.size ≤ 300 ∧ allT S3.data.toList 0 [] 0 = [⟨4, [], [], false, 63 :: Plain.clear x.data.toList⟩, ⟨3, [], [], false, [120]⟩, ⟨5, [], [], false, []⟩] := by
  refine ⟨_, rfl, ?_, ?_⟩
  · rw [ByteArray.size_append, ByteArray.size_append]; show 2 + x.size + 2 ≤ _; omega
  · rw [show ((⟨#[60, 63]⟩ : ByteArray) ++ x ++ ⟨#[62, 120]⟩).data.toList = [60, 63] ++ x.data.toList ++ [62, 120] by simp]
    exact ask_data _ h
theorem not_byte (c : UInt8) (l : List UInt8) (h : idxI [c] l 0 = -1) : c ∉ l := by
  intro hm
  obtain ⟨i, hi, he⟩ := List.getElem_of_mem hm
  have := idx_none [c] l h i hi
  rw [List.drop_eq_getElem_cons hi, he] at this
  simp [List.isPrefixOf] at this

set_option maxHeartbeats 8000000 in
set_option maxRecDepth 100000 in
theorem lexNotes_walk (x : ByteArray) (w : World) (hraw : x.size ≤ maxLen) (hmax : HasMax w) (hea : HasEarly w) :
    Calls Tryd.prog 4 #[.string x] w (Yes w) := by
  have HK := Lib.hid (known4_yes w ⟨hmax, hea⟩)
  have HR := Lib.hid (Ready.mk hmax hea)
  unfold maxLen at hraw
  clear hmax hea
  by_cases hb : 200 < x.size
  · have hb' : (200 : Int) < (x.size : Int) := by omega
    go_enter Tryd.func4, Tryd.ntmps4
    go_wp2_with fail
    refine HK.out.mono ?_
    rintro e w1 ⟨rfl, b1⟩
    have HB1 := Lib.hid b1
    clear b1
    go_wp2_with fail
    go_ret
    exact ⟨rfl, HB1.out⟩
  · have hb' : ¬ (200 : Int) < (x.size : Int) := by omega
    have HI := fun W => Lib.hid (rindex_any x ⟨#[45, 45]⟩ 0 W (by omega) (by decide) (by omega) (by decide))
    rw [show (⟨#[45, 45]⟩ : ByteArray).data.toList = [45, 45] from rfl] at HI
    rcases idxI_cases [45, 45] x.data.toList 0 with hi | hi
    · rw [hi] at HI
      cases h2 : [62].isPrefixOf x.data.toList
      · have HP2 := fun W => Lib.hid (rbeg_any x ⟨#[62]⟩ false W h2)
        cases h3 : [45, 62].isPrefixOf x.data.toList
        · have HP3 := fun W => Lib.hid (rbeg_any x ⟨#[45, 62]⟩ false W h3)
          have HOK : Hid ((∀ c, x.data.toList.getLast? = some c → c ≠ 45) → NoteOk x.data.toList) := Lib.hid fun h => ⟨hi, h2, h3, h⟩
          clear hi h2 h3
          by_cases hx0 : x.size = 0
          · have q0 : ¬ (0 : Int) < (x.size : Int) := by omega
            have HNO := Lib.hid (HOK.out (fun c hc => by rw [List.eq_nil_of_length_eq_zero (show x.data.toList.length = 0 by rw [len_of]; exact hx0)] at hc; cases hc))
            go_enter Tryd.func4, Tryd.ntmps4
            go_wp2_with fail
            refine HK.out.mono ?_
            rintro e w1 ⟨rfl, b1⟩
            have HB1 := Lib.hid b1
            clear b1
            go_wp2_with fail
            refine (HI _).out.mono ?_
            rintro e w3 ⟨rfl, rfl⟩
            go_wp2_with fail
            refine (HP2 _).out.mono ?_
            rintro e w3 ⟨rfl, rfl⟩
            go_wp2_with fail
            refine (HP3 _).out.mono ?_
            rintro e w3 ⟨rfl, rfl⟩
            go_wp2_with fail
            obtain ⟨S1, S2, hS1, hS2, hz1, hz2, hal1, hal2⟩ := note_parts x HNO.out (by omega)
            have HA1 := fun W h => Lib.hid (all_is S1 ⟨#[]⟩ 0 _ (by omega) (by omega) (by decide) hal1 W h)
            have HA2 := fun W h => Lib.hid (all_is S2 ⟨#[]⟩ 4 _ (by omega) (by omega) (by decide) hal2 W h)
            have HC := fun W => Lib.hid (rclear_any x W (by omega))
            have hcl := Plain.clear_len x.data.toList
            rw [len_of] at hcl
            have H3 : Hid ((62 : UInt8) ∉ x.data.toList → ∃ S3 : ByteArray, S3 = ⟨#[60, 63]⟩ ++ x ++ ⟨#[62, 120]⟩ ∧ S3.size ≤ 300 ∧ allT S3.data.toList 0 [] 0 = [⟨4, [], [], false, 63 :: Plain.clear x.data.toList⟩, ⟨3, [], [], false, [120]⟩, ⟨5, [], [], false, []⟩]) := Lib.hid fun h => ask_parts x h (by omega)
            clear hal1 hal2
            generalize Plain.clear x.data.toList = C at *
            rw [← hS1]
            refine (HA1 w1 (HR.out.below HB1.out)).out.mono ?_
            rintro e w4 ⟨v4, rfl, ht4, b4⟩
            obtain ⟨p4, cap4, hv4⟩ := ht4.form
            subst hv4
            have HT4 := Lib.hid ht4
            have HB4 := Lib.hid (HB1.out.trans (b4.mono HB1.out.size))
            clear ht4 b4 HB1 HA1 HOK HI HP2 HP3 HK
            go_wp2_with fail
            rw [← hS2]
            refine (HA2 w4 (HR.out.below HB4.out)).out.mono ?_
            rintro e w5 ⟨v5, rfl, ht5, b5⟩
            obtain ⟨p5, cap5, hv5⟩ := ht5.form
            subst hv5
            have ht4 := HT4.out.below b5
            have HB5 := Lib.hid (HB4.out.trans (b5.mono HB4.out.size))
            clear b5 HB4 HA2 HT4 hS1 hS2
            obtain ⟨g, y0, rfl, hg, a0, a1, a2, a3, a4⟩ := ht4.cells 0 (by simp)
            obtain ⟨g', y1, hgg, hg', d0, d1, d2, d3, d4⟩ := ht4.cells 1 (by simp)
            injection hgg with hgg
            injection hgg with hgg
            subst hgg
            obtain ⟨g5, y5, rfl, hg5, e0, e1, e2, e3, e4⟩ := ht5.cells 0 (by simp)
            simp only [List.getElem_cons_zero, List.getElem_cons_succ] at a0 a1 a2 a3 a4 d0 d1 d2 d3 d4 e0 e1 e2 e3 e4
            clear ht4 ht5
            have HI2 := fun W => Lib.hid (rindex_any x ⟨#[62]⟩ 0 W (by omega) (by decide) (by omega) (by decide))
            rw [show (⟨#[62]⟩ : ByteArray).data.toList = [62] from rfl] at HI2
            go_wp2_with fail
            go_quiet ((go_at_call 20; first | exact quiet_gives HC _ _ _ | exact quiet_gives0 HC _ _))
            rcases idxI_cases [62] x.data.toList 0 with hi | hi
            · rw [hi] at HI2
              obtain ⟨S3, hS3, hz3, hal3⟩ := H3.out (not_byte 62 _ hi)
              clear hi H3
              have HA3 := fun W h => Lib.hid (all_is S3 ⟨#[]⟩ 0 _ (by omega) (by omega) (by decide) hal3 W h)
              clear hal3
              have HB6 := Lib.hid (below_drewN HB5.out nq)
              generalize w5.drewN nq = w6 at *
              clear a0 a1 a2 a3 a4 d0 d1 d2 d3 d4 e0 e1 e2 e3 e4
              go_wp2_with fail
              refine (HI2 _).out.mono ?_
              rintro e w7 ⟨rfl, rfl⟩
              go_wp2_with fail
              rw [← hS3]
              refine (HA3 w6 (HR.out.below HB6.out)).out.mono ?_
              rintro e w7 ⟨v7, rfl, ht7, b7⟩
              obtain ⟨p7, cap7, hv7⟩ := ht7.form
              subst hv7
              have HB7 := Lib.hid (HB6.out.trans (b7.mono HB6.out.size))
              clear b7 HB6 HA3 hS3
              obtain ⟨g7, y0, rfl, hg7, a0, a1, a2, a3, a4⟩ := ht7.cells 0 (by simp)
              obtain ⟨g', y1, hgg, hg', d0, d1, d2, d3, d4⟩ := ht7.cells 1 (by simp)
              injection hgg with hgg
              injection hgg with hgg
              subst hgg
              simp only [List.getElem_cons_zero, List.getElem_cons_succ] at a0 a1 a2 a3 a4 d0 d1 d2 d3 d4
              clear ht7
              have q7 : ((⟨#[63]⟩ : ByteArray) ++ ⟨C.toArray⟩) = ⟨(63 :: C).toArray⟩ := str_append [63] C
              have hcs : (⟨C.toArray⟩ : ByteArray).size ≤ 1000 := by show C.toArray.size ≤ _; simp; omega
              go_wp2_with fail
              go_quiet ((go_at_call 20; first | exact quiet_gives HC _ _ _ | exact quiet_gives0 HC _ _))
              go_wp2_with fail
              go_ret
              exact ⟨rfl, below_drewN HB7.out _⟩
            · generalize idxI [62] x.data.toList 0 = I at *
              go_wp2_with fail
              refine (HI2 _).out.mono ?_
              rintro e w7 ⟨rfl, rfl⟩
              go_wp2_with fail
              go_ret
              exact ⟨rfl, below_drewN HB5.out _⟩
          · have q0 : (0 : Int) < (x.size : Int) := by omega
            have hxl : x.size - 1 < x.size := by omega
            by_cases h45 : x[x.size - 1].toNat = 45
            · have q5 : ((x[x.size - 1].toNat : Int) == 45) = true := by simp [h45]
              clear h45
              go_enter Tryd.func4, Tryd.ntmps4
              go_wp2_with fail
              refine HK.out.mono ?_
              rintro e w1 ⟨rfl, b1⟩
              have HB1 := Lib.hid b1
              clear b1
              go_wp2_with fail
              refine (HI _).out.mono ?_
              rintro e w3 ⟨rfl, rfl⟩
              go_wp2_with fail
              refine (HP2 _).out.mono ?_
              rintro e w3 ⟨rfl, rfl⟩
              go_wp2_with fail
              refine (HP3 _).out.mono ?_
              rintro e w3 ⟨rfl, rfl⟩
              go_wp2_with fail
              go_ret
              exact ⟨rfl, HB1.out⟩
            · have q5 : ((x[x.size - 1].toNat : Int) == 45) = false := beq_eq_false_iff_ne.2 (by omega)
              have HNO := Lib.hid (HOK.out (fun c hc q => h45 (by rw [last_of x hxl c hc, q]; rfl)))
              clear h45
              go_enter Tryd.func4, Tryd.ntmps4
              go_wp2_with fail
              refine HK.out.mono ?_
              rintro e w1 ⟨rfl, b1⟩
              have HB1 := Lib.hid b1
              clear b1
              go_wp2_with fail
              refine (HI _).out.mono ?_
              rintro e w3 ⟨rfl, rfl⟩
              go_wp2_with fail
              refine (HP2 _).out.mono ?_
              rintro e w3 ⟨rfl, rfl⟩
              go_wp2_with fail
              refine (HP3 _).out.mono ?_
              rintro e w3 ⟨rfl, rfl⟩
              go_wp2_with fail
              obtain ⟨S1, S2, hS1, hS2, hz1, hz2, hal1, hal2⟩ := note_parts x HNO.out (by omega)
              have HA1 := fun W h => Lib.hid (all_is S1 ⟨#[]⟩ 0 _ (by omega) (by omega) (by decide) hal1 W h)
              have HA2 := fun W h => Lib.hid (all_is S2 ⟨#[]⟩ 4 _ (by omega) (by omega) (by decide) hal2 W h)
              have HC := fun W => Lib.hid (rclear_any x W (by omega))
              have hcl := Plain.clear_len x.data.toList
              rw [len_of] at hcl
              have H3 : Hid ((62 : UInt8) ∉ x.data.toList → ∃ S3 : ByteArray, S3 = ⟨#[60, 63]⟩ ++ x ++ ⟨#[62, 120]⟩ ∧ S3.size ≤ 300 ∧ allT S3.data.toList 0 [] 0 = [⟨4, [], [], false, 63 :: Plain.clear x.data.toList⟩, ⟨3, [], [], false, [120]⟩, ⟨5, [], [], false, []⟩]) := Lib.hid fun h => ask_parts x h (by omega)
              clear hal1 hal2
              generalize Plain.clear x.data.toList = C at *
              rw [← hS1]
              refine (HA1 w1 (HR.out.below HB1.out)).out.mono ?_
              rintro e w4 ⟨v4, rfl, ht4, b4⟩
              obtain ⟨p4, cap4, hv4⟩ := ht4.form
              subst hv4
              have HT4 := Lib.hid ht4
              have HB4 := Lib.hid (HB1.out.trans (b4.mono HB1.out.size))
              clear ht4 b4 HB1 HA1 HOK HI HP2 HP3 HK
              go_wp2_with fail
              rw [← hS2]
              refine (HA2 w4 (HR.out.below HB4.out)).out.mono ?_
              rintro e w5 ⟨v5, rfl, ht5, b5⟩
              obtain ⟨p5, cap5, hv5⟩ := ht5.form
              subst hv5
              have ht4 := HT4.out.below b5
              have HB5 := Lib.hid (HB4.out.trans (b5.mono HB4.out.size))
              clear b5 HB4 HA2 HT4 hS1 hS2
              obtain ⟨g, y0, rfl, hg, a0, a1, a2, a3, a4⟩ := ht4.cells 0 (by simp)
              obtain ⟨g', y1, hgg, hg', d0, d1, d2, d3, d4⟩ := ht4.cells 1 (by simp)
              injection hgg with hgg
              injection hgg with hgg
              subst hgg
              obtain ⟨g5, y5, rfl, hg5, e0, e1, e2, e3, e4⟩ := ht5.cells 0 (by simp)
              simp only [List.getElem_cons_zero, List.getElem_cons_succ] at a0 a1 a2 a3 a4 d0 d1 d2 d3 d4 e0 e1 e2 e3 e4
              clear ht4 ht5
              have HI2 := fun W => Lib.hid (rindex_any x ⟨#[62]⟩ 0 W (by omega) (by decide) (by omega) (by decide))
              rw [show (⟨#[62]⟩ : ByteArray).data.toList = [62] from rfl] at HI2
              go_wp2_with fail
              go_quiet ((go_at_call 20; first | exact quiet_gives HC _ _ _ | exact quiet_gives0 HC _ _))
              rcases idxI_cases [62] x.data.toList 0 with hi | hi
              · rw [hi] at HI2
                obtain ⟨S3, hS3, hz3, hal3⟩ := H3.out (not_byte 62 _ hi)
                clear hi H3
                have HA3 := fun W h => Lib.hid (all_is S3 ⟨#[]⟩ 0 _ (by omega) (by omega) (by decide) hal3 W h)
                clear hal3
                have HB6 := Lib.hid (below_drewN HB5.out nq)
                generalize w5.drewN nq = w6 at *
                clear a0 a1 a2 a3 a4 d0 d1 d2 d3 d4 e0 e1 e2 e3 e4
                go_wp2_with fail
                refine (HI2 _).out.mono ?_
                rintro e w7 ⟨rfl, rfl⟩
                go_wp2_with fail
                rw [← hS3]
                refine (HA3 w6 (HR.out.below HB6.out)).out.mono ?_
                rintro e w7 ⟨v7, rfl, ht7, b7⟩
                obtain ⟨p7, cap7, hv7⟩ := ht7.form
                subst hv7
                have HB7 := Lib.hid (HB6.out.trans (b7.mono HB6.out.size))
                clear b7 HB6 HA3 hS3
                obtain ⟨g7, y0, rfl, hg7, a0, a1, a2, a3, a4⟩ := ht7.cells 0 (by simp)
                obtain ⟨g', y1, hgg, hg', d0, d1, d2, d3, d4⟩ := ht7.cells 1 (by simp)
                injection hgg with hgg
                injection hgg with hgg
                subst hgg
                simp only [List.getElem_cons_zero, List.getElem_cons_succ] at a0 a1 a2 a3 a4 d0 d1 d2 d3 d4
                clear ht7
                have q7 : ((⟨#[63]⟩ : ByteArray) ++ ⟨C.toArray⟩) = ⟨(63 :: C).toArray⟩ := str_append [63] C
                have hcs : (⟨C.toArray⟩ : ByteArray).size ≤ 1000 := by show C.toArray.size ≤ _; simp; omega
                go_wp2_with fail
                go_quiet ((go_at_call 20; first | exact quiet_gives HC _ _ _ | exact quiet_gives0 HC _ _))
                go_wp2_with fail
                go_ret
                exact ⟨rfl, below_drewN HB7.out _⟩
              · generalize idxI [62] x.data.toList 0 = I at *
                go_wp2_with fail
                refine (HI2 _).out.mono ?_
                rintro e w7 ⟨rfl, rfl⟩
                go_wp2_with fail
                go_ret
                exact ⟨rfl, below_drewN HB5.out _⟩
        · have HP3 := fun W => Lib.hid (rbeg_any x ⟨#[45, 62]⟩ true W h3)
          clear h2 h3 hi
          go_enter Tryd.func4, Tryd.ntmps4
          go_wp2_with fail
          refine HK.out.mono ?_
          rintro e w1 ⟨rfl, b1⟩
          have HB1 := Lib.hid b1
          clear b1
          go_wp2_with fail
          refine (HI _).out.mono ?_
          rintro e w3 ⟨rfl, rfl⟩
          go_wp2_with fail
          refine (HP2 _).out.mono ?_
          rintro e w3 ⟨rfl, rfl⟩
          go_wp2_with fail
          refine (HP3 _).out.mono ?_
          rintro e w3 ⟨rfl, rfl⟩
          go_wp2_with fail
          go_ret
          exact ⟨rfl, HB1.out⟩
      · have HP2 := fun W => Lib.hid (rbeg_any x ⟨#[62]⟩ true W h2)
        clear h2 hi
        go_enter Tryd.func4, Tryd.ntmps4
        go_wp2_with fail
        refine HK.out.mono ?_
        rintro e w1 ⟨rfl, b1⟩
        have HB1 := Lib.hid b1
        clear b1
        go_wp2_with fail
        refine (HI _).out.mono ?_
        rintro e w3 ⟨rfl, rfl⟩
        go_wp2_with fail
        refine (HP2 _).out.mono ?_
        rintro e w3 ⟨rfl, rfl⟩
        go_wp2_with fail
        go_ret
        exact ⟨rfl, HB1.out⟩
    · generalize idxI [45, 45] x.data.toList 0 = I at *
      go_enter Tryd.func4, Tryd.ntmps4
      go_wp2_with fail
      refine HK.out.mono ?_
      rintro e w1 ⟨rfl, b1⟩
      have HB1 := Lib.hid b1
      clear b1
      go_wp2_with fail
      refine (HI _).out.mono ?_
      rintro e w3 ⟨rfl, rfl⟩
      go_wp2_with fail
      go_ret
      exact ⟨rfl, HB1.out⟩
end Go.Proofs.YtgelgfgcdfnacaaDoor
