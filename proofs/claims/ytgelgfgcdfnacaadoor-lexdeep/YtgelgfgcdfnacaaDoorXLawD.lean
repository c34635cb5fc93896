/-
  The walk of the law LexDeep: true, and nothing old is changed. The library's number MaxLen and the table of package refs are there.
-/
import Derived.Test.YtgelgfgcdfnacaaDoorXKnown
import Derived.Test.YtgelgfgcdfnacaaDoorXDoc
namespace Go.Proofs.YtgelgfgcdfnacaaDoor
open Go.RowKit

theorem deep_parts (x s0 : ByteArray) (hN : idxI [93, 93, 62] x.data.toList 0 = -1) (hx : x.size ≤ 200) (h0 : s0.size ≤ 40000) : ∃ S S2 : ByteArray, S = ⟨#[60, 33, 91, 67, 68, 65, 84, 65, 91]⟩ ++ x ++ ⟨#[93, 93, 62]⟩ ∧ S2 = S ++ s0 ∧ S.size = x.size + 12 ∧ S2.size ≤ 50000 ∧ nextT S2.data.toList 0 4 [] = (⟨3, [], [], false, x.data.toList⟩, S.size) ∧ (nextT S.data.toList 0 0 []).1.kind = 4 := by
  have h1 : ((⟨#[60, 33, 91, 67, 68, 65, 84, 65, 91]⟩ : ByteArray) ++ x ++ ⟨#[93, 93, 62]⟩).size = x.size + 12 := by rw [ByteArray.size_append, ByteArray.size_append]; show 9 + x.size + 3 = _; omega
  have h2 : ((⟨#[60, 33, 91, 67, 68, 65, 84, 65, 91]⟩ : ByteArray) ++ x ++ ⟨#[93, 93, 62]⟩).data.toList = section_ ++ x.data.toList ++ [93, 93, 62] := by simp [section_]
  refine ⟨_, _, rfl, rfl, h1, by rw [ByteArray.size_append, h1]; omega, ?_, ?_⟩
  · rw [show ((⟨#[60, 33, 91, 67, 68, 65, 84, 65, 91]⟩ : ByteArray) ++ x ++ ⟨#[93, 93, 62]⟩ ++ s0).data.toList = section_ ++ x.data.toList ++ 93 :: 93 :: 62 :: s0.data.toList by simp [section_], deep_next _ _ _ hN, List.length_append, len_of, h1]
    show (textT x.data.toList, _) = (textT x.data.toList, _)
    congr 1
    show 9 + x.size + 3 = _
    omega
  · rw [h2]
    exact data_sec _ _ _
set_option maxHeartbeats 4000000 in
set_option maxRecDepth 100000 in
theorem lexDeep_walk (v : Value) (n : Nat) (x : ByteArray) (w : World) (hv : IntsIn w v n) (hraw : x.size ≤ maxLen) (hmax : HasMax w) (hea : HasEarly w) :
    Calls Tryd.prog 7 #[v, .string x] w (Yes w) := by
  have HK := Lib.hid (known4_yes w ⟨hmax, hea⟩)
  have HR := Lib.hid (Ready.mk hmax hea)
  have HV := Lib.hid hv
  unfold maxLen at hraw
  clear hmax hea hv
  by_cases hb : 200 < x.size
  · have hb' : (200 : Int) < (x.size : Int) := by omega
    go_enter Tryd.func7, Tryd.ntmps7
    go_wp2_with fail
    refine HK.out.mono ?_
    rintro e w1 ⟨rfl, b1⟩
    go_wp2_with fail
    go_ret
    exact ⟨rfl, b1⟩
  · have hb' : ¬ (200 : Int) < (x.size : Int) := by omega
    have HI := fun W => Lib.hid (rindex_any x ⟨#[93, 93, 62]⟩ 0 W (by omega) (by decide) (by omega) (by decide))
    rw [show (⟨#[93, 93, 62]⟩ : ByteArray).data.toList = [93, 93, 62] from rfl] at HI
    rcases idxI_cases [93, 93, 62] x.data.toList 0 with hi | hi
    · rw [hi] at HI
      have HN := Lib.hid hi
      clear hi
      by_cases hx0 : x.size = 0
      · have q0 : ¬ (0 : Int) < (x.size : Int) := by omega
        go_enter Tryd.func7, Tryd.ntmps7
        go_wp2_with fail
        refine HK.out.mono ?_
        rintro e w1 ⟨rfl, b1⟩
        have HB1 := Lib.hid b1
        clear b1
        go_wp2_with fail
        refine (HI _).out.mono ?_
        rintro e w3 ⟨rfl, rfl⟩
        go_wp2_with fail
        refine (html4_any v n w1 (HV.out.below HB1.out)).mono ?_
        rintro e w2 ⟨l, rfl, hl, b2⟩
        have HB2 := Lib.hid (HB1.out.trans (b2.mono HB1.out.size))
        clear b2 HB1 HK HV
        obtain ⟨s0, hs0⟩ : ∃ s0 : ByteArray, s0 = ⟨l.toArray⟩ := ⟨_, rfl⟩
        have hsz0 : s0.size ≤ 40000 := by rw [hs0]; show l.toArray.size ≤ _; simpa using hl
        rw [← hs0]
        clear hs0 hl
        obtain ⟨S, S2, hS, hS2, hz1, hz2, hn1, hn2⟩ := deep_parts x s0 HN.out (by omega) hsz0
        have HN1 := fun W h => Lib.hid (next_is S2 ⟨#[]⟩ 0 4 _ (Nat.zero_le _) (by omega) (by omega) (by decide) hn1 W h)
        have HN2 := fun W h => Lib.hid (next_lex S ⟨#[]⟩ 0 0 W h (Nat.zero_le _) (by omega) (by omega) (by decide))
        generalize nextT S.data.toList 0 0 (⟨#[]⟩ : ByteArray).data.toList = T at *
        obtain ⟨⟨tk, tn, ta, ts, tt⟩, tb⟩ := T
        simp only at hn2
        subst hn2
        go_wp2_with fail
        rw [← hS, ← hS2]
        clear hn1 hS hS2
        refine (HN1 w2 (HR.out.below HB2.out)).out.mono ?_
        rintro e w4 ⟨v4, rfl, ha4, b4⟩
        obtain ⟨p4, cap4, hv4⟩ := ha4.form
        subst hv4
        have HB4 := Lib.hid (HB2.out.trans (b4.mono HB2.out.size))
        clear ha4 b4 HN1 HB2
        have q2 : ((⟨x.data.toList.toArray⟩ : ByteArray).toList == x.toList) = true := by show (x.toList == x.toList) = true; exact beq_self_eq_true _
        generalize hX : (⟨x.data.toList.toArray⟩ : ByteArray) = X at *
        clear hX
        go_wp2_with fail
        have HB5 := Lib.hid (HB4.out.alloc HB4.out.size (.cells #[.int .i64 3, .string ⟨#[]⟩, .slice p4 0 cap4, .bool false, .string X] 27))
        have a0 := tok_cells w4 (.int .i64 3) (.string ⟨#[]⟩) (.slice p4 0 cap4) (.bool false) (.string X) 0
        have a4 := tok_cells w4 (.int .i64 3) (.string ⟨#[]⟩) (.slice p4 0 cap4) (.bool false) (.string X) 4
        have hz5 : w4.heap.size < (w4.alloc (.cells #[.int .i64 3, .string ⟨#[]⟩, .slice p4 0 cap4, .bool false, .string X] 27)).heap.size := by simp
        generalize w4.alloc (.cells #[.int .i64 3, .string ⟨#[]⟩, .slice p4 0 cap4, .bool false, .string X] 27) = W5 at *
        refine (HN2 W5 (HR.out.below HB5.out)).out.mono ?_
        rintro e w6 ⟨v6, rfl, ha6, b6⟩
        obtain ⟨p6, cap6, hv6⟩ := ha6.form
        subst hv6
        have HB6 := Lib.hid (HB5.out.trans (b6.mono HB5.out.size))
        have c0 := (b6.cell (p := ⟨w4.heap.size, 0, none⟩) hz5).trans a0
        have c4 := (b6.cell (p := ⟨w4.heap.size, 4, none⟩) hz5).trans a4
        have hz6 : w4.heap.size < w6.heap.size := Nat.lt_of_lt_of_le hz5 b6.size
        clear ha6 b6 HN2 HB5 HB4 a0 a4
        go_wp2_with fail
        go_ret
        exact ⟨rfl, HB6.out.alloc HB6.out.size _⟩
      · have q0 : (0 : Int) < (x.size : Int) := by omega
        have hxl : x.size - 1 < x.size := by omega
        have q3 : (0 : Int) ≤ (x.size : Int) - 1 := by omega
        have q4 : (x.size : Int) - 1 < (x.size : Int) := by omega
        go_enter Tryd.func7, Tryd.ntmps7
        go_wp2_with fail
        refine HK.out.mono ?_
        rintro e w1 ⟨rfl, b1⟩
        have HB1 := Lib.hid b1
        clear b1
        go_wp2_with fail
        refine (HI _).out.mono ?_
        rintro e w3 ⟨rfl, rfl⟩
        go_wp2_with fail
        · go_ret
          exact ⟨rfl, HB1.out⟩
        · refine (html4_any v n w1 (HV.out.below HB1.out)).mono ?_
          rintro e w2 ⟨l, rfl, hl, b2⟩
          have HB2 := Lib.hid (HB1.out.trans (b2.mono HB1.out.size))
          clear b2 HB1 HK HV
          obtain ⟨s0, hs0⟩ : ∃ s0 : ByteArray, s0 = ⟨l.toArray⟩ := ⟨_, rfl⟩
          have hsz0 : s0.size ≤ 40000 := by rw [hs0]; show l.toArray.size ≤ _; simpa using hl
          rw [← hs0]
          clear hs0 hl
          obtain ⟨S, S2, hS, hS2, hz1, hz2, hn1, hn2⟩ := deep_parts x s0 HN.out (by omega) hsz0
          have HN1 := fun W h => Lib.hid (next_is S2 ⟨#[]⟩ 0 4 _ (Nat.zero_le _) (by omega) (by omega) (by decide) hn1 W h)
          have HN2 := fun W h => Lib.hid (next_lex S ⟨#[]⟩ 0 0 W h (Nat.zero_le _) (by omega) (by omega) (by decide))
          generalize nextT S.data.toList 0 0 (⟨#[]⟩ : ByteArray).data.toList = T at *
          obtain ⟨⟨tk, tn, ta, ts, tt⟩, tb⟩ := T
          simp only at hn2
          subst hn2
          go_wp2_with fail
          rw [← hS, ← hS2]
          clear hn1 hS hS2
          refine (HN1 w2 (HR.out.below HB2.out)).out.mono ?_
          rintro e w4 ⟨v4, rfl, ha4, b4⟩
          obtain ⟨p4, cap4, hv4⟩ := ha4.form
          subst hv4
          have HB4 := Lib.hid (HB2.out.trans (b4.mono HB2.out.size))
          clear ha4 b4 HN1 HB2
          have q2 : ((⟨x.data.toList.toArray⟩ : ByteArray).toList == x.toList) = true := by show (x.toList == x.toList) = true; exact beq_self_eq_true _
          generalize hX : (⟨x.data.toList.toArray⟩ : ByteArray) = X at *
          clear hX
          go_wp2_with fail
          have HB5 := Lib.hid (HB4.out.alloc HB4.out.size (.cells #[.int .i64 3, .string ⟨#[]⟩, .slice p4 0 cap4, .bool false, .string X] 27))
          have a0 := tok_cells w4 (.int .i64 3) (.string ⟨#[]⟩) (.slice p4 0 cap4) (.bool false) (.string X) 0
          have a4 := tok_cells w4 (.int .i64 3) (.string ⟨#[]⟩) (.slice p4 0 cap4) (.bool false) (.string X) 4
          have hz5 : w4.heap.size < (w4.alloc (.cells #[.int .i64 3, .string ⟨#[]⟩, .slice p4 0 cap4, .bool false, .string X] 27)).heap.size := by simp
          generalize w4.alloc (.cells #[.int .i64 3, .string ⟨#[]⟩, .slice p4 0 cap4, .bool false, .string X] 27) = W5 at *
          refine (HN2 W5 (HR.out.below HB5.out)).out.mono ?_
          rintro e w6 ⟨v6, rfl, ha6, b6⟩
          obtain ⟨p6, cap6, hv6⟩ := ha6.form
          subst hv6
          have HB6 := Lib.hid (HB5.out.trans (b6.mono HB5.out.size))
          have c0 := (b6.cell (p := ⟨w4.heap.size, 0, none⟩) hz5).trans a0
          have c4 := (b6.cell (p := ⟨w4.heap.size, 4, none⟩) hz5).trans a4
          have hz6 : w4.heap.size < w6.heap.size := Nat.lt_of_lt_of_le hz5 b6.size
          clear ha6 b6 HN2 HB5 HB4 a0 a4
          go_wp2_with fail
          go_ret
          exact ⟨rfl, HB6.out.alloc HB6.out.size _⟩
    · generalize idxI [93, 93, 62] x.data.toList 0 = I at *
      go_enter Tryd.func7, Tryd.ntmps7
      go_wp2_with fail
      refine HK.out.mono ?_
      rintro e w1 ⟨rfl, b1⟩
      have HB1 := Lib.hid b1
      clear b1
      go_wp2_with fail
      refine (HI _).out.mono ?_
      rintro e w3 ⟨rfl, rfl⟩
      go_wp2_with fail
      go_ret
      exact ⟨rfl, HB1.out⟩
end Go.Proofs.YtgelgfgcdfnacaaDoor
