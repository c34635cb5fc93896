/-
  The walk of the law LexRaw: true, and nothing old is changed. The library's number MaxLen and the table of package refs are there.
-/
import Derived.Test.YtgelgfgcdfnacaaDoorXKnown
import Derived.Test.YtgelgfgcdfnacaaDoorXDoc2
namespace Go.Proofs.YtgelgfgcdfnacaaDoor
open Go.RowKit

theorem names_are : Plain.words [115, 116, 121, 108, 101, 32, 115, 99, 114, 105, 112, 116, 32, 120, 109, 112, 32, 116, 101, 120, 116, 97, 114, 101, 97, 32, 116, 105, 116, 108, 101] = rnames := by decide
theorem names_told (w : World) : Calls Tryd.prog 21 #[.string ⟨#[115, 116, 121, 108, 101, 32, 115, 99, 114, 105, 112, 116, 32, 120, 109, 112, 32, 116, 101, 120, 116, 97, 114, 101, 97, 32, 116, 105, 116, 108, 101]⟩] w fun e w' => ∃ g cap, e = .returned (.slice (some ⟨g, 0, none⟩) 5 cap) ∧ g < w'.heap.size ∧ (∀ j, j < 5 → w'.cell? ⟨g, j, none⟩ = some (.string ⟨(rnames.getD j []).toArray⟩)) ∧ Below w.heap.size w w' := by
  refine (rwords_told _ w (by decide)).mono ?_
  rintro e w' ⟨v, rfl, ht, hb⟩
  rw [show (⟨#[115, 116, 121, 108, 101, 32, 115, 99, 114, 105, 112, 116, 32, 120, 109, 112, 32, 116, 101, 120, 116, 97, 114, 101, 97, 32, 116, 105, 116, 108, 101]⟩ : ByteArray).data.toList = [115, 116, 121, 108, 101, 32, 115, 99, 114, 105, 112, 116, 32, 120, 109, 112, 32, 116, 101, 120, 116, 97, 114, 101, 97, 32, 116, 105, 116, 108, 101] from rfl, names_are] at ht
  rcases ht with ⟨_, h0⟩ | ⟨g, cap, rfl, hg, hn, hc⟩
  · cases h0
  · refine ⟨g, cap, rfl, hg, fun j hj => ?_, hb⟩
    rw [hc j hj, List.getD_eq_getElem?_getD, List.getElem?_eq_getElem hj]
    rfl
theorem raw_parts (x D : ByteArray) (j : Nat) (hj : j < 5) (hD : D.data.toList = rnames.getD j []) (h0 : 0 < x.size) (hN : idxI ([60, 47] ++ D.data.toList) (Plain.fold x.data.toList) 0 = -1) (hx : x.size ≤ 40000) :
    ∃ S1 S2 : ByteArray, S1 = x ++ ⟨#[60, 47]⟩ ++ D ++ ⟨#[32, 62]⟩ ∧ S2 = x ++ ⟨#[60, 47]⟩ ++ D ++ ⟨#[62]⟩ ∧ S1.size ≤ 50000 ∧ S2.size ≤ 50000 ∧
      allT S1.data.toList 2 D.data.toList 0 = [⟨3, [], [], false, Plain.clear x.data.toList⟩, ⟨2, D.data.toList, [], false, []⟩, ⟨5, [], [], false, []⟩] ∧
      (∃ y, nextT S2.data.toList 0 1 D.data.toList = (⟨3, [], [], false, y⟩, x.size)) ∧ nextT x.data.toList 0 2 D.data.toList = (⟨3, [], [], false, Plain.clear x.data.toList⟩, x.size) := by
  have hv : x.data.toList ≠ [] := by
    intro q
    have := congrArg List.length q
    rw [len_of, List.length_nil] at this
    omega
  have hDs : D.size ≤ 10 := by rw [← len_of, hD]; exact (rnames_ok j hj).2.1
  rw [hD] at hN ⊢
  refine ⟨_, _, rfl, rfl, ?_, ?_, ?_, ?_, ?_⟩
  · rw [ByteArray.size_append, ByteArray.size_append, ByteArray.size_append]; show x.size + 2 + D.size + 2 ≤ _; omega
  · rw [ByteArray.size_append, ByteArray.size_append, ByteArray.size_append]; show x.size + 2 + D.size + 1 ≤ _; omega
  · rw [show (x ++ ⟨#[60, 47]⟩ ++ D ++ ⟨#[32, 62]⟩).data.toList = x.data.toList ++ ([60, 47] ++ rnames.getD j [] ++ [32, 62]) by rw [← hD]; simp]
    exact raw_all j hj _ hv hN
  · rw [show (x ++ ⟨#[60, 47]⟩ ++ D ++ ⟨#[62]⟩).data.toList = x.data.toList ++ ([60, 47] ++ rnames.getD j [] ++ [62]) by rw [← hD]; simp]
    obtain ⟨y, hy⟩ := raw_next j hj _ hv hN
    rw [len_of] at hy
    exact ⟨y, hy⟩
  · have := raw_whole j hj _ hv hN
    rw [len_of] at this
    exact this

set_option maxHeartbeats 8000000 in
set_option maxRecDepth 100000 in
theorem lexRaw_walk (v : Value) (n : Nat) (z : Int) (w : World) (hv : IntsIn w v n) (h0 : -9223372036854775808 ≤ z) (h1 : z ≤ 9223372036854775807) (hmax : HasMax w) (hea : HasEarly w) :
    Calls Tryd.prog 5 #[v, .int .i64 z] w (Yes w) := by
  have HK := Lib.hid (known4_yes w ⟨hmax, hea⟩)
  have HR := Lib.hid (Ready.mk hmax hea)
  have HV := Lib.hid hv
  clear hmax hea hv
  have HW := fun W => Lib.hid (within4 z 5 W h0 h1 (by omega) (by omega))
  have hr := (within_lt z 5 (by omega)).1
  generalize Within z 5 = r at *
  have r0 : (0 : Int) ≤ (r : Int) := by omega
  have r1 : (r : Int) < 5 := by omega
  go_enter Tryd.func5, Tryd.ntmps5
  go_wp2_with fail
  refine HK.out.mono ?_
  rintro e w1 ⟨rfl, b1⟩
  have HB1 := Lib.hid b1
  clear b1 HK
  go_wp2_with fail
  refine (names_told w1).mono ?_
  rintro e w2 ⟨g, cap, rfl, hg, hcs, b2⟩
  have HB2 := Lib.hid (HB1.out.trans (b2.mono HB1.out.size))
  have hcr := hcs r hr
  obtain ⟨D, hD, hDl⟩ : ∃ D : ByteArray, (⟨(rnames.getD r []).toArray⟩ : ByteArray) = D ∧ D.data.toList = rnames.getD r [] := ⟨_, rfl, rfl⟩
  rw [hD] at hcr
  have hDs : D.size ≤ 10 := by rw [← len_of, hDl]; exact (rnames_ok r hr).2.1
  have HDL := Lib.hid hDl
  clear hD hDl hcs b2 HB1
  go_wp2_with fail
  refine (HW _).out.mono ?_
  rintro e w3 ⟨rfl, rfl⟩
  go_wp2_with fail
  refine (html4_any v n w2 (HV.out.below HB2.out)).mono ?_
  rintro e w3 ⟨l, rfl, hl, b3⟩
  have HB3 := Lib.hid (HB2.out.trans (b3.mono HB2.out.size))
  clear b3 HB2 HV hcr hg
  obtain ⟨x, hx⟩ : ∃ x : ByteArray, x = ⟨l.toArray⟩ := ⟨_, rfl⟩
  have hxs : x.size ≤ 40000 := by rw [hx]; show l.toArray.size ≤ _; simpa using hl
  rw [← hx]
  clear hx hl
  have HFo := fun W => Lib.hid (rfold_any x W (by unfold maxLen; omega))
  go_wp2_with fail
  refine (HFo _).out.mono ?_
  rintro e w4 ⟨rfl, b4⟩
  have HB4 := Lib.hid (HB3.out.trans (b4.mono HB3.out.size))
  clear b4 HB3 HFo
  obtain ⟨L, hL, hLl⟩ : ∃ L : ByteArray, (⟨(Plain.fold x.data.toList).toArray⟩ : ByteArray) = L ∧ L.data.toList = Plain.fold x.data.toList := ⟨_, rfl, rfl⟩
  have hLs : L.size = x.size := by rw [← len_of, hLl, Plain.fold_length, len_of]
  rw [hL]
  clear hL
  by_cases hx0 : x.size = 0
  · have q0 : x.toList.isEmpty = true := by
      rw [text_none x (List.eq_nil_of_length_eq_zero (by rw [len_of]; exact hx0))]
      rfl
    go_wp2_with fail
    go_ret
    exact ⟨rfl, HB4.out⟩
  · have q0 : x.toList.isEmpty = false := by
      have := text_some x (by omega)
      simpa using this
    have hPs : ((⟨#[60, 47]⟩ : ByteArray) ++ D).size = 2 + D.size := by rw [ByteArray.size_append]; rfl
    have hPl : ((⟨#[60, 47]⟩ : ByteArray) ++ D).data.toList = [60, 47] ++ D.data.toList := by simp
    have HI := fun W => Lib.hid (rindex_any L ((⟨#[60, 47]⟩ : ByteArray) ++ D) 0 W (by omega) (by omega) (by omega) (by omega))
    rw [hPl, hLl] at HI
    rcases idxI_cases ([60, 47] ++ D.data.toList) (Plain.fold x.data.toList) 0 with hi | hi
    · rw [hi] at HI
      have HN := Lib.hid hi
      clear hi hPl hLl
      have hxl : x.size - 1 < x.size := by omega
      by_cases h60 : x[x.size - 1].toNat = 60
      · have q5 : ((x[x.size - 1].toNat : Int) == 60) = true := by simp [h60]
        clear h60
        go_wp2_with fail
        refine (HI _).out.mono ?_
        rintro e w5 ⟨rfl, rfl⟩
        go_wp2_with fail
        go_ret
        exact ⟨rfl, HB4.out⟩
      · have q5 : ((x[x.size - 1].toNat : Int) == 60) = false := beq_eq_false_iff_ne.2 (by omega)
        clear h60
        by_cases h2 : 1 < x.size
        · have q2 : (1 : Int) < (x.size : Int) := by omega
          have hsl : ∀ W, (Instr.slice 9 (.string x) (some (.int .i64 ((x.size : Int) - 2))) none none).run Tryd.prog W = .ok (.string (x.extract (x.size - 2) x.size)) W := fun W => by
            have := slice_onu x (x.size - 2) 0 W (by omega)
            rwa [show (((x.size - 2 : Nat) : Int) + ((0 : Nat) : Int)) = (x.size : Int) - 2 by omega, Nat.add_zero] at this
          generalize x.extract (x.size - 2) x.size = E at *
          cases h47 : (E.toList == [60, 47])
          · go_wp2_with fail
            refine (HI _).out.mono ?_
            rintro e w5 ⟨rfl, rfl⟩
            go_wp2_with fail
            obtain ⟨S1, S2, hS1, hS2, hz1, hz2, hal, ⟨y, hn1⟩, hn2⟩ := raw_parts x D r hr HDL.out (by omega) HN.out hxs
            have HA1 := fun W h => Lib.hid (all_is S1 D 2 _ (by omega) (by omega) (by omega) hal W h)
            have HN1 := fun W h => Lib.hid (next_is S2 D 0 1 _ (Nat.zero_le _) (by omega) (by omega) (by omega) hn1 W h)
            have HN2 := fun W h => Lib.hid (next_is x D 0 2 _ (Nat.zero_le _) (by omega) (by omega) (by omega) hn2 W h)
            have HC := fun W => Lib.hid (rclear_any x W (by omega))
            clear hal hn1 hn2
            generalize Plain.clear x.data.toList = C at *
            rw [← hS1]
            refine (HA1 w4 (HR.out.below HB4.out)).out.mono ?_
            rintro e w6 ⟨v6, rfl, ht6, b6⟩
            obtain ⟨p6, cap6, hv6⟩ := ht6.form
            subst hv6
            have HT6 := Lib.hid ht6
            have HB6 := Lib.hid (HB4.out.trans (b6.mono HB4.out.size))
            clear ht6 b6 HB4 HA1 HI HW hS1
            go_wp2_with fail
            rw [← hS2]
            refine (HN1 w6 (HR.out.below HB6.out)).out.mono ?_
            rintro e w7 ⟨v7, rfl, ha7, b7⟩
            obtain ⟨p7, cap7, hv7⟩ := ha7.form
            subst hv7
            have HT7 := Lib.hid (HT6.out.below b7)
            have HB7 := Lib.hid (HB6.out.trans (b7.mono HB6.out.size))
            clear ha7 b7 HB6 HT6 HN1 hS2
            go_wp2_with fail
            have hb8 : Below w7.heap.size w7 (w7.alloc (.cells #[.int .i64 3, .string ⟨#[]⟩, .slice p7 0 cap7, .bool false, .string ⟨y.toArray⟩] 27)) := (Below.refl _ w7).alloc (Nat.le_refl _) _
            have HT8 := Lib.hid (HT7.out.below hb8)
            have HB8 := Lib.hid (HB7.out.trans (hb8.mono HB7.out.size))
            have t0 := tok_cells w7 (.int .i64 3) (.string ⟨#[]⟩) (.slice p7 0 cap7) (.bool false) (.string ⟨y.toArray⟩) 0
            have hz8 : w7.heap.size < (w7.alloc (.cells #[.int .i64 3, .string ⟨#[]⟩, .slice p7 0 cap7, .bool false, .string ⟨y.toArray⟩] 27)).heap.size := by simp
            clear hb8 HT7 HB7
            generalize w7.alloc (.cells #[.int .i64 3, .string ⟨#[]⟩, .slice p7 0 cap7, .bool false, .string ⟨y.toArray⟩] 27) = W8 at *
            refine (HN2 W8 (HR.out.below HB8.out)).out.mono ?_
            rintro e w9 ⟨v9, rfl, ha9, b9⟩
            obtain ⟨p9, cap9, hv9⟩ := ha9.form
            subst hv9
            have ht9 := HT8.out.below b9
            have HB9 := Lib.hid (HB8.out.trans (b9.mono HB8.out.size))
            have c0 := (b9.cell (p := ⟨w7.heap.size, 0, none⟩) hz8).trans t0
            have hz9 : w7.heap.size < w9.heap.size := Nat.lt_of_lt_of_le hz8 b9.size
            clear ha9 b9 HB8 HT8 HN2 t0
            obtain ⟨g6, y0, rfl, hg6, a0, a1, a2, a3, a4⟩ := ht9.cells 0 (by simp)
            obtain ⟨g', y1, hgg, hg', d0, d1, d2, d3, d4⟩ := ht9.cells 1 (by simp)
            injection hgg with hgg
            injection hgg with hgg
            subst hgg
            simp only [List.getElem_cons_zero, List.getElem_cons_succ] at a0 a1 a2 a3 a4 d0 d1 d2 d3 d4
            clear ht9 a1 a2 a3 d2 d3 d4 hg'
            have qd : ((⟨D.data.toList.toArray⟩ : ByteArray).toList == D.toList) = true := by show (D.toList == D.toList) = true; exact beq_self_eq_true _
            generalize hDD : (⟨D.data.toList.toArray⟩ : ByteArray) = DD at *
            clear hDD
            go_wp2_with fail
            go_quiet ((go_at_call 20; first | exact quiet_gives HC _ _ _ | exact quiet_gives0 HC _ _))
            go_wp2_with fail
            go_ret
            exact ⟨rfl, below_drewN (HB9.out.alloc HB9.out.size _) _⟩
          · go_wp2_with fail
            refine (HI _).out.mono ?_
            rintro e w5 ⟨rfl, rfl⟩
            go_wp2_with fail
            go_ret
            exact ⟨rfl, HB4.out⟩
        · have q2 : ¬ (1 : Int) < (x.size : Int) := by omega
          go_wp2_with fail
          refine (HI _).out.mono ?_
          rintro e w5 ⟨rfl, rfl⟩
          go_wp2_with fail
          obtain ⟨S1, S2, hS1, hS2, hz1, hz2, hal, ⟨y, hn1⟩, hn2⟩ := raw_parts x D r hr HDL.out (by omega) HN.out hxs
          have HA1 := fun W h => Lib.hid (all_is S1 D 2 _ (by omega) (by omega) (by omega) hal W h)
          have HN1 := fun W h => Lib.hid (next_is S2 D 0 1 _ (Nat.zero_le _) (by omega) (by omega) (by omega) hn1 W h)
          have HN2 := fun W h => Lib.hid (next_is x D 0 2 _ (Nat.zero_le _) (by omega) (by omega) (by omega) hn2 W h)
          have HC := fun W => Lib.hid (rclear_any x W (by omega))
          clear hal hn1 hn2
          generalize Plain.clear x.data.toList = C at *
          rw [← hS1]
          refine (HA1 w4 (HR.out.below HB4.out)).out.mono ?_
          rintro e w6 ⟨v6, rfl, ht6, b6⟩
          obtain ⟨p6, cap6, hv6⟩ := ht6.form
          subst hv6
          have HT6 := Lib.hid ht6
          have HB6 := Lib.hid (HB4.out.trans (b6.mono HB4.out.size))
          clear ht6 b6 HB4 HA1 HI HW hS1
          go_wp2_with fail
          rw [← hS2]
          refine (HN1 w6 (HR.out.below HB6.out)).out.mono ?_
          rintro e w7 ⟨v7, rfl, ha7, b7⟩
          obtain ⟨p7, cap7, hv7⟩ := ha7.form
          subst hv7
          have HT7 := Lib.hid (HT6.out.below b7)
          have HB7 := Lib.hid (HB6.out.trans (b7.mono HB6.out.size))
          clear ha7 b7 HB6 HT6 HN1 hS2
          go_wp2_with fail
          have hb8 : Below w7.heap.size w7 (w7.alloc (.cells #[.int .i64 3, .string ⟨#[]⟩, .slice p7 0 cap7, .bool false, .string ⟨y.toArray⟩] 27)) := (Below.refl _ w7).alloc (Nat.le_refl _) _
          have HT8 := Lib.hid (HT7.out.below hb8)
          have HB8 := Lib.hid (HB7.out.trans (hb8.mono HB7.out.size))
          have t0 := tok_cells w7 (.int .i64 3) (.string ⟨#[]⟩) (.slice p7 0 cap7) (.bool false) (.string ⟨y.toArray⟩) 0
          have hz8 : w7.heap.size < (w7.alloc (.cells #[.int .i64 3, .string ⟨#[]⟩, .slice p7 0 cap7, .bool false, .string ⟨y.toArray⟩] 27)).heap.size := by simp
          clear hb8 HT7 HB7
          generalize w7.alloc (.cells #[.int .i64 3, .string ⟨#[]⟩, .slice p7 0 cap7, .bool false, .string ⟨y.toArray⟩] 27) = W8 at *
          refine (HN2 W8 (HR.out.below HB8.out)).out.mono ?_
          rintro e w9 ⟨v9, rfl, ha9, b9⟩
          obtain ⟨p9, cap9, hv9⟩ := ha9.form
          subst hv9
          have ht9 := HT8.out.below b9
          have HB9 := Lib.hid (HB8.out.trans (b9.mono HB8.out.size))
          have c0 := (b9.cell (p := ⟨w7.heap.size, 0, none⟩) hz8).trans t0
          have hz9 : w7.heap.size < w9.heap.size := Nat.lt_of_lt_of_le hz8 b9.size
          clear ha9 b9 HB8 HT8 HN2 t0
          obtain ⟨g6, y0, rfl, hg6, a0, a1, a2, a3, a4⟩ := ht9.cells 0 (by simp)
          obtain ⟨g', y1, hgg, hg', d0, d1, d2, d3, d4⟩ := ht9.cells 1 (by simp)
          injection hgg with hgg
          injection hgg with hgg
          subst hgg
          simp only [List.getElem_cons_zero, List.getElem_cons_succ] at a0 a1 a2 a3 a4 d0 d1 d2 d3 d4
          clear ht9 a1 a2 a3 d2 d3 d4 hg'
          have qd : ((⟨D.data.toList.toArray⟩ : ByteArray).toList == D.toList) = true := by show (D.toList == D.toList) = true; exact beq_self_eq_true _
          generalize hDD : (⟨D.data.toList.toArray⟩ : ByteArray) = DD at *
          clear hDD
          go_wp2_with fail
          go_quiet ((go_at_call 20; first | exact quiet_gives HC _ _ _ | exact quiet_gives0 HC _ _))
          go_wp2_with fail
          go_ret
          exact ⟨rfl, below_drewN (HB9.out.alloc HB9.out.size _) _⟩
    · generalize idxI ([60, 47] ++ D.data.toList) (Plain.fold x.data.toList) 0 = I at *
      clear hPl hLl
      go_wp2_with fail
      refine (HI _).out.mono ?_
      rintro e w5 ⟨rfl, rfl⟩
      go_wp2_with fail
      go_ret
      exact ⟨rfl, HB4.out⟩
end Go.Proofs.YtgelgfgcdfnacaaDoor
