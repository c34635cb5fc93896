/-
  The walk of the law TagCuts: true, and nothing old is changed. The library's number MaxLen and the table of package refs are there.
-/
import Derived.Test.YtklhllgdkmpnmaaDoorULawA
import Derived.Test.YtklhllgdkmpnmaaDoorPlainAll
namespace Go.Proofs.YtklhllgdkmpnmaaDoor
open Go.RowKit

theorem readR_none (st : Bool) (l : List UInt8) : ∀ (f q : Nat) (xs : List (List UInt8 × List UInt8)) (n : Nat), Plain.readR st l f q xs = (none, n) → n = l.length
  | 0, _, _, n, h => by simp [Plain.readR] at h; omega
  | f + 1, q, xs, n, h => by
    rw [Plain.readR] at h
    split at h
    · simp at h; omega
    · split at h
      · simp at h
      · exact readR_none st l f _ _ n h
theorem tagKd_ne (l : List UInt8) (k : Nat) : tagKd l k ≠ 0 := by
  unfold tagKd
  split <;> omega
theorem tagT_cases (l : List UInt8) (k : Nat) : (tagRd l k = (none, l.length) ∧ tagT l k = ⟨0, [], [], false, l.length⟩) ∨ ∃ rs self n, tagRd l k = (some (rs, self), n) ∧ tagT l k = ⟨tagKd l k, tagNm l k, rs, self, n⟩ := by
  unfold tagT
  cases hR : tagRd l k with
  | mk r n =>
    cases r with
    | none =>
      have := readR_none _ _ _ _ _ _ hR
      subst this
      exact Or.inl ⟨rfl, rfl⟩
    | some r =>
      obtain ⟨rs, self⟩ := r
      exact Or.inr ⟨rs, self, n, rfl, rfl⟩
theorem nameEnd_len (l : List UInt8) (p : Nat) (h : p ≤ l.length) : p ≤ Plain.nameEnd l p ∧ Plain.nameEnd l p ≤ l.length := by
  have h1 := Plain.runP_le Plain.inName (l.drop p)
  rw [List.length_drop] at h1
  unfold Plain.nameEnd
  omega
/-- A tag that ends within a text's beginning is that tag of the whole. -/
theorem tagRd_ext (a b : List UInt8) (rs : List (List UInt8 × List UInt8)) (self : Bool) (n : Nat) (h2 : 2 ≤ a.length) (h : tagRd a 0 = (some (rs, self), n)) (hp : Plain.tagName a 0 ≤ a.length) : n ≤ a.length ∧ tagRd (a ++ b) 0 = (some (rs, self), n) := by
  have hst : Plain.tagStart (a ++ b) 0 = Plain.tagStart a 0 := by
    unfold Plain.tagStart
    rw [Plain.getD_ext a b 1 (by omega)]
  have hnm : Plain.tagName (a ++ b) 0 = Plain.tagName a 0 := by
    unfold Plain.tagName
    rw [hst]
  unfold tagRd at h ⊢
  have hE := nameEnd_len a _ hp
  have hlt : Plain.nameEnd a (Plain.tagName a 0) < a.length := by
    refine Classical.byContradiction fun hn => ?_
    rw [Plain.readT_end _ _ _ _ (by omega)] at h
    simp at h
  have hnE : Plain.nameEnd (a ++ b) (Plain.tagName a 0) = Plain.nameEnd a (Plain.tagName a 0) := by
    have := Plain.runD_ext Plain.inName a b (Plain.tagName a 0) hlt
    unfold Plain.nameEnd
    rw [this]
  rw [hst, hnm, hnE]
  exact Plain.readT_ext _ a b _ _ _ _ _ hE.2 h
theorem tagName_le (s : ByteArray) (hat : atPlace s.data.toList 0 = true) : 2 ≤ s.data.toList.length ∧ Plain.tagName s.data.toList 0 ≤ s.data.toList.length := by
  obtain ⟨h1, h60, h2⟩ := at_facts s 0 hat
  rw [len_of]
  refine ⟨by omega, ?_⟩
  unfold Plain.tagName Plain.tagStart
  rw [Plain.getD_get s (0 + 1) h1]
  by_cases h47 : s[0 + 1].toNat = 47
  · have := h2 h47
    split <;> omega
  · split <;> omega
/-- Cut off anywhere it is none. -/
theorem tagT_cut (c : ByteArray) (l : List UInt8) (m : Nat) (hc : c.data.toList = l.take m) (hm : m ≤ l.length) (h0 : (tagT l 0).kind ≠ 0) (hb : m < (tagT l 0).behind) (hat : atPlace c.data.toList 0 = true) : tagT c.data.toList 0 = ⟨0, [], [], false, m⟩ := by
  have hl : c.data.toList.length = m := by rw [hc, List.length_take]; omega
  obtain ⟨hz, hz2⟩ := tagName_le c hat
  rcases tagT_cases c.data.toList 0 with ⟨_, h⟩ | ⟨rs, self, n, h, _⟩
  · rw [h, hl]
  · exfalso
    have h1 := tagRd_ext c.data.toList (l.drop m) rs self n hz h hz2
    rw [hc, List.take_append_drop, ← hc] at h1
    rcases tagT_cases l 0 with ⟨_, h2⟩ | ⟨rs2, self2, n2, h2, h3⟩
    · rw [h2] at h0
      exact h0 rfl
    · rw [h1.2] at h2
      have e := (Prod.mk.inj h2).2
      rw [h3] at hb
      simp only at hb
      have := h1.1
      omega
theorem tagT_behind (s : ByteArray) (hat : atPlace s.data.toList 0 = true) : (tagT s.data.toList 0).behind ≤ s.size := by
  obtain ⟨hz, hz2⟩ := tagName_le s hat
  rcases tagT_cases s.data.toList 0 with ⟨_, h⟩ | ⟨rs, self, n, h, h2⟩
  · rw [h, len_of]; exact Nat.le_refl _
  · have h1 := (tagRd_ext s.data.toList [] rs self n hz h hz2).1
    rw [h2, ← len_of]
    exact h1
theorem readR_pos (st : Bool) (l : List UInt8) : ∀ (f q : Nat) (xs rs : List (List UInt8 × List UInt8)) (self : Bool) (n : Nat), Plain.readR st l f q xs = (some (rs, self), n) → 1 ≤ n
  | 0, _, _, _, _, _, h => by simp [Plain.readR] at h
  | f + 1, q, xs, rs, self, n, h => by
    rw [Plain.readR] at h
    split at h
    · simp at h
    · split at h
      · simp at h; omega
      · exact readR_pos st l f _ _ rs self n h
theorem tagT_pos (l : List UInt8) (h0 : (tagT l 0).kind ≠ 0) : 1 ≤ (tagT l 0).behind := by
  rcases tagT_cases l 0 with ⟨_, h⟩ | ⟨rs, self, n, h, h2⟩
  · rw [h] at h0
    exact absurd rfl h0
  · rw [h2]
    exact readR_pos _ _ _ _ _ _ _ _ h

set_option maxHeartbeats 2000000 in
set_option maxRecDepth 100000 in
theorem tagCuts_walk (v : Value) (n : Nat) (z : Int) (w : World) (hv : IntsIn w v n) (h0 : -9223372036854775808 ≤ z) (h1 : z ≤ 9223372036854775807) (hmax : HasMax w) (hea : HasEarly w) :
    Calls Tryd.prog 9 #[v, .int .i64 z] w (Yes w) := by
  have HK := Lib.hid (known3_yes w hmax hea)
  have HV := Lib.hid hv
  have HMX := Lib.hid hmax
  have HEA := Lib.hid hea
  have hE := hea.size
  clear hmax hea hv
  go_enter Tryd.func9, Tryd.ntmps9
  go_wp2_with fail
  refine HK.out.mono ?_
  rintro e w1 ⟨rfl, b1⟩
  go_wp2_with fail
  refine (html3_any v n w1 (HV.out.below b1)).mono ?_
  rintro e w2 ⟨l, rfl, hl1, hl2, b2⟩
  have B2 := Lib.hid (b1.trans (b2.mono b1.size))
  obtain ⟨s, hs⟩ : ∃ s : ByteArray, s = ⟨l.toArray⟩ := ⟨_, rfl⟩
  have hsz : s.size = l.length := by rw [hs]; show l.toArray.size = _; simp
  rw [← hs]
  have hz2 : s.size ≤ 400 := by omega
  clear b1 b2 hs hsz hl1 hl2 HK HV
  have HA := fun W => Lib.hid (rat_any s 0 W (by omega) (by omega) (by omega))
  cases hat : atPlace s.data.toList 0
  · rw [hat] at HA
    clear hat
    go_wp2_with fail
    refine (HA _).out.mono ?_
    rintro e w4 ⟨rfl, rfl⟩
    go_wp2
    go_ret
    exact ⟨rfl, B2.out⟩
  · rw [hat] at HA
    have HT := Lib.hid (rread_tk s 0 w2 hat (by omega))
    have hbe := tagT_behind s hat
    have HPOS := Lib.hid (tagT_pos s.data.toList)
    have HCUT := Lib.hid (fun (m : Nat) (hm : m ≤ s.size) => tagT_cut (s.extract 0 m) s.data.toList m (by rw [mid_list]; simp) (by rw [len_of]; exact hm))
    clear hat
    generalize tagT s.data.toList 0 = T at *
    obtain ⟨tk, tn, ta, ts, tb⟩ := T
    simp only at hbe HCUT HPOS
    go_wp2_with fail
    refine (HA _).out.mono ?_
    rintro e w4 ⟨rfl, rfl⟩
    go_wp2_with fail
    refine HT.out.mono ?_
    rintro e w4 ⟨v4, rfl, ha4, b4⟩
    simp only at ha4
    obtain ⟨p4, c4, rfl, hq4⟩ := ha4
    clear hq4
    have b5 := b4.alloc b4.size (.cells #[.int .i64 tk, .string ⟨tn.toArray⟩, .slice p4 ta.length c4, .bool ts, .string ⟨#[]⟩] 31)
    have B5 := Lib.hid (B2.out.trans (b5.mono B2.out.size))
    clear b4 b5 HA HT
    by_cases hk0 : tk = 0
    · have q1 : (tk == 0) = true := by simp [hk0]
      clear hk0 HCUT
      go_wp2
      go_ret
      exact ⟨rfl, B5.out⟩
    · have q1 : (tk == 0) = false := beq_eq_false_iff_ne.2 hk0
      have hp1 := HPOS.out hk0
      have HW := fun W => Lib.hid (within3 z tb W h0 h1 hp1 (by omega))
      have hr := (within_lt z tb hp1).1
      generalize Within z tb = r at *
      have hsl := fun W => slice_to s r W (by omega)
      have HC := HCUT.out r (by omega) hk0 hr
      have hcs : (s.extract 0 r).size = r := by rw [ByteArray.size_extract]; omega
      clear HCUT HPOS hk0
      generalize s.extract 0 r = c at *
      have HA := fun W => Lib.hid (rat_any c 0 W (by omega) (by omega) (by omega))
      cases hat : atPlace c.data.toList 0
      · have HA2 := fun W => Lib.hid (at_any c 0 W (by omega) (by omega) (by omega))
        rw [hat] at HA HA2
        clear hat HC
        go_wp2_with fail
        refine (HW _).out.mono ?_
        rintro e w6 ⟨rfl, rfl⟩
        go_wp2_with fail
        refine (HA _).out.mono ?_
        rintro e w6 ⟨rfl, rfl⟩
        go_wp2_with fail
        refine (HA2 _).out.mono ?_
        rintro e w6 ⟨rfl, rfl⟩
        go_wp2
        go_ret
        exact ⟨rfl, B5.out⟩
      · rw [hat] at HA
        have HT := Lib.hid (read_tk c 0 _ (HMX.out.below B5.out) (HEA.out.below B5.out hE) hat (by omega))
        rw [HC hat] at HT
        clear hat HC
        go_wp2_with fail
        refine (HW _).out.mono ?_
        rintro e w6 ⟨rfl, rfl⟩
        go_wp2_with fail
        refine (HA _).out.mono ?_
        rintro e w6 ⟨rfl, rfl⟩
        go_wp2_with fail
        refine HT.out.mono ?_
        rintro e w6 ⟨v6, rfl, ha6, b6⟩
        simp only at ha6
        obtain ⟨p6, c6, rfl, hq6⟩ := ha6
        have B6 := Lib.hid (B5.out.trans (b6.mono B5.out.size))
        have e1 : ((r : Int) == (c.size : Int)) = true := by rw [hcs]; simp
        clear hq6 b6 HT HA hcs
        go_wp2
        go_ret
        exact ⟨rfl, B6.out.alloc B6.out.size _⟩
end Go.Proofs.YtklhllgdkmpnmaaDoor
