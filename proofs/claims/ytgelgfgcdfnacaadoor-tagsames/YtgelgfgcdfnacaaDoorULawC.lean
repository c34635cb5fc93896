/-
  The walk of the law TagCuts: true, and nothing old is changed. The library's number MaxLen and the table of package refs are there.
-/
import Derived.Test.YtgelgfgcdfnacaaDoorULawA
import Derived.Test.YtgelgfgcdfnacaaDoorPlainAll
namespace Go.Proofs.YtgelgfgcdfnacaaDoor
open Go.RowKit

theorem readR_none (st : Bool) (l : List UInt8) : ∀ (f q : Nat) (xs : List (List UInt8 × List UInt8)) (n : Nat), Plain.readR st l f q xs = (none, n) → n = l.length
  | 0, _, _, n, h => by simp [Plain.readR] at h; omega
  | f + 1, q, xs, n, h => by
    rw [Plain.readR] at h
    split at h
    · simp at h; omega
    · split at h
      · simp at h
      · exact readR_none st l f _ _ n h
theorem tagKd_ne (l : List UInt8) (k : Nat) : tagKd l k ≠ 0 := by
  unfold tagKd
  split <;> omega
theorem tagT_cases (l : List UInt8) (k : Nat) : (tagRd l k = (none, l.length) ∧ tagT l k = ⟨0, [], [], false, l.length⟩) ∨ ∃ rs self n, tagRd l k = (some (rs, self), n) ∧ tagT l k = ⟨tagKd l k, tagNm l k, rs, self, n⟩ := by
  unfold tagT
  cases hR : tagRd l k with
  | mk r n =>
    cases r with
    | none =>
      have := readR_none _ _ _ _ _ _ hR
      subst this
      exact Or.inl ⟨rfl, rfl⟩
    | some r =>
      obtain ⟨rs, self⟩ := r
      exact Or.inr ⟨rs, self, n, rfl, rfl⟩
theorem nameEnd_len (l : List UInt8) (p : Nat) (h : p ≤ l.length) : p ≤ Plain.nameEnd l p ∧ Plain.nameEnd l p ≤ l.length := by
  have h1 := Plain.runP_le Plain.inName (l.drop p)
  rw [List.length_drop] at h1
  unfold Plain.nameEnd
  omega
/-- A tag that ends within a text's beginning is that tag of the whole. -/
theorem tagRd_ext (a b : List UInt8) (rs : List (List UInt8 × List UInt8)) (self : Bool) (n : Nat) (h2 : 2 ≤ a.length) (h : tagRd a 0 = (some (rs, self), n)) (hp : Plain.tagName a 0 ≤ a.length) : n ≤ a.length ∧ tagRd (a ++ b) 0 = (some (rs, self), n) := by
  have hst : Plain.tagStart (a ++ b) 0 = Plain.tagStart a 0 := by
    unfold Plain.tagStart
    rw [Plain.getD_ext a b 1 (by omega)]
  have hnm : Plain.tagName (a ++ b) 0 = Plain.tagName a 0 := by
    unfold Plain.tagName
    rw [hst]
  unfold tagRd at h ⊢
  have hE := nameEnd_len a _ hp
  have hlt : Plain.nameEnd a (Plain.tagName a 0) < a.length := by
    refine Classical.byContradiction fun hn => ?_
    rw [Plain.readT_end _ _ _ _ (by omega)] at h
    simp at h
  have hnE : Plain.nameEnd (a ++ b) (Plain.tagName a 0) = Plain.nameEnd a (Plain.tagName a 0) := by
    have := Plain.runD_ext Plain.inName a b (Plain.tagName a 0) hlt
    unfold Plain.nameEnd
    rw [this]
  rw [hst, hnm, hnE]
  exact Plain.readT_ext _ a b _ _ _ _ _ hE.2 h
theorem tagName_le (s : ByteArray) (hat : atPlace s.data.toList 0 = true) : 2 ≤ s.data.toList.length ∧ Plain.tagName s.data.toList 0 ≤ s.data.toList.length := by
  obtain ⟨h1, h60, h2⟩ := at_facts s 0 hat
  rw [len_of]
  refine ⟨by omega, ?_⟩
  unfold Plain.tagName Plain.tagStart
  rw [Plain.getD_get s (0 + 1) h1]
  by_cases h47 : s[0 + 1].toNat = 47
  · have := h2 h47
    split <;> omega
  · split <;> omega
/-- Cut off anywhere it is none. -/
theorem tagT_cut (c : ByteArray) (l : List UInt8) (m : Nat) (hc : c.data.toList = l.take m) (hm : m ≤ l.length) (h0 : (tagT l 0).kind ≠ 0) (hb : m < (tagT l 0).behind) (hat : atPlace c.data.toList 0 = true) : tagT c.data.toList 0 = ⟨0, [], [], false, m⟩ := by
  have hl : c.data.toList.length = m := by rw [hc, List.length_take]; omega
  obtain ⟨hz, hz2⟩ := tagName_le c hat
  rcases tagT_cases c.data.toList 0 with ⟨_, h⟩ | ⟨rs, self, n, h, _⟩
  · rw [h, hl]
  · exfalso
    have h1 := tagRd_ext c.data.toList (l.drop m) rs self n hz h hz2
    rw [hc, List.take_append_drop, ← hc] at h1
    rcases tagT_cases l 0 with ⟨_, h2⟩ | ⟨rs2, self2, n2, h2, h3⟩
    · rw [h2] at h0
      exact h0 rfl
    · rw [h1.2] at h2
      have e := (Prod.mk.inj h2).2
      rw [h3] at hb
      simp only at hb
      have := h1.1
      omega
theorem tagT_behind (s : ByteArray) (hat : atPlace s.data.toList 0 = true) : (tagT s.data.toList 0).behind ≤ s.size := by
  obtain ⟨hz, hz2⟩ := tagName_le s hat
  rcases tagT_cases s.data.toList 0 with ⟨_, h⟩ | ⟨rs, self, n, h, h2⟩
  · rw [h, len_of]; exact Nat.le_refl _
  · have h1 := (tagRd_ext s.data.toList [] rs self n hz h hz2).1
    rw [h2, ← len_of]
    exact h1
theorem readR_pos (st : Bool) (l : List UInt8) : ∀ (f q : Nat) (xs rs : List (List UInt8 × List UInt8)) (self : Bool) (n : Nat), Plain.readR st l f q xs = (some (rs, self), n) → 1 ≤ n
  | 0, _, _, _, _, _, h => by simp [Plain.readR] at h
  | f + 1, q, xs, rs, self, n, h => by
    rw [Plain.readR] at h
    split at h
    · simp at h
    · split at h
      · simp at h; omega
      · exact readR_pos st l f _ _ rs self n h
theorem tagT_pos (l : List UInt8) (h0 : (tagT l 0).kind ≠ 0) : 1 ≤ (tagT l 0).behind := by
  rcases tagT_cases l 0 with ⟨_, h⟩ | ⟨rs, self, n, h, h2⟩
  · rw [h] at h0
    exact absurd rfl h0
  · rw [h2]
    exact readR_pos _ _ _ _ _ _ _ _ h

end Go.Proofs.YtgelgfgcdfnacaaDoor
