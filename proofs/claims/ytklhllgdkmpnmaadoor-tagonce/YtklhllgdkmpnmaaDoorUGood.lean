/-
  Plain facts on what is read of a tag: names are folded, not empty, no byte 0 is left, none is there twice; an end has neither attributes nor Self; the byte ahead of the place behind it is a bracket. No program is walked.
-/
import Derived.Test.YtklhllgdkmpnmaaDoorULawC
namespace Go.Proofs.YtklhllgdkmpnmaaDoor
open Go.RowKit

theorem clear_cons (c : UInt8) (r : List UInt8) : Plain.clear (c :: r) = (if c.toNat = 0 then Plain.bad else [c]) ++ Plain.clear r := by unfold Plain.clear; rw [List.flatMap_cons]
theorem clear_zero (l : List UInt8) : (0 : UInt8) ∉ Plain.clear l := by
  induction l with
  | nil => simp [Plain.clear]
  | cons c r ih =>
    rw [clear_cons, List.mem_append]
    rintro (h | h)
    · split at h
      · revert h; decide
      · rename_i hc
        have := List.mem_singleton.1 h
        exact hc (by rw [← this]; rfl)
    · exact ih h
theorem clear_ne (l : List UInt8) (h : l ≠ []) : Plain.clear l ≠ [] := by
  cases l with
  | nil => exact absurd rfl h
  | cons c r =>
    rw [clear_cons]
    intro e
    have := (List.append_eq_nil_iff.1 e).1
    split at this
    · exact absurd this (by decide)
    · cases this
theorem fold_clear (l : List UInt8) : Plain.fold (Plain.clear (Plain.fold l)) = Plain.clear (Plain.fold l) := by
  induction l with
  | nil => rfl
  | cons c r ih =>
    have e : Plain.fold (c :: r) = Plain.foldB c :: Plain.fold r := rfl
    rw [e, clear_cons]
    have ea : ∀ a b : List UInt8, Plain.fold (a ++ b) = Plain.fold a ++ Plain.fold b := fun a b => List.map_append
    rw [ea, ih]
    congr 1
    split
    · decide
    · show [Plain.foldB (Plain.foldB c)] = [Plain.foldB c]
      rw [Plain.foldB_twice]
/-- What holds of attributes that were read. -/
def GoodA (a : List UInt8 × List UInt8) : Prop := a.1 ≠ [] ∧ Plain.fold a.1 = a.1 ∧ (0 : UInt8) ∉ a.1 ∧ (0 : UInt8) ∉ a.2
structure Good (st : Bool) (rs : List (List UInt8 × List UInt8)) : Prop where
  none : st = false → rs = []
  each : ∀ a ∈ rs, GoodA a
  once : rs.Pairwise fun a b => a.1 ≠ b.1
theorem attr_good (l : List UInt8) (p : Nat) (h : p < l.length) : GoodA (Plain.attrAt l p).1 := by
  rw [Plain.attrAt_raw]
  refine ⟨?_, fold_clear _, clear_zero _, clear_zero _⟩
  refine clear_ne _ ?_
  intro e
  have hl := congrArg List.length e
  rw [Plain.fold_length, List.length_drop, List.length_take] at hl
  have h1 := Plain.runP_le Plain.inAttr (l.drop (p + 1))
  rw [List.length_drop] at h1
  have e1 : Plain.attrEnd l p = p + 1 + Plain.runP Plain.inAttr (l.drop (p + 1)) := rfl
  simp at hl
  omega
theorem Good.add {st : Bool} {rs : List (List UInt8 × List UInt8)} (h : Good st rs) (a : List UInt8 × List UInt8) (ha : GoodA a) : Good st (Plain.addAttr st rs a) := by
  unfold Plain.addAttr
  split
  · rename_i hc
    rw [Bool.and_eq_true] at hc
    refine ⟨fun e => ?_, fun b hb => ?_, ?_⟩
    · rw [e] at hc
      exact absurd hc.2 (by decide)
    · rcases List.mem_append.1 hb with hb | hb
      · exact h.each b hb
      · rw [List.mem_singleton.1 hb]; exact ha
    · refine List.pairwise_append.2 ⟨h.once, List.pairwise_singleton _ _, fun b hb c hcc => ?_⟩
      rw [List.mem_singleton.1 hcc]
      intro e
      have hn : Plain.hasName rs a.1 = true := by
        unfold Plain.hasName
        rw [List.any_eq_true]
        exact ⟨b, hb, by rw [e]; exact beq_self_eq_true _⟩
      rw [hn] at hc
      exact absurd hc.1 (by decide)
  · exact h
theorem readR_good (st : Bool) (l : List UInt8) : ∀ (f q : Nat) (xs rs : List (List UInt8 × List UInt8)) (self : Bool) (n : Nat), Good st xs → Plain.readR st l f q xs = (some (rs, self), n) → Good st rs ∧ (self = true → st = true) ∧ (l.getD (n - 1) 0).toNat = 62
  | 0, _, _, _, _, _, _, h => by simp [Plain.readR] at h
  | f + 1, q, xs, rs, self, n, hg, h => by
    rw [Plain.readR] at h
    split at h
    · simp at h
    · rename_i h1
      split at h
      · rename_i h62
        have e := Prod.mk.inj h
        have e1 := Prod.mk.inj (Option.some.inj e.1)
        obtain ⟨rfl, e2⟩ := e1
        refine ⟨hg, fun hs => ?_, ?_⟩
        · rw [← e2, Bool.and_eq_true] at hs
          exact hs.2
        · rw [← e.2, Nat.add_sub_cancel]
          exact h62
      · exact readR_good st l f _ _ rs self n (hg.add _ (attr_good l _ (by omega))) h
theorem Good.nil (st : Bool) : Good st [] := ⟨fun _ => rfl, (fun _ h => by cases h), List.Pairwise.nil⟩
theorem letter_in (c : UInt8) (h : Plain.isLetter c = true) : Plain.inName c = true := by
  have : ∀ n, n < 256 → (!Plain.isLetter (UInt8.ofNat n) || Plain.inName (UInt8.ofNat n)) = true := by decide +kernel
  have := this c.toNat c.toNat_lt
  rw [UInt8.ofNat_toNat, h] at this
  exact this
/-- A tag's name has a letter ahead. -/
theorem tagNm_ne (s : ByteArray) (hat : atPlace s.data.toList 0 = true) : tagNm s.data.toList 0 ≠ [] := by
  obtain ⟨h1, h60, h2⟩ := at_facts s 0 hat
  have hl : ∃ h : Plain.tagName s.data.toList 0 < s.size, Plain.isLetter s[Plain.tagName s.data.toList 0] = true := by
    unfold atPlace at hat
    rw [Bool.and_eq_true, Bool.and_eq_true] at hat
    have ht := hat.2.2
    rw [show ((0 : Int)).toNat = 0 from rfl] at ht
    by_cases h47 : s[0 + 1].toNat = 47
    · have hst : Plain.tagName s.data.toList 0 = 2 := by
        unfold Plain.tagName Plain.tagStart
        rw [Plain.getD_get s (0 + 1) h1]
        simp [h47]
      rw [at_slash s 0 h1 h60 h47, Plain.getD_get s (0 + 2) (h2 h47)] at ht
      rw [hst]
      exact ⟨h2 h47, ht⟩
    · have hst : Plain.tagName s.data.toList 0 = 1 := by
        unfold Plain.tagName Plain.tagStart
        rw [Plain.getD_get s (0 + 1) h1]
        simp [h47]
      rw [at_letter s 0 h1 h60 h47] at ht
      rw [hst]
      exact ⟨h1, ht⟩
  obtain ⟨hp, hlet⟩ := hl
  refine clear_ne _ ?_
  intro e
  have hlen := congrArg List.length e
  rw [Plain.fold_length, List.length_drop, List.length_take, len_of] at hlen
  have hr : 1 ≤ Plain.runP Plain.inName (s.data.toList.drop (Plain.tagName s.data.toList 0)) := by
    rw [List.drop_eq_getElem_cons (by rw [len_of]; exact hp), Plain.runP, if_pos (show Plain.inName (s.data.toList[Plain.tagName s.data.toList 0]'(by rw [len_of]; exact hp)) = true from letter_in _ hlet)]
    omega
  have hn : Plain.nameEnd s.data.toList (Plain.tagName s.data.toList 0) = Plain.tagName s.data.toList 0 + Plain.runP Plain.inName (s.data.toList.drop (Plain.tagName s.data.toList 0)) := rfl
  simp at hlen
  omega
/-- What holds of a token that was read. -/
structure TkGood (s : ByteArray) (T : Tk) : Prop where
  pos : 1 ≤ T.behind
  le : T.behind ≤ s.size
  end_ : T.kind = 2 → T.attrs = [] ∧ T.self = false
  name : T.kind ≠ 0 → T.name ≠ [] ∧ Plain.fold T.name = T.name ∧ (s.data.toList.getD (T.behind - 1) 0).toNat = 62
  kinds : T.kind = 0 ∨ T.kind = 1 ∨ T.kind = 2
  attrs : ∀ a ∈ T.attrs, GoodA a
  once : T.attrs.Pairwise fun a b => a.1 ≠ b.1
theorem tagT_good (s : ByteArray) (hat : atPlace s.data.toList 0 = true) : TkGood s (tagT s.data.toList 0) := by
  have hle := tagT_behind s hat
  obtain ⟨h1, _, _⟩ := at_facts s 0 hat
  rcases tagT_cases s.data.toList 0 with ⟨_, h⟩ | ⟨rs, self, n, h, h2⟩
  · rw [h] at hle ⊢
    exact ⟨by show 1 ≤ s.data.toList.length; rw [len_of]; omega, hle, fun e => absurd e (by simp), fun e => absurd rfl e, Or.inl rfl, fun a ha => (by cases ha), List.Pairwise.nil⟩
  · have hg := readR_good _ _ _ _ _ _ _ _ (Good.nil _) h
    have hp := readR_pos _ _ _ _ _ _ _ _ h
    rw [h2] at hle ⊢
    refine ⟨hp, hle, fun e => ?_, fun _ => ⟨tagNm_ne s hat, fold_clear _, hg.2.2⟩, ?_, hg.1.each, hg.1.once⟩
    · have hst : Plain.tagStart s.data.toList 0 = false := by
        cases hs : Plain.tagStart s.data.toList 0
        · rfl
        · simp only at e
          unfold tagKd at e
          rw [hs] at e
          exact absurd e (by decide)
      refine ⟨hg.1.none hst, ?_⟩
      cases hself : self
      · rfl
      · rw [hself] at hg
        exact absurd (hg.2.1 rfl) (by rw [hst]; decide)
    · simp only
      unfold tagKd
      split
      · exact Or.inr (Or.inl rfl)
      · exact Or.inr (Or.inr rfl)
end Go.Proofs.YtklhllgdkmpnmaaDoor
