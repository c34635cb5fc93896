/-
  Plain facts on tokens, of no program: what the document's cases come to. No conditions.
-/
import Derived.Test.YtgelgfgcdfnacaaDoorXPlain
namespace Go.Proofs.YtgelgfgcdfnacaaDoor

theorem readR_le (st : Bool) (l : List UInt8) : ∀ (f q : Nat) (qs : List (List UInt8 × List UInt8)) (r : List (List UInt8 × List UInt8) × Bool) (n : Nat), q ≤ l.length → Plain.readR st l f q qs = (some r, n) → q < n ∧ n ≤ l.length
  | 0, _, _, _, _, _, h => by simp [Plain.readR] at h
  | f + 1, q, qs, r, n, hq, h => by
    rw [Plain.readR] at h
    split at h
    · simp at h
    · rename_i h1
      split at h
      · simp at h
        omega
      · have h2 := Plain.attrAt_le l (q + Plain.gapN l q) (by omega)
        have := readR_le st l f _ _ r n h2.2 h
        omega
theorem tagName_in (l : List UInt8) (k : Nat) (h : Plain.atTag (l.drop k) = true) : k < Plain.tagName l k ∧ Plain.tagName l k ≤ l.length := by
  unfold Plain.atTag at h
  rw [drop_getD, drop_getD, drop_getD] at h
  have g : ∀ j, l.length ≤ j → Plain.isLetter (l.getD j 0) = false ∧ (l.getD j 0).toNat ≠ 47 ∧ (l.getD j 0).toNat ≠ 60 := by
    intro j hj
    rw [List.getD_eq_getElem?_getD, List.getElem?_eq_none hj]
    exact ⟨by decide, by decide, by decide⟩
  unfold Plain.tagName Plain.tagStart
  by_cases h1 : k + 1 < l.length
  · split
    · omega
    · rename_i hs
      have h47 : (l.getD (k + 1) 0).toNat = 47 := by simpa using hs
      have hl : Plain.isLetter (l.getD (k + 1) 0) = false := by unfold Plain.isLetter; rw [h47]; decide
      by_cases h2 : k + 2 < l.length
      · omega
      · rw [hl, (g (k + 2) (by omega)).1] at h
        simp at h
  · rw [(g (k + 1) (by omega)).1, decide_eq_false (g (k + 1) (by omega)).2.1] at h
    simp at h
theorem tagT_le (l : List UInt8) (k : Nat) (h : Plain.atTag (l.drop k) = true) (hk : (tagT l k).kind ≠ 0) : k < (tagT l k).behind ∧ (tagT l k).behind ≤ l.length ∧ ((tagT l k).kind = 1 ∨ (tagT l k).kind = 2) := by
  rcases tagT_cases l k with ⟨h1, h2⟩ | ⟨rs, self, n, h1, h2⟩
  · rw [h2] at hk
    exact absurd rfl hk
  · rw [h2]
    have hn := tagName_in l k h
    have he := nameEnd_len l _ hn.2
    unfold tagRd at h1
    have := readR_le _ _ _ _ _ _ _ he.2 h1
    refine ⟨by simp only; omega, this.2, ?_⟩
    show tagKd l k = 1 ∨ tagKd l k = 2
    unfold tagKd
    split <;> simp
/-- A token's kind and place: a stop at the end, or one of the four kinds, the place behind above. -/
def Goes (l : List UInt8) (k : Nat) (t : Tok × Nat) : Prop := (t.1.kind = 5 ∧ t.2 = l.length) ∨ (1 ≤ t.1.kind ∧ t.1.kind ≤ 4 ∧ k < t.2 ∧ t.2 ≤ l.length)
theorem goes_stop (l : List UInt8) (k : Nat) : Goes l k (stopT l) := Or.inl ⟨rfl, rfl⟩
theorem goes_read (l : List UInt8) (k : Nat) (h : Plain.atTag (l.drop k) = true) : Goes l k (readL l k) := by
  unfold readL
  split
  · exact goes_stop l k
  · rename_i h0
    have := tagT_le l k h h0
    exact Or.inr ⟨by simp only; omega, by simp only; omega, this.1, this.2.1⟩
theorem atTag_lt (l : List UInt8) (k : Nat) (h : Plain.atTag (l.drop k) = true) : k < l.length := by
  have := tagName_in l k h
  omega
theorem endA_tag (last l : List UInt8) (h : endA last l = true) : Plain.atTag l = true := by
  unfold endA at h
  rw [Bool.and_eq_true] at h
  exact h.1
theorem goes_closed (l : List UInt8) (k state : Nat) (last : List UInt8) (hk : k < l.length) : Goes l k (closedT l k state last) := by
  unfold closedT
  split
  · rename_i h
    refine goes_read l k ?_
    cases he : endA last (l.drop k)
    · rw [endL_miss last l k hk he] at h
      have := endL_le last l (k + 1) (by omega)
      omega
    · exact endA_tag _ _ he
  · rename_i h
    have := endL_le last l k (by omega)
    exact Or.inr ⟨by simp [textT], by simp [textT], by simp only; omega, this.2⟩
theorem goes_note (ends : List (List UInt8)) (l : List UInt8) (k f : Nat) (h : k < f) (hf : f ≤ l.length) : Goes l k (noteTo ends l f) := by
  have := up_le ends l f hf
  exact Or.inr ⟨by simp [noteTo, noteT], by simp [noteTo, noteT], by simp only [noteTo]; omega, by simp only [noteTo]; omega⟩
theorem goes_remark (l : List UInt8) (k f : Nat) (h : k < f) (hf : f ≤ l.length) : Goes l k (remarkT l f) := by
  unfold remarkT
  split
  · rename_i h1
    have := isPrefix_drop _ l f h1
    simp at this
    exact Or.inr ⟨by simp [noteT], by simp [noteT], by simp only; omega, by simp only; omega⟩
  · split
    · rename_i h1
      have := isPrefix_drop _ l f h1
      simp at this
      exact Or.inr ⟨by simp [noteT], by simp [noteT], by simp only; omega, by simp only; omega⟩
    · exact goes_note _ l k f h hf
theorem goes_data (l : List UInt8) (k : Nat) : Goes l k (dataT l k) := by
  unfold dataT
  split
  · exact goes_stop l k
  · split
    · rename_i h1; exact goes_read l k h1
    · split
      · rename_i h1
        have := isPrefix_drop _ l k h1
        simp at this
        exact goes_remark l k _ (by omega) (by omega)
      · split
        · rename_i h1
          refine goes_note _ l k _ (by omega) ?_
          rw [Bool.or_eq_true] at h1
          rcases h1 with h1 | h1
          · have := isPrefix_drop _ l k h1
            simp at this
            omega
          · rw [Bool.and_eq_true] at h1
            have := isPrefix_drop _ l k h1.1
            simp at this
            omega
        · split
          · exact goes_note _ l k _ (by omega) (by omega)
          · have := up_le [[60]] l (k + 1) (by omega)
            exact Or.inr ⟨by simp [textT], by simp [textT], by simp only; omega, by simp only; omega⟩
theorem Goes.from {l : List UInt8} {k m : Nat} {t : Tok × Nat} (h : Goes l m t) (hk : k ≤ m) : Goes l k t := by
  rcases h with h | h
  · exact Or.inl h
  · exact Or.inr ⟨h.1, h.2.1, by omega, h.2.2.2⟩
theorem goes_next (l : List UInt8) (k state : Nat) (last : List UInt8) : Goes l k (nextT l k state last) := by
  unfold nextT
  split
  · exact goes_stop l k
  · rename_i hk
    split
    · exact Or.inr ⟨by simp [textT], by simp [textT], by simp only; omega, by simp⟩
    · split
      · exact goes_closed l k state last (by omega)
      · have hm := mute_ok l k (by omega)
        split
        · rename_i h1
          have := isPrefix_drop _ l (mute l k) h1.2
          simp [section_] at this
          have h2 := up_le [[93, 93, 62]] l (mute l k + 9) (by omega)
          exact Or.inr ⟨by simp [textT], by simp [textT], by simp only; omega, by simp only; omega⟩
        · exact (goes_data l (mute l k)).from hm.1
theorem allN_fuel (l : List UInt8) (state : Nat) (last : List UInt8) : ∀ (f g k : Nat), l.length + 1 ≤ f + k → l.length + 1 ≤ g + k → k ≤ l.length → allN l state last f k = allN l state last g k
  | 0, 0, _, _, _, _ => rfl
  | 0, g + 1, k, h1, _, h3 => by omega
  | f + 1, 0, k, _, h2, h3 => by omega
  | f + 1, g + 1, k, h1, h2, h3 => by
    rw [allN, allN]
    split
    · rfl
    · rename_i h5
      rcases goes_next l k state last with h | h
      · exact absurd h.1 h5
      · rw [allN_fuel l state last f g _ (by omega) (by omega) h.2.2.2]
/-- All, from a place on. -/
def allT (l : List UInt8) (state : Nat) (last : List UInt8) (k : Nat) : List Tok := allN l state last (l.length + 1) k
theorem allT_stop (l : List UInt8) (state : Nat) (last : List UInt8) (k : Nat) (h : (nextT l k state last).1.kind = 5) : allT l state last k = [(nextT l k state last).1] := by
  unfold allT
  rw [allN, if_pos h]
theorem allT_step (l : List UInt8) (state : Nat) (last : List UInt8) (k : Nat) (h : (nextT l k state last).1.kind ≠ 5) : allT l state last k = (nextT l k state last).1 :: allT l state last (nextT l k state last).2 := by
  unfold allT
  rw [allN, if_neg h]
  rcases goes_next l k state last with h1 | h1
  · exact absurd h1.1 h
  · rw [allN_fuel l state last _ (l.length + 1) _ (by omega) (by omega) h1.2.2.2]
theorem allN_len (l : List UInt8) (state : Nat) (last : List UInt8) : ∀ (f k : Nat), (allN l state last f k).length ≤ f
  | 0, _ => Nat.le_refl _
  | f + 1, k => by
    rw [allN]
    split
    · simp
    · have := allN_len l state last f (nextT l k state last).2
      simp; omega

/-- Bytes that Fold leaves and gives for nothing else. -/
def fixB (c : UInt8) : Bool := !Plain.isLetter c
theorem letter_fold (c : UInt8) : Plain.isLetter (Plain.foldB c) = Plain.isLetter c := by
  have : (fun c => Plain.isLetter (Plain.foldB c)) = Plain.isLetter := Plain.byte_all _ _ (by decide +kernel)
  exact congrFun this c
theorem foldB_fix (c d : UInt8) (h : fixB c = true) : (c == Plain.foldB d) = (c == d) := by
  unfold fixB at h
  have hc : Plain.isLetter c = false := by simpa using h
  cases hd : Plain.isLetter d
  · have : ¬ (65 ≤ d.toNat ∧ d.toNat ≤ 90) := by
      intro q
      unfold Plain.isLetter at hd
      rw [decide_eq_false_iff_not] at hd
      exact hd (Or.inr q)
    rw [Plain.foldB_id d this]
  · rw [beq_false_of_ne (fun q => by rw [q, letter_fold, hd] at hc; cases hc), beq_false_of_ne (fun q => by rw [q, hd] at hc; cases hc)]
theorem begF_fix : ∀ (w l : List UInt8), (∀ c ∈ w, fixB c = true) → begF w l = w.isPrefixOf l
  | [], _, _ => by simp [begF, List.isPrefixOf]
  | c :: r, [], _ => rfl
  | c :: r, d :: m, h => by
    rw [begF_cons, foldB_fix c d (h c (by simp)), begF_fix r m (fun x hx => h x (by simp [hx]))]
    rfl
theorem gap_fix (l : List UInt8) : begF [60, 47, 62] l = [60, 47, 62].isPrefixOf l := begF_fix _ l (by decide)
theorem open_fix (l : List UInt8) : begF [60, 47] l = [60, 47].isPrefixOf l := begF_fix _ l (by decide)
theorem beg_take (w l : List UInt8) : w.isPrefixOf l = (decide (w.length ≤ l.length) && (l.take w.length == w)) := by
  rw [Bool.eq_iff_iff, List.isPrefixOf_iff_prefix, Bool.and_eq_true, decide_eq_true_iff, beq_iff_eq, List.prefix_iff_eq_take]
  constructor
  · intro h
    refine ⟨?_, h.symm⟩
    have := congrArg List.length h
    rw [List.length_take] at this
    omega
  · exact fun h => h.2.symm
theorem begF_take (w l : List UInt8) : begF w l = (decide (w.length ≤ l.length) && (Plain.fold (l.take w.length) == w)) := by
  unfold begF
  rw [beg_take, Plain.fold_length]
  congr 2
  unfold Plain.fold
  rw [List.map_take]
theorem letter_end (c : UInt8) (h : Plain.isLetter c = true) : inEnd c = false := by
  have : (fun c => Plain.isLetter c && inEnd c) = fun _ => false := Plain.byte_all _ _ (by decide +kernel)
  have := congrFun this c
  rwa [h, Bool.true_and] at this
theorem letter_not (c : UInt8) (h : Plain.isLetter c = true) : c ≠ 47 ∧ c ≠ 33 ∧ c ≠ 62 ∧ Plain.foldB c ≠ 33 ∧ c ≠ 63 ∧ c ≠ 60 := by
  have : (fun c => Plain.isLetter c && (c == 47 || c == 33 || c == 62 || Plain.foldB c == 33 || c == 63 || c == 60)) = fun _ => false := Plain.byte_all _ _ (by decide +kernel)
  have := congrFun this c
  rw [h, Bool.true_and] at this
  simp at this
  obtain ⟨⟨⟨⟨⟨h1, h2⟩, h3⟩, h4⟩, h5⟩, h6⟩ := this
  exact ⟨h1, h2, h3, h4, h5, h6⟩
/-- A tag's first bytes. -/
theorem tag_first (x : List UInt8) (h : Plain.atTag x = true) : ∃ c r, x = 60 :: c :: r ∧ (Plain.isLetter c = true ∨ (c = 47 ∧ ∃ d r', r = d :: r' ∧ Plain.isLetter d = true)) := by
  unfold Plain.atTag at h
  have e0 : Plain.isLetter (0 : UInt8) = false := by decide
  match x with
  | [] => simp at h
  | [b] => simp [e0] at h
  | [b, c] =>
    simp [e0] at h
    exact ⟨c, [], by rw [show b = 60 from UInt8.toNat_inj.1 h.1], Or.inl h.2⟩
  | b :: c :: d :: r =>
    simp at h
    refine ⟨c, d :: r, by rw [show b = 60 from UInt8.toNat_inj.1 h.1], ?_⟩
    rcases h.2 with h2 | h2
    · exact Or.inl h2
    · exact Or.inr ⟨UInt8.toNat_inj.1 h2.1, d, r, rfl, h2.2⟩
theorem tag_not (x : List UInt8) (h : Plain.atTag x = true) : begF doctype x = false ∧ [60, 47, 62].isPrefixOf x = false ∧ section_.isPrefixOf x = false := by
  obtain ⟨c, r, rfl, hc | ⟨rfl, d, r', rfl, hd⟩⟩ := tag_first x h
  · obtain ⟨h1, h2, h3, h4, _⟩ := letter_not c hc
    refine ⟨?_, ?_, ?_⟩
    · unfold doctype
      rw [begF_cons, begF_cons, beq_false_of_ne (fun q => h4 q.symm), Bool.false_and, Bool.and_false]
    · simp only [List.isPrefixOf]
      rw [beq_false_of_ne (fun q => h1 q.symm), Bool.false_and, Bool.and_false]
    · simp only [section_, List.isPrefixOf]
      rw [beq_false_of_ne (fun q => h2 q.symm), Bool.false_and, Bool.and_false]
  · obtain ⟨h1, h2, h3, h4, _⟩ := letter_not d hd
    refine ⟨rfl, ?_, rfl⟩
    simp only [List.isPrefixOf]
    rw [beq_false_of_ne (fun q => h3 q.symm), Bool.false_and, Bool.and_false, Bool.and_false]
theorem endA_none (l : List UInt8) : endA [] l = false := by
  cases ht : Plain.atTag l
  · unfold endA; rw [ht, Bool.false_and]
  · obtain ⟨c, r, rfl, hc | ⟨rfl, d, r', rfl, hd⟩⟩ := tag_first l ht
    · unfold endA
      have h1 := (letter_not c hc).1
      have : begF ([60, 47] ++ Plain.fold []) (60 :: c :: r) = false := by
        show begF [60, 47] (60 :: c :: r) = false
        rw [open_fix]
        simp only [List.isPrefixOf]
        rw [beq_false_of_ne (fun q => h1 q.symm), Bool.false_and, Bool.and_false]
      rw [this, Bool.false_and, Bool.and_false]
    · unfold endA
      show (_ && (_ && inEnd d)) = false
      rw [letter_end d hd, Bool.and_false, Bool.and_false]
theorem endN_none : ∀ l : List UInt8, endN [] l = l.length
  | [] => rfl
  | c :: r => by
    rw [endN, if_neg (by rw [endA_none]; decide), endN_none r, List.length_cons]
    omega
theorem endL_none (l : List UInt8) (k : Nat) (h : k ≤ l.length) : endL [] l k = l.length := by
  unfold endL
  rw [endN_none, List.length_drop]
  omega
theorem mid_drop (l : List UInt8) (k : Nat) : mid l k l.length = l.drop k := by unfold mid; rw [List.take_length]
theorem next_plain (l : List UInt8) (k : Nat) (last : List UInt8) (h : k < l.length) : closedT l k 3 [] = nextT l k 3 last := by
  unfold closedT nextT
  rw [endL_none l k (by omega), if_neg (by omega), if_neg (by omega), if_pos rfl, mid_drop]
  rfl
end Go.Proofs.YtgelgfgcdfnacaaDoor
