/-
  Plain facts on tokens, of no program: the cases of the document, one by one, as the reference asks them. No conditions.
-/
import Derived.Test.YtgelgfgcdfnacaaDoorXFacts
namespace Go.Proofs.YtgelgfgcdfnacaaDoor

theorem muteN_end (l : List UInt8) (k : Nat) (h : l.length ≤ k) : muteN l k = none := by
  unfold muteN
  rw [List.drop_eq_nil_of_le h]
  rfl
theorem muteN_no (l : List UInt8) (k : Nat) (h1 : begF doctype (l.drop k) = false) (h2 : [60, 47, 62].isPrefixOf (l.drop k) = false) : muteN l k = none := by
  unfold muteN
  rw [gap_fix, h1, h2]
  rfl
theorem muteN_none (l : List UInt8) (k : Nat) (h : muteN l k = none) : begF doctype (l.drop k) = false ∧ [60, 47, 62].isPrefixOf (l.drop k) = false := by
  unfold muteN at h
  rw [gap_fix] at h
  cases h1 : begF doctype (l.drop k)
  · rw [h1] at h
    cases h2 : [60, 47, 62].isPrefixOf (l.drop k)
    · exact ⟨rfl, rfl⟩
    · rw [h2] at h
      simp at h
  · rw [h1] at h
    simp at h
theorem next_data (l : List UInt8) (k state : Nat) (last : List UInt8) (hk : k < l.length) (hs : state = 0 ∨ state = 4) (hm : muteN l k = none) (hsec : state = 4 → section_.isPrefixOf (l.drop k) = false) : nextT l k state last = dataT l k := by
  unfold nextT
  rw [if_neg (by omega), if_neg (by omega), if_neg (by omega), mute_none l k hm, if_neg]
  rintro ⟨h1, h2⟩
  rw [hsec h1] at h2
  cases h2
theorem next_sec (l : List UInt8) (k : Nat) (last : List UInt8) (hk : k < l.length) (hm : muteN l k = none) (h : section_.isPrefixOf (l.drop k) = true) : nextT l k 4 last = (textT (mid l (k + 9) (upL [[93, 93, 62]] l (k + 9)).1), (upL [[93, 93, 62]] l (k + 9)).2) := by
  unfold nextT
  rw [if_neg (by omega), if_neg (by omega), if_neg (by omega), mute_none l k hm, if_pos ⟨rfl, h⟩]
theorem next_at (l : List UInt8) (k state : Nat) (last : List UInt8) (hk : k < l.length) (hs : state = 0 ∨ state = 4) : nextT l k state last = if state = 4 ∧ section_.isPrefixOf (l.drop (mute l k)) = true then (textT (mid l (mute l k + 9) (upL [[93, 93, 62]] l (mute l k + 9)).1), (upL [[93, 93, 62]] l (mute l k + 9)).2) else dataT l (mute l k) := by
  unfold nextT
  rw [if_neg (by omega), if_neg (by omega), if_neg (by omega)]
theorem next_mute (l : List UInt8) (k q state : Nat) (last : List UInt8) (hk : k < l.length) (hs : state = 0 ∨ state = 4) (h : muteN l k = some q) : nextT l k state last = nextT l q state last := by
  have hq := muteN_gt l k q h
  have he := mute_some l k q h
  by_cases hl : l.length ≤ q
  · have e1 := mute_none l q (muteN_end l q hl)
    have e2 : nextT l q state last = stopT l := by unfold nextT; rw [if_pos hl]
    have e3 : dataT l q = stopT l := by unfold dataT; rw [if_pos hl]
    rw [e2, ← e3, next_at l k state last hk hs, he, e1, if_neg]
    rintro ⟨_, h2⟩
    rw [List.drop_eq_nil_of_le hl] at h2
    cases h2
  · rw [next_at l k state last hk hs, next_at l q state last (by omega) hs, he]
theorem prefix_split (w x : List UInt8) (h : w.isPrefixOf x = true) : ∃ r, x = w ++ r := by
  obtain ⟨r, hr⟩ := List.isPrefixOf_iff_prefix.1 h
  exact ⟨r, hr.symm⟩
theorem at_second (c : UInt8) (r : List UInt8) (h : Plain.isLetter c = false) (h47 : c ≠ 47) : Plain.atTag (60 :: c :: r) = false := by
  unfold Plain.atTag
  have : (c.toNat == 47) = false := by simp; exact fun q => h47 (UInt8.toNat_inj.1 q)
  simp [h]
  intro q
  exact absurd (UInt8.toNat_inj.1 q) h47
theorem case_tag (l : List UInt8) (k state : Nat) (last : List UInt8) (hs : state = 0 ∨ state = 4) (h : Plain.atTag (l.drop k) = true) : nextT l k state last = readL l k := by
  obtain ⟨h1, h2, h3⟩ := tag_not _ h
  have hk := atTag_lt l k h
  rw [next_data l k state last hk hs (muteN_no l k h1 h2) (fun _ => h3)]
  unfold dataT
  rw [if_neg (by omega), if_pos h]
theorem case_remark (l : List UInt8) (k state : Nat) (last : List UInt8) (hk : k < l.length) (hs : state = 0 ∨ state = 4) (h : [60, 33, 45, 45].isPrefixOf (l.drop k) = true) : nextT l k state last = remarkT l (k + 4) := by
  obtain ⟨r, hr⟩ := prefix_split _ _ h
  have h0 : Plain.atTag (l.drop k) = false := by rw [hr]; exact at_second 33 _ (by decide) (by decide)
  have h1 : begF doctype (l.drop k) = false := by rw [hr]; rfl
  have h2 : [60, 47, 62].isPrefixOf (l.drop k) = false := by rw [hr]; rfl
  have h3 : section_.isPrefixOf (l.drop k) = false := by rw [hr]; rfl
  rw [next_data l k state last hk hs (muteN_no l k h1 h2) (fun _ => h3)]
  unfold dataT
  rw [if_neg (by omega), if_neg (by rw [h0]; decide), if_pos h]
theorem case_section (l : List UInt8) (k : Nat) (last : List UInt8) (hk : k < l.length) (h : section_.isPrefixOf (l.drop k) = true) : nextT l k 4 last = (textT (mid l (k + 9) (upL [[93, 93, 62]] l (k + 9)).1), (upL [[93, 93, 62]] l (k + 9)).2) := by
  obtain ⟨r, hr⟩ := prefix_split _ _ h
  have h1 : begF doctype (l.drop k) = false := by rw [hr]; rfl
  have h2 : [60, 47, 62].isPrefixOf (l.drop k) = false := by rw [hr]; rfl
  exact next_sec l k last hk (muteN_no l k h1 h2) h
theorem up_skip (c : UInt8) (l : List UInt8) (k : Nat) (hk : k < l.length) (h : l[k] ≠ c) : upL [[c]] l k = upL [[c]] l (k + 1) := by
  refine upL_miss _ _ _ hk ?_
  rw [List.drop_eq_getElem_cons hk, List.find?_cons_of_neg (by simp only [List.isPrefixOf, Bool.and_true, beq_iff_eq]; exact fun q => h q.symm), List.find?_nil]
theorem begF_get (w l : List UInt8) (k j : Nat) (h : begF w (l.drop k) = true) (hj : j < w.length) : ∃ hk : k + j < l.length, Plain.foldB l[k + j] = w[j] := by
  have hl := begF_len _ _ h
  rw [List.length_drop] at hl
  refine ⟨by omega, ?_⟩
  obtain ⟨r, hr⟩ := prefix_split _ _ h
  have : (Plain.fold (l.drop k))[j]? = (w ++ r)[j]? := by rw [hr]
  rw [List.getElem?_append_left hj, List.getElem?_eq_getElem hj] at this
  unfold Plain.fold at this
  rw [List.getElem?_map, List.getElem?_drop, List.getElem?_eq_getElem (by omega)] at this
  exact Option.some.inj this
theorem up_doctype (l : List UInt8) (k : Nat) (h : begF doctype (l.drop k) = true) : upL [[62]] l k = upL [[62]] l (k + 9) := by
  have g : ∀ j, j < 9 → ∃ hk : k + j < l.length, l[k + j] ≠ 62 := by
    intro j hj
    obtain ⟨hk, he⟩ := begF_get doctype l k j h hj
    refine ⟨hk, fun q => ?_⟩
    rw [q] at he
    have : ∀ j (hj : j < 9), doctype[j]'hj ≠ Plain.foldB 62 := by decide
    exact this j hj he.symm
  have s : ∀ j, j < 9 → upL [[62]] l (k + j) = upL [[62]] l (k + j + 1) := by
    intro j hj
    obtain ⟨hk, hn⟩ := g j hj
    exact up_skip 62 l (k + j) hk hn
  rw [show upL [[62]] l k = upL [[62]] l (k + 0) from rfl, s 0 (by omega), s 1 (by omega), s 2 (by omega), s 3 (by omega), s 4 (by omega), s 5 (by omega), s 6 (by omega), s 7 (by omega), s 8 (by omega)]
theorem case_doctype (l : List UInt8) (k state : Nat) (last : List UInt8) (hs : state = 0 ∨ state = 4) (h : begF doctype (l.drop k) = true) : nextT l k state last = nextT l (upL [[62]] l (k + 9)).2 state last ∧ k < (upL [[62]] l (k + 9)).2 ∧ (upL [[62]] l (k + 9)).2 ≤ l.length := by
  have hm : muteN l k = some (upL [[62]] l (k + 9)).2 := by
    unfold muteN
    rw [if_pos h, up_doctype l k h]
  obtain ⟨hk, _⟩ := begF_first _ l k 60 h
  exact ⟨next_mute l k _ state last hk hs hm, muteN_gt l k _ hm⟩
theorem case_bang (l : List UInt8) (k state : Nat) (last : List UInt8) (hk : k < l.length) (hs : state = 0 ∨ state = 4) (h : [60, 33].isPrefixOf (l.drop k) = true) (h1 : [60, 33, 45, 45].isPrefixOf (l.drop k) = false) (h2 : begF doctype (l.drop k) = false) (h3 : state = 4 → section_.isPrefixOf (l.drop k) = false) : nextT l k state last = noteTo [[62]] l (k + 2) := by
  obtain ⟨r, hr⟩ := prefix_split _ _ h
  have h0 : Plain.atTag (l.drop k) = false := by rw [hr]; exact at_second 33 _ (by decide) (by decide)
  have h4 : [60, 47, 62].isPrefixOf (l.drop k) = false := by rw [hr]; rfl
  rw [next_data l k state last hk hs (muteN_no l k h2 h4) h3]
  unfold dataT
  rw [if_neg (by omega), if_neg (by rw [h0]; decide), if_neg (by rw [h1]; decide), if_pos (by rw [h, Bool.true_or])]
theorem case_ask (l : List UInt8) (k state : Nat) (last : List UInt8) (hk : k < l.length) (hs : state = 0 ∨ state = 4) (h : [60, 63].isPrefixOf (l.drop k) = true) : nextT l k state last = noteTo [[62]] l (k + 1) := by
  obtain ⟨r, hr⟩ := prefix_split _ _ h
  have h0 : Plain.atTag (l.drop k) = false := by rw [hr]; exact at_second 63 _ (by decide) (by decide)
  have h1 : [60, 33, 45, 45].isPrefixOf (l.drop k) = false := by rw [hr]; rfl
  have h2 : begF doctype (l.drop k) = false := by rw [hr]; rfl
  have h3 : section_.isPrefixOf (l.drop k) = false := by rw [hr]; rfl
  have h4 : [60, 47, 62].isPrefixOf (l.drop k) = false := by rw [hr]; rfl
  have h5 : [60, 33].isPrefixOf (l.drop k) = false := by rw [hr]; rfl
  have h6 : [60, 47].isPrefixOf (l.drop k) = false := by rw [hr]; rfl
  rw [next_data l k state last hk hs (muteN_no l k h2 h4) (fun _ => h3)]
  unfold dataT
  rw [if_neg (by omega), if_neg (by rw [h0]; decide), if_neg (by rw [h1]; decide), if_neg (by rw [h5, h6]; simp), if_pos h]
theorem case_gap (l : List UInt8) (k state : Nat) (last : List UInt8) (hs : state = 0 ∨ state = 4) (h : [60, 47, 62].isPrefixOf (l.drop k) = true) : nextT l k state last = nextT l (k + 3) state last ∧ k + 3 ≤ l.length := by
  obtain ⟨r, hr⟩ := prefix_split _ _ h
  have h2 : begF doctype (l.drop k) = false := by rw [hr]; rfl
  have hm : muteN l k = some (k + 3) := by
    unfold muteN
    rw [gap_fix, h2, h]
    rfl
  have hl := isPrefix_drop _ l k h
  simp at hl
  exact ⟨next_mute l k _ state last (by omega) hs hm, by omega⟩
theorem case_slash (l : List UInt8) (k state : Nat) (last : List UInt8) (hs : state = 0 ∨ state = 4) (h : [60, 47].isPrefixOf (l.drop k) = true) (hk : k + 2 < l.length) (h0 : Plain.atTag (l.drop k) = false) (h1 : [60, 47, 62].isPrefixOf (l.drop k) = false) : nextT l k state last = noteTo [[62]] l (k + 2) := by
  obtain ⟨r, hr⟩ := prefix_split _ _ h
  have h2 : begF doctype (l.drop k) = false := by rw [hr]; rfl
  have h3 : section_.isPrefixOf (l.drop k) = false := by rw [hr]; rfl
  have h4 : [60, 33, 45, 45].isPrefixOf (l.drop k) = false := by rw [hr]; rfl
  rw [next_data l k state last (by omega) hs (muteN_no l k h2 h1) (fun _ => h3)]
  unfold dataT
  rw [if_neg (by omega), if_neg (by rw [h0]; decide), if_neg (by rw [h4]; decide), if_pos (by rw [h, decide_eq_true hk]; simp)]
theorem prefix_more (a b x : List UInt8) (h : a.isPrefixOf x = false) : (a ++ b).isPrefixOf x = false := by rw [prefix_app, h, Bool.false_and]
theorem case_text (l : List UInt8) (k state : Nat) (last : List UInt8) (hk : k < l.length) (hs : state = 0 ∨ state = 4) (h0 : Plain.atTag (l.drop k) = false) (h1 : [60, 33].isPrefixOf (l.drop k) = false) (h2 : [60, 63].isPrefixOf (l.drop k) = false) (h3 : [60, 47].isPrefixOf (l.drop k) = false ∨ ¬ k + 2 < l.length) :
    nextT l k state last = (textT (Plain.expand (mid l k (upL [[60]] l (k + 1)).1) false), (upL [[60]] l (k + 1)).1) := by
  have a1 : [60, 33, 45, 45].isPrefixOf (l.drop k) = false := prefix_more [60, 33] [45, 45] _ h1
  have a2 : section_.isPrefixOf (l.drop k) = false := prefix_more [60, 33] [91, 67, 68, 65, 84, 65, 91] _ h1
  have a3 : begF doctype (l.drop k) = false := by
    have e : doctype = [60, 33] ++ [100, 111, 99, 116, 121, 112, 101] := rfl
    rw [e, begF_app, begF_fix [60, 33] _ (by decide), h1, Bool.false_and]
  have a4 : [60, 47, 62].isPrefixOf (l.drop k) = false := by
    rcases h3 with h3 | h3
    · exact prefix_more [60, 47] [62] _ h3
    · cases hg : [60, 47, 62].isPrefixOf (l.drop k)
      · rfl
      · have := isPrefix_drop _ l k hg
        simp at this
        omega
  rw [next_data l k state last hk hs (muteN_no l k a3 a4) (fun _ => a2)]
  unfold dataT
  rw [if_neg (by omega), if_neg (by rw [h0]; decide), if_neg (by rw [a1]; decide), if_neg, if_neg (by rw [h2]; decide)]
  rw [h1, Bool.false_or, Bool.and_eq_true, decide_eq_true_iff]
  rcases h3 with h3 | h3
  · rw [h3]; simp
  · exact fun q => h3 q.2

/-- The end of last, as the reference looks for it. -/
theorem endA_bad (last l : List UInt8) (h : last = [] ∨ ∃ c r, last = c :: r ∧ Plain.isLetter c = false) : endA last l = false := by
  rcases h with rfl | ⟨c, r, rfl, hc⟩
  · exact endA_none l
  · cases ht : Plain.atTag l
    · unfold endA; rw [ht, Bool.false_and]
    · have hb : begF ([60, 47] ++ Plain.fold (c :: r)) l = false := by
        obtain ⟨d, x, rfl, hd | ⟨rfl, d, r', rfl, hd⟩⟩ := tag_first l ht
        · have h1 := (letter_not d hd).1
          rw [begF_app, open_fix]
          simp only [List.isPrefixOf]
          rw [beq_false_of_ne (fun q => h1 q.symm), Bool.false_and, Bool.and_false, Bool.false_and]
        · have e : Plain.foldB c ≠ Plain.foldB d := by
            intro q
            have h1 := letter_fold c
            rw [q, letter_fold d, hd, hc] at h1
            cases h1
          show begF (60 :: 47 :: Plain.foldB c :: Plain.fold r) (60 :: 47 :: d :: r') = false
          rw [begF_cons, begF_cons, begF_cons, beq_false_of_ne e, Bool.false_and, Bool.and_false, Bool.and_false]
      unfold endA
      rw [hb, Bool.false_and, Bool.and_false]
theorem endA_short (last l : List UInt8) (h : l.length ≤ 2 + last.length) : endA last l = false := by
  unfold endA
  rw [List.drop_eq_nil_of_le h, Bool.and_false, Bool.and_false]
theorem endA_good (c : UInt8) (r l : List UInt8) (hc : Plain.isLetter c = true) (h : 2 + (c :: r).length < l.length) :
    endA (c :: r) l = ([60, 47].isPrefixOf l && ((Plain.fold ((l.drop 2).take (c :: r).length) == Plain.fold (c :: r)) && inEnd l[2 + (c :: r).length])) := by
  have e1 : l.drop (2 + (c :: r).length) = l[2 + (c :: r).length] :: l.drop (2 + (c :: r).length + 1) := List.drop_eq_getElem_cons h
  have e2 : begF ([60, 47] ++ Plain.fold (c :: r)) l = ([60, 47].isPrefixOf l && (Plain.fold ((l.drop 2).take (c :: r).length) == Plain.fold (c :: r))) := by
    rw [begF_app, open_fix, begF_take (Plain.fold (c :: r)), Plain.fold_length, decide_eq_true (show (c :: r).length ≤ (l.drop ([60, 47] : List UInt8).length).length by rw [List.length_drop]; simp at h ⊢; omega), Bool.true_and]
    rfl
  unfold endA
  rw [e1, e2]
  simp only
  cases h2 : ([60, 47].isPrefixOf l && (Plain.fold ((l.drop 2).take (c :: r).length) == Plain.fold (c :: r)))
  · rw [← Bool.and_assoc ([60, 47].isPrefixOf l), h2, Bool.false_and, Bool.and_false]
  · have ht : Plain.atTag l = true := by
      rw [Bool.and_eq_true] at h2
      obtain ⟨x, rfl⟩ := prefix_split _ _ h2.1
      have h3 := beq_iff_eq.1 h2.2
      match x with
      | [] =>
        simp at h
        omega
      | d :: y =>
        have h4 : Plain.foldB d = Plain.foldB c := by
          have := congrArg List.head? h3
          simpa [Plain.fold] using this
        have h5 := letter_fold d
        rw [h4, letter_fold c, hc] at h5
        unfold Plain.atTag
        simp [← h5]
    rw [ht, Bool.true_and, Bool.true_and, ← Bool.and_assoc ([60, 47].isPrefixOf l), h2, Bool.true_and]
end Go.Proofs.YtgelgfgcdfnacaaDoor
