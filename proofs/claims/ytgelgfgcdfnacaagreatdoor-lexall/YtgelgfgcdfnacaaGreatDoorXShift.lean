/-
  Plain facts on tokens, of no program: what stands behind other text is read as by itself. No conditions.
-/
import Derived.Test.YtgelgfgcdfnacaaGreatDoorXCases
namespace Go.Proofs.YtgelgfgcdfnacaaGreatDoor

theorem sh_drop (p l : List UInt8) (q : Nat) : (p ++ l).drop (p.length + q) = l.drop q := by
  rw [List.drop_append, List.drop_eq_nil_of_le (by omega), List.nil_append]
  congr 1
  omega
theorem sh_getD (p l : List UInt8) (q : Nat) : (p ++ l).getD (p.length + q) 0 = l.getD q 0 := by
  rw [List.getD_eq_getElem?_getD, List.getD_eq_getElem?_getD, List.getElem?_append_right (by omega)]
  congr 2
  omega
theorem sh_mid (p l : List UInt8) (a b : Nat) : ((p ++ l).take (p.length + b)).drop (p.length + a) = (l.take b).drop a := by
  rw [List.drop_take, List.drop_take, sh_drop]
  congr 1
  omega
theorem sh_findB (c : UInt8) (p l : List UInt8) (f : Nat) : Plain.findB c (p ++ l) (p.length + f) = (Plain.findB c l f).map (p.length + ·) := by
  unfold Plain.findB
  rw [sh_drop]
  split
  · simp only [Option.map_some]
    congr 1
    omega
  · rfl
theorem sh_value (p l : List UInt8) (q : Nat) : Plain.valueAt (p ++ l) (p.length + q) = ((Plain.valueAt l q).1, p.length + (Plain.valueAt l q).2) := by
  unfold Plain.valueAt
  rw [sh_getD, sh_drop, show p.length + q + 1 = p.length + (q + 1) by omega, sh_findB, List.length_append]
  by_cases h1 : l.length ≤ q ∨ (l.getD q 0).toNat = 62
  · rw [if_pos h1, if_pos (by omega)]
  · rw [if_neg h1, if_neg (by omega)]
    by_cases h2 : (l.getD q 0).toNat = 34 ∨ (l.getD q 0).toNat = 39
    · rw [if_pos h2, if_pos h2]
      cases Plain.findB (l.getD q 0) l (q + 1) with
      | none => rfl
      | some n =>
        simp only [Option.map_some]
        rw [sh_mid]
        rfl
    · rw [if_neg h2, if_neg h2]
      simp only [Nat.add_assoc]
theorem sh_rest (p l : List UInt8) (q : Nat) : Plain.restAt (p ++ l) (p.length + q) = ((Plain.restAt l q).1, p.length + (Plain.restAt l q).2) := by
  unfold Plain.restAt
  rw [sh_getD, List.length_append, show p.length + q + 1 = p.length + (q + 1) by omega, sh_drop]
  by_cases h1 : l.length ≤ q ∨ (l.getD q 0).toNat ≠ 61
  · rw [if_pos h1, if_pos (by omega)]
  · rw [if_neg h1, if_neg (by omega), Nat.add_assoc, sh_value]
theorem sh_attrEnd (p l : List UInt8) (q : Nat) : Plain.attrEnd (p ++ l) (p.length + q) = p.length + Plain.attrEnd l q := by
  unfold Plain.attrEnd
  rw [show p.length + q + 1 = p.length + (q + 1) by omega, sh_drop]
  omega
theorem sh_attr (p l : List UInt8) (q : Nat) : Plain.attrAt (p ++ l) (p.length + q) = ((Plain.attrAt l q).1, p.length + (Plain.attrAt l q).2) := by
  unfold Plain.attrAt
  simp only
  rw [sh_attrEnd, sh_mid, sh_drop, Nat.add_assoc, sh_rest]
theorem sh_gapN (p l : List UInt8) (q : Nat) : Plain.gapN (p ++ l) (p.length + q) = Plain.gapN l q := by
  unfold Plain.gapN
  rw [sh_drop]
theorem sh_slash (p l : List UInt8) (q : Nat) : Plain.slashAt (p ++ l) (p.length + q) = Plain.slashAt l q := by
  unfold Plain.slashAt
  rw [sh_gapN]
  by_cases h : 0 < Plain.gapN l q
  · rw [show p.length + q + Plain.gapN l q - 1 = p.length + (q + Plain.gapN l q - 1) by omega, sh_getD]
  · rw [decide_eq_false h, Bool.false_and, Bool.false_and]
theorem sh_readR (st : Bool) (p l : List UInt8) : ∀ (f q : Nat) (qs : List (List UInt8 × List UInt8)), Plain.readR st (p ++ l) f (p.length + q) qs = ((Plain.readR st l f q qs).1, p.length + (Plain.readR st l f q qs).2)
  | 0, _, _ => by
    unfold Plain.readR
    rw [List.length_append]
  | f + 1, q, qs => by
    rw [Plain.readR, Plain.readR, sh_gapN, sh_slash, Nat.add_assoc, sh_getD, sh_attr, List.length_append]
    by_cases h1 : l.length ≤ q + Plain.gapN l q
    · rw [if_pos h1, if_pos (by omega)]
    · rw [if_neg h1, if_neg (by omega)]
      by_cases h2 : (l.getD (q + Plain.gapN l q) 0).toNat = 62
      · rw [if_pos h2, if_pos h2]
        simp only [Nat.add_assoc]
      · rw [if_neg h2, if_neg h2]
        exact sh_readR st p l f _ _
theorem sh_readT (st : Bool) (p l : List UInt8) (q : Nat) (qs : List (List UInt8 × List UInt8)) (hq : q ≤ l.length) : Plain.readT st (p ++ l) (p.length + q) qs = ((Plain.readT st l q qs).1, p.length + (Plain.readT st l q qs).2) := by
  unfold Plain.readT
  rw [Plain.readR_fuel st (p ++ l) ((p ++ l).length + 1) (l.length + 1) _ _ (by omega) (by rw [List.length_append]; omega) (by rw [List.length_append]; omega)]
  exact sh_readR st p l _ _ _
theorem sh_start (p l : List UInt8) (k : Nat) : Plain.tagStart (p ++ l) (p.length + k) = Plain.tagStart l k := by
  unfold Plain.tagStart
  rw [Nat.add_assoc, sh_getD]
theorem sh_name (p l : List UInt8) (k : Nat) : Plain.tagName (p ++ l) (p.length + k) = p.length + Plain.tagName l k := by
  unfold Plain.tagName
  rw [sh_start]
  split <;> omega
theorem sh_nameEnd (p l : List UInt8) (k : Nat) : Plain.nameEnd (p ++ l) (p.length + k) = p.length + Plain.nameEnd l k := by
  unfold Plain.nameEnd
  rw [sh_drop]
  omega
theorem sh_tag (p l : List UInt8) (k : Nat) (h : Plain.atTag (l.drop k) = true) : tagT (p ++ l) (p.length + k) = { tagT l k with behind := p.length + (tagT l k).behind } := by
  have hn := tagName_in l k h
  have he := nameEnd_len l _ hn.2
  unfold tagT tagRd tagKd tagNm
  rw [sh_start, sh_name, sh_nameEnd, sh_mid, sh_readT _ p l _ _ he.2]
  generalize Plain.readT (Plain.tagStart l k) l (Plain.nameEnd l (Plain.tagName l k)) [] = R
  obtain ⟨r, n⟩ := R
  cases r with
  | none => rfl
  | some r => rfl
/-- The place behind moved. -/
def sh (n : Nat) (t : Tok × Nat) : Tok × Nat := (t.1, n + t.2)
theorem sh_stop (p l : List UInt8) : stopT (p ++ l) = sh p.length (stopT l) := by
  unfold stopT sh
  rw [List.length_append]
theorem sh_read (p l : List UInt8) (k : Nat) (h : Plain.atTag (l.drop k) = true) : readL (p ++ l) (p.length + k) = sh p.length (readL l k) := by
  unfold readL
  rw [sh_tag p l k h]
  simp only
  split
  · exact sh_stop p l
  · rfl
theorem sh_up (ends : List (List UInt8)) (p l : List UInt8) (f : Nat) : upL ends (p ++ l) (p.length + f) = (p.length + (upL ends l f).1, p.length + (upL ends l f).2) := by
  unfold upL
  rw [sh_drop]
  split
  · rw [List.length_append]
  · simp only [Nat.add_assoc]
theorem sh_noteTo (ends : List (List UInt8)) (p l : List UInt8) (f : Nat) : noteTo ends (p ++ l) (p.length + f) = sh p.length (noteTo ends l f) := by
  unfold noteTo mid
  rw [sh_up]
  simp only
  rw [sh_mid]
  rfl
theorem sh_remark (p l : List UInt8) (f : Nat) : remarkT (p ++ l) (p.length + f) = sh p.length (remarkT l f) := by
  unfold remarkT
  rw [sh_drop, sh_noteTo]
  split
  · rfl
  · split
    · rfl
    · rfl
theorem sh_data (p l : List UInt8) (k : Nat) : dataT (p ++ l) (p.length + k) = sh p.length (dataT l k) := by
  unfold dataT mid
  rw [sh_drop, List.length_append, sh_stop, Nat.add_assoc p.length k 4, Nat.add_assoc p.length k 2, Nat.add_assoc p.length k 1, sh_remark, sh_noteTo, sh_noteTo, sh_up]
  simp only
  rw [sh_mid, show decide (p.length + (k + 2) < p.length + l.length) = decide (k + 2 < l.length) from decide_eq_decide.2 (by omega)]
  by_cases h1 : l.length ≤ k
  · rw [if_pos h1, if_pos (by omega)]
  · rw [if_neg h1, if_neg (by omega)]
    by_cases h2 : Plain.atTag (l.drop k) = true
    · rw [if_pos h2, if_pos h2, sh_read p l k h2]
    · rw [if_neg h2, if_neg h2]
      split
      · rfl
      · split
        · rfl
        · split
          · rfl
          · rfl
theorem sh_muteN (p l : List UInt8) (k : Nat) : muteN (p ++ l) (p.length + k) = (muteN l k).map (p.length + ·) := by
  unfold muteN
  rw [sh_drop, sh_up]
  split
  · rfl
  · split
    · rfl
    · rfl
theorem sh_muted (p l : List UInt8) : ∀ (f k : Nat), muted (p ++ l) f (p.length + k) = p.length + muted l f k
  | 0, _ => rfl
  | f + 1, k => by
    rw [muted, muted, sh_muteN]
    cases muteN l k with
    | none => rfl
    | some q => exact sh_muted p l f q
theorem sh_mute (p l : List UInt8) (k : Nat) (hk : k ≤ l.length) : mute (p ++ l) (p.length + k) = p.length + mute l k := by
  unfold mute
  rw [muted_fuel (p ++ l) ((p ++ l).length + 1) (l.length + 1) _ (by omega) (by rw [List.length_append]; omega) (by rw [List.length_append]; omega)]
  exact sh_muted p l _ _
theorem sh_next (p l : List UInt8) (k : Nat) (last : List UInt8) (hk : k ≤ l.length) : nextT (p ++ l) (p.length + k) 0 last = sh p.length (nextT l k 0 last) := by
  by_cases h : l.length ≤ k
  · have e1 : nextT l k 0 last = stopT l := by unfold nextT; rw [if_pos h]
    have e2 : nextT (p ++ l) (p.length + k) 0 last = stopT (p ++ l) := by unfold nextT; rw [if_pos (by rw [List.length_append]; omega)]
    rw [e1, e2, sh_stop]
  · rw [next_at (p ++ l) _ 0 last (by rw [List.length_append]; omega) (Or.inl rfl), next_at l k 0 last (by omega) (Or.inl rfl), if_neg (by simp), if_neg (by simp), sh_mute p l k hk, sh_data]
theorem sh_allN (p l : List UInt8) (last : List UInt8) : ∀ (f k : Nat), k ≤ l.length → allN (p ++ l) 0 last f (p.length + k) = allN l 0 last f k
  | 0, _, _ => rfl
  | f + 1, k, hk => by
    rw [allN, allN, sh_next p l k last hk]
    show (if (nextT l k 0 last).1.kind = 5 then _ else _) = _
    split
    · rfl
    · rename_i h5
      rcases goes_next l k 0 last with h | h
      · exact absurd h.1 h5
      · show _ :: allN (p ++ l) 0 last f (p.length + (nextT l k 0 last).2) = _
        rw [sh_allN p l last f _ h.2.2.2]
        rfl
theorem sh_all (p l : List UInt8) (last : List UInt8) (k : Nat) (hk : k ≤ l.length) : allT (p ++ l) 0 last (p.length + k) = allT l 0 last k := by
  unfold allT
  rw [allN_fuel (p ++ l) 0 last ((p ++ l).length + 1) (l.length + 1) _ (by omega) (by rw [List.length_append]; omega) (by rw [List.length_append]; omega)]
  exact sh_allN p l last _ k hk
theorem up_none (c : UInt8) (a b : List UInt8) (h : c ∉ a) : ∀ f, f ≤ a.length → upL [[c]] (a ++ c :: b) f = (a.length, a.length + 1) := by
  intro f hf
  obtain ⟨m, hm⟩ : ∃ m, a.length - f = m := ⟨_, rfl⟩
  induction m generalizing f with
  | zero =>
    have e : f = a.length := by omega
    subst e
    refine (upL_hit _ _ _ (by simp) [c] ?_).trans rfl
    rw [List.drop_left, List.find?_cons_of_pos (by simp [List.isPrefixOf])]
  | succ m ih =>
    have hlt : f < a.length := by omega
    rw [up_skip c (a ++ c :: b) f (by simp; omega) (by rw [List.getElem_append_left hlt]; exact fun q => h (q ▸ List.getElem_mem hlt))]
    exact ih (f + 1) (by omega) (by omega)
/-- A document's type ahead is passed. -/
theorem all_type (d v s last : List UInt8) (hd : begF doctype d = true) (h62 : 62 ∉ d ++ v) : allT (d ++ v ++ 62 :: s) 0 last 0 = allT s 0 last 0 := by
  have hb : begF doctype ((d ++ v ++ 62 :: s).drop 0) = true := by
    rw [List.drop_zero, List.append_assoc]
    obtain ⟨r, hr⟩ := prefix_split _ _ hd
    unfold begF
    rw [show Plain.fold (d ++ (v ++ 62 :: s)) = Plain.fold d ++ Plain.fold (v ++ 62 :: s) from List.map_append, hr, List.append_assoc]
    rw [List.isPrefixOf_iff_prefix]
    exact List.prefix_append _ _
  have hm : muteN (d ++ v ++ 62 :: s) 0 = some ((d ++ v).length + 1) := by
    unfold muteN
    rw [if_pos hb, up_none 62 (d ++ v) s h62 0 (Nat.zero_le _)]
  have hn := next_mute (d ++ v ++ 62 :: s) 0 _ 0 last (by simp; omega) (Or.inl rfl) hm
  have e : d ++ v ++ 62 :: s = (d ++ v ++ [62]) ++ s := by simp
  have hl : (d ++ v).length + 1 = (d ++ v ++ [62]).length + 0 := by simp; omega
  have h1 : allT (d ++ v ++ 62 :: s) 0 last 0 = allT (d ++ v ++ 62 :: s) 0 last ((d ++ v).length + 1) := by
    by_cases h5 : (nextT (d ++ v ++ 62 :: s) 0 0 last).1.kind = 5
    · rw [allT_stop _ _ _ _ h5, hn, allT_stop _ _ _ _ (by rw [← hn]; exact h5)]
    · rw [allT_step _ _ _ _ h5, hn, allT_step _ _ _ ((d ++ v).length + 1) (by rw [← hn]; exact h5)]
  rw [h1, e, hl, sh_all _ s last 0 (Nat.zero_le _)]
end Go.Proofs.YtgelgfgcdfnacaaGreatDoor
