/-
  Plain facts on tokens, of no program: what the laws' made remarks and ends are read as. No conditions.
-/
import Derived.Test.YtgelgfgcdfnacaaDoorXDoc
namespace Go.Proofs.YtgelgfgcdfnacaaDoor

/-- A remark's text: no two strokes, no sign at its beginning that ends it, no stroke at its end. -/
structure NoteOk (v : List UInt8) : Prop where
  two : idxI [45, 45] v 0 = -1
  gt : [62].isPrefixOf v = false
  dash : [45, 62].isPrefixOf v = false
  last : ∀ c, v.getLast? = some c → c ≠ 45
def noteEnds : List (List UInt8) := [[45, 45, 62], [45, 45, 33, 62]]
theorem ends_no (m : List UInt8) (h : [45, 45].isPrefixOf m = false) : noteEnds.find? (fun e => e.isPrefixOf m) = none := by
  have h1 : [45, 45, 62].isPrefixOf m = false := prefix_more [45, 45] [62] m h
  have h2 : [45, 45, 33, 62].isPrefixOf m = false := prefix_more [45, 45] [33, 62] m h
  unfold noteEnds
  rw [List.find?_cons_of_neg (by rw [h1]; decide), List.find?_cons_of_neg (by rw [h2]; decide), List.find?_nil]
theorem note_no (v t : List UInt8) (h : NoteOk v) (j : Nat) (hj : j < v.length) : [45, 45].isPrefixOf (v.drop j ++ 45 :: t) = false := by
  have h0 := idx_none _ _ h.two j hj
  have hl : 0 < (v.drop j).length := by rw [List.length_drop]; omega
  match hu : v.drop j, hl with
  | [c], _ =>
    have hc : c ≠ 45 := by
      refine h.last c ?_
      have e : v = v.take j ++ [c] := by rw [← hu, List.take_append_drop]
      rw [e]
      simp
    simp [List.isPrefixOf]
    exact fun q => hc q.symm
  | c :: d :: r, _ =>
    rw [hu] at h0
    simpa [List.isPrefixOf] using h0
theorem note_up (v t e : List UInt8) (h : NoteOk v) (he : noteEnds.find? (fun e => e.isPrefixOf (45 :: t)) = some e) : upL noteEnds ([60, 33, 45, 45] ++ v ++ 45 :: t) 4 = (4 + v.length, 4 + v.length + e.length) := by
  refine up_first _ _ e _ (by simp; omega) ?_ _ 4 rfl (by omega) ?_
  · rw [drop_mid [60, 33, 45, 45] v _ _ (by simp) (by simp), show 4 + v.length - ([60, 33, 45, 45] : List UInt8).length = v.length by simp, List.drop_length]
    exact he
  · intro i h1 h2
    rw [drop_mid [60, 33, 45, 45] v _ i (by simp; omega) (by simp; omega)]
    exact ends_no _ (note_no v t h _ (by simp; omega))
theorem note_remark (v t e : List UInt8) (h : NoteOk v) (he : noteEnds.find? (fun e => e.isPrefixOf (45 :: t)) = some e) (h45 : [45].isPrefixOf t = true) : remarkT ([60, 33, 45, 45] ++ v ++ 45 :: t) 4 = (noteT (Plain.clear v), 4 + v.length + e.length) := by
  obtain ⟨t', rfl⟩ := prefix_split _ _ h45
  have hd : ([60, 33, 45, 45] ++ v ++ 45 :: ([45] ++ t')).drop 4 = v ++ 45 :: ([45] ++ t') := by
    rw [drop_mid [60, 33, 45, 45] v _ 4 (by simp) (by simp)]
    rfl
  have h1 : [45, 62].isPrefixOf (v ++ 45 :: ([45] ++ t')) = false := by
    match v, h with
    | [], _ => rfl
    | [c], h =>
      simp [List.isPrefixOf]
    | c :: d :: r, h =>
      have := h.dash
      simpa [List.isPrefixOf] using this
  have h2 : [62].isPrefixOf (v ++ 45 :: ([45] ++ t')) = false := by
    match v, h with
    | [], _ => rfl
    | c :: r, h =>
      have := h.gt
      simpa [List.isPrefixOf] using this
  unfold remarkT
  rw [hd, if_neg (by rw [h1]; decide), if_neg (by rw [h2]; decide)]
  unfold noteTo
  have hu := note_up v _ e h he
  unfold noteEnds at hu
  rw [hu]
  simp only
  rw [show (4 : Nat) = ([60, 33, 45, 45] : List UInt8).length from rfl, mid_mid]
theorem all_x : allT [120] 0 [] 0 = [textT [120], ⟨5, [], [], false, []⟩] := by rfl
theorem remark_data (v : List UInt8) (h : NoteOk v) : allT ([60, 33, 45, 45] ++ v ++ [45, 45, 62, 120]) 0 [] 0 = [noteT (Plain.clear v), textT [120], ⟨5, [], [], false, []⟩] := by
  have hn : nextT ([60, 33, 45, 45] ++ v ++ [45, 45, 62, 120]) 0 0 [] = (noteT (Plain.clear v), 4 + v.length + 3) := by
    rw [case_remark _ 0 0 [] (by simp) (Or.inl rfl) (by rw [List.drop_zero, List.append_assoc]; rfl)]
    exact note_remark v [45, 62, 120] [45, 45, 62] h rfl rfl
  rw [allT_step _ _ _ _ (by rw [hn]; simp [noteT]), hn]
  simp only
  have e : [60, 33, 45, 45] ++ v ++ [45, 45, 62, 120] = ([60, 33, 45, 45] ++ v ++ [45, 45, 62]) ++ [120] := by simp
  rw [e, show 4 + v.length + 3 = ([60, 33, 45, 45] ++ v ++ [45, 45, 62]).length + 0 by simp; omega, sh_all _ [120] [] 0 (Nat.zero_le _), all_x]
theorem all_end (l : List UInt8) (st : Nat) (last : List UInt8) (k : Nat) (h : l.length ≤ k) : allT l st last k = [⟨5, [], [], false, []⟩] := by
  have hn : nextT l k st last = stopT l := by unfold nextT; rw [if_pos h]
  rw [allT_stop _ _ _ _ (by rw [hn]; rfl), hn]
  rfl
theorem remark_deep (v : List UInt8) (h : NoteOk v) : allT ([60, 33, 45, 45] ++ v ++ [45, 45, 33, 62]) 4 [] 0 = [noteT (Plain.clear v), ⟨5, [], [], false, []⟩] := by
  have hn : nextT ([60, 33, 45, 45] ++ v ++ [45, 45, 33, 62]) 0 4 [] = (noteT (Plain.clear v), 4 + v.length + 4) := by
    rw [case_remark _ 0 4 [] (by simp) (Or.inr rfl) (by rw [List.drop_zero, List.append_assoc]; rfl)]
    exact note_remark v [45, 33, 62] [45, 45, 33, 62] h rfl rfl
  rw [allT_step _ _ _ _ (by rw [hn]; simp [noteT]), hn]
  simp only
  rw [all_end _ _ _ _ (by simp; omega)]
theorem clear_cons (c : UInt8) (l : List UInt8) (h : c.toNat ≠ 0) : Plain.clear (c :: l) = c :: Plain.clear l := by
  unfold Plain.clear
  rw [List.flatMap_cons, if_neg h]
  rfl
theorem ask_data (v : List UInt8) (h : (62 : UInt8) ∉ v) : allT ([60, 63] ++ v ++ [62, 120]) 0 [] 0 = [noteT (63 :: Plain.clear v), textT [120], ⟨5, [], [], false, []⟩] := by
  have hn : nextT ([60, 63] ++ v ++ [62, 120]) 0 0 [] = (noteT (63 :: Plain.clear v), 2 + v.length + 1) := by
    rw [case_ask _ 0 0 [] (by simp) (Or.inl rfl) (by rw [List.drop_zero, List.append_assoc]; rfl)]
    unfold noteTo
    have hu := up_none 62 ([60, 63] ++ v) [120] (by simp; exact h) 1 (by simp)
    rw [show 0 + 1 = 1 from rfl, hu]
    simp only
    have hm : mid ([60, 63] ++ v ++ [62, 120]) 1 ([60, 63] ++ v).length = 63 :: v := by
      have := mid_mid [60] (63 :: v) [62, 120]
      rw [show [60] ++ 63 :: v ++ [62, 120] = [60, 63] ++ v ++ [62, 120] by simp] at this
      have e2 : ([60, 63] ++ v : List UInt8).length = ([60] : List UInt8).length + (63 :: v).length := by simp; omega
      rw [e2]
      exact this
    rw [hm, clear_cons 63 v (by decide)]
    simp
    omega
  rw [allT_step _ _ _ _ (by rw [hn]; simp [noteT]), hn]
  simp only
  have e : [60, 63] ++ v ++ [62, 120] = ([60, 63] ++ v ++ [62]) ++ [120] := by simp
  rw [e, show 2 + v.length + 1 = ([60, 63] ++ v ++ [62]).length + 0 by simp; omega, sh_all _ [120] [] 0 (Nat.zero_le _), all_x]

/- An end. -/
/-- The names of the law. -/
def rnames : List (List UInt8) := [[115, 116, 121, 108, 101], [115, 99, 114, 105, 112, 116], [120, 109, 112], [116, 101, 120, 116, 97, 114, 101, 97], [116, 105, 116, 108, 101]]
theorem rnames_ok : ∀ j, j < 5 → (Plain.fold (rnames.getD j []) = rnames.getD j [] ∧ (rnames.getD j []).length ≤ 10 ∧ (60 : UInt8) ∉ rnames.getD j [] ∧ endA (rnames.getD j []) ([60, 47] ++ rnames.getD j [] ++ [32, 62]) = true ∧ endA (rnames.getD j []) ([60, 47] ++ rnames.getD j [] ++ [62]) = true) := by decide +kernel
theorem rnames_read : ∀ j, j < 5 → readL ([60, 47] ++ rnames.getD j [] ++ [32, 62]) 0 = (⟨2, rnames.getD j [], [], false, []⟩, (rnames.getD j []).length + 4) := by
  intro j hj
  rcases (show j = 0 ∨ j = 1 ∨ j = 2 ∨ j = 3 ∨ j = 4 by omega) with rfl | rfl | rfl | rfl | rfl <;> rfl
theorem prefix_get (a m : List UInt8) (h : a.isPrefixOf m = true) (i : Nat) (hi : i < a.length) : m[i]? = some a[i] := by
  obtain ⟨r, rfl⟩ := prefix_split _ _ h
  rw [List.getElem?_append_left hi, List.getElem?_eq_getElem hi]
/-- No end stands ahead of the one that was put behind, nor within. -/
theorem end_ahead (nm v t : List UInt8) (h60 : (60 : UInt8) ∉ nm) (hf : Plain.fold nm = nm) (h : idxI ([60, 47] ++ nm) (Plain.fold v) 0 = -1) (ht : t = [] ∨ ∃ r, t = 60 :: r) (i : Nat) (hi : i < v.length) : endA nm ((v ++ t).drop i) = false := by
  cases hb : begF ([60, 47] ++ Plain.fold nm) ((v ++ t).drop i)
  · unfold endA
    rw [hb, Bool.false_and, Bool.and_false]
  · exfalso
    rw [hf] at hb
    rw [List.drop_append, show i - v.length = 0 by omega, List.drop_zero] at hb
    unfold begF at hb
    have hfa : Plain.fold (v.drop i ++ t) = (Plain.fold v).drop i ++ Plain.fold t := by
      unfold Plain.fold
      rw [List.map_append, List.map_drop]
    rw [hfa] at hb
    have hno := idx_none _ _ h i (by rw [Plain.fold_length]; exact hi)
    have hlen : ((Plain.fold v).drop i).length = v.length - i := by rw [List.length_drop, Plain.fold_length]
    by_cases hl : ([60, 47] ++ nm).length ≤ ((Plain.fold v).drop i).length
    · have : ([60, 47] ++ nm).isPrefixOf ((Plain.fold v).drop i) = true := by
        obtain ⟨r, hr⟩ := prefix_split _ _ hb
        rw [List.isPrefixOf_iff_prefix, List.prefix_iff_eq_take]
        have := congrArg (List.take ([60, 47] ++ nm).length) hr
        rw [List.take_append_of_le_length hl, List.take_left] at this
        exact this.symm
      rw [hno] at this
      cases this
    · have hl2 : v.length - i < ([60, 47] ++ nm).length := by omega
      have hg := prefix_get _ _ hb (v.length - i) hl2
      rw [List.getElem?_append_right (by omega), hlen, Nat.sub_self] at hg
      rcases ht with rfl | ⟨r, rfl⟩
      · simp [Plain.fold] at hg
      · have h0 : (Plain.fold (60 :: r))[0]? = some 60 := by rfl
        rw [h0] at hg
        have hq := Option.some.inj hg
        rw [List.getElem_append] at hq
        split at hq
        · rename_i h3
          have : v.length - i = 1 := by simp at h3; omega
          simp [this] at hq
        · rename_i h3
          exact h60 (hq ▸ List.getElem_mem _)
theorem endL_first (last l : List UInt8) (q : Nat) (hq : q ≤ l.length) (he : q < l.length → endA last (l.drop q) = true) : ∀ (m f : Nat), q - f = m → f ≤ q → (∀ i, f ≤ i → i < q → endA last (l.drop i) = false) → endL last l f = q
  | 0, f, hm, hf, _ => by
    have e : f = q := by omega
    subst e
    by_cases h : f < l.length
    · exact endL_hit last l f h (he h)
    · exact endL_end last l f (by omega)
  | m + 1, f, hm, hf, h => by
    rw [endL_miss last l f (by omega) (h f (Nat.le_refl _) (by omega))]
    exact endL_first last l q hq he m (f + 1) (by omega) (by omega) (fun i h1 h2 => h i (by omega) h2)
theorem rawend_at (j : Nat) (hj : j < 5) (v t : List UInt8) (h : idxI ([60, 47] ++ rnames.getD j []) (Plain.fold v) 0 = -1) (ht : t = [] ∨ (∃ r, t = 60 :: r) ∧ endA (rnames.getD j []) t = true) : endL (rnames.getD j []) (v ++ t) 0 = v.length := by
  obtain ⟨h1, h2, h3, _, _⟩ := rnames_ok j hj
  refine endL_first _ _ _ (by simp) ?_ _ 0 rfl (Nat.zero_le _) (fun i _ hi => end_ahead _ v t h3 h1 h ?_ i hi)
  · intro hlt
    rw [List.drop_left]
    rcases ht with rfl | ⟨_, he⟩
    · simp at hlt
    · exact he
  · rcases ht with rfl | ⟨hr, _⟩
    · exact Or.inl rfl
    · exact Or.inr hr
theorem raw_all (j : Nat) (hj : j < 5) (v : List UInt8) (hv : v ≠ []) (h : idxI ([60, 47] ++ rnames.getD j []) (Plain.fold v) 0 = -1) : allT (v ++ ([60, 47] ++ rnames.getD j [] ++ [32, 62])) 2 (rnames.getD j []) 0 = [textT (Plain.clear v), ⟨2, rnames.getD j [], [], false, []⟩, ⟨5, [], [], false, []⟩] := by
  obtain ⟨h1, h2, h3, h4, h5⟩ := rnames_ok j hj
  have hlv : 0 < v.length := List.length_pos_iff.2 hv
  have hE := rawend_at j hj v ([60, 47] ++ rnames.getD j [] ++ [32, 62]) h (Or.inr ⟨⟨_, rfl⟩, h4⟩)
  have hR := rnames_read j hj
  generalize rnames.getD j [] = nm at *
  have hn : nextT (v ++ ([60, 47] ++ nm ++ [32, 62])) 0 2 nm = (textT (Plain.clear v), v.length) := by
    unfold nextT
    rw [if_neg (by simp), if_neg (by omega), if_pos (Or.inr rfl)]
    unfold closedT
    rw [hE, if_neg (by omega)]
    unfold insideT mid
    rw [if_neg (by omega), List.drop_zero, List.take_left]
  have hat : Plain.atTag (([60, 47] ++ nm ++ [32, 62]).drop 0) = true := endA_tag _ _ (by rw [List.drop_zero]; exact h4)
  have hn2 : nextT (v ++ ([60, 47] ++ nm ++ [32, 62])) v.length 2 nm = (⟨2, nm, [], false, []⟩, v.length + (nm.length + 4)) := by
    unfold nextT
    rw [if_neg (by simp), if_neg (by omega), if_pos (Or.inr rfl)]
    unfold closedT
    rw [endL_hit nm _ v.length (by simp) (by rw [List.drop_left]; exact h4), if_pos rfl]
    have := sh_read v ([60, 47] ++ nm ++ [32, 62]) 0 hat
    rw [Nat.add_zero] at this
    rw [this, hR]
    rfl
  rw [allT_step _ _ _ _ (by rw [hn]; simp [textT]), hn]
  simp only
  rw [allT_step _ _ _ _ (by rw [hn2]; simp), hn2]
  simp only
  rw [all_end _ _ _ _ (by simp)]
theorem raw_next (j : Nat) (hj : j < 5) (v : List UInt8) (hv : v ≠ []) (h : idxI ([60, 47] ++ rnames.getD j []) (Plain.fold v) 0 = -1) : ∃ x, nextT (v ++ ([60, 47] ++ rnames.getD j [] ++ [62])) 0 1 (rnames.getD j []) = (textT x, v.length) := by
  obtain ⟨h1, h2, h3, h4, h5⟩ := rnames_ok j hj
  have hlv : 0 < v.length := List.length_pos_iff.2 hv
  have hE := rawend_at j hj v ([60, 47] ++ rnames.getD j [] ++ [62]) h (Or.inr ⟨⟨_, rfl⟩, h5⟩)
  generalize rnames.getD j [] = nm at *
  refine ⟨insideT 1 (mid (v ++ ([60, 47] ++ nm ++ [62])) 0 v.length), ?_⟩
  unfold nextT
  rw [if_neg (by simp), if_neg (by omega), if_pos (Or.inl rfl)]
  unfold closedT
  rw [hE, if_neg (by omega)]
theorem raw_whole (j : Nat) (hj : j < 5) (v : List UInt8) (hv : v ≠ []) (h : idxI ([60, 47] ++ rnames.getD j []) (Plain.fold v) 0 = -1) : nextT v 0 2 (rnames.getD j []) = (textT (Plain.clear v), v.length) := by
  have hlv : 0 < v.length := List.length_pos_iff.2 hv
  have hE := rawend_at j hj v [] h (Or.inl rfl)
  rw [List.append_nil] at hE
  generalize rnames.getD j [] = nm at *
  unfold nextT
  rw [if_neg (by omega), if_neg (by omega), if_pos (Or.inr rfl)]
  unfold closedT
  rw [hE, if_neg (by omega)]
  unfold insideT mid
  rw [if_neg (by omega), List.drop_zero, List.take_length]
end Go.Proofs.YtgelgfgcdfnacaaDoor
