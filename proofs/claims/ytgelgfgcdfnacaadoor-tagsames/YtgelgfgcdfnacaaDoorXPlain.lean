/-
  Plain facts on lists of bytes, of no program: tokens. No conditions.
-/
import Derived.Test.YtgelgfgcdfnacaaDoorULawC
namespace Go.Proofs.YtgelgfgcdfnacaaDoor

/-- How far the first of some ends stands, and how long it is. -/
def upA (ends : List (List UInt8)) : List UInt8 → Option (Nat × Nat)
  | [] => none
  | c :: r => match ends.find? (fun e => e.isPrefixOf (c :: r)) with
    | some e => some (0, e.length)
    | none => match upA ends r with
      | none => none
      | some (a, n) => some (a + 1, n)
/-- From a place on: where it stands, and the place behind it; none: the length, twice. -/
def upL (ends : List (List UInt8)) (l : List UInt8) (f : Nat) : Nat × Nat := match upA ends (l.drop f) with
  | none => (l.length, l.length)
  | some (a, n) => (f + a, f + a + n)
theorem upL_end (ends : List (List UInt8)) (l : List UInt8) (f : Nat) (h : l.length ≤ f) : upL ends l f = (l.length, l.length) := by
  unfold upL
  rw [List.drop_eq_nil_of_le h]
  rfl
theorem upL_hit (ends : List (List UInt8)) (l : List UInt8) (f : Nat) (hf : f < l.length) (e : List UInt8) (h : ends.find? (fun e => e.isPrefixOf (l.drop f)) = some e) : upL ends l f = (f, f + e.length) := by
  unfold upL
  rw [List.drop_eq_getElem_cons hf] at h ⊢
  rw [upA, h]
  rfl
theorem upL_miss (ends : List (List UInt8)) (l : List UInt8) (f : Nat) (hf : f < l.length) (h : ends.find? (fun e => e.isPrefixOf (l.drop f)) = none) : upL ends l f = upL ends l (f + 1) := by
  unfold upL
  rw [List.drop_eq_getElem_cons hf] at h ⊢
  rw [upA, h]
  simp only
  split
  · rename_i h1
    split at h1
    · rfl
    · cases h1
  · rename_i a n h1
    split at h1
    · cases h1
    · have := Option.some.inj h1
      injection this with e1 e2
      subst e1 e2
      congr 1 <;> omega
theorem prefix_len (a b : List UInt8) (h : a.isPrefixOf b = true) : a.length ≤ b.length := (List.isPrefixOf_iff_prefix.1 h).length_le
theorem upL_le (ends : List (List UInt8)) (l : List UInt8) : ∀ (m f : Nat), l.length - f = m → f ≤ l.length → f ≤ (upL ends l f).1 ∧ (upL ends l f).1 ≤ (upL ends l f).2 ∧ (upL ends l f).2 ≤ l.length
  | 0, f, hm, hf => by
    rw [upL_end _ _ _ (by omega)]
    exact ⟨hf, Nat.le_refl _, Nat.le_refl _⟩
  | m + 1, f, hm, hf => by
    cases h : ends.find? (fun e => e.isPrefixOf (l.drop f)) with
    | none =>
      rw [upL_miss _ _ _ (by omega) h]
      have := upL_le ends l m (f + 1) (by omega) (by omega)
      omega
    | some e =>
      rw [upL_hit _ _ _ (by omega) e h]
      have h2 := List.find?_some h
      have h1 := prefix_len _ _ h2
      rw [List.length_drop] at h1
      exact ⟨Nat.le_refl _, by simp, by simp; omega⟩
theorem up_le (ends : List (List UInt8)) (l : List UInt8) (f : Nat) (hf : f ≤ l.length) : f ≤ (upL ends l f).1 ∧ (upL ends l f).1 ≤ (upL ends l f).2 ∧ (upL ends l f).2 ≤ l.length := upL_le ends l _ f rfl hf

/-- Does a text begin so, by Fold? -/
def begF (w l : List UInt8) : Bool := w.isPrefixOf (Plain.fold l)
theorem begF_nil (l : List UInt8) : begF [] l = true := rfl
theorem fold_drop (l : List UInt8) (k : Nat) : Plain.fold (l.drop k) = (Plain.fold l).drop k := by unfold Plain.fold; rw [List.map_drop]
theorem prefix_app : ∀ (a b l : List UInt8), (a ++ b).isPrefixOf l = (a.isPrefixOf l && b.isPrefixOf (l.drop a.length))
  | [], b, l => by simp [List.isPrefixOf]
  | c :: r, b, [] => by simp [List.isPrefixOf]
  | c :: r, b, d :: m => by
    have := prefix_app r b m
    simp only [List.cons_append, List.isPrefixOf, List.length_cons, List.drop_succ_cons]
    rw [this, Bool.and_assoc]
theorem begF_app (a b l : List UInt8) : begF (a ++ b) l = (begF a l && begF b (l.drop a.length)) := by
  unfold begF
  rw [prefix_app, fold_drop]
theorem begF_short (w l : List UInt8) (h : l.length < w.length) : begF w l = false := by
  cases hb : begF w l
  · rfl
  · have := prefix_len _ _ hb
    rw [Plain.fold_length] at this
    omega
theorem begF_step (w l : List UInt8) (i : Nat) (h1 : i < w.length) (h2 : i < l.length) (he : Plain.foldB l[i] = w[i]) : begF (w.drop i) (l.drop i) = begF (w.drop (i + 1)) (l.drop (i + 1)) := by
  rw [List.drop_eq_getElem_cons h1, List.drop_eq_getElem_cons h2]
  unfold begF Plain.fold
  rw [List.map_cons, List.isPrefixOf, he, beq_self_eq_true, Bool.true_and]
theorem begF_no (w l : List UInt8) (i : Nat) (h1 : i < w.length) (h2 : i < l.length) (he : Plain.foldB l[i] ≠ w[i]) : begF (w.drop i) (l.drop i) = false := by
  rw [List.drop_eq_getElem_cons h1, List.drop_eq_getElem_cons h2]
  unfold begF Plain.fold
  rw [List.map_cons, List.isPrefixOf, beq_false_of_ne (fun q => he q.symm), Bool.false_and]

/-- A token. -/
structure Tok where
  kind : Int
  name : List UInt8
  attrs : List (List UInt8 × List UInt8)
  self : Bool
  text : List UInt8
def stopT (l : List UInt8) : Tok × Nat := (⟨5, [], [], false, []⟩, l.length)
def textT (x : List UInt8) : Tok := ⟨3, [], [], false, x⟩
def noteT (x : List UInt8) : Tok := ⟨4, [], [], false, x⟩
/-- tag.Read of a place where a tag begins. -/
def readL (l : List UInt8) (k : Nat) : Tok × Nat := if (tagT l k).kind = 0 then stopT l else (⟨(tagT l k).kind, (tagT l k).name, (tagT l k).attrs, (tagT l k).self, []⟩, (tagT l k).behind)
/-- A blank, a slash, a bigger sign. -/
def inEnd (c : UInt8) : Bool := decide (c.toNat = 47) || (decide (c.toNat = 62) || Plain.blankB c)
/-- Does the end of last stand here? -/
def endA (last l : List UInt8) : Bool := Plain.atTag l && (begF ([60, 47] ++ Plain.fold last) l && (match l.drop (2 + last.length) with | [] => false | c :: _ => inEnd c))
/-- How far it stands. -/
def endN (last : List UInt8) : List UInt8 → Nat
  | [] => 0
  | c :: r => if endA last (c :: r) then 0 else 1 + endN last r
def endL (last l : List UInt8) (k : Nat) : Nat := k + endN last (l.drop k)
theorem endN_le (last : List UInt8) : ∀ l, endN last l ≤ l.length
  | [] => Nat.le_refl _
  | c :: r => by
    have := endN_le last r
    rw [endN]
    split <;> simp; omega
theorem endL_le (last l : List UInt8) (k : Nat) (h : k ≤ l.length) : k ≤ endL last l k ∧ endL last l k ≤ l.length := by
  have := endN_le last (l.drop k)
  rw [List.length_drop] at this
  unfold endL
  omega
theorem endL_hit (last l : List UInt8) (k : Nat) (h : k < l.length) (he : endA last (l.drop k) = true) : endL last l k = k := by
  unfold endL
  rw [List.drop_eq_getElem_cons h] at he ⊢
  rw [endN, if_pos he, Nat.add_zero]
theorem endL_miss (last l : List UInt8) (k : Nat) (h : k < l.length) (he : endA last (l.drop k) = false) : endL last l k = endL last l (k + 1) := by
  unfold endL
  rw [List.drop_eq_getElem_cons h] at he ⊢
  rw [endN, if_neg (by rw [he]; decide)]
  omega
theorem endL_end (last l : List UInt8) (k : Nat) (h : l.length ≤ k) : endL last l k = k := by
  unfold endL
  rw [List.drop_eq_nil_of_le h]
  rfl
def mid (l : List UInt8) (a b : Nat) : List UInt8 := (l.take b).drop a
def insideT (state : Nat) (x : List UInt8) : List UInt8 := Plain.clear (if state = 1 then Plain.expand x false else x)
/-- Next of the states that only the tag of last ends. -/
def closedT (l : List UInt8) (k state : Nat) (last : List UInt8) : Tok × Nat :=
  if endL last l k = k then readL l k else (textT (insideT state (mid l k (endL last l k))), endL last l k)
def noteTo (ends : List (List UInt8)) (l : List UInt8) (f : Nat) : Tok × Nat := (noteT (Plain.clear (mid l f (upL ends l f).1)), (upL ends l f).2)
def remarkT (l : List UInt8) (f : Nat) : Tok × Nat :=
  if [45, 62].isPrefixOf (l.drop f) then (noteT [], f + 2)
  else if [62].isPrefixOf (l.drop f) then (noteT [], f + 1)
  else noteTo [[45, 45, 62], [45, 45, 33, 62]] l f
/-- Next of a place where nothing stands that is passed. -/
def dataT (l : List UInt8) (k : Nat) : Tok × Nat :=
  if l.length ≤ k then stopT l
  else if Plain.atTag (l.drop k) then readL l k
  else if [60, 33, 45, 45].isPrefixOf (l.drop k) then remarkT l (k + 4)
  else if [60, 33].isPrefixOf (l.drop k) || ([60, 47].isPrefixOf (l.drop k) && decide (k + 2 < l.length)) then noteTo [[62]] l (k + 2)
  else if [60, 63].isPrefixOf (l.drop k) then noteTo [[62]] l (k + 1)
  else (textT (Plain.expand (mid l k (upL [[60]] l (k + 1)).1) false), (upL [[60]] l (k + 1)).1)
def doctype : List UInt8 := [60, 33, 100, 111, 99, 116, 121, 112, 101]
def section_ : List UInt8 := [60, 33, 91, 67, 68, 65, 84, 65, 91]
/-- What is passed at a place. -/
def muteN (l : List UInt8) (k : Nat) : Option Nat :=
  if begF doctype (l.drop k) then some (upL [[62]] l k).2
  else if begF [60, 47, 62] (l.drop k) then some (k + 3) else none
theorem begF_len (w l : List UInt8) (h : begF w l = true) : w.length ≤ l.length := by
  have := prefix_len _ _ h
  rwa [Plain.fold_length] at this
theorem begF_cons (c d : UInt8) (w l : List UInt8) : begF (c :: w) (d :: l) = ((c == Plain.foldB d) && begF w l) := rfl
theorem isPrefix_drop (w l : List UInt8) (k : Nat) (h : w.isPrefixOf (l.drop k) = true) : k + w.length ≤ l.length ∨ w = [] := by
  have := prefix_len _ _ h
  rw [List.length_drop] at this
  cases w with
  | nil => exact Or.inr rfl
  | cons c r => left; simp at this ⊢; omega
theorem begF_first (w l : List UInt8) (k : Nat) (c : UInt8) (h : begF (c :: w) (l.drop k) = true) : ∃ hk : k < l.length, Plain.foldB l[k] = c := by
  by_cases hk : k < l.length
  · rw [List.drop_eq_getElem_cons hk, begF_cons, Bool.and_eq_true] at h
    exact ⟨hk, (beq_iff_eq.1 h.1).symm⟩
  · rw [List.drop_eq_nil_of_le (by omega)] at h
    simp [begF, Plain.fold] at h
theorem muteN_gt (l : List UInt8) (k q : Nat) (h : muteN l k = some q) : k < q ∧ q ≤ l.length := by
  unfold muteN at h
  split at h
  · rename_i hd
    have e := Option.some.inj h
    obtain ⟨hk, hf⟩ := begF_first _ l k 60 hd
    have hn : ([[62]] : List (List UInt8)).find? (fun e => e.isPrefixOf (l.drop k)) = none := by
      have h62 : l[k] ≠ 62 := by intro q; rw [q] at hf; exact absurd hf (by decide)
      rw [List.drop_eq_getElem_cons hk, List.find?_cons_of_neg (by simp only [List.isPrefixOf, Bool.and_true, beq_iff_eq]; exact fun q => h62 q.symm), List.find?_nil]
    rw [upL_miss _ _ _ hk hn] at e
    have := up_le [[62]] l (k + 1) (by omega)
    omega
  · split at h
    · rename_i hd
      have := begF_len _ _ hd
      rw [List.length_drop] at this
      have e := Option.some.inj h
      simp at this
      omega
    · cases h
/-- Behind all that is passed. -/
def muted (l : List UInt8) : Nat → Nat → Nat
  | 0, k => k
  | f + 1, k => match muteN l k with
    | none => k
    | some q => muted l f q
theorem muted_fuel (l : List UInt8) : ∀ (f g k : Nat), l.length + 1 ≤ f + k → l.length + 1 ≤ g + k → k ≤ l.length → muted l f k = muted l g k
  | 0, 0, _, _, _, _ => rfl
  | 0, g + 1, k, h1, _, h3 => by omega
  | f + 1, 0, k, _, h2, h3 => by omega
  | f + 1, g + 1, k, h1, h2, h3 => by
    rw [muted, muted]
    cases h : muteN l k with
    | none => rfl
    | some q =>
      have := muteN_gt l k q h
      exact muted_fuel l f g q (by omega) (by omega) (by omega)
def mute (l : List UInt8) (k : Nat) : Nat := muted l (l.length + 1) k
theorem mute_none (l : List UInt8) (k : Nat) (h : muteN l k = none) : mute l k = k := by
  unfold mute
  rw [muted, h]
theorem mute_some (l : List UInt8) (k q : Nat) (h : muteN l k = some q) : mute l k = mute l q := by
  unfold mute
  rw [muted, h]
  have := muteN_gt l k q h
  exact muted_fuel l _ _ q (by omega) (by omega) (by omega)
theorem mute_is (l : List UInt8) : ∀ (m k : Nat), l.length - k = m → k ≤ l.length → k ≤ mute l k ∧ mute l k ≤ l.length ∧ muteN l (mute l k) = none
  | m, k, hm, hk => by
    cases h : muteN l k with
    | none =>
      rw [mute_none l k h]
      exact ⟨Nat.le_refl _, hk, h⟩
    | some q =>
      have h1 := muteN_gt l k q h
      rw [mute_some l k q h]
      have := mute_is l (l.length - q) q rfl h1.2
      exact ⟨by omega, this.2⟩
  termination_by m => m
  decreasing_by omega
theorem mute_ok (l : List UInt8) (k : Nat) (hk : k ≤ l.length) : k ≤ mute l k ∧ mute l k ≤ l.length ∧ muteN l (mute l k) = none := mute_is l _ k rfl hk
/-- Next. -/
def nextT (l : List UInt8) (k state : Nat) (last : List UInt8) : Tok × Nat :=
  if l.length ≤ k then stopT l
  else if state = 3 then (textT (Plain.clear (l.drop k)), l.length)
  else if state = 1 ∨ state = 2 then closedT l k state last
  else if state = 4 ∧ section_.isPrefixOf (l.drop (mute l k)) = true then (textT (mid l (mute l k + 9) (upL [[93, 93, 62]] l (mute l k + 9)).1), (upL [[93, 93, 62]] l (mute l k + 9)).2)
  else dataT l (mute l k)
/-- All, with as many steps. -/
def allN (l : List UInt8) (state : Nat) (last : List UInt8) : Nat → Nat → List Tok
  | 0, _ => []
  | f + 1, k => if (nextT l k state last).1.kind = 5 then [(nextT l k state last).1] else (nextT l k state last).1 :: allN l state last f (nextT l k state last).2
end Go.Proofs.YtgelgfgcdfnacaaDoor
