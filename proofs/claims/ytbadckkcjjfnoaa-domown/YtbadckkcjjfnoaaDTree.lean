/-
  Rows of nodes (chapter 6), of no program: how deep, sound, same, numbered; their texts. No conditions.
-/
import Derived.Test.YtbadckkcjjfnoaaDDoc
namespace Go.Proofs.Ytbadckkcjjfnoaa

/-- Is no attribute there twice? -/
def onceA : List (List UInt8 × List UInt8) → Bool
  | [] => true
  | a :: r => !(r.any fun b => b.1 == a.1) && onceA r
theorem onceA_snoc (a : List UInt8 × List UInt8) : ∀ l, onceA (l ++ [a]) = (onceA l && !(l.any fun b => b.1 == a.1))
  | [] => by simp [onceA]
  | b :: r => by
    rw [List.cons_append, onceA, onceA_snoc a r, onceA, List.any_append, List.any_cons, List.any_cons]
    have : (a.1 == b.1) = (b.1 == a.1) := by rw [Bool.eq_iff_iff, beq_iff_eq, beq_iff_eq]; exact eq_comm
    simp only [List.any_nil, Bool.or_false, Bool.not_or, this]
    cases (r.any fun x => x.1 == b.1) <;> cases (b.1 == a.1) <;> cases (onceA r) <;> simp
theorem onceA_no {l : List (List UInt8 × List UInt8)} {i k : Nat} (hi : i < l.length) (hk : k < i) (h : l[i].1 = l[k].1) : onceA l = false := by
  have h1 : onceA (l.take (i + 1)) = false := by
    rw [List.take_succ_eq_append_getElem hi, onceA_snoc]
    have : ((l.take i).any fun b => b.1 == l[i].1) = true := by
      rw [List.any_eq_true]
      refine ⟨l[k], ?_, by simp [h]⟩
      rw [List.mem_take_iff_getElem]
      exact ⟨k, by omega, rfl⟩
    rw [this]
    simp
  have key : ∀ (r p : List (List UInt8 × List UInt8)), onceA p = false → onceA (p ++ r) = false := by
    intro r
    induction r with
    | nil => intro p hp; rw [List.append_nil]; exact hp
    | cons a r ih =>
      intro p hp
      rw [← List.singleton_append, ← List.append_assoc]
      refine ih _ ?_
      rw [onceA_snoc, hp]
      rfl
  have h2 := key (l.drop (i + 1)) _ h1
  rw [List.take_append_drop] at h2
  exact h2
theorem onceA_step {l : List (List UInt8 × List UInt8)} {i : Nat} (hi : i < l.length) (h : onceA (l.take i) = true) (hk : ∀ k, (hk : k < i) → l[i].1 ≠ l[k].1) : onceA (l.take (i + 1)) = true := by
  rw [List.take_succ_eq_append_getElem hi, onceA_snoc, h, Bool.true_and, Bool.not_eq_true']
  rw [List.any_eq_false]
  intro x hx
  rw [List.mem_take_iff_getElem] at hx
  obtain ⟨k, hk1, rfl⟩ := hx
  have := hk k (by omega)
  rw [beq_iff_eq]
  exact fun e => this e.symm

namespace Fo
/-- How much there is: nodes and attributes. -/
def wt : Fo → Nat
  | nil => 0
  | cons d k r => 1 + d.attrs.length + k.wt + r.wt
def deep : Fo → Nat
  | nil => 0
  | cons _ k r => max (1 + k.deep) r.deep
/-- May a node be there, its kids told sound or not, a text ahead of it or not? -/
def okNode (d : Nd) (kids : Nat) (ks : Bool) (prev : Bool) : Bool :=
  if d.kind = 1 then decide (1 ≤ d.space) && decide (d.space ≤ 3) && !d.name.isEmpty && d.text.isEmpty && decide (d.frm = 0) && onceA d.attrs && ks
  else if d.kind = 2 then !d.text.isEmpty && decide (d.space = 0) && d.name.isEmpty && decide (d.attrs.length + kids = 0) && decide (0 ≤ d.frm) && !prev
  else if d.kind = 3 then decide (d.space = 0) && d.name.isEmpty && decide (d.attrs.length + kids = 0) && decide (d.frm = 0)
  else false
def sound : Fo → Bool → Bool
  | nil, _ => true
  | cons d k r, prev => okNode d k.len (k.sound false) prev && r.sound (decide (d.kind = 2))
def same : Fo → Fo → Bool
  | nil, nil => true
  | cons d k r, cons d' k' r' => decide (d = d') && same k k' && same r r'
  | _, _ => false
theorem same_iff : ∀ f g : Fo, same f g = true ↔ f = g
  | nil, nil => by simp [same]
  | nil, cons _ _ _ => by simp [same]
  | cons _ _ _, nil => by simp [same]
  | cons d k r, cons d' k' r' => by
    rw [same, Bool.and_eq_true, Bool.and_eq_true, same_iff k k', same_iff r r', decide_eq_true_eq]
    constructor
    · rintro ⟨⟨rfl, rfl⟩, rfl⟩; rfl
    · intro h; injection h with h1 h2 h3; exact ⟨⟨h1, h2⟩, h3⟩
theorem same_refl (f : Fo) : same f f = true := (same_iff f f).2 rfl
theorem same_len {f g : Fo} (h : f.len ≠ g.len) : same f g = false := by
  cases hs : same f g with
  | false => rfl
  | true => exact absurd (congrArg len ((same_iff f g).1 hs)) h
/-- A node's number, the next number. -/
def numD (d : Nd) (n : Int) : Nd := if d.kind = 2 then { d with frm := n } else d
def numN (d : Nd) (n : Int) : Int := if d.kind = 2 then n + 1 else n
def number : Fo → Int → Fo × Int
  | nil, n => (nil, n)
  | cons d k r, n => (cons (numD d n) (k.number (numN d n)).1 (r.number (k.number (numN d n)).2).1, (r.number (k.number (numN d n)).2).2)
def texts : Fo → List (List UInt8)
  | nil => []
  | cons d k r => (if d.kind = 2 then [d.text] else []) ++ k.texts ++ r.texts
theorem numD_kind (d : Nd) (n : Int) : (numD d n).kind = d.kind := by unfold numD; split <;> rfl
theorem numD_text (d : Nd) (n : Int) : (numD d n).text = d.text := by unfold numD; split <;> rfl
theorem numD_attrs (d : Nd) (n : Int) : (numD d n).attrs = d.attrs := by unfold numD; split <;> rfl
theorem numN_num (d : Nd) (n m : Int) : numN (numD d m) n = numN d n := by unfold numN; rw [numD_kind]
theorem numD_num (d : Nd) (n : Int) : numD (numD d n) n = numD d n := by
  unfold numD
  by_cases h : d.kind = 2 <;> simp [h]
theorem number_len : ∀ (f : Fo) (n : Int), (f.number n).1.len = f.len
  | nil, _ => rfl
  | cons d k r, n => by rw [number, len, len, number_len r]
theorem number_deep : ∀ (f : Fo) (n : Int), (f.number n).1.deep = f.deep
  | nil, _ => rfl
  | cons d k r, n => by rw [number, deep, deep, number_deep r, number_deep k]
theorem number_wt : ∀ (f : Fo) (n : Int), (f.number n).1.wt = f.wt
  | nil, _ => rfl
  | cons d k r, n => by rw [number, wt, wt, number_wt r, number_wt k, numD_attrs]
theorem number_texts : ∀ (f : Fo) (n : Int), (f.number n).1.texts = f.texts
  | nil, _ => rfl
  | cons d k r, n => by rw [number, texts, texts, number_texts r, number_texts k, numD_kind, numD_text]
theorem number_twice : ∀ (f : Fo) (n : Int), (f.number n).1.number n = f.number n
  | nil, _ => rfl
  | cons d k r, n => by
    rw [number]
    simp only
    rw [number, numN_num, numD_num, number_twice k, number_twice r]
theorem number_le : ∀ (f : Fo) (n : Int), n ≤ (f.number n).2 ∧ (f.number n).2 ≤ n + f.wt
  | nil, n => by simp [number, wt]
  | cons d k r, n => by
    rw [number, wt]
    have h1 := number_le k (numN d n)
    have h2 := number_le r (k.number (numN d n)).2
    have h3 : n ≤ numN d n ∧ numN d n ≤ n + 1 := by unfold numN; split <;> omega
    simp only
    omega
theorem okNode_num (d : Nd) (n : Int) (hn : 0 ≤ n) (kids : Nat) (ks prev : Bool) (h : okNode d kids ks prev = true) : okNode (numD d n) kids ks prev = true := by
  unfold numD
  by_cases hk : d.kind = 2
  · rw [if_pos hk]
    unfold okNode at h ⊢
    simp only [hk] at h ⊢
    simp at h ⊢
    simp [h, hn]
  · rw [if_neg hk]; exact h
theorem number_sound : ∀ (f : Fo) (n : Int) (b : Bool), 0 ≤ n → f.sound b = true → (f.number n).1.sound b = true
  | nil, _, _, _, _ => rfl
  | cons d k r, n, b, hn, h => by
    rw [sound, Bool.and_eq_true] at h
    rw [number, sound, Bool.and_eq_true, numD_kind, number_len]
    have h3 : n ≤ numN d n := by unfold numN; split <;> omega
    have h1 := number_le k (numN d n)
    refine ⟨?_, number_sound r _ _ (by omega) h.2⟩
    cases hs : k.sound false with
    | true =>
      rw [hs] at h
      rw [number_sound k _ _ (by omega) hs]
      exact okNode_num d n hn _ _ _ h.1
    | false =>
      rw [hs] at h
      have ho := okNode_num d n hn _ _ _ h.1
      cases (k.number (numN d n)).1.sound false with
      | false => exact ho
      | true =>
        unfold okNode at ho ⊢
        revert ho
        split
        · simp
        · intro ho; exact ho
theorem deep_le : ∀ f : Fo, f.deep ≤ f.wt
  | nil => Nat.le_refl _
  | cons d k r => by
    rw [deep, wt]
    have h1 := deep_le k
    have h2 := deep_le r
    omega
theorem len_le : ∀ f : Fo, f.len ≤ f.wt
  | nil => Nat.le_refl _
  | cons d k r => by
    rw [len, wt]
    have h2 := len_le r
    omega
theorem texts_le : ∀ f : Fo, f.texts.length ≤ f.wt
  | nil => Nat.le_refl _
  | cons d k r => by
    rw [texts, wt, List.length_append, List.length_append]
    have h1 := texts_le k
    have h2 := texts_le r
    split <;> simp <;> omega
def app : Fo → Fo → Fo
  | nil, g => g
  | cons d k r, g => cons d k (r.app g)
theorem app_nil : ∀ f : Fo, f.app nil = f
  | nil => rfl
  | cons d k r => by rw [app, app_nil r]
theorem app_assoc : ∀ f g h : Fo, (f.app g).app h = f.app (g.app h)
  | nil, _, _ => rfl
  | cons d k r, g, h => by rw [app, app, app, app_assoc r]
theorem app_len : ∀ f g : Fo, (f.app g).len = f.len + g.len
  | nil, g => by simp [app, len]
  | cons d k r, g => by rw [app, len, len, app_len r]; omega
theorem of_app : ∀ (l m : List (Nd × Fo)), ofList (l ++ m) = (ofList l).app (ofList m)
  | [], _ => rfl
  | x :: l, m => by rw [List.cons_append, ofList, ofList, app, of_app l]
end Fo
end Go.Proofs.Ytbadckkcjjfnoaa
