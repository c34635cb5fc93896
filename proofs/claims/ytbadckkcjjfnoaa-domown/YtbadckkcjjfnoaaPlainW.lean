/-
  Plain facts on lists of bytes, of no program: blanks, words, what is joined of them. No conditions.
-/
import Derived.Lib.Join
namespace Go.Proofs.Ytbadckkcjjfnoaa.Plain

def blankB (c : UInt8) : Bool := c == 9 || c == 10 || c == 12 || c == 13 || c == 32

/-- The words of l behind a word that has begun with cur. -/
def wordsAux : List UInt8 → List UInt8 → List (List UInt8)
  | cur, [] => if cur.isEmpty then [] else [cur]
  | cur, c :: r => if blankB c then (if cur.isEmpty then wordsAux [] r else cur :: wordsAux [] r) else wordsAux (cur ++ [c]) r
def words (l : List UInt8) : List (List UInt8) := wordsAux [] l

/-- Where the loop stands: out are the words found, l from f to k is the word that has begun. -/
def WordsAt (l : List UInt8) (k f : Nat) (out : List (List UInt8)) : Prop :=
  f ≤ k ∧ k ≤ l.length + 1 ∧ out ++ wordsAux ((l.take k).drop f) (l.drop k) = words l ∧ out.length ≤ k ∧ (l.length < k → f = k)

theorem WordsAt.start (l : List UInt8) : WordsAt l 0 0 [] := ⟨Nat.le_refl _, by omega, by simp [words], by simp, by omega⟩

theorem WordsAt.letter {l : List UInt8} {k f : Nat} {out : List (List UInt8)} (h : WordsAt l k f out) (hk : k < l.length) (hc : blankB l[k] = false) : WordsAt l (k + 1) f out := by
  obtain ⟨h1, h2, h3, h4, h5⟩ := h
  refine ⟨by omega, by omega, ?_, by omega, by omega⟩
  rw [← h3]
  congr 1
  rw [List.drop_eq_getElem_cons hk, List.take_succ_eq_append_getElem hk, List.drop_append_of_le_length (by simp; omega)]
  simp [wordsAux, hc]

theorem cur_nonempty (l : List UInt8) (k f : Nat) (hf : f < k) (hk : k ≤ l.length) : ((l.take k).drop f).isEmpty = false := by
  cases h : ((l.take k).drop f) with
  | nil =>
    have := congrArg List.length h
    simp at this
    omega
  | cons a b => rfl

theorem WordsAt.word {l : List UInt8} {k f : Nat} {out : List (List UInt8)} (h : WordsAt l k f out) (hf : f < k) (hk : k ≤ l.length) (hc : ∀ hk : k < l.length, blankB l[k] = true) : WordsAt l (k + 1) (k + 1) (out ++ [(l.take k).drop f]) := by
  obtain ⟨h1, h2, h3, h4, h5⟩ := h
  refine ⟨by omega, by omega, ?_, by simp; omega, by omega⟩
  rw [← h3, List.append_assoc]
  congr 1
  have hz : (List.take (k + 1) l).drop (k + 1) = [] := List.drop_eq_nil_of_le (by simp; omega)
  rw [hz]
  have hne := cur_nonempty l k f hf hk
  by_cases hl : k < l.length
  · rw [List.drop_eq_getElem_cons hl, wordsAux, if_pos (hc hl), if_neg (by simp [hne])]
    rfl
  · rw [List.drop_eq_nil_of_le (by omega : l.length ≤ k), List.drop_eq_nil_of_le (by omega : l.length ≤ k + 1)]
    simp only [wordsAux, hne]
    simp

theorem WordsAt.gap {l : List UInt8} {k f : Nat} {out : List (List UInt8)} (h : WordsAt l k f out) (hf : ¬ f < k) (hk : k ≤ l.length) (hc : ∀ hk : k < l.length, blankB l[k] = true) : WordsAt l (k + 1) (k + 1) out := by
  obtain ⟨h1, h2, h3, h4, h5⟩ := h
  refine ⟨by omega, by omega, ?_, by omega, by omega⟩
  rw [← h3]
  congr 1
  have hz : (List.take (k + 1) l).drop (k + 1) = [] := List.drop_eq_nil_of_le (by simp; omega)
  have hz' : (List.take k l).drop f = [] := List.drop_eq_nil_of_le (by simp; omega)
  rw [hz, hz']
  by_cases hl : k < l.length
  · rw [List.drop_eq_getElem_cons hl, wordsAux, if_pos (hc hl)]
    simp
  · rw [List.drop_eq_nil_of_le (by omega : l.length ≤ k), List.drop_eq_nil_of_le (by omega : l.length ≤ k + 1)]

theorem WordsAt.done {l : List UInt8} {k f : Nat} {out : List (List UInt8)} (h : WordsAt l k f out) (hk : l.length < k) : out = words l := by
  obtain ⟨h1, h2, h3, h4, h5⟩ := h
  have hf := h5 hk
  rw [← h3, List.drop_eq_nil_of_le (by omega : l.length ≤ k), List.drop_eq_nil_of_le (by simp; omega : (List.take k l).length ≤ f)]
  simp [wordsAux]

theorem blankB_true (c : UInt8) : blankB c = true ↔ c.toNat = 9 ∨ c.toNat = 10 ∨ c.toNat = 12 ∨ c.toNat = 13 ∨ c.toNat = 32 := by
  simp only [blankB, Bool.or_eq_true, beq_iff_eq]
  constructor
  · rintro ((((rfl | rfl) | rfl) | rfl) | rfl) <;> decide
  · rintro (h | h | h | h | h)
    · exact Or.inl (Or.inl (Or.inl (Or.inl (UInt8.toNat_inj.1 h))))
    · exact Or.inl (Or.inl (Or.inl (Or.inr (UInt8.toNat_inj.1 h))))
    · exact Or.inl (Or.inl (Or.inr (UInt8.toNat_inj.1 h)))
    · exact Or.inl (Or.inr (UInt8.toNat_inj.1 h))
    · exact Or.inr (UInt8.toNat_inj.1 h)

/-- The words, one blank between. -/
def plain (l : List UInt8) : List UInt8 := Lib.join (words l) [32]

theorem lens_cons (x : List UInt8) (r : List (List UInt8)) : Lib.lens (x :: r) = x.length + Lib.lens r := by simp [Lib.lens]
theorem wordsAux_lens (l : List UInt8) : ∀ cur : List UInt8, Lib.lens (wordsAux cur l) + (wordsAux cur l).length ≤ cur.length + l.length + 1 := by
  induction l with
  | nil =>
    intro cur
    cases cur with
    | nil => simp [wordsAux, Lib.lens]
    | cons a b => simp [wordsAux, Lib.lens]
  | cons c r ih =>
    intro cur
    unfold wordsAux
    split
    · split
      · have := ih []
        simp at this ⊢
        omega
      · have := ih []
        rw [lens_cons]
        simp at this ⊢
        omega
    · have := ih (cur ++ [c])
      simp at this ⊢
      omega
theorem join_len_le (ws : List (List UInt8)) (n : Nat) (h : Lib.lens ws + ws.length ≤ n + 1) : (Lib.join ws [32]).length ≤ n := by
  cases ws with
  | nil => simp [Lib.join_nil]
  | cons x r =>
    rw [Lib.join_length]
    simp at h ⊢
    omega
theorem plain_len (l : List UInt8) : (plain l).length ≤ l.length := by
  refine join_len_le _ _ ?_
  have := wordsAux_lens l []
  simpa [words] using this
theorem words_count (l : List UInt8) : (words l).length ≤ l.length + 1 := by
  have := wordsAux_lens l []
  simp [words] at this ⊢
  omega

theorem join_take_succ (ws : List (List UInt8)) (k : Nat) (hk : k < ws.length) (h0 : 0 < k) : Lib.join (ws.take (k + 1)) [32] = Lib.join (ws.take k) [32] ++ [32] ++ ws[k] := by
  cases ws with
  | nil => simp at hk
  | cons x r =>
    obtain ⟨j, rfl⟩ : ∃ j, k = j + 1 := ⟨k - 1, by omega⟩
    rw [List.take_succ_cons, List.take_succ_cons, Lib.join_cons, Lib.join_cons]
    have hj : j < r.length := by simpa using hk
    rw [Lib.joinTail_take_succ [32] r j r[j] (List.getElem?_eq_getElem hj)]
    simp
theorem join_take_one (ws : List (List UInt8)) (hk : 0 < ws.length) : Lib.join (ws.take 1) [32] = ws[0] := by
  cases ws with
  | nil => simp at hk
  | cons x r => simp [Lib.join_one]
theorem join_take_le (ws : List (List UInt8)) (k : Nat) : (Lib.join (ws.take k) [32]).length ≤ (Lib.join ws [32]).length := by
  cases ws with
  | nil => simp [Lib.join_nil]
  | cons x r =>
    cases k with
    | zero => simp [Lib.join_nil]
    | succ k =>
      rw [List.take_succ_cons, Lib.join_cons, Lib.join_cons]
      have := Lib.joinTail_take_le [32] r k
      simp
      omega

/-! ### Without the blanks at both ends -/
def trimL (l : List UInt8) : List UInt8 := l.dropWhile blankB
def trim (l : List UInt8) : List UInt8 := (trimL (trimL l).reverse).reverse

theorem trimL_cons (c : UInt8) (l : List UInt8) (h : blankB c = true) : trimL (c :: l) = trimL l := by simp [trimL, h]
theorem trimL_stop (c : UInt8) (l : List UInt8) (h : blankB c = false) : trimL (c :: l) = c :: l := by simp [trimL, h]
/-- l begins with no blank. -/
def Front (l : List UInt8) : Prop := l = [] ∨ ∃ c r, l = c :: r ∧ blankB c = false
theorem Front.trimL {l : List UInt8} (h : Front l) : Plain.trimL l = l := by
  rcases h with rfl | ⟨c, r, rfl, hc⟩
  · rfl
  · exact trimL_stop c r hc
theorem trim_front (l : List UInt8) (hf : Front l) : trim l = (trimL l.reverse).reverse := by unfold trim; rw [hf.trimL]
/-- A blank at the end goes. -/
theorem trim_snoc (l : List UInt8) (c : UInt8) (hf : Front (l ++ [c])) (h : blankB c = true) : Front l ∧ trim (l ++ [c]) = trim l := by
  have hl : Front l := by
    cases l with
    | nil => exact Or.inl rfl
    | cons a r =>
      rcases hf with h1 | ⟨c', r', h1, h2⟩
      · simp at h1
      · simp at h1
        exact Or.inr ⟨a, r, rfl, by rw [h1.1]; exact h2⟩
  refine ⟨hl, ?_⟩
  rw [trim_front _ hf, trim_front _ hl, List.reverse_append]
  simp [trimL_cons, h]
/-- Nothing goes. -/
theorem trim_same (l : List UInt8) (c : UInt8) (hf : Front (l ++ [c])) (h : blankB c = false) : trim (l ++ [c]) = l ++ [c] := by
  rw [trim_front _ hf, List.reverse_append]
  simp [trimL_stop, h]
theorem trim_nil : trim [] = [] := rfl
theorem trim_cons (c : UInt8) (l : List UInt8) (h : blankB c = true) : trim (c :: l) = trim l := by unfold trim; rw [trimL_cons c l h]
end Go.Proofs.Ytbadckkcjjfnoaa.Plain
