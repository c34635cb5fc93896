/-
  Plain facts on lists of bytes, of no program: words of what is plain. No conditions.
-/
import Derived.Test.YtnikehhcfbeiaaaDoorPlainW
namespace Go.Proofs.YtnikehhcfbeiaaaDoor.Plain

/-- A word: not empty, no blank in it. -/
def Word (u : List UInt8) : Prop := u ≠ [] ∧ ∀ c ∈ u, blankB c = false

theorem wordsAux_word (l : List UInt8) : ∀ cur : List UInt8, (∀ c ∈ cur, blankB c = false) → ∀ u ∈ wordsAux cur l, Word u := by
  induction l with
  | nil =>
    intro cur hc u hu
    cases cur with
    | nil => simp [wordsAux] at hu
    | cons a b =>
      simp [wordsAux] at hu
      subst hu
      exact ⟨by simp, hc⟩
  | cons c r ih =>
    intro cur hc u hu
    unfold wordsAux at hu
    split at hu
    · split at hu
      · exact ih [] (by simp) u hu
      · next hne =>
        rcases List.mem_cons.1 hu with rfl | h
        · exact ⟨by intro e; rw [e] at hne; simp at hne, hc⟩
        · exact ih [] (by simp) u h
    · next hb =>
      refine ih (cur ++ [c]) (fun d hd => ?_) u hu
      rcases List.mem_append.1 hd with h | h
      · exact hc d h
      · simp at h
        subst h
        simpa using hb
theorem words_word (l : List UInt8) : ∀ u ∈ words l, Word u := wordsAux_word l [] (by simp)

/-- A run of letters goes on with the word. -/
theorem wordsAux_letters (u : List UInt8) : ∀ (cur r : List UInt8), (∀ c ∈ u, blankB c = false) → wordsAux cur (u ++ r) = wordsAux (cur ++ u) r := by
  induction u with
  | nil => intro cur r _; simp
  | cons c u ih =>
    intro cur r h
    have hc : blankB c = false := h c (by simp)
    rw [List.cons_append, wordsAux, if_neg (by simp [hc]), ih (cur ++ [c]) r (fun d hd => h d (by simp [hd]))]
    simp
theorem wordsAux_blank (cur r : List UInt8) (h : cur ≠ []) : wordsAux cur (32 :: r) = cur :: wordsAux [] r := by
  rw [wordsAux, if_pos (by decide), if_neg (by simp [h])]
theorem wordsAux_end (cur : List UInt8) (h : cur ≠ []) : wordsAux cur [] = [cur] := by
  simp [wordsAux, h]

theorem words_tail (r : List (List UInt8)) : ∀ cur : List UInt8, cur ≠ [] → (∀ u ∈ r, Word u) → wordsAux cur (Lib.joinTail [32] r) = cur :: r := by
  induction r with
  | nil => intro cur hc _; simp [Lib.joinTail, wordsAux_end cur hc]
  | cons u r ih =>
    intro cur hc h
    have hu := h u (by simp)
    have e : Lib.joinTail [32] (u :: r) = 32 :: (u ++ Lib.joinTail [32] r) := by simp [Lib.joinTail]
    rw [e, wordsAux_blank cur _ hc, wordsAux_letters u [] _ hu.2, List.nil_append, ih u hu.1 (fun v hv => h v (by simp [hv]))]
/-- Of joined words just these are the words. -/
theorem words_join (ws : List (List UInt8)) (h : ∀ u ∈ ws, Word u) : words (Lib.join ws [32]) = ws := by
  cases ws with
  | nil => rfl
  | cons u r =>
    have hu := h u (by simp)
    unfold words
    rw [Lib.join_cons, wordsAux_letters u [] _ hu.2, List.nil_append, words_tail r u hu.1 (fun v hv => h v (by simp [hv]))]
theorem words_plain (l : List UInt8) : words (plain l) = words l := words_join _ (words_word l)
theorem plain_plain (l : List UInt8) : plain (plain l) = plain l := by
  unfold plain
  rw [words_join _ (words_word l)]

/-- How many blanks are in a text. -/
def blanks (l : List UInt8) : Nat := (l.filter blankB).length
theorem blanks_word (u : List UInt8) (h : ∀ c ∈ u, blankB c = false) : blanks u = 0 := by
  unfold blanks
  rw [List.filter_eq_nil_iff.2 (fun c hc => by simp [h c hc])]
  rfl
theorem blanks_append (a b : List UInt8) : blanks (a ++ b) = blanks a + blanks b := by simp [blanks]
theorem blanks_tail (r : List (List UInt8)) (h : ∀ u ∈ r, Word u) : blanks (Lib.joinTail [32] r) = r.length := by
  induction r with
  | nil => rfl
  | cons u r ih =>
    have e : Lib.joinTail [32] (u :: r) = [32] ++ (u ++ Lib.joinTail [32] r) := by simp [Lib.joinTail]
    rw [e, blanks_append, blanks_append, blanks_word u (h u (by simp)).2, ih (fun v hv => h v (by simp [hv]))]
    simp [blanks, blankB]
    omega
theorem blanks_plain (l : List UInt8) : blanks (plain l) = (words l).length - 1 := by
  unfold plain
  have hw := words_word l
  cases h : words l with
  | nil => rfl
  | cons u r =>
    rw [h] at hw
    rw [Lib.join_cons, blanks_append, blanks_word u (hw u (by simp)).2, blanks_tail r (fun v hv => hw v (by simp [hv]))]
    simp
theorem blanks_take (l : List UInt8) (k : Nat) (hk : k < l.length) : blanks (l.take (k + 1)) = blanks (l.take k) + if blankB l[k] then 1 else 0 := by
  rw [List.take_succ_eq_append_getElem hk, blanks_append]
  congr 1
  unfold blanks
  cases h : blankB l[k] <;> simp [h]
theorem blanks_le (l : List UInt8) : blanks l ≤ l.length := List.length_filter_le _ _

/-- The last byte of joined words is no blank. -/
theorem tail_last (r : List (List UInt8)) : ∀ u : List UInt8, Word u → (∀ v ∈ r, Word v) → ∃ a c, u ++ Lib.joinTail [32] r = a ++ [c] ∧ blankB c = false := by
  induction r with
  | nil =>
    intro u hu _
    have hne := hu.1
    refine ⟨u.dropLast, u.getLast hne, by simp [Lib.joinTail, List.dropLast_concat_getLast], hu.2 _ (List.getLast_mem hne)⟩
  | cons v r ih =>
    intro u hu h
    obtain ⟨a, c, h1, h2⟩ := ih v (h v (by simp)) (fun x hx => h x (by simp [hx]))
    refine ⟨u ++ [32] ++ a, c, ?_, h2⟩
    have e : Lib.joinTail [32] (v :: r) = [32] ++ (v ++ Lib.joinTail [32] r) := by simp [Lib.joinTail]
    rw [e, h1]
    simp
theorem trim_plain (l : List UInt8) : trim (plain l) = plain l := by
  unfold plain
  have hw := words_word l
  cases h : words l with
  | nil => rfl
  | cons u r =>
    rw [h] at hw
    have hu := hw u (by simp)
    rw [Lib.join_cons]
    obtain ⟨a, c, h1, h2⟩ := tail_last r u hu (fun v hv => hw v (by simp [hv]))
    have hf : Front (u ++ Lib.joinTail [32] r) := by
      cases u with
      | nil => exact absurd rfl hu.1
      | cons d t => exact Or.inr ⟨d, t ++ Lib.joinTail [32] r, rfl, hu.2 d (by simp)⟩
    rw [h1] at hf ⊢
    exact trim_same a c hf h2
end Go.Proofs.YtnikehhcfbeiaaaDoor.Plain
