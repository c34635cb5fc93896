/-
  Plain facts on lists of bytes, of no program: what is decoded is whole, what is whole stays, side by side. No conditions.
-/
import Derived.Test.YtobgdignanpliaaDoorPlainE
namespace Go.Proofs.YtobgdignanpliaaDoor.Plain

theorem run_full : ∀ (m lo hi : Nat) (r x : List UInt8), run m lo hi r = m → run m lo hi (r ++ x) = m
  | 0, _, _, _, _ => by simp [run]
  | m + 1, lo, hi, [], x => by simp [run]
  | m + 1, lo, hi, c :: r, x => by
    intro h
    simp only [run] at h
    split at h
    · next hc =>
      have := run_full m 128 191 r x (by omega)
      simp only [List.cons_append, run, if_pos hc, this]
      omega
    · omega
theorem run_take : ∀ (m lo hi : Nat) (r : List UInt8), run m lo hi (r.take m) = run m lo hi r
  | 0, _, _, _ => by simp [run]
  | m + 1, lo, hi, [] => by simp [run]
  | m + 1, lo, hi, c :: r => by
    simp only [List.take_succ_cons, run, run_take m 128 191 r]

theorem part_true (c : UInt8) (r : List UInt8) : partB (c :: r) = true ↔ 1 ≤ leadN c.toNat ∧ partK (c :: r) = leadN c.toNat := by simp [partB]
/-- A whole sign stays one, whatever is behind it. -/
theorem part_app (c : UInt8) (r x : List UInt8) (h : partB (c :: r) = true) : partB (c :: (r ++ x)) = true ∧ partK (c :: (r ++ x)) = partK (c :: r) := by
  rw [part_true] at h
  have hk : partK (c :: (r ++ x)) = leadN c.toNat := by
    have h2 := h.2
    simp only [partK] at h2 ⊢
    split
    · rfl
    · next hn =>
      rw [if_neg hn] at h2
      rw [run_full _ _ _ r x (by omega)]
      omega
  exact ⟨(part_true c (r ++ x)).2 ⟨h.1, hk⟩, by rw [hk, h.2]⟩
/-- A whole sign by itself. -/
theorem part_take (c : UInt8) (r : List UInt8) (h : partB (c :: r) = true) : ∃ t, (c :: r).take (partK (c :: r)) = c :: t ∧ partB (c :: t) = true ∧ partK (c :: t) = partK (c :: r) ∧ (c :: t).length = partK (c :: r) := by
  have hp := partK_pos c r h
  have hle := partK_le c r
  obtain ⟨m, hm⟩ : ∃ m, partK (c :: r) = m + 1 := ⟨partK (c :: r) - 1, by omega⟩
  have h' := h
  rw [part_true] at h
  refine ⟨r.take m, by rw [hm, List.take_succ_cons], ?_⟩
  have hk : partK (c :: r.take m) = leadN c.toNat := by
    have h2 := h.2
    simp only [partK] at h2 ⊢
    split
    · rfl
    · next hn =>
      rw [if_neg hn] at h2
      have hmm : leadN c.toNat - 1 = m := by omega
      rw [hmm, run_take, ← hmm]
      exact h2
  refine ⟨(part_true _ _).2 ⟨h.1, hk⟩, by rw [hk, h.2], ?_⟩
  rw [hm] at hle ⊢
  simp at hle ⊢
  omega

theorem whole_cons (c : UInt8) (r : List UInt8) : whole (c :: r) = (partB (c :: r) && whole (r.drop (partK (c :: r) - 1))) := by
  unfold whole
  rw [wholeS, wholeS_drop]
  rfl
theorem whole_cons' (c : UInt8) (r : List UInt8) (h : partB (c :: r) = true) : whole (c :: r) = whole ((c :: r).drop (partK (c :: r))) := by
  have hp := partK_pos c r h
  obtain ⟨m, hm⟩ : ∃ m, partK (c :: r) = m + 1 := ⟨partK (c :: r) - 1, by omega⟩
  rw [whole_cons, h, Bool.true_and, hm]
  rfl
theorem dec_cons' (c : UInt8) (r : List UInt8) (h : partB (c :: r) = true) : dec (c :: r) = (c :: r).take (partK (c :: r)) ++ dec ((c :: r).drop (partK (c :: r))) := by
  have hp := partK_pos c r h
  rw [dec_cons, if_pos h, show max (partK (c :: r)) 1 = partK (c :: r) by omega]
theorem dec_bad (c : UInt8) (r : List UInt8) (h : partB (c :: r) = false) : dec (c :: r) = bad ++ dec ((c :: r).drop (max (partK (c :: r)) 1)) := by
  rw [dec_cons, if_neg (by simp [h])]

/-- What is whole, in front, is whole, and decoded as it is. -/
theorem whole_front : ∀ (n : Nat) (a : List UInt8), a.length ≤ n → whole a = true → ∀ b, whole (a ++ b) = whole b ∧ dec (a ++ b) = a ++ dec b := by
  intro n
  induction n with
  | zero =>
    intro a ha _ b
    obtain rfl : a = [] := List.eq_nil_of_length_eq_zero (by omega)
    exact ⟨rfl, rfl⟩
  | succ n ih =>
    intro a ha hw b
    cases a with
    | nil => exact ⟨rfl, rfl⟩
    | cons c r =>
      have hp : partB (c :: r) = true := by
        rw [whole_cons] at hw
        simp at hw
        exact hw.1
      have hk := partK_pos c r hp
      have hle := partK_le c r
      obtain ⟨h1, h2⟩ := part_app c r b hp
      rw [whole_cons' c r hp] at hw
      have := ih ((c :: r).drop (partK (c :: r))) (by simp at ha ⊢; omega) hw b
      have hd : (c :: (r ++ b)).drop (partK (c :: r)) = (c :: r).drop (partK (c :: r)) ++ b := by
        rw [← List.cons_append, List.drop_append_of_le_length hle]
      have ht : (c :: (r ++ b)).take (partK (c :: r)) = (c :: r).take (partK (c :: r)) := by
        rw [← List.cons_append, List.take_append_of_le_length hle]
      rw [List.cons_append]
      refine ⟨?_, ?_⟩
      · rw [whole_cons' c (r ++ b) h1, h2, hd, this.1]
      · rw [dec_cons' c (r ++ b) h1, h2, hd, this.2, ht, ← List.append_assoc, List.take_append_drop]
theorem whole_app (a b : List UInt8) (h : whole a = true) : whole (a ++ b) = whole b := (whole_front a.length a (Nat.le_refl _) h b).1
theorem dec_app (a b : List UInt8) (h : whole a = true) : dec (a ++ b) = a ++ dec b := (whole_front a.length a (Nat.le_refl _) h b).2
theorem dec_whole (a : List UInt8) (h : whole a = true) : dec a = a := by
  have := dec_app a [] h
  simpa [dec, decS] using this
theorem whole_sign (c : UInt8) (t : List UInt8) (h : partB (c :: t) = true) (hl : (c :: t).length = partK (c :: t)) : whole (c :: t) = true := by
  rw [whole_cons' c t h, List.drop_eq_nil_of_le (by omega)]
  rfl
theorem whole_bad : whole bad = true := by decide

/-- What is decoded is whole. -/
theorem whole_dec : ∀ (n : Nat) (l : List UInt8), l.length ≤ n → whole (dec l) = true := by
  intro n
  induction n with
  | zero =>
    intro l hl
    obtain rfl : l = [] := List.eq_nil_of_length_eq_zero (by omega)
    rfl
  | succ n ih =>
    intro l hl
    cases l with
    | nil => rfl
    | cons c r =>
      cases hp : partB (c :: r)
      · rw [dec_bad c r hp, whole_app _ _ whole_bad]
        exact ih _ (by simp at hl ⊢; omega)
      · obtain ⟨t, h1, h2, h3, h4⟩ := part_take c r hp
        have hk := partK_pos c r hp
        rw [dec_cons' c r hp, h1, whole_app _ _ (whole_sign c t h2 (by rw [h4, h3]))]
        exact ih _ (by simp at hl ⊢; omega)
theorem whole_decode (l : List UInt8) : whole (decode l) = true := whole_dec _ _ (Nat.le_refl _)

theorem decode_plain (l : List UInt8) (h : Lib.hasPrefix l mark = false) : decode l = dec l := by
  unfold decode Lib.trimPrefix
  rw [if_neg (by simp [h])]
/-- A whole text that has the mark ahead together with what follows has it by itself. -/
theorem mark_front (a b : List UInt8) (hw : whole a = true) (ha : Lib.hasPrefix a mark = false) (hb : Lib.hasPrefix b mark = false) : Lib.hasPrefix (a ++ b) mark = false := by
  cases h : Lib.hasPrefix (a ++ b) mark
  · rfl
  · exfalso
    unfold Lib.hasPrefix at h ha hb
    rw [List.isPrefixOf_iff_prefix] at h
    cases a with
    | nil =>
      rw [List.nil_append, ← List.isPrefixOf_iff_prefix] at h
      rw [h] at hb
      cases hb
    | cons c r =>
      have hp : partB (c :: r) = true := by
        rw [whole_cons] at hw
        simp at hw
        exact hw.1
      obtain ⟨t, ht⟩ := h
      have hc : c = 239 := by
        have := congrArg List.head? ht
        simp [mark] at this
        exact this.symm
      have hk : partK (c :: r) = 3 := by
        rw [part_true] at hp
        rw [hp.2, hc]
        decide
      have hle := partK_le c r
      rw [hk] at hle
      have h3 : (c :: r).take 3 = mark := by
        have h4 := congrArg (List.take 3) ht
        rw [List.take_append_of_le_length (l₁ := c :: r) hle] at h4
        rw [← h4]
        rfl
      have := prefix_of_take (c :: r) mark h3
      unfold Lib.hasPrefix at this
      rw [this] at ha
      cases ha

theorem dec_len : ∀ (n : Nat) (l : List UInt8), l.length ≤ n → (dec l).length ≤ 3 * l.length := by
  intro n
  induction n with
  | zero =>
    intro l hl
    obtain rfl : l = [] := List.eq_nil_of_length_eq_zero (by omega)
    simp [dec, decS]
  | succ n ih =>
    intro l hl
    cases l with
    | nil => simp [dec, decS]
    | cons c r =>
      have hle := partK_le c r
      cases hp : partB (c :: r)
      · rw [dec_bad c r hp, List.length_append]
        have := ih ((c :: r).drop (max (partK (c :: r)) 1)) (by simp at hl ⊢; omega)
        simp [bad] at this hl ⊢
        omega
      · have hk := partK_pos c r hp
        rw [dec_cons' c r hp, List.length_append]
        have := ih ((c :: r).drop (partK (c :: r))) (by simp at hl ⊢; omega)
        have h2 := List.length_take_le (partK (c :: r)) (c :: r)
        rw [List.length_drop] at this
        omega
end Go.Proofs.YtobgdignanpliaaDoor.Plain
