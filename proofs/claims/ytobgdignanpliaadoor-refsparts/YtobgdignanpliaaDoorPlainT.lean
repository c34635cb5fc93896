/-
  Plain facts on lists of bytes, of no program: what is expanded stays whole; texts side by side; digits. No conditions.
-/
import Derived.Test.YtobgdignanpliaaDoorPlainR
namespace Go.Proofs.YtobgdignanpliaaDoor.Plain

theorem ref_plain (s : List UInt8) (attr : Bool) (h : (s.getD 0 0).toNat ≠ 38) : ref s attr = ([], 0) := by
  unfold ref
  rw [if_neg h]
theorem expand_plain (a b : List UInt8) (attr : Bool) (h : ∀ c ∈ a, c.toNat ≠ 38) : expand (a ++ b) attr = a ++ expand b attr := by
  induction a with
  | nil => rfl
  | cons c r ih =>
    rw [List.cons_append, expand_byte _ _ _ (by rw [ref_plain _ _ (by simpa using h c (by simp))]), ih (fun x hx => h x (List.mem_cons_of_mem _ hx))]
    rfl
theorem expand_none (a : List UInt8) (attr : Bool) (h : ∀ c ∈ a, c.toNat ≠ 38) : expand a attr = a := by
  have := expand_plain a [] attr h
  simpa [expand_nil] using this

/-- What is told of what a reference stands for. -/
theorem digN_ascii (base : Nat) (hb : base ≤ 16) : ∀ (l : List UInt8) (c : UInt8), c ∈ l.take (digN base l) → c.toNat < 128
  | [], c, h => by simp at h
  | x :: r, c, h => by
    rw [digN] at h
    split at h
    · rename_i hx
      rw [Nat.add_comm, List.take_succ_cons, List.mem_cons] at h
      rcases h with rfl | h
      · unfold digV at hx
        (repeat' split at hx) <;> omega
      · exact digN_ascii base hb r c h
    · simp at h
theorem getD_mem (s : List UInt8) (j : Nat) (h : (s.getD j 0).toNat ≠ 0) : j < s.length := by
  by_cases hj : j < s.length
  · exact hj
  · rw [List.getD_eq_getElem?_getD, List.getElem?_eq_none (by omega)] at h
    exact absurd rfl h
theorem getD_take (s : List UInt8) (j n : Nat) (h : j < n) : (s.take n).getD j 0 = s.getD j 0 := by
  rw [List.getD_eq_getElem?_getD, List.getD_eq_getElem?_getD, List.getElem?_take, if_pos h]
theorem mem_getD (s : List UInt8) (c : UInt8) (h : c ∈ s) : ∃ j, j < s.length ∧ s.getD j 0 = c := by
  obtain ⟨j, hj, he⟩ := List.getElem_of_mem h
  exact ⟨j, hj, by rw [List.getD_eq_getElem?_getD, List.getElem?_eq_getElem hj]; exact he⟩
/-- All of the first n bytes are below 128. -/
def Ascii (s : List UInt8) (n : Nat) : Prop := ∀ j, j < n → (s.getD j 0).toNat < 128
theorem numbered_facts (s : List UInt8) (f base : Nat) (hb : base ≤ 16) (hf : ∀ j, j < f → (s.getD j 0).toNat < 128) (hfl : f ≤ s.length) :
    whole (numbered s f base).1 = true ∧ (numbered s f base).1.length ≤ 4 ∧ (numbered s f base).2 ≤ s.length ∧ Ascii s (numbered s f base).2 ∧ ((numbered s f base).2 = 0 → (numbered s f base).1 = []) ∧ ((numbered s f base).2 ≠ 0 → f + 1 ≤ (numbered s f base).2) := by
  unfold numbered
  have hd := digN_le base (s.drop f)
  rw [List.length_drop] at hd
  have ha := digN_ascii base hb (s.drop f)
  by_cases h0 : digN base (s.drop f) = 0
  · rw [if_pos h0]
    exact ⟨rfl, by simp, by simp, fun j hj => absurd hj (by simp), fun _ => rfl, fun h => absurd rfl h⟩
  · rw [if_neg h0]
    generalize hK : digN base (s.drop f) = K at *
    have hA : ∀ j, j < f + K → (s.getD j 0).toNat < 128 := by
      intro j hj
      by_cases hjf : j < f
      · exact hf j hjf
      · refine ha _ ?_
        rw [List.getD_eq_getElem?_getD, List.getElem?_eq_getElem (by omega), Option.getD_some, List.mem_iff_getElem]
        refine ⟨j - f, by rw [List.length_take, List.length_drop]; omega, ?_⟩
        rw [List.getElem_take, List.getElem_drop]
        congr 1
        omega
    by_cases h59 : (s.getD (f + K) 0).toNat = 59
    · have := getD_mem s (f + K) (by omega)
      simp only [h59, if_true]
      refine ⟨number_whole _, (number_len _).2, by omega, fun j hj => ?_, fun h => by omega, fun _ => by omega⟩
      by_cases hj' : j < f + K
      · exact hA j hj'
      · rw [show j = f + K by omega, h59]; omega
    · simp only [h59, if_false]
      exact ⟨number_whole _, (number_len _).2, by omega, fun j hj => hA j (by omega), fun h => by omega, fun _ => by omega⟩
theorem names_ascii : ∀ x ∈ names, ∀ c ∈ x.1, c.toNat < 128 := by decide
theorem named_facts (s : List UInt8) (attr : Bool) (h : (s.getD 0 0).toNat = 38) :
    whole (named s attr).1 = true ∧ (named s attr).1.length ≤ 4 ∧ (named s attr).2 ≤ s.length ∧ Ascii s (named s attr).2 ∧ ((named s attr).2 = 0 → (named s attr).1 = []) ∧ ((named s attr).2 ≠ 0 → 2 ≤ (named s attr).2) := by
  have hz : whole ([] : List UInt8) = true ∧ ([] : List UInt8).length ≤ 4 ∧ 0 ≤ s.length ∧ Ascii s 0 ∧ ((0 : Nat) = 0 → ([] : List UInt8) = []) ∧ ((0 : Nat) ≠ 0 → 2 ≤ 0) :=
    ⟨rfl, by simp, by simp, fun j hj => absurd hj (by simp), fun _ => rfl, fun h => absurd rfl h⟩
  cases hb : best (s.drop 1) with
  | none => rw [named_none s attr hb]; exact hz
  | some x =>
    obtain ⟨v, k⟩ := x
    obtain ⟨h1, h8, hl, hm⟩ := best_some _ _ _ hb
    obtain ⟨_, _, hw, hv, _⟩ := names_ok _ hm
    rw [List.length_drop] at hl
    by_cases hbar : (attr && barred s k) = true
    · rw [named_bar s attr v k hb hbar]
      exact hz
    · rw [named_some s attr v k hb (by simpa using hbar)]
      refine ⟨hw, hv, by simp; omega, fun j hj => ?_, fun h => absurd h (by simp), fun _ => by simp; omega⟩
      simp at hj
      by_cases h0 : j = 0
      · rw [h0, h]; omega
      · have := names_ascii _ hm
        refine this _ ?_
        show s.getD j 0 ∈ (s.drop 1).take k
        rw [List.getD_eq_getElem?_getD, List.getElem?_eq_getElem (by omega), Option.getD_some, List.mem_iff_getElem]
        refine ⟨j - 1, by rw [List.length_take, List.length_drop]; omega, ?_⟩
        rw [List.getElem_take, List.getElem_drop]
        congr 1
        omega
/-- What a reference stands for is whole and short; it is of the text, of bytes below 128. -/
theorem ref_facts (s : List UInt8) (attr : Bool) :
    whole (ref s attr).1 = true ∧ (ref s attr).1.length ≤ 4 ∧ (ref s attr).2 ≤ s.length ∧ Ascii s (ref s attr).2 ∧ ((ref s attr).2 = 0 → (ref s attr).1 = []) ∧ ((ref s attr).2 ≠ 0 → 2 ≤ (ref s attr).2) := by
  unfold ref
  split
  · rename_i h0
    split
    · rename_i h1
      have l1 := getD_mem s 1 (by omega)
      split
      · rename_i h2
        have l2 := getD_mem s 2 (by omega)
        have := numbered_facts s 3 16 (by omega) (fun j hj => by rcases (show j = 0 ∨ j = 1 ∨ j = 2 by omega) with rfl | rfl | rfl <;> omega) (by omega)
        exact ⟨this.1, this.2.1, this.2.2.1, this.2.2.2.1, this.2.2.2.2.1, fun h => by have := this.2.2.2.2.2 h; omega⟩
      · have := numbered_facts s 2 10 (by omega) (fun j hj => by rcases (show j = 0 ∨ j = 1 by omega) with rfl | rfl <;> omega) (by omega)
        exact ⟨this.1, this.2.1, this.2.2.1, this.2.2.2.1, this.2.2.2.2.1, fun h => by have := this.2.2.2.2.2 h; omega⟩
    · exact named_facts s attr h0
  · exact ⟨rfl, by simp, by simp, fun j hj => absurd hj (by simp), fun _ => rfl, fun h => absurd rfl h⟩

theorem whole_ascii (c : UInt8) (r : List UInt8) (h : c.toNat < 128) : whole (c :: r) = whole r := by
  have hl : leadN c.toNat = 1 := by unfold leadN; rw [if_pos h]
  have hk : partK (c :: r) = 1 := by rw [partK, hl]; rfl
  have hb : partB (c :: r) = true := by rw [partB, hl, hk]; rfl
  rw [whole_cons' c r hb, hk]
  rfl
theorem whole_drop (s : List UInt8) : ∀ n, Ascii s n → n ≤ s.length → whole s = whole (s.drop n) := by
  induction s with
  | nil => intro n _ _; simp
  | cons c r ih =>
    intro n ha hn
    cases n with
    | zero => rfl
    | succ n =>
      have h0 := ha 0 (by omega)
      simp at h0
      rw [whole_ascii c r h0, List.drop_succ_cons]
      refine ih n (fun j hj => ?_) (by simpa using hn)
      have := ha (j + 1) (by omega)
      simpa using this
/-- The first sign of a whole text that is not below 128. -/
theorem whole_first (c : UInt8) (r : List UInt8) (h : whole (c :: r) = true) (hc : ¬ c.toNat < 128) : ∃ a b, c :: r = a ++ b ∧ a ≠ [] ∧ whole a = true ∧ whole b = true ∧ ∀ x ∈ a, x.toNat ≠ 38 := by
  have hb : partB (c :: r) = true := by
    rw [whole_cons] at h
    exact (Bool.and_eq_true _ _ ▸ h).1
  obtain ⟨t, ht, hbt, hkt, hlt⟩ := part_take c r hb
  refine ⟨c :: t, (c :: r).drop (partK (c :: r)), ?_, by simp, ?_, ?_, ?_⟩
  · rw [← ht, List.take_append_drop]
  · exact whole_sign c t hbt (by rw [hlt, hkt])
  · rw [← whole_cons' c r hb]; exact h
  · intro x hx
    rw [List.mem_cons] at hx
    rcases hx with rfl | hx
    · omega
    · obtain ⟨j, hj, rfl⟩ := List.getElem_of_mem hx
      have := part_mem c t j hj (by rw [hkt, ← hlt]; simp; omega)
      omega
theorem expand_whole : ∀ (n : Nat) (s : List UInt8) (attr : Bool), s.length ≤ n → whole s = true → whole (expand s attr) = true := by
  intro n
  induction n with
  | zero =>
    intro s attr hl _
    rw [List.eq_nil_of_length_eq_zero (show s.length = 0 by omega)]
    rfl
  | succ n ih =>
    intro s attr hl hw
    cases s with
    | nil => rfl
    | cons c r =>
      simp at hl
      by_cases hc : c.toNat < 128
      · obtain ⟨f1, _, f3, f4, _, f6⟩ := ref_facts (c :: r) attr
        by_cases h0 : (ref (c :: r) attr).2 = 0
        · rw [expand_byte _ _ _ h0, whole_ascii c _ hc]
          exact ih r attr hl (by rw [← whole_ascii c r hc]; exact hw)
        · rw [expand_ref _ _ _ h0, whole_app _ _ f1]
          have := f6 h0
          refine ih _ attr ?_ ?_
          · rw [List.length_drop]; simp; omega
          · rw [← whole_drop _ _ f4 f3]; exact hw
      · obtain ⟨a, b, hab, hne, ha, hb, hx⟩ := whole_first c r hw hc
        rw [hab, expand_plain a b attr hx, whole_app _ _ ha]
        refine ih b attr ?_ hb
        have := congrArg List.length hab
        simp at this
        have : a.length ≠ 0 := fun h => hne (List.eq_nil_of_length_eq_zero h)
        omega
theorem expand_len : ∀ (n : Nat) (s : List UInt8) (attr : Bool), s.length ≤ n → (expand s attr).length ≤ 4 * s.length := by
  intro n
  induction n with
  | zero =>
    intro s attr hl
    rw [List.eq_nil_of_length_eq_zero (show s.length = 0 by omega)]
    simp [expand_nil]
  | succ n ih =>
    intro s attr hl
    cases s with
    | nil => simp [expand_nil]
    | cons c r =>
      simp at hl
      obtain ⟨_, f2, f3, _, _, f6⟩ := ref_facts (c :: r) attr
      by_cases h0 : (ref (c :: r) attr).2 = 0
      · rw [expand_byte _ _ _ h0]
        have := ih r attr hl
        simp
        omega
      · rw [expand_ref _ _ _ h0, List.length_append]
        have h2 := f6 h0
        have := ih ((c :: r).drop (ref (c :: r) attr).2) attr (by rw [List.length_drop]; simp; omega)
        rw [List.length_drop] at this
        simp at this f3 ⊢
        omega

/- texts side by side -/
theorem digN_app (base : Nat) (hb : base ≤ 16) : ∀ (y b : List UInt8), digN base (y ++ 32 :: b) = digN base (y ++ [32]) ∧ digN base (y ++ 32 :: b) ≤ y.length ∧ ∀ v, digX base v (y ++ 32 :: b) = digX base v (y ++ [32])
  | [], b => by
    have h : ¬ digV 32 < base := by
      have : digV 32 = 16 := by decide
      omega
    refine ⟨?_, ?_, fun v => ?_⟩
    · simp [digN, h]
    · simp [digN, h]
    · simp [digX, h]
  | c :: y, b => by
    obtain ⟨h1, h2, h3⟩ := digN_app base hb y b
    simp only [List.cons_append, digN, digX, List.length_cons]
    split
    · exact ⟨by rw [h1], by omega, fun v => h3 _⟩
    · exact ⟨rfl, by omega, fun _ => rfl⟩
theorem getD_app (x b : List UInt8) (j : Nat) (h : j ≤ x.length) : (x ++ 32 :: b).getD j 0 = (x ++ [32]).getD j 0 := by
  rw [List.getD_eq_getElem?_getD, List.getD_eq_getElem?_getD]
  by_cases hj : j < x.length
  · rw [List.getElem?_append_left hj, List.getElem?_append_left hj]
  · rw [List.getElem?_append_right (by omega), List.getElem?_append_right (by omega), show j - x.length = 0 by omega]
    rfl
theorem getD_in (x b : List UInt8) (j : Nat) (h : j ≤ x.length) (h0 : ((x ++ 32 :: b).getD j 0).toNat ≠ 32) : j < x.length := by
  by_cases hj : j < x.length
  · exact hj
  · rw [List.getD_eq_getElem?_getD, List.getElem?_append_right (by omega), show j - x.length = 0 by omega] at h0
    exact absurd rfl h0
theorem numbered_app (x b : List UInt8) (f base : Nat) (hb : base ≤ 16) (hf : f ≤ x.length) : numbered (x ++ 32 :: b) f base = numbered (x ++ [32]) f base ∧ (numbered (x ++ 32 :: b) f base).2 ≤ x.length := by
  have e1 : (x ++ 32 :: b).drop f = x.drop f ++ 32 :: b := List.drop_append_of_le_length hf
  have e2 : (x ++ [32]).drop f = x.drop f ++ [32] := List.drop_append_of_le_length hf
  obtain ⟨h1, h2, h3⟩ := digN_app base hb (x.drop f) b
  rw [List.length_drop] at h2
  unfold numbered
  rw [e1, e2, h1, h3]
  rw [h1] at h2
  generalize digN base (x.drop f ++ [32]) = K at *
  rw [getD_app x b (f + K) (by omega)]
  refine ⟨rfl, ?_⟩
  split
  · simp
  · show f + K + _ ≤ _
    split
    · rename_i h59
      have := getD_in x b (f + K) (by omega) (by rw [getD_app x b _ (by omega)]; omega)
      omega
    · omega
theorem prefix_app (x b n : List UInt8) (h : ∀ c ∈ n, 48 ≤ c.toNat) : n <+: x ++ 32 :: b ↔ n <+: x := by
  constructor
  · intro hp
    by_cases hl : n.length ≤ x.length
    · exact List.prefix_of_prefix_length_le hp (List.prefix_append _ _) hl
    · exfalso
      have e := List.prefix_iff_eq_take.1 hp
      have hx : (x ++ 32 :: b)[x.length]? = some 32 := by rw [List.getElem?_append_right (Nat.le_refl _), Nat.sub_self]; rfl
      have : n[x.length]? = some 32 := by rw [e, List.getElem?_take, if_pos (by omega)]; exact hx
      have := h 32 (List.mem_of_getElem? this)
      simp at this
  · intro hp
    exact hp.trans (List.prefix_append _ _)
theorem best_pref (t u : List UInt8) (h : ∀ x ∈ names, x.1 <+: t ↔ x.1 <+: u) : best t = best u := by
  cases hu : best u with
  | none =>
    refine best_none t fun x hx hp => ?_
    have hpu := (h x hx).1 hp
    have : ∀ n, bestN n u = none → ∀ j, 1 ≤ j → j ≤ n → look (u.take j) = none := by
      intro n
      induction n with
      | zero => intro _ j a b; omega
      | succ n ih =>
        intro hn j a b
        rw [bestN] at hn
        cases hl : look (u.take (n + 1)) with
        | some v => rw [hl] at hn; cases hn
        | none =>
          rw [hl] at hn
          by_cases e : j = n + 1
          · rw [e]; exact hl
          · exact ih hn j a (by omega)
    obtain ⟨h1, h8, _⟩ := names_ok x hx
    have hl := hpu.length_le
    have := this _ hu x.1.length h1 (by omega)
    rw [← List.prefix_iff_eq_take.1 hpu, names_once x hx] at this
    cases this
  | some y =>
    obtain ⟨v, k⟩ := y
    obtain ⟨h1, h2, h3⟩ := bestN_mem _ _ _ _ hu
    have hm := look_mem _ _ h3
    have hk : (u.take k).length = k := by rw [List.length_take]; omega
    have := best_of t (u.take k, v) hm ((h _ hm).2 (List.take_prefix _ _)) (fun z hz hp => ?_)
    · rw [this]; simp [hk]
    · show z.1.length ≤ (u.take k).length
      rw [hk]
      have hpu := (h z hz).1 hp
      obtain ⟨g1, g8, _⟩ := names_ok z hz
      have hl := hpu.length_le
      rcases Nat.lt_or_ge k z.1.length with hlt | hge
      · exfalso
        have hh : ∀ n, bestN n u = some (v, k) → z.1.length ≤ n → k < z.1.length → False := by
          intro n
          induction n with
          | zero => intro _ a b; omega
          | succ n ih =>
            intro hn a b
            rw [bestN] at hn
            cases hl : look (u.take (n + 1)) with
            | some w =>
              rw [hl] at hn
              simp at hn
              omega
            | none =>
              rw [hl] at hn
              by_cases e : z.1.length = n + 1
              · rw [← e, ← List.prefix_iff_eq_take.1 hpu, names_once z hz] at hl
                cases hl
              · exact ih hn (by omega) b
        exact hh _ hu (by omega) hlt
      · exact hge
theorem ref_app (x b : List UInt8) (attr : Bool) : ref (x ++ 32 :: b) attr = ref (x ++ [32]) attr ∧ (ref (x ++ 32 :: b) attr).2 ≤ x.length := by
  unfold ref
  rw [getD_app x b 0 (by omega)]
  by_cases h0 : ((x ++ [32]).getD 0 0).toNat = 38
  · have l0 := getD_in x b 0 (by omega) (by rw [getD_app x b 0 (by omega)]; omega)
    rw [if_pos h0, if_pos h0, getD_app x b 1 (by omega)]
    by_cases h1 : ((x ++ [32]).getD 1 0).toNat = 35
    · have l1 := getD_in x b 1 (by omega) (by rw [getD_app x b 1 (by omega)]; omega)
      rw [if_pos h1, if_pos h1, getD_app x b 2 (by omega)]
      by_cases h2 : ((x ++ [32]).getD 2 0).toNat = 120 ∨ ((x ++ [32]).getD 2 0).toNat = 88
      · have l2 := getD_in x b 2 (by omega) (by rw [getD_app x b 2 (by omega)]; omega)
        rw [if_pos h2, if_pos h2]
        exact numbered_app x b 3 16 (by omega) (by omega)
      · rw [if_neg h2, if_neg h2]
        exact numbered_app x b 2 10 (by omega) (by omega)
    · rw [if_neg h1, if_neg h1]
      unfold named
      have e1 : (x ++ 32 :: b).drop 1 = x.drop 1 ++ 32 :: b := List.drop_append_of_le_length (by omega)
      have e2 : (x ++ [32]).drop 1 = x.drop 1 ++ [32] := List.drop_append_of_le_length (by omega)
      rw [e1, e2]
      have hA : best (x.drop 1 ++ 32 :: b) = best (x.drop 1) := best_pref _ _ fun y hy => prefix_app _ _ _ (names_ok y hy).2.2.2.2
      have hB : best (x.drop 1 ++ [32]) = best (x.drop 1) := best_pref _ _ fun y hy => prefix_app _ _ _ (names_ok y hy).2.2.2.2
      rw [hA, hB]
      cases hb : best (x.drop 1) with
      | none => exact ⟨rfl, by simp⟩
      | some y =>
        obtain ⟨v, k⟩ := y
        obtain ⟨k1, _, kl, _⟩ := best_some _ _ _ hb
        rw [List.length_drop] at kl
        have hbar : barred (x ++ 32 :: b) k = barred (x ++ [32]) k := by
          unfold barred
          rw [getD_app x b k (by omega), getD_app x b (k + 1) (by omega)]
        simp only [hbar]
        refine ⟨trivial, ?_⟩
        split
        · simp
        · show k + 1 ≤ _
          omega
  · rw [if_neg h0, if_neg h0]
    exact ⟨rfl, by simp⟩
theorem expand_app : ∀ (n : Nat) (x b : List UInt8) (attr : Bool), x.length ≤ n → expand (x ++ 32 :: b) attr = expand (x ++ [32]) attr ++ expand b attr := by
  intro n
  induction n with
  | zero =>
    intro x b attr hl
    rw [List.eq_nil_of_length_eq_zero (show x.length = 0 by omega), List.nil_append, List.nil_append]
    rw [expand_byte 32 b attr (by rw [ref_plain _ _ (by simp)]), expand_byte 32 [] attr (by rw [ref_plain _ _ (by simp)])]
    rfl
  | succ n ih =>
    intro x b attr hl
    cases x with
    | nil => exact ih [] b attr (by simp)
    | cons c r =>
      simp at hl
      obtain ⟨e, hle⟩ := ref_app (c :: r) b attr
      rw [List.cons_append] at e hle ⊢
      rw [List.cons_append] at e ⊢
      by_cases h0 : (ref (c :: (r ++ 32 :: b)) attr).2 = 0
      · rw [expand_byte _ _ _ h0, expand_byte _ _ _ (by rw [← e]; exact h0), ih r b attr hl]
        rfl
      · have h0' : (ref (c :: (r ++ [32])) attr).2 ≠ 0 := by rw [← e]; exact h0
        rw [expand_ref _ _ _ h0, expand_ref _ _ _ h0', e]
        rw [e] at hle
        obtain ⟨m, hm⟩ : ∃ m, (ref (c :: (r ++ [32])) attr).2 = m + 1 := ⟨_, (Nat.succ_pred_eq_of_ne_zero h0').symm⟩
        rw [hm] at hle ⊢
        simp at hle
        rw [List.drop_succ_cons, List.drop_succ_cons, List.drop_append_of_le_length hle, List.drop_append_of_le_length hle, ih (r.drop m) b attr (by rw [List.length_drop]; omega), List.append_assoc]

/- digits -/
/-- The number of digits, behind what v came to. -/
def valD (base v : Nat) (l : List UInt8) : Nat := l.foldl (fun a c => a * base + digV c) v
def AllDig (base : Nat) (l : List UInt8) : Prop := ∀ c ∈ l, digV c < base
theorem dig_all (base : Nat) (t : List UInt8) : ∀ (l : List UInt8) (v : Nat), AllDig base l → digN base (l ++ t) = l.length + digN base t ∧ digX base v (l ++ t) = digX base (valD base v l) t
  | [], v, _ => by simp [valD]
  | c :: r, v, h => by
    obtain ⟨h1, h2⟩ := dig_all base t r (v * base + digV c) (fun x hx => h x (List.mem_cons_of_mem _ hx))
    have hc := h c (by simp)
    simp only [List.cons_append, digN, digX, if_pos hc, List.length_cons]
    exact ⟨by omega, by rw [h2]; rfl⟩
theorem valD_zeros (base : Nat) (l : List UInt8) : ∀ z, valD base 0 (List.replicate z 48 ++ l) = valD base 0 l
  | 0 => rfl
  | z + 1 => by
    rw [List.replicate_succ, List.cons_append]
    have : valD base 0 (48 :: (List.replicate z 48 ++ l)) = valD base (0 * base + digV 48) (List.replicate z 48 ++ l) := rfl
    rw [this, Nat.zero_mul, Nat.zero_add, show digV 48 = 0 by decide]
    exact valD_zeros base l z
/-- The digits that the law writes: of ten and of sixteen. -/
def digitB (k : Nat) : UInt8 := if k < 10 then UInt8.ofNat (48 + k) else UInt8.ofNat (87 + k)
theorem digitB_val : ∀ k, k < 16 → digV (digitB k) = k := by decide
/-- A reference by number, written out. -/
theorem ref_digits (k z : Nat) (D : List UInt8) (sixteen ends attr : Bool) (t : List UInt8) (hD : AllDig (if sixteen then 16 else 10) D) (hv : valD (if sixteen then 16 else 10) 0 D = k) (hne : D ≠ [])
    (ht : t = [] ∨ ∃ r, t = 32 :: r) :
    ref ((if sixteen then [38, 35, 120] else [38, 35]) ++ (List.replicate z 48 ++ D) ++ (if ends then [59] else []) ++ t) attr =
      (number (k : Int), ((if sixteen then [38, 35, 120] else [38, 35]) ++ (List.replicate z 48 ++ D) ++ (if ends then [59] else [] : List UInt8)).length) := by
  have hA : AllDig (if sixteen then 16 else 10) (List.replicate z 48 ++ D) := by
    intro c hc
    rw [List.mem_append] at hc
    rcases hc with hc | hc
    · rw [(List.mem_replicate.1 hc).2, show digV 48 = 0 by decide]
      cases sixteen <;> simp
    · exact hD c hc
  have hV : valD (if sixteen then 16 else 10) 0 (List.replicate z 48 ++ D) = k := by rw [valD_zeros]; exact hv
  have hN : List.replicate z 48 ++ D ≠ [] := by simp [hne]
  generalize List.replicate z 48 ++ D = E at *
  clear hD hv hne
  obtain ⟨d, E', rfl⟩ := List.exists_cons_of_ne_nil hN
  have hd := hA d (by simp)
  have hd2 : sixteen = false → ¬ (d.toNat = 120 ∨ d.toNat = 88) := by
    rintro rfl h
    have hd' : digV d < 10 := hd
    clear hd
    unfold digV at hd'
    (repeat' split at hd') <;> omega
  have htail : ∀ b, (b = 16 ∨ b = 10) → digN b ((if ends then [59] else []) ++ t) = 0 ∧ (∀ v, digX b v ((if ends then [59] else []) ++ t) = v) ∧ ((((if ends then [59] else []) ++ t : List UInt8).getD 0 0).toNat = 59 ↔ ends = true) := by
    intro b hb
    have h32 : digV 32 = 16 := by decide
    have h59 : digV 59 = 16 := by decide
    cases ends
    · rcases ht with rfl | ⟨r, rfl⟩
      · exact ⟨rfl, fun _ => rfl, by simp⟩
      · refine ⟨?_, fun v => ?_, by simp⟩
        · simp [digN, h32]; omega
        · simp [digX, h32]; omega
    · refine ⟨?_, fun v => ?_, by simp⟩
      · simp [digN, h59]; omega
      · simp [digX, h59]; omega
  unfold ref
  cases sixteen
  · simp only [Bool.false_eq_true, if_false] at *
    obtain ⟨t1, t2, t3⟩ := htail 10 (Or.inr rfl)
    rw [if_pos (by simp), if_pos (by simp), if_neg (by simpa using hd2)]
    unfold numbered
    have e : ([38, 35] ++ d :: E' ++ (if ends = true then [59] else []) ++ t).drop 2 = d :: E' ++ ((if ends = true then [59] else []) ++ t) := by simp
    obtain ⟨n1, n2⟩ := dig_all 10 ((if ends = true then [59] else []) ++ t) (d :: E') 0 hA
    rw [e, n1, n2, t1, t2, hV, if_neg (by simp)]
    have g : ([38, 35] ++ d :: E' ++ (if ends = true then [59] else []) ++ t).getD (2 + ((d :: E').length + 0)) 0 = ((if ends = true then [59] else []) ++ t).getD 0 0 := by
      rw [List.append_assoc, List.getD_eq_getElem?_getD, List.getElem?_append_right (by simp; omega), List.getD_eq_getElem?_getD]
      congr 2
      simp; omega
    rw [g]
    cases ends
    · rw [if_neg (by rw [t3]; simp)]; simp; omega
    · rw [if_pos (by rw [t3])]; simp; omega
  · simp only [if_true] at *
    obtain ⟨t1, t2, t3⟩ := htail 16 (Or.inl rfl)
    rw [if_pos (by simp), if_pos (by simp), if_pos (by simp)]
    unfold numbered
    have e : ([38, 35, 120] ++ d :: E' ++ (if ends = true then [59] else []) ++ t).drop 3 = d :: E' ++ ((if ends = true then [59] else []) ++ t) := by simp
    obtain ⟨n1, n2⟩ := dig_all 16 ((if ends = true then [59] else []) ++ t) (d :: E') 0 hA
    rw [e, n1, n2, t1, t2, hV, if_neg (by simp)]
    have g : ([38, 35, 120] ++ d :: E' ++ (if ends = true then [59] else []) ++ t).getD (3 + ((d :: E').length + 0)) 0 = ((if ends = true then [59] else []) ++ t).getD 0 0 := by
      rw [List.append_assoc, List.getD_eq_getElem?_getD, List.getElem?_append_right (by simp; omega), List.getD_eq_getElem?_getD]
      congr 2
      simp; omega
    rw [g]
    cases ends
    · rw [if_neg (by rw [t3]; simp)]; simp; omega
    · rw [if_pos (by rw [t3])]; simp; omega
end Go.Proofs.YtobgdignanpliaaDoor.Plain
