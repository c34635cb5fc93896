/-
  The row of open elements in the law of rows: its root stays, no number stands twice, the others are of the six elements.
-/
import Derived.Test.YtbadckkcjjfnoaaSWK
namespace Go.Proofs.Ytbadckkcjjfnoaa
open Go.RowKit

structure RowC (m : Nat) (C : List EL) : Prop where
  once : (C.map (·.n)).Nodup
  num : ∀ x ∈ C, 1 ≤ x.n ∧ x.n ≤ 6
  name : ∀ x ∈ C, x.name.length ≤ 1
  len : C.length ≤ m
def RowOk (m : Nat) (R : List EL) : Prop := ∃ C, R = elRoot :: C ∧ RowC m C
theorem RowC.cut {m : Nat} {A D : List EL} {x : EL} (h : RowC m (A ++ x :: D)) : RowC m (A ++ D) ∧ x.n ∉ (A ++ D).map (·.n) := by
  obtain ⟨h1, h2, h3, h4⟩ := h
  rw [List.map_append, List.map_cons, List.nodup_append] at h1
  obtain ⟨a1, a2, a3⟩ := h1
  rw [List.nodup_cons] at a2
  refine ⟨⟨?_, fun y hy => h2 y ?_, fun y hy => h3 y ?_, ?_⟩, ?_⟩
  · rw [List.map_append, List.nodup_append]
    exact ⟨a1, a2.2, fun p hp q hq => a3 p hp q (List.mem_cons_of_mem _ hq)⟩
  · rcases List.mem_append.1 hy with k | k
    · exact List.mem_append_left _ k
    · exact List.mem_append_right _ (List.mem_cons_of_mem _ k)
  · rcases List.mem_append.1 hy with k | k
    · exact List.mem_append_left _ k
    · exact List.mem_append_right _ (List.mem_cons_of_mem _ k)
  · simp at h4 ⊢; omega
  · intro k
    rw [List.map_append] at k
    rcases List.mem_append.1 k with k | k
    · exact a3 _ k _ List.mem_cons_self rfl
    · exact a2.1 k
theorem RowC.put {m : Nat} {A D : List EL} {x : EL} (h : RowC m (A ++ D)) (hx : x.n ∉ (A ++ D).map (·.n)) (h1 : 1 ≤ x.n) (h2 : x.n ≤ 6) (h3 : x.name.length ≤ 1) : RowC (m + 1) (A ++ x :: D) := by
  obtain ⟨b1, b2, b3, b4⟩ := h
  rw [List.map_append] at hx b1
  rw [List.nodup_append] at b1
  obtain ⟨a1, a2, a3⟩ := b1
  refine ⟨?_, fun y hy => ?_, fun y hy => ?_, by simp at b4 ⊢; omega⟩
  · rw [List.map_append, List.map_cons, List.nodup_append, List.nodup_cons]
    refine ⟨a1, ⟨fun k => hx (List.mem_append_right _ k), a2⟩, fun p hp q hq => ?_⟩
    rcases List.mem_cons.1 hq with rfl | k
    · exact fun e => hx (List.mem_append_left _ (e ▸ hp))
    · exact a3 p hp q k
  · rcases List.mem_append.1 hy with k | k
    · exact b2 y (List.mem_append_left _ k)
    · rcases List.mem_cons.1 k with rfl | k
      · exact ⟨h1, h2⟩
      · exact b2 y (List.mem_append_right _ k)
  · rcases List.mem_append.1 hy with k | k
    · exact b3 y (List.mem_append_left _ k)
    · rcases List.mem_cons.1 k with rfl | k
      · exact h3
      · exact b3 y (List.mem_append_right _ k)
theorem RowC.more {m n : Nat} {C : List EL} (h : RowC m C) (k : m ≤ n) : RowC n C := ⟨h.once, h.num, h.name, Nat.le_trans h.len k⟩
theorem RowOk.more {m n : Nat} {R : List EL} (h : RowOk m R) (k : m ≤ n) : RowOk n R := by
  obtain ⟨C, e, h⟩ := h
  exact ⟨C, e, h.more k⟩
theorem RowOk.start : RowOk 0 [elRoot] := ⟨[], rfl, ⟨List.nodup_nil, fun _ h => absurd h (by simp), fun _ h => absurd h (by simp), Nat.le_refl _⟩⟩
theorem RowOk.pos {m : Nat} {R : List EL} (h : RowOk m R) : 0 < R.length := by
  obtain ⟨C, rfl, _⟩ := h
  simp
theorem RowOk.len {m : Nat} {R : List EL} (h : RowOk m R) : R.length ≤ m + 1 := by
  obtain ⟨C, rfl, h⟩ := h
  have := h.len
  simp; omega
theorem RowOk.fit {m : Nat} {R : List EL} (h : RowOk m R) : Fit R := by
  obtain ⟨C, rfl, h⟩ := h
  refine ⟨?_, fun x hx => ?_, fun x hx => ?_⟩
  · rw [List.map_cons, List.nodup_cons]
    refine ⟨fun k => ?_, h.once⟩
    obtain ⟨x, hx, e⟩ := List.mem_map.1 k
    have := (h.num x hx).1
    have e2 : elRoot.n = 0 := rfl
    rw [e2] at e
    omega
  · rcases List.mem_cons.1 hx with rfl | k
    · exact ⟨by decide, by decide⟩
    · have := h.num x k
      omega
  · rcases List.mem_cons.1 hx with rfl | k
    · exact by decide
    · have := h.name x k
      omega
theorem RowOk.erase {m i : Nat} {R : List EL} (h : RowOk m R) (h0 : 0 < i) (hi : i < R.length) : RowOk m (R.eraseIdx i) := by
  obtain ⟨C, rfl, h⟩ := h
  obtain ⟨j, rfl⟩ : ∃ j, i = j + 1 := ⟨i - 1, by omega⟩
  have hj : j < C.length := by simpa using hi
  rw [List.eraseIdx_cons_succ]
  refine ⟨_, rfl, ?_⟩
  obtain ⟨e1, e2⟩ := split_at hj
  rw [e2]
  rw [e1] at h
  exact h.cut.1
theorem RowOk.insert {m i : Nat} {R : List EL} {x : EL} (h : RowOk m R) (h0 : 0 < i) (hi : i ≤ R.length) (hx : elOpen R x.n = false) (h1 : 1 ≤ x.n) (h2 : x.n ≤ 6) (h3 : x.name.length ≤ 1) : RowOk (m + 1) (R.take i ++ x :: R.drop i) := by
  obtain ⟨C, rfl, h⟩ := h
  obtain ⟨j, rfl⟩ : ∃ j, i = j + 1 := ⟨i - 1, by omega⟩
  rw [List.take_succ_cons, List.drop_succ_cons, List.cons_append]
  refine ⟨_, rfl, ?_⟩
  have e : C.take j ++ C.drop j = C := List.take_append_drop j C
  refine RowC.put (by rw [e]; exact h) (by
    rw [e]
    intro k
    obtain ⟨y, hy, ey⟩ := List.mem_map.1 k
    unfold elOpen at hx
    rw [List.any_eq_false] at hx
    exact hx y (List.mem_cons_of_mem _ hy) (by simpa using ey)) h1 h2 h3
theorem RowOk.head {m : Nat} {R : List EL} (h : RowOk m R) : R[0]? = some elRoot := by
  obtain ⟨C, rfl, _⟩ := h
  rfl
theorem RowOk.root {m : Nat} {R : List EL} (h : RowOk m R) : elOpen R 0 = true := by
  obtain ⟨C, rfl, _⟩ := h
  rfl
theorem RowOk.at_ {m k : Nat} {R : List EL} (h : RowOk m R) (h0 : 0 < k) (hk : k < R.length) : 1 ≤ R[k].n ∧ R[k].n ≤ 6 := by
  obtain ⟨C, rfl, h⟩ := h
  obtain ⟨j, rfl⟩ : ∃ j, k = j + 1 := ⟨k - 1, by omega⟩
  rw [List.getElem_cons_succ]
  exact h.num _ (List.getElem_mem _)
theorem RowOk.ne {m j k : Nat} {R : List EL} (h : RowOk m R) (hj : j < k) (hk : k < R.length) : R[j].n ≠ R[k].n := by
  have h1 := h.fit.once
  have h2 := (List.pairwise_iff_getElem.1 h1) j k (by rw [List.length_map]; omega) (by rw [List.length_map]; omega) hj
  simpa using h2
/-- The nodes of the law: the root, six elements, a note. -/
def nodes8 : List PN := elemPN 1 [] [] :: (List.replicate 6 (elemPN 1 [120] []) ++ [notePN 3 [110]])
theorem nodes8_attrs : ∀ x ∈ nodes8, x.attrs.length ≤ 4294967296 := by
  intro x hx
  have e : nodes8.map (·.attrs) = [[], [], [], [], [], [], [], []] := by kernel_rfl
  have := List.mem_map_of_mem (f := fun x : PN => x.attrs) hx
  rw [e] at this
  have q : x.attrs = [] := by simpa using this
  rw [q]
  exact Nat.zero_le _
theorem nodes8_none {n : Int} (h : ¬ (0 ≤ n ∧ n < 8)) : pNode nodes8 n = pnZero := by
  unfold pNode pHas
  have e : (nodes8.length : Int) = 8 := by kernel_rfl
  rw [e, if_neg]
  simp only [Bool.and_eq_true, decide_eq_true_eq]
  exact h
theorem nodes8_may {fO : Int → Bool} {n : Int} (h : mayE nodes8 fO n = true) : 0 ≤ n ∧ n ≤ 6 ∧ fO n = false := by
  unfold mayE at h
  simp only [Bool.and_eq_true, decide_eq_true_eq, Bool.not_eq_true'] at h
  obtain ⟨h1, h2⟩ := h
  by_cases k : 0 ≤ n ∧ n < 8
  · refine ⟨k.1, ?_, h2⟩
    rcases Int.lt_or_le n 7 with q | q
    · omega
    · have e : n = 7 := by omega
      subst e
      exact absurd h1 (by decide +kernel)
  · rw [nodes8_none k] at h1
    exact absurd h1 (by decide +kernel)
theorem nodes8_name (n : Int) : (newE nodes8 n).name.length ≤ 1 := by
  show (pNode nodes8 n).name.length ≤ 1
  by_cases k : 0 ≤ n ∧ n < 8
  · obtain ⟨j, rfl⟩ : ∃ j : Nat, n = (j : Int) := ⟨n.toNat, by omega⟩
    have hj : j < 8 := by omega
    have hall : ∀ j : Fin 8, (pNode nodes8 ((j : Nat) : Int)).name.length ≤ 1 := by decide +kernel
    exact hall ⟨j, hj⟩
  · rw [nodes8_none k]
    decide +kernel
theorem elOpen_erase {R : List EL} {i : Nat} {n : Int} (h : elOpen R n = false) : elOpen (R.eraseIdx i) n = false := by
  unfold elOpen at h ⊢
  rw [List.any_eq_false] at h ⊢
  exact fun x hx => h x (List.mem_of_mem_eraseIdx hx)
theorem RowOk.new {m : Nat} {R : List EL} {n : Int} (h : RowOk m R) (hm : mayE nodes8 (elOpen R) n = true) : 1 ≤ n ∧ n ≤ 6 ∧ elOpen R n = false := by
  obtain ⟨k0, k1, k2⟩ := nodes8_may hm
  refine ⟨?_, k1, k2⟩
  rcases Int.lt_or_le n 1 with q | q
  · have e : n = 0 := by omega
    subst e
    rw [h.root] at k2
    cases k2
  · exact q
theorem RowOk.putS {m : Nat} {R : List EL} (h : RowOk m R) (i n : Int) : RowOk (m + 1) (putS nodes8 R i n).1 := by
  unfold Proofs.Ytbadckkcjjfnoaa.putS
  split
  · rename_i k
    obtain ⟨k1, k2, k3⟩ := k
    obtain ⟨q1, q2, q3⟩ := h.new k1
    exact h.insert (x := newE nodes8 n) (by omega) (by omega) q3 q1 q2 (nodes8_name n)
  · exact h.more (Nat.le_succ _)
theorem RowOk.dropS {m : Nat} {R : List EL} (h : RowOk m R) (n : Int) : RowOk (m + 1) (dropS R n).1 := by
  unfold Proofs.Ytbadckkcjjfnoaa.dropS
  split
  · exact h.more (Nat.le_succ _)
  · have := placeS_lt (n := n) h.pos
    exact (h.erase (by omega) (by omega)).more (Nat.le_succ _)
theorem RowOk.popS {m : Nat} {R : List EL} (h : RowOk m R) : RowOk (m + 1) (popS R).1 := h.dropS _
theorem RowOk.swapS {m : Nat} {R : List EL} (h : RowOk m R) (n k : Int) : RowOk (m + 1) (swapS nodes8 R n k).1 := by
  unfold Proofs.Ytbadckkcjjfnoaa.swapS
  split
  · rename_i q
    obtain ⟨k1, k2⟩ := q
    obtain ⟨q1, q2, q3⟩ := h.new k1
    have := placeS_lt (n := n) h.pos
    have he := h.erase (i := (placeS R n).toNat) (by omega) (by omega)
    exact he.insert (x := newE nodes8 k) (by omega) (by rw [List.length_eraseIdx, if_pos (by omega)]; omega) (elOpen_erase q3) q1 q2 (nodes8_name k)
  · exact h.more (Nat.le_succ _)
end Go.Proofs.Ytbadckkcjjfnoaa
