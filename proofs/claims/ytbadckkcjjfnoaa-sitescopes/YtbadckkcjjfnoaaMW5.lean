/-
  A mark more, a mark set: what they leave in memory. No program is walked.
-/
import Derived.Test.YtbadckkcjjfnoaaMW4
namespace Go.Proofs.Ytbadckkcjjfnoaa
open Go.RowKit

/-- One mark more behind the others. -/
theorem MarkQ.add {M : Nat → Prop} {w w1 : World} {B : Nat} {v v1 : Value} {qs : List (MK × Value)} {q : MK × Value} (h : MarkQ M w B v qs) (ha : ∀ W, AttrsP (fun _ => False) W q.2 q.1.attrs)
    (hg : w.grownBy w1 v.ownBlock) (hr : w1.ownsRow 0 63 3 v1 (qs.length + 1) (mkCells qs ++ mkCell q)) (hat : ∀ g, v1.ownBlock = some g → v.ownBlock = some g ∨ w.heap.size ≤ g) :
    MarkQ (New M w) (w1.setCell ⟨B, 0, none⟩ v1) B v1 (qs ++ [q]) ∧ Turns M w (w1.setCell ⟨B, 0, none⟩ v1) := by
  have hT : Turns (fun b => some b = v.ownBlock) w w1 := .of_grown hg (fun x e => e.symm)
  have hTM : Turns M w w1 := hT.mono (fun b _ e => (h.rowM b e.symm).1)
  have hT2 : Turns M w (w1.setCell ⟨B, 0, none⟩ v1) := hTM.setCell (.inl h.inM) 0 v1
  have hT3 : Turns (fun b => some b = v.ownBlock ∨ b = B) w (w1.setCell ⟨B, 0, none⟩ v1) := (hT.mono (L := fun b => some b = v.ownBlock ∨ b = B) (fun b _ e => .inl e)).setCell (.inl (.inr rfl)) 0 v1
  have hBv : some B ≠ v.ownBlock := fun e => (h.rowM B e.symm).2 rfl
  have hB1 : w1.heap[B]? = w.heap[B]? := hT.block B h.lt hBv
  have hBv1 : ∀ g, v1.ownBlock = some g → g ≠ B := by
    rintro g e rfl
    rcases hat _ e with h1 | h1
    · exact hBv h1.symm
    · exact absurd h.lt (by omega)
  have hc1 : w1.cell? ⟨B, 0, none⟩ = some v := by rw [World.cell?_of_block (w := w) hB1]; exact h.cell
  have hnew : ∀ g, v1.ownBlock = some g → New M w g := by
    intro g e
    rcases hat g e with h1 | h1
    · exact .inl (h.rowM g h1).1
    · exact .inr h1
  have hv1 : ∀ b, b < w.heap.size → (some b ≠ v.ownBlock) → some b ≠ v1.ownBlock := by
    intro b hb hne e
    rcases hat b e.symm with h1 | h1
    · exact hne h1.symm
    · omega
  refine ⟨⟨.inl h.inM, ?_, ?_, ?_, ?_, fun g e => ⟨hnew g e, hBv1 g e⟩, ?_⟩, hT2⟩
  · have := hT.size; have := h.lt; simp; omega
  · exact World.cell?_setCell_same _ _ _ hc1
  · rw [World.frozen?_setCell, World.frozen?_of_block (w := w) hB1]; exact h.free
  · rw [List.length_append, List.length_singleton, mkCells_snoc]
    refine hr.kept (row := some B) ⟨rfl, rfl, rfl, by simp, fun k _ hk => heap_setCell_other w1 ⟨B, 0, none⟩ k v1 (by rintro rfl; exact hk rfl)⟩ ?_
    cases hv : v1.ownBlock with
    | none => exact .inl rfl
    | some g => exact .inr (by intro e; injection e with e; exact hBv1 g hv e)
  · intro x hx
    rcases List.mem_append.1 hx with hx | hx
    · refine (((h.attrs x hx).mono (Q := fun b => (M b ∧ b ≠ B ∧ some b ≠ v.ownBlock) ∧ b < w.heap.size) (fun b k hb => ⟨k, hb⟩)).kept (hT3.kept ?_)).mono ?_
      · rintro b _ ⟨⟨_, h2, h3⟩, _⟩ (e | e)
        · exact h3 e
        · exact h2 e
      · rintro b ⟨⟨h1, h2, h3⟩, hb⟩ _
        exact ⟨.inl h1, h2, hv1 b hb h3⟩
    · rw [List.mem_singleton] at hx
      subst hx
      exact (ha _).mono (fun b k _ => k.elim)
/-- A mark in place of another. -/
theorem MarkQ.setq {M : Nat → Prop} {w : World} {B g n cap : Nat} {qs : List (MK × Value)} (h : MarkQ M w B (.slice (some ⟨g, 0, none⟩) n cap) qs) (j : Nat) (hj : j < qs.length) (q : MK × Value) (ha : AttrsP (fun b => M b ∧ b ≠ B ∧ b ≠ g) w q.2 q.1.attrs) :
    MarkQ M (((w.setCell ⟨g, j * 3, none⟩ (.int .i64 q.1.node)).setCell ⟨g, j * 3 + 1, none⟩ (.string ⟨q.1.name.toArray⟩)).setCell ⟨g, j * 3 + 2, none⟩ q.2) B (.slice (some ⟨g, 0, none⟩) n cap) (qs.set j q) ∧ Turns M w (((w.setCell ⟨g, j * 3, none⟩ (.int .i64 q.1.node)).setCell ⟨g, j * 3 + 1, none⟩ (.string ⟨q.1.name.toArray⟩)).setCell ⟨g, j * 3 + 2, none⟩ q.2) := by
  obtain ⟨hn, cur, hg, h1, h2, h3, h4⟩ := h.row_at
  have hgm := h.rowM g rfl
  have hT : Turns (fun b => b = g) w (((w.setCell ⟨g, j * 3, none⟩ (.int .i64 q.1.node)).setCell ⟨g, j * 3 + 1, none⟩ (.string ⟨q.1.name.toArray⟩)).setCell ⟨g, j * 3 + 2, none⟩ q.2) := (((Turns.refl (fun b => b = g) w).setCell (B := g) (.inl rfl) _ _).setCell (B := g) (.inl rfl) _ _).setCell (B := g) (.inl rfl) _ _
  have hB := hT.block B h.lt (fun e => hgm.2 e.symm)
  have e0 := heap_setCell_same w g (j * 3) _ _ (.int .i64 q.1.node) hg
  have e1 := heap_setCell_same _ g (j * 3 + 1) _ _ (.string ⟨q.1.name.toArray⟩) e0
  have e2 := heap_setCell_same _ g (j * 3 + 2) _ _ q.2 e1
  have hrow : mkCells (qs.set j q) = (((mkCells qs).set (j * 3) (.int .i64 q.1.node)).set (j * 3 + 1) (.string ⟨q.1.name.toArray⟩)).set (j * 3 + 2) q.2 := by
    have s0 := mkCells_set qs j 0 (.int .i64 q.1.node) (⟨q.1.node, qs[j].1.name, qs[j].1.attrs⟩, qs[j].2) hj (by omega) rfl
    have s1 := mkCells_set (qs.set j (⟨q.1.node, qs[j].1.name, qs[j].1.attrs⟩, qs[j].2)) j 1 (.string ⟨q.1.name.toArray⟩) (⟨q.1.node, q.1.name, qs[j].1.attrs⟩, qs[j].2) (by simpa using hj) (by omega) (by rw [List.getElem_set_self]; rfl)
    have s2 := mkCells_set ((qs.set j (⟨q.1.node, qs[j].1.name, qs[j].1.attrs⟩, qs[j].2)).set j (⟨q.1.node, q.1.name, qs[j].1.attrs⟩, qs[j].2)) j 2 q.2 q (by simpa using hj) (by omega) (by rw [List.getElem_set_self]; rfl)
    rw [Nat.add_zero] at s0
    rw [s0, s1, s2, List.set_set, List.set_set]
  refine ⟨⟨h.inM, Nat.lt_of_lt_of_le h.lt hT.size, by rw [World.cell?_of_block (w := w) hB]; exact h.cell, by rw [World.frozen?_of_block (w := w) hB]; exact h.free, ⟨mkCells_len _, .inr ⟨g, cap, _, by rw [List.length_set, hn], Nat.zero_le _, e2, by rw [List.length_set]; exact h1, h2, by simpa using h3, ?_⟩⟩, h.rowM, ?_⟩, hT.mono (fun b _ e => by rw [e]; exact hgm.1)⟩
  · rw [List.length_set, hrow, ← h4]
    simp only [Array.toList_setIfInBounds]
    rw [List.take_set, List.take_set, List.take_set]
  · intro x hx
    have hax : AttrsP (fun b => M b ∧ b ≠ B ∧ b ≠ g) w x.2 x.1.attrs := by
      rcases List.mem_or_eq_of_mem_set hx with hx | rfl
      · exact h.attrs_at x hx
      · exact ha
    exact (hax.kept (hT.kept (fun b _ k => k.2.2))).mono (fun b k _ => ⟨k.1, k.2.1, fun e => k.2.2 (by injection e)⟩)
end Go.Proofs.Ytbadckkcjjfnoaa
