/-
  An element that is being made by the laws' made: its cells, its attributes; beside a row and a tape. No program is walked.
-/
import Derived.Test.YtbadckkcjjfnoaaDTZ
import Derived.Test.YtbadckkcjjfnoaaDPCopy
import Derived.Test.YtbadckkcjjfnoaaDPMem
import Derived.Test.YtbadckkcjjfnoaaKWords
namespace Go.Proofs.Ytbadckkcjjfnoaa
open Go.RowKit

theorem Stepped.turns {T : Nat} {W W' : World} (h : Stepped T W W') : Turns (fun b => b = T) W W' := by
  obtain ⟨q1, q2, rfl | ⟨u, rfl⟩⟩ := h
  · exact Turns.of_below (below_drewN (Below.refl _ _) q1)
  · exact ((Turns.of_below (M := fun b => b = T) (below_drewN (Below.refl _ W) q1)).setCell (B := T) (.inl rfl) 1 u).trans (Turns.of_below (below_drewN (Below.refl _ _) q2))
/-- What is made lies from base on; beside it the tape turns. -/
def Mk (B base : Nat) : Nat → Prop := fun b => b = B ∨ base ≤ b
theorem Turns.next {B base : Nat} {W W1 W2 : World} (h : Turns (Mk B base) W W1) (k : Turns (Mk B base) W1 W2) : Turns (Mk B base) W W2 := h.trans (k.mono fun _ _ q => .inl q)
theorem Turns.nextB {B base : Nat} {W W1 W2 : World} (h : Turns (Mk B base) W W1) (k : Below W1.heap.size W1 W2) : Turns (Mk B base) W W2 := h.trans (.of_below k)
theorem Turns.step {B base : Nat} {W W1 W2 : World} (h : Turns (Mk B base) W W1) (k : Stepped B W1 W2) : Turns (Mk B base) W W2 := h.next (k.turns.mono fun _ _ e => .inl e)
theorem TapeZ.turns {w W W' : World} {v : Value} {zs : List Int} {B a : Nat} {M : Nat → Prop} (h : TapeZ w v zs B a W) (ht : Turns M W W') (hm : ¬ M B) (hw : ∀ b, M b → w.heap.size ≤ b) : TapeZ w v zs B a W' := by
  have hk := ht.block B h.lt hm
  refine ⟨h.ints, h.new, ?_, h.le, ?_, ?_, h.below.trans (ht.below h.below.size fun b hb k => absurd (hw b k) (by omega))⟩
  · rw [World.cell?_of_block (w := W) hk]; exact h.row
  · rw [World.cell?_of_block (w := W) hk]; exact h.at_
  · rw [World.frozen?_of_block (w := W) hk]; exact h.free
theorem RowM.turns {base B H : Nat} {W W' : World} {v : Value} {qs : List ((Nd × Value × Value) × Fo)} (h : RowM base v qs W) (ht : Turns (Mk B H) W W') (hH : H = W.heap.size) (hB : B < base) : RowM base v qs W' := by
  have hk : ∀ (P : Nat → Prop), (∀ b, P b → base ≤ b) → Kept P W W' := fun P hP => ht.kept fun b hb k => by
    rintro (rfl | e)
    · exact absurd (hP b k) (by omega)
    · omega
  refine ⟨ownsRow_kept h.row ht fun g e => ?_, fun q hq => (h.attrs q hq).kept (hk _ fun _ k => k.1), fun q hq => (h.kids q hq).kept (hk _ fun _ k => k.1)⟩
  have := h.row.lt g e
  rintro (rfl | k)
  · omega
  · omega
/-- The names, where Words laid them. -/
def NamesZ (g : Nat) (W : World) : Prop := g < W.heap.size ∧ ∀ i, i < 24 → W.cell? ⟨g, i, none⟩ = some (.string ⟨(namesM.getD i []).toArray⟩)
theorem NamesZ.turns {g : Nat} {W W' : World} {M : Nat → Prop} (h : NamesZ g W) (ht : Turns M W W') (hm : ¬ M g) : NamesZ g W' :=
  ⟨Nat.lt_of_lt_of_le h.1 ht.size, fun i hi => (World.cell?_of_block (w := W) (ht.block g h.1 hm)).trans (h.2 i hi)⟩
theorem NamesZ.of_words {W W' : World} {v : Value} (h : W'.ownsRow W.heap.size 9 1 v namesM.length (namesM.map strV)) : ∃ g cap, v = .slice (some ⟨g, 0, none⟩) 24 cap ∧ NamesZ g W' ∧ W.heap.size ≤ g := by
  rcases Joins.ownsRow_forms h with ⟨_, h0⟩ | ⟨g, cap, rfl⟩
  · rw [namesM_len] at h0; cases h0
  · refine ⟨g, cap, by rw [namesM_len], ⟨(h.lt g rfl).2, fun i hi => ?_⟩, (h.lt g rfl).1⟩
    have hl : i < namesM.length := by rw [namesM_len]; exact hi
    rw [h.cellAt i (by omega)]
    simp [strV, hl]
/-- The element at block E: its cells, its attributes, in memory from H on. -/
structure ElemZ (H E : Nat) (d : Nd) (va : Value) (W : World) : Prop where
  cells : Cells7 W E 0 d va (.slice none 0 0)
  free : ∀ i, W.frozen? ⟨E, i, none⟩ = false
  lo : H ≤ E
  lt : E < W.heap.size
  row : W.ownsRow H 40 2 va d.attrs.length (atCells d.attrs)
  off : va.ownBlock ≠ some E
theorem cells7_block {W W' : World} {E : Nat} {d : Nd} {va vk : Value} (h : Cells7 W E 0 d va vk) (hb : W'.heap[E]? = W.heap[E]?) : Cells7 W' E 0 d va vk := by
  have hc : ∀ i, W'.cell? ⟨E, i, none⟩ = W.cell? ⟨E, i, none⟩ := fun i => World.cell?_of_block (w := W) hb
  exact ⟨(hc _).trans h.c0, (hc _).trans h.c1, (hc _).trans h.c2, (hc _).trans h.c3, (hc _).trans h.c4, (hc _).trans h.c5, (hc _).trans h.c6⟩
theorem ElemZ.turns {H E : Nat} {d : Nd} {va : Value} {W W' : World} {M : Nat → Prop} (h : ElemZ H E d va W) (ht : Turns M W W') (hm : ∀ b, H ≤ b → b < W.heap.size → ¬ M b) : ElemZ H E d va W' := by
  have hb := ht.block E h.lt (hm E h.lo h.lt)
  exact ⟨cells7_block h.cells hb, fun i => (World.frozen?_of_block (w := W) hb).trans (h.free i), h.lo, Nat.lt_of_lt_of_le h.lt ht.size, ownsRow_kept h.row ht fun g e => hm g (h.row.lt g e).1 (h.row.lt g e).2, h.off⟩
theorem ElemZ.step {H E B : Nat} {d : Nd} {va : Value} {W W' : World} (h : ElemZ H E d va W) (hs : Stepped B W W') (hB : B < H) : ElemZ H E d va W' :=
  h.turns hs.turns fun b hb _ e => by omega
theorem ElemZ.on {H E : Nat} {d : Nd} {va : Value} {W W' : World} (h : ElemZ H E d va W) (hb : Below W.heap.size W W') : ElemZ H E d va W' := h.turns (M := fun _ => False) (.of_below hb) fun _ _ _ k => k
theorem cell_set {W : World} {E i j : Nat} {v u : Value} (h : W.cell? ⟨E, j, none⟩ = some u) : (W.setCell ⟨E, i, none⟩ v).cell? ⟨E, j, none⟩ = some (if i = j then v else u) := by
  by_cases e : i = j
  · subst e
    rw [if_pos rfl]
    exact World.cell?_setCell_same _ _ (u := u) _ h
  · rw [if_neg e, World.cell?_setCell_other _ _ _ _ (by intro k; injection k with _ k; exact e k)]
    exact h
/-- Its space is set. -/
theorem ElemZ.space {H E : Nat} {d : Nd} {va : Value} {W : World} (h : ElemZ H E d va W) (s : Int) : ElemZ H E { d with space := s } va (W.setCell ⟨E, 1, none⟩ (.int .i64 s)) := by
  have ht : Turns (fun b => b = E) W (W.setCell ⟨E, 1, none⟩ (.int .i64 s)) := (Turns.refl (fun b => b = E) W).setCell (.inl rfl) 1 _
  obtain ⟨c0, c1, c2, c3, c4, c5, c6⟩ := h.cells
  refine ⟨⟨cell_set c0, cell_set c1, cell_set c2, cell_set c3, cell_set c4, cell_set c5, cell_set c6⟩, fun i => by rw [World.frozen?_setCell]; exact h.free i, h.lo, by simpa using h.lt, ownsRow_kept h.row ht fun g e k => h.off (by rw [e, k]), h.off⟩
/-- An attribute more: behind append, its row is set. -/
theorem ElemZ.attr {H E : Nat} {d : Nd} {va v' : Value} {W W' : World} {x : List UInt8 × List UInt8} (h : ElemZ H E d va W) (hg : W.grownBy W' va.ownBlock) (hr : W'.ownsRow H 40 2 v' (d.attrs.length + 1) (atCells d.attrs ++ atCell x)) (hat : ∀ g, v'.ownBlock = some g → va.ownBlock = some g ∨ W.heap.size ≤ g) :
    ElemZ H E { d with attrs := d.attrs ++ [x] } v' (W'.setCell ⟨E, 3, none⟩ v') := by
  have hb : W'.heap[E]? = W.heap[E]? := hg.block E h.lt h.off.symm
  have hoff : v'.ownBlock ≠ some E := fun e => (hat E e).elim h.off (fun k => by have := h.lt; omega)
  obtain ⟨c0, c1, c2, c3, c4, c5, c6⟩ := cells7_block h.cells hb
  have ht : Turns (fun b => b = E) W' (W'.setCell ⟨E, 3, none⟩ v') := (Turns.refl (fun b => b = E) W').setCell (.inl rfl) 3 _
  refine ⟨⟨cell_set c0, cell_set c1, cell_set c2, cell_set c3, cell_set c4, cell_set c5, cell_set c6⟩, fun i => by rw [World.frozen?_setCell, World.frozen?_of_block (w := W) hb]; exact h.free i, h.lo, by have := h.lt; have := hg.size; simp; omega, ?_, hoff⟩
  have hr2 := ownsRow_kept hr ht (fun g e k => hoff (by rw [e, k]))
  have e1 : (d.attrs ++ [x]).length = d.attrs.length + 1 := by simp
  have e2 : atCells (d.attrs ++ [x]) = atCells d.attrs ++ atCell x := by simp [atCells]
  show World.ownsRow _ H _ 2 v' (d.attrs ++ [x]).length (atCells (d.attrs ++ [x]))
  rw [e1, e2]
  exact hr2
theorem news_strs (w : World) (l : List (List UInt8)) (cs : Array Value) (T : TypeId) (hc : cs = (l.map fun s => Value.string ⟨s.toArray⟩).toArray) (j : Nat) (hj : j < l.length) : (w.alloc (.cells cs T)).cell? ⟨w.heap.size, j, none⟩ = some (.string ⟨(l.getD j []).toArray⟩) := by
  subst hc
  rw [World.cell?_alloc_mark w _ _ (0, 0) j]
  simp [hj]
end Go.Proofs.Ytbadckkcjjfnoaa
