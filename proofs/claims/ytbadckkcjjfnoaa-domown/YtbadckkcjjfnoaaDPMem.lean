/-
  The program's Doc in memory (chapter 6): nodes with links, a row of ten cells each. No program is walked.
-/
import Derived.Test.YtbadckkcjjfnoaaDMem
import Derived.Test.YtbadckkcjjfnoaaDPBytes
namespace Go.Proofs.Ytbadckkcjjfnoaa
open Go.RowKit

/-- A node as the program keeps it. -/
structure PN where
  kind : Int
  space : Int
  name : List UInt8
  attrs : List (List UInt8 × List UInt8)
  text : List UInt8
  up : Int
  before : Int
  behind : Int
  first : Int
  last : Int
deriving DecidableEq, Inhabited

def pnCell (q : PN × Value × Value) : List Value :=
  [.int .i64 q.1.kind, .int .i64 q.1.space, .string ⟨q.1.name.toArray⟩, q.2.1, q.2.2, .int .i64 q.1.up, .int .i64 q.1.before, .int .i64 q.1.behind, .int .i64 q.1.first, .int .i64 q.1.last]
def pnCells (qs : List (PN × Value × Value)) : List Value := qs.flatMap pnCell
theorem pnCells_len (qs : List (PN × Value × Value)) : (pnCells qs).length = qs.length * 10 := by
  induction qs with
  | nil => rfl
  | cons q r ih => show (pnCell q ++ pnCells r).length = _; rw [List.length_append, ih, List.length_cons]; simp [pnCell]; omega
theorem pnCells_snoc (qs : List (PN × Value × Value)) (q : PN × Value × Value) : pnCells (qs ++ [q]) = pnCells qs ++ pnCell q := by
  unfold pnCells
  rw [List.flatMap_append]
  simp
theorem pnCells_at : ∀ (qs : List (PN × Value × Value)) (j i : Nat) (hj : j < qs.length), i < 10 → (pnCells qs)[j * 10 + i]? = (pnCell qs[j])[i]?
  | [], j, _, hj, _ => absurd hj (by simp)
  | q :: r, 0, i, _, hi => by
    show (pnCell q ++ pnCells r)[0 * 10 + i]? = _
    rw [List.getElem?_append_left (by simp [pnCell]; omega), Nat.zero_mul, Nat.zero_add]
    rfl
  | q :: r, j + 1, i, hj, hi => by
    have h := pnCells_at r j i (by simpa using hj) hi
    show (pnCell q ++ pnCells r)[(j + 1) * 10 + i]? = _
    rw [List.getElem?_append_right (by simp [pnCell]; omega), show (j + 1) * 10 + i - (pnCell q).length = j * 10 + i by simp [pnCell]; omega, h]
    rfl
theorem pnCells_set : ∀ (qs : List (PN × Value × Value)) (j i : Nat) (u : Value) (q : PN × Value × Value) (hj : j < qs.length), i < 10 → pnCell q = (pnCell qs[j]).set i u → (pnCells qs).set (j * 10 + i) u = pnCells (qs.set j q)
  | [], j, _, _, _, hj, _, _ => absurd hj (by simp)
  | p :: r, 0, i, u, q, _, hi, h => by
    show (pnCell p ++ pnCells r).set (0 * 10 + i) u = pnCell q ++ pnCells r
    rw [Nat.zero_mul, Nat.zero_add, List.set_append_left _ _ (by simp [pnCell]; omega)]
    have h' : pnCell q = (pnCell p).set i u := h
    rw [h']
  | p :: r, j + 1, i, u, q, hj, hi, h => by
    show (pnCell p ++ pnCells r).set ((j + 1) * 10 + i) u = pnCell p ++ pnCells (r.set j q)
    rw [List.set_append_right _ _ (by simp [pnCell]; omega), show (j + 1) * 10 + i - (pnCell p).length = j * 10 + i by simp [pnCell]; omega, pnCells_set r j i u q (by simpa using hj) hi h]

/-- Nothing but blocks of M has turned, and what is new. -/
structure Turns (M : Nat → Prop) (w w' : World) : Prop where
  os : w'.os = w.os
  tape : w'.tape = w.tape
  output : w'.output = w.output
  size : w.heap.size ≤ w'.heap.size
  block : ∀ b, b < w.heap.size → ¬ M b → w'.heap[b]? = w.heap[b]?
theorem Turns.refl (M : Nat → Prop) (w : World) : Turns M w w := ⟨rfl, rfl, rfl, Nat.le_refl _, fun _ _ _ => rfl⟩
/-- M, and what is new since w. -/
def New (M : Nat → Prop) (w : World) : Nat → Prop := fun b => M b ∨ w.heap.size ≤ b
theorem Turns.trans {M : Nat → Prop} {w w1 w2 : World} (h : Turns M w w1) (k : Turns (New M w) w1 w2) : Turns M w w2 :=
  ⟨k.os.trans h.os, k.tape.trans h.tape, k.output.trans h.output, Nat.le_trans h.size k.size, fun b hb hm => (k.block b (Nat.lt_of_lt_of_le hb h.size) (fun q => q.elim hm (fun q => absurd hb (by omega)))).trans (h.block b hb hm)⟩
theorem Turns.mono {M L : Nat → Prop} {w w' : World} (h : Turns M w w') (hm : ∀ b, b < w.heap.size → M b → L b) : Turns L w w' :=
  ⟨h.os, h.tape, h.output, h.size, fun b hb hl => h.block b hb (fun q => hl (hm b hb q))⟩
theorem Turns.of_below {M : Nat → Prop} {w w' : World} (h : Below w.heap.size w w') : Turns M w w' := ⟨h.os, h.tape, h.output, h.size, fun b hb _ => h.block b hb⟩
theorem Turns.of_grown {M : Nat → Prop} {w w' : World} {row : Option Nat} (h : w.grownBy w' row) (hr : ∀ g, row = some g → M g) : Turns M w w' :=
  ⟨h.os, h.tape, h.output, h.size, fun b hb hm => h.block b hb (fun e => hm (hr b e.symm))⟩
theorem Turns.below {M : Nat → Prop} {w w' : World} {B : Nat} (h : Turns M w w') (hb : B ≤ w.heap.size) (hm : ∀ b, b < B → ¬ M b) : Below B w w' := ⟨h.os, h.tape, h.output, h.size, fun b k => h.block b (Nat.lt_of_lt_of_le k hb) (hm b k)⟩
theorem Turns.kept {M P : Nat → Prop} {w w' : World} (h : Turns M w w') (hp : ∀ b, b < w.heap.size → P b → ¬ M b) : Kept P w w' := ⟨h.size, fun b k hb => h.block b hb (hp b hb k)⟩
theorem ownsRow_kept {M : Nat → Prop} {w w' : World} {B s n : Nat} {e : TypeId} {v : Value} {xs : List Value} (h : w.ownsRow B e s v n xs) (ht : Turns M w w') (hm : ∀ g, v.ownBlock = some g → ¬ M g) : w'.ownsRow B e s v n xs := by
  obtain ⟨h1, h2⟩ := h
  refine ⟨h1, ?_⟩
  rcases h2 with h2 | ⟨g, cap, cur, rfl, hb, hg, hr⟩
  · exact .inl h2
  · refine .inr ⟨g, cap, cur, rfl, hb, ?_, hr⟩
    rw [ht.block g (heap_lt hg) (hm g rfl)]
    exact hg

theorem OwnsB.kept {M : Nat → Prop} {w w' : World} {v : Value} {l : List UInt8} (h : OwnsB w v l) (ht : Turns M w w') (hm : ∀ g, v.ownBlock = some g → ¬ M g) : OwnsB w' v l := h.block (fun g e => ht.block g (h.lt g e) (hm g e))
/-- The Doc at block B: v is its row of nodes, qs what that holds. All that it has lies in blocks of M. -/
structure DocQ (M : Nat → Prop) (w : World) (B : Nat) (v : Value) (qs : List (PN × Value × Value)) : Prop where
  inM : M B
  lt : B < w.heap.size
  cell : w.cell? ⟨B, 0, none⟩ = some v
  free : w.frozen? ⟨B, 0, none⟩ = false
  row : w.ownsRow 0 93 10 v qs.length (pnCells qs)
  rowM : ∀ g, v.ownBlock = some g → M g ∧ g ≠ B
  attrs : ∀ q ∈ qs, AttrsP (fun b => M b ∧ b ≠ B ∧ some b ≠ v.ownBlock ∧ ∀ p ∈ qs, some b ≠ p.2.2.ownBlock) w q.2.1 q.1.attrs
  texts : ∀ q ∈ qs, OwnsB w q.2.2 q.1.text
  textM : ∀ q ∈ qs, ∀ g, q.2.2.ownBlock = some g → M g ∧ g ≠ B ∧ some g ≠ v.ownBlock
  apart : ∀ i j (hi : i < qs.length) (hj : j < qs.length), i ≠ j → qs[i].2.2.ownBlock = none ∨ qs[i].2.2.ownBlock ≠ qs[j].2.2.ownBlock
theorem DocQ.mono {M L : Nat → Prop} {w : World} {B : Nat} {v : Value} {qs : List (PN × Value × Value)} (h : DocQ M w B v qs) (hm : ∀ b, b < w.heap.size → M b → L b) : DocQ L w B v qs :=
  ⟨hm B h.lt h.inM, h.lt, h.cell, h.free, h.row, fun g e => ⟨hm g (h.row.lt g e).2 (h.rowM g e).1, (h.rowM g e).2⟩, fun q hq => (h.attrs q hq).mono (fun b k hb => ⟨hm b hb k.1, k.2⟩), h.texts, fun q hq g e => ⟨hm g ((h.texts q hq).lt g e) (h.textM q hq g e).1, (h.textM q hq g e).2⟩, h.apart⟩
theorem DocQ.on {M L : Nat → Prop} {w w' : World} {B : Nat} {v : Value} {qs : List (PN × Value × Value)} (h : DocQ M w B v qs) (ht : Turns L w w') (hm : ∀ b, b < w.heap.size → M b → ¬ L b) : DocQ M w' B v qs := by
  have hk := ht.block B h.lt (hm B h.lt h.inM)
  refine ⟨h.inM, Nat.lt_of_lt_of_le h.lt ht.size, ?_, ?_, ?_, h.rowM, ?_, ?_, h.textM, h.apart⟩
  · rw [World.cell?_of_block (w := w) hk]; exact h.cell
  · rw [World.frozen?_of_block (w := w) hk]; exact h.free
  · exact ownsRow_kept h.row ht (fun g e => hm g (h.row.lt g e).2 (h.rowM g e).1)
  · exact fun q hq => (h.attrs q hq).kept (ht.kept (fun b hb k => hm b hb k.1))
  · exact fun q hq => OwnsB.kept (h.texts q hq) ht (fun g e => hm g ((h.texts q hq).lt g e) (h.textM q hq g e).1)
theorem DocQ.below {M : Nat → Prop} {w w' : World} {B : Nat} {v : Value} {qs : List (PN × Value × Value)} (h : DocQ M w B v qs) (hb : Below w.heap.size w w') : DocQ M w' B v qs := h.on (L := fun _ => False) (.of_below hb) (fun _ _ _ k => k)
/-- A cell of a node. -/
theorem DocQ.at {M : Nat → Prop} {w : World} {B g n cap : Nat} {qs : List (PN × Value × Value)} (h : DocQ M w B (.slice (some ⟨g, 0, none⟩) n cap) qs) (j i : Nat) (hj : j < qs.length) (hi : i < 10) : w.cell? ⟨g, j * 10 + i, none⟩ = (pnCell qs[j])[i]? := by
  have hr := h.row
  have hn : n = qs.length := by
    rcases hr.2 with ⟨e, _⟩ | ⟨_, _, _, e, _⟩
    · cases e
    · injection e
  subst hn
  rw [hr.cellAt (j * 10 + i) (by omega), pnCells_at qs j i hj hi]
theorem DocQ.form {M : Nat → Prop} {w : World} {B : Nat} {v : Value} {qs : List (PN × Value × Value)} (h : DocQ M w B v qs) : (v = .slice none 0 0 ∧ qs = []) ∨ ∃ g cap, v = .slice (some ⟨g, 0, none⟩) qs.length cap := by
  rcases h.row.2 with ⟨e, h0⟩ | ⟨g, cap, _, e, _⟩
  · exact .inl ⟨e, List.eq_nil_of_length_eq_zero h0⟩
  · exact .inr ⟨g, cap, e⟩
theorem DocQ.pos {M : Nat → Prop} {w : World} {B : Nat} {v : Value} {qs : List (PN × Value × Value)} (h : DocQ M w B v qs) (h0 : 0 < qs.length) : ∃ g cap, v = .slice (some ⟨g, 0, none⟩) qs.length cap := by
  rcases h.form with ⟨_, rfl⟩ | h
  · simp at h0
  · exact h
/-- A link of a node is set. -/
theorem DocQ.set {M : Nat → Prop} {w : World} {B g cap : Nat} {qs : List (PN × Value × Value)} (h : DocQ M w B (.slice (some ⟨g, 0, none⟩) qs.length cap) qs) (j i : Nat) (u : Value) (p : PN) (hj : j < qs.length) (hi : i < 10)
    (hc : pnCell (p, qs[j].2) = (pnCell qs[j]).set i u) (ha : p.attrs = qs[j].1.attrs) (ht : p.text = qs[j].1.text) :
    DocQ M (w.setCell ⟨g, j * 10 + i, none⟩ u) B (.slice (some ⟨g, 0, none⟩) qs.length cap) (qs.set j (p, qs[j].2)) ∧ Turns M w (w.setCell ⟨g, j * 10 + i, none⟩ u) := by
  obtain ⟨hr, hg⟩ := h.row.stored (j * 10 + i) u
  rw [pnCells_set qs j i u (p, qs[j].2) hj hi hc] at hr
  have hgM := h.rowM g rfl
  have hT : Turns (fun b => b = g) w (w.setCell ⟨g, j * 10 + i, none⟩ u) := .of_grown hg (fun x e => by injection e with e; exact e.symm)
  have hmem : ∀ q ∈ qs.set j (p, qs[j].2), ∃ q0 ∈ qs, q.2 = q0.2 ∧ q.1.attrs = q0.1.attrs ∧ q.1.text = q0.1.text := by
    intro q hq
    obtain ⟨k, hk, rfl⟩ := List.mem_iff_getElem.1 hq
    rw [List.length_set] at hk
    rw [List.getElem_set]
    split
    · exact ⟨qs[j], List.getElem_mem hj, rfl, ha, ht⟩
    · exact ⟨qs[k], List.getElem_mem hk, rfl, rfl, rfl⟩
  have hval : ∀ k (hk : k < qs.length), ((qs.set j (p, qs[j].2))[k]'(by simpa using hk)).2 = qs[k].2 := by
    intro k hk
    rw [List.getElem_set]
    split
    · rename_i e; subst e; rfl
    · rfl
  have hne : B ≠ g := fun e => hgM.2 e.symm
  refine ⟨⟨h.inM, by simpa using h.lt, ?_, ?_, ?_, h.rowM, ?_, ?_, ?_, ?_⟩, hT.mono (fun b _ e => by subst e; exact hgM.1)⟩
  · rw [World.cell?_of_block (w := w) (hT.block B h.lt hne)]; exact h.cell
  · rw [World.frozen?_of_block (w := w) (hT.block B h.lt hne)]; exact h.free
  · rw [List.length_set]; exact hr
  · intro q hq
    obtain ⟨q0, hq0, e1, e2, _⟩ := hmem q hq
    rw [e1, e2]
    refine ((h.attrs q0 hq0).kept (hT.kept ?_)).mono ?_
    · rintro b _ ⟨_, _, hb, _⟩ e
      subst e
      exact hb rfl
    · rintro b ⟨h1, h2, h3, h4⟩ _
      refine ⟨h1, h2, h3, fun x hx => ?_⟩
      obtain ⟨x0, hx0, e3, _⟩ := hmem x hx
      rw [e3]
      exact h4 x0 hx0
  · intro q hq
    obtain ⟨q0, hq0, e1, _, e3⟩ := hmem q hq
    rw [e1, e3]
    refine OwnsB.kept (h.texts q0 hq0) hT (fun x e k => ?_)
    subst k
    exact (h.textM q0 hq0 x e).2.2 rfl
  · intro q hq
    obtain ⟨q0, hq0, e1, _⟩ := hmem q hq
    rw [e1]
    exact h.textM q0 hq0
  · intro a b ha' hb' hab
    rw [List.length_set] at ha' hb'
    rw [hval a ha', hval b hb']
    exact h.apart a b ha' hb' hab
theorem Turns.setCell {M : Nat → Prop} {w w1 : World} (h : Turns M w w1) {B : Nat} (hB : New M w B) (o : Nat) (v : Value) : Turns M w (w1.setCell ⟨B, o, none⟩ v) :=
  ⟨h.os, h.tape, h.output, by simpa using h.size, fun b hb hm => (heap_setCell_other w1 ⟨B, o, none⟩ b v (by rintro rfl; exact hB.elim hm (fun q => absurd hb (by omega)))).trans (h.block b hb hm)⟩
/-- One more node. L: what is the new node's own. -/
theorem DocQ.add {M L : Nat → Prop} {w w1 : World} {B : Nat} {v v1 : Value} {qs : List (PN × Value × Value)} {q : PN × Value × Value} (h : DocQ M w B v qs) (hL : ∀ b, L b → ¬ M b)
    (ha : AttrsP (fun b => L b ∧ some b ≠ q.2.2.ownBlock) w q.2.1 q.1.attrs) (ht : OwnsB w q.2.2 q.1.text) (htL : ∀ g, q.2.2.ownBlock = some g → L g)
    (hg : w.grownBy w1 v.ownBlock) (hr : w1.ownsRow 0 93 10 v1 (qs.length + 1) (pnCells qs ++ pnCell q)) (hat : ∀ g, v1.ownBlock = some g → v.ownBlock = some g ∨ w.heap.size ≤ g) :
    DocQ (fun b => M b ∨ L b ∨ w.heap.size ≤ b) (w1.setCell ⟨B, 0, none⟩ v1) B v1 (qs ++ [q]) ∧ Turns M w (w1.setCell ⟨B, 0, none⟩ v1) := by
  have hT : Turns (fun b => some b = v.ownBlock) w w1 := .of_grown hg (fun x e => e.symm)
  have hTM : Turns M w w1 := hT.mono (fun b _ e => (h.rowM b e.symm).1)
  have hT2 : Turns M w (w1.setCell ⟨B, 0, none⟩ v1) := hTM.setCell (.inl h.inM) 0 v1
  have hT3 : Turns (fun b => some b = v.ownBlock ∨ b = B) w (w1.setCell ⟨B, 0, none⟩ v1) := (hT.mono (L := fun b => some b = v.ownBlock ∨ b = B) (fun b _ e => .inl e)).setCell (.inl (.inr rfl)) 0 v1
  have hBv : some B ≠ v.ownBlock := fun e => (h.rowM B e.symm).2 rfl
  have hB1 : w1.heap[B]? = w.heap[B]? := hT.block B h.lt hBv
  have hBv1 : ∀ g, v1.ownBlock = some g → g ≠ B := by
    rintro g e rfl
    rcases hat _ e with h1 | h1
    · exact hBv h1.symm
    · exact absurd h.lt (by omega)
  have hc1 : w1.cell? ⟨B, 0, none⟩ = some v := by rw [World.cell?_of_block (w := w) hB1]; exact h.cell
  have hnew : ∀ g, v1.ownBlock = some g → M g ∨ L g ∨ w.heap.size ≤ g := by
    intro g e
    rcases hat g e with h1 | h1
    · exact .inl (h.rowM g h1).1
    · exact .inr (.inr h1)
  have hv1 : ∀ b, b < w.heap.size → (some b ≠ v.ownBlock) → some b ≠ v1.ownBlock := by
    intro b hb hne e
    rcases hat b e.symm with h1 | h1
    · exact hne h1.symm
    · omega
  refine ⟨⟨.inl h.inM, ?_, ?_, ?_, ?_, fun g e => ⟨hnew g e, hBv1 g e⟩, ?_, ?_, ?_, ?_⟩, hT2⟩
  · have := hT.size; have := h.lt; simp; omega
  · exact World.cell?_setCell_same _ _ _ hc1
  · rw [World.frozen?_setCell, World.frozen?_of_block (w := w) hB1]; exact h.free
  · rw [List.length_append, List.length_singleton, pnCells_snoc]
    refine hr.kept (row := some B) ⟨rfl, rfl, rfl, by simp, fun k _ hk => heap_setCell_other w1 ⟨B, 0, none⟩ k v1 (by rintro rfl; exact hk rfl)⟩ ?_
    cases hv : v1.ownBlock with
    | none => exact .inl rfl
    | some g => exact .inr (by intro e; injection e with e; exact hBv1 g hv e)
  · intro x hx
    rcases List.mem_append.1 hx with hx | hx
    · refine (((h.attrs x hx).mono (Q := fun b => (M b ∧ b ≠ B ∧ some b ≠ v.ownBlock ∧ ∀ p ∈ qs, some b ≠ p.2.2.ownBlock) ∧ b < w.heap.size) (fun b k hb => ⟨k, hb⟩)).kept (hT3.kept ?_)).mono ?_
      · rintro b _ ⟨⟨_, h2, h3, _⟩, _⟩ (e | e)
        · exact h3 e
        · exact h2 e
      · rintro b ⟨⟨h1, h2, h3, h4⟩, hb⟩ _
        refine ⟨.inl h1, h2, hv1 b hb h3, fun p hp => ?_⟩
        rcases List.mem_append.1 hp with hp | hp
        · exact h4 p hp
        · rw [List.mem_singleton] at hp
          subst hp
          exact fun e => hL b (htL b e.symm) h1
    · rw [List.mem_singleton] at hx
      subst hx
      refine ((ha.mono (Q := fun b => (L b ∧ some b ≠ x.2.2.ownBlock) ∧ b < w.heap.size) (fun b k hb => ⟨k, hb⟩)).kept (hT3.kept ?_)).mono ?_
      · rintro b _ ⟨⟨h1, _⟩, _⟩ (e | e)
        · exact hL b h1 (h.rowM b e.symm).1
        · subst e; exact hL b h1 h.inM
      · rintro b ⟨⟨h1, h2⟩, hb⟩ _
        refine ⟨.inr (.inl h1), ?_, ?_, fun p hp => ?_⟩
        · rintro rfl; exact hL b h1 h.inM
        · exact hv1 b hb (fun e => hL b h1 (h.rowM b e.symm).1)
        · rcases List.mem_append.1 hp with hp | hp
          · exact fun e => hL b h1 (h.textM p hp b e.symm).1
          · rw [List.mem_singleton] at hp
            subst hp
            exact h2
  · intro x hx
    rcases List.mem_append.1 hx with hx | hx
    · refine OwnsB.kept (h.texts x hx) hT3 (fun g e k => ?_)
      rcases k with k | k
      · exact (h.textM x hx g e).2.2 k
      · exact (h.textM x hx g e).2.1 k
    · rw [List.mem_singleton] at hx
      subst hx
      refine OwnsB.kept ht hT3 (fun g e k => ?_)
      rcases k with k | k
      · exact hL g (htL g e) (h.rowM g k.symm).1
      · subst k; exact hL g (htL g e) h.inM
  · intro x hx g e
    rcases List.mem_append.1 hx with hx | hx
    · have h3 := h.textM x hx g e
      exact ⟨.inl h3.1, h3.2.1, hv1 g ((h.texts x hx).lt g e) h3.2.2⟩
    · rw [List.mem_singleton] at hx
      subst hx
      refine ⟨.inr (.inl (htL g e)), ?_, hv1 g (ht.lt g e) (fun k => hL g (htL g e) (h.rowM g k.symm).1)⟩
      rintro rfl
      exact hL _ (htL _ e) h.inM
  · intro a b ha' hb' hab
    rw [List.length_append, List.length_singleton] at ha' hb'
    have key : ∀ c (hc : c < qs.length), qs[c].2.2.ownBlock = none ∨ qs[c].2.2.ownBlock ≠ q.2.2.ownBlock := by
      intro c hc
      cases he : qs[c].2.2.ownBlock with
      | none => exact .inl rfl
      | some g => exact .inr (fun k => hL g (htL g k.symm) (h.textM _ (List.getElem_mem hc) g he).1)
    rcases Nat.lt_or_ge a qs.length with h1 | h1
    · rw [List.getElem_append_left h1]
      rcases Nat.lt_or_ge b qs.length with h2 | h2
      · rw [List.getElem_append_left h2]
        exact h.apart a b h1 h2 hab
      · have : b = qs.length := by omega
        subst this
        rw [List.getElem_concat_length rfl]
        exact key a h1
    · have : a = qs.length := by omega
      subst this
      rw [List.getElem_concat_length rfl]
      rcases Nat.lt_or_ge b qs.length with h2 | h2
      · rw [List.getElem_append_left h2]
        rcases key b h2 with k | k
        · cases he : q.2.2.ownBlock with
          | none => exact .inl rfl
          | some g => exact .inr (by rw [k]; simp)
        · exact .inr k.symm
      · omega
/-- A text grows: the row of its bytes, and the cell that leads to it. -/
theorem DocQ.grow {M : Nat → Prop} {w w1 : World} {B g cap : Nat} {qs : List (PN × Value × Value)} (h : DocQ M w B (.slice (some ⟨g, 0, none⟩) qs.length cap) qs) (j : Nat) (hj : j < qs.length) (s : List UInt8) (v1 : Value)
    (hg : w.grownBy w1 qs[j].2.2.ownBlock) (hr : OwnsB w1 v1 (qs[j].1.text ++ s)) (hat : ∀ b, v1.ownBlock = some b → qs[j].2.2.ownBlock = some b ∨ w.heap.size ≤ b) :
    DocQ (New M w) (w1.setCell ⟨g, j * 10 + 4, none⟩ v1) B (.slice (some ⟨g, 0, none⟩) qs.length cap) (qs.set j ({ qs[j].1 with text := qs[j].1.text ++ s }, qs[j].2.1, v1)) ∧ Turns M w (w1.setCell ⟨g, j * 10 + 4, none⟩ v1) := by
  have hmj := List.getElem_mem hj
  have hT : Turns (fun b => some b = qs[j].2.2.ownBlock) w w1 := .of_grown hg (fun x e => e.symm)
  have hTM : Turns M w w1 := hT.mono (fun b _ e => (h.textM _ hmj b e.symm).1)
  have hgM := h.rowM g rfl
  have hglt := (h.row.lt g rfl).2
  have hgt : ∀ p ∈ qs, some g ≠ p.2.2.ownBlock := fun p hp e => (h.textM p hp g e.symm).2.2 rfl
  have hr1 : w1.ownsRow 0 93 10 (.slice (some ⟨g, 0, none⟩) qs.length cap) qs.length (pnCells qs) := ownsRow_kept h.row hT (fun x e k => by injection e with e; subst e; exact hgt _ hmj k)
  obtain ⟨hr2, hg2⟩ := hr1.stored (j * 10 + 4) v1
  rw [pnCells_set qs j 4 v1 ({ qs[j].1 with text := qs[j].1.text ++ s }, qs[j].2.1, v1) hj (by omega) rfl] at hr2
  have hT3 : Turns (fun b => some b = qs[j].2.2.ownBlock ∨ b = g) w (w1.setCell ⟨g, j * 10 + 4, none⟩ v1) := (hT.mono (L := fun b => some b = qs[j].2.2.ownBlock ∨ b = g) (fun b _ e => .inl e)).setCell (.inl (.inr rfl)) _ v1
  have hTg : Turns (fun b => b = g) w1 (w1.setCell ⟨g, j * 10 + 4, none⟩ v1) := .of_grown hg2 (fun x e => by injection e with e; exact e.symm)
  have hBn : ¬ (some B = qs[j].2.2.ownBlock ∨ B = g) := by
    rintro (e | e)
    · exact (h.textM _ hmj B e.symm).2.1 rfl
    · exact hgM.2 e.symm
  have hv1g : ∀ b, v1.ownBlock = some b → New M w b ∧ b ≠ B ∧ b ≠ g := by
    intro b e
    rcases hat b e with k | k
    · have := h.textM _ hmj b k
      exact ⟨.inl this.1, this.2.1, fun q => this.2.2 (by rw [q]; rfl)⟩
    · refine ⟨.inr k, ?_, ?_⟩
      · rintro rfl; have := h.lt; omega
      · rintro rfl; omega
  have hmem : ∀ x ∈ qs.set j ({ qs[j].1 with text := qs[j].1.text ++ s }, qs[j].2.1, v1), (x = ({ qs[j].1 with text := qs[j].1.text ++ s }, qs[j].2.1, v1)) ∨ ∃ k, ∃ hk : k < qs.length, k ≠ j ∧ x = qs[k] := by
    intro x hx
    obtain ⟨k, hk, rfl⟩ := List.mem_iff_getElem.1 hx
    rw [List.length_set] at hk
    rw [List.getElem_set]
    split
    · exact .inl rfl
    · exact .inr ⟨k, hk, fun e => by simp_all, rfl⟩
  have hap : ∀ k (hk : k < qs.length), k ≠ j → ∀ b, qs[k].2.2.ownBlock = some b → some b ≠ qs[j].2.2.ownBlock := by
    intro k hk hkj b e q
    rcases h.apart k j hk hj hkj with r | r
    · rw [r] at e; cases e
    · exact r (e.trans q)
  have hv1a : ∀ b, b < w.heap.size → some b ≠ qs[j].2.2.ownBlock → some b ≠ v1.ownBlock := by
    intro b hb hne e
    rcases hat b e.symm with k | k
    · exact hne k.symm
    · omega
  refine ⟨⟨.inl h.inM, ?_, ?_, ?_, ?_, fun x e => ⟨.inl (h.rowM x e).1, (h.rowM x e).2⟩, ?_, ?_, ?_, ?_⟩, hTM.setCell (.inl hgM.1) _ v1⟩
  · have := hT.size; have := h.lt; simp; omega
  · rw [World.cell?_of_block (w := w) (hT3.block B h.lt hBn)]; exact h.cell
  · rw [World.frozen?_of_block (w := w) (hT3.block B h.lt hBn)]; exact h.free
  · rw [List.length_set]; exact hr2
  · have key : ∀ q0 ∈ qs, AttrsP (fun b => New M w b ∧ b ≠ B ∧ some b ≠ (Value.slice (some ⟨g, 0, none⟩) qs.length cap).ownBlock ∧ ∀ p ∈ qs.set j ({ qs[j].1 with text := qs[j].1.text ++ s }, qs[j].2.1, v1), some b ≠ p.2.2.ownBlock) (w1.setCell ⟨g, j * 10 + 4, none⟩ v1) q0.2.1 q0.1.attrs := by
      intro q0 hq0
      refine (((h.attrs q0 hq0).mono (Q := fun b => (M b ∧ b ≠ B ∧ some b ≠ (Value.slice (some ⟨g, 0, none⟩) qs.length cap).ownBlock ∧ ∀ p ∈ qs, some b ≠ p.2.2.ownBlock) ∧ b < w.heap.size) (fun b k hb => ⟨k, hb⟩)).kept (hT3.kept ?_)).mono ?_
      · rintro b _ ⟨⟨_, _, h3, h4⟩, _⟩ (e | e)
        · exact h4 _ hmj e
        · subst e; exact h3 rfl
      · rintro b ⟨⟨h1, h2, h3, h4⟩, hb⟩ _
        refine ⟨.inl h1, h2, h3, fun p hp => ?_⟩
        rcases hmem p hp with rfl | ⟨k, hk, _, rfl⟩
        · exact hv1a b hb (h4 _ hmj)
        · exact h4 _ (List.getElem_mem hk)
    intro x hx
    rcases hmem x hx with rfl | ⟨k, hk, _, rfl⟩
    · exact key qs[j] hmj
    · exact key _ (List.getElem_mem hk)
  · intro x hx
    rcases hmem x hx with rfl | ⟨k, hk, hkj, rfl⟩
    · exact OwnsB.kept hr hTg (fun b e => (hv1g b e).2.2)
    · refine OwnsB.kept (h.texts _ (List.getElem_mem hk)) hT3 (fun b e => ?_)
      rintro (q | q)
      · exact hap k hk hkj b e q
      · subst q; exact hgt _ (List.getElem_mem hk) e.symm
  · intro x hx b e
    rcases hmem x hx with rfl | ⟨k, hk, _, rfl⟩
    · obtain ⟨h1, h2, h3⟩ := hv1g b e
      exact ⟨h1, h2, fun q => h3 (by injection q)⟩
    · have := h.textM _ (List.getElem_mem hk) b e
      exact ⟨.inl this.1, this.2⟩
  · intro a b ha' hb' hab
    rw [List.length_set] at ha' hb'
    rw [List.getElem_set, List.getElem_set]
    have key : ∀ c (hc : c < qs.length), c ≠ j → qs[c].2.2.ownBlock = none ∨ qs[c].2.2.ownBlock ≠ v1.ownBlock := by
      intro c hc hcj
      cases he : qs[c].2.2.ownBlock with
      | none => exact .inl rfl
      | some x => exact .inr (hv1a x ((h.texts _ (List.getElem_mem hc)).lt x he) (hap c hc hcj x he))
    split
    · rename_i e
      subst e
      split
      · rename_i e; omega
      · rcases key b hb' (by omega) with k | k
        · cases hv : v1.ownBlock with
          | none => exact .inl rfl
          | some x => exact .inr (by rw [k]; simp)
        · exact .inr (fun q => k q.symm)
    · split
      · rename_i e
        subst e
        exact key a ha' (by omega)
      · exact h.apart a b ha' hb' hab
/-- The Doc at block B has the nodes S. -/
def DocM (M : Nat → Prop) (w : World) (B : Nat) (S : List PN) : Prop := ∃ v qs, S = qs.map (·.1) ∧ DocQ M w B v qs
end Go.Proofs.Ytbadckkcjjfnoaa
