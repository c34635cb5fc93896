/-
  Rows of nodes in memory (chapter 6). No program is walked.
-/
import Derived.Test.YtbadckkcjjfnoaaDBase
import Derived.Test.YtbadckkcjjfnoaaProg
import Derived.Test.YtbadckkcjjfnoaaDTree
import Derived.WalkKit
import Derived.BigCall
import Derived.WalkLawsBesides
import Derived.Lib.Hide
import Derived.Deep.AppendLies
import Derived.Laws.OwnMore
import Derived.Lib.SmallJoins
import Derived.Deep.QuietTactic
import Derived.BigQuiet
import Derived.Deep.Slices
import Derived.Deep.RegionWith
import Derived.Deep.RegionLaw
import Derived.Deep.RegionHeld3
import Derived.ChangeSame
namespace Go.Proofs.Ytbadckkcjjfnoaa
open Go.RowKit


/-- The blocks of P that were there are as they were. -/
structure Kept (P : Nat → Prop) (w w' : World) : Prop where
  size : w.heap.size ≤ w'.heap.size
  block : ∀ b, P b → b < w.heap.size → w'.heap[b]? = w.heap[b]?
theorem Kept.of_below {P : Nat → Prop} {w w' : World} (h : Below w.heap.size w w') : Kept P w w' := ⟨h.size, fun b _ hb => h.block b hb⟩
theorem Kept.of_grown {P : Nat → Prop} {w w' : World} {row : Option Nat} (h : w.grownBy w' row) (hP : ∀ b, P b → some b ≠ row) : Kept P w w' := ⟨h.size, fun b hp hb => h.block b hb (hP b hp)⟩
theorem Kept.cell {P : Nat → Prop} {w w' : World} (h : Kept P w w') {g o : Nat} (hp : P g) (hg : g < w.heap.size) : w'.cell? ⟨g, o, none⟩ = w.cell? ⟨g, o, none⟩ := World.cell?_of_block (w := w) (h.block g hp hg)

/-- The slice v holds the attributes rs in w, in a block of P. -/
def AttrsP (P : Nat → Prop) (w : World) (v : Value) (rs : List (List UInt8 × List UInt8)) : Prop :=
  ∃ p cap, v = .slice p rs.length cap ∧ (0 < rs.length → ∃ g o, p = some ⟨g, o, none⟩ ∧ P g ∧ g < w.heap.size ∧ ∀ j (hj : j < rs.length), w.cell? ⟨g, o + j * 2, none⟩ = some (.string ⟨rs[j].1.toArray⟩) ∧ w.cell? ⟨g, o + j * 2 + 1, none⟩ = some (.string ⟨rs[j].2.toArray⟩))
theorem AttrsP.kept {P : Nat → Prop} {w w' : World} {v : Value} {rs : List (List UInt8 × List UInt8)} (h : AttrsP P w v rs) (hk : Kept P w w') : AttrsP P w' v rs := by
  obtain ⟨p, cap, rfl, h⟩ := h
  refine ⟨p, cap, rfl, fun h0 => ?_⟩
  obtain ⟨g, o, rfl, hp, hg, hc⟩ := h h0
  exact ⟨g, o, rfl, hp, Nat.lt_of_lt_of_le hg hk.size, fun j hj => ⟨(hk.cell hp hg).trans (hc j hj).1, (hk.cell hp hg).trans (hc j hj).2⟩⟩
theorem AttrsP.mono {P Q : Nat → Prop} {w : World} {v : Value} {rs : List (List UInt8 × List UInt8)} (h : AttrsP P w v rs) (hq : ∀ b, P b → b < w.heap.size → Q b) : AttrsP Q w v rs := by
  obtain ⟨p, cap, rfl, h⟩ := h
  refine ⟨p, cap, rfl, fun h0 => ?_⟩
  obtain ⟨g, o, rfl, hp, hg, hc⟩ := h h0
  exact ⟨g, o, rfl, hq g hp hg, hg, hc⟩
theorem AttrsP.nil (P : Nat → Prop) (w : World) (p : Option Addr) (cap : Nat) : AttrsP P w (.slice p 0 cap) [] := ⟨p, cap, rfl, fun h => absurd h (by simp)⟩

/-- The seven cells of a node. -/
structure Cells7 (w : World) (g o : Nat) (d : Nd) (va vk : Value) : Prop where
  c0 : w.cell? ⟨g, o, none⟩ = some (.int .i64 d.kind)
  c1 : w.cell? ⟨g, o + 1, none⟩ = some (.int .i64 d.space)
  c2 : w.cell? ⟨g, o + 2, none⟩ = some (.string ⟨d.name.toArray⟩)
  c3 : w.cell? ⟨g, o + 3, none⟩ = some va
  c4 : w.cell? ⟨g, o + 4, none⟩ = some (.string ⟨d.text.toArray⟩)
  c5 : w.cell? ⟨g, o + 5, none⟩ = some (.int .i64 d.frm)
  c6 : w.cell? ⟨g, o + 6, none⟩ = some vk
theorem Cells7.kept {P : Nat → Prop} {w w' : World} {g o : Nat} {d : Nd} {va vk : Value} (h : Cells7 w g o d va vk) (hk : Kept P w w') (hp : P g) (hg : g < w.heap.size) : Cells7 w' g o d va vk :=
  ⟨(hk.cell hp hg).trans h.c0, (hk.cell hp hg).trans h.c1, (hk.cell hp hg).trans h.c2, (hk.cell hp hg).trans h.c3, (hk.cell hp hg).trans h.c4, (hk.cell hp hg).trans h.c5, (hk.cell hp hg).trans h.c6⟩

/-- The nodes of f stand from the i-th place on in the row at (g, o); what they lead to lies in blocks of P. -/
def NodesFrom (P : Nat → Prop) (w : World) : Fo → Nat → Nat → Nat → Prop
  | .nil, _, _, _ => True
  | .cons d k r, g, o, i => (∃ va vk, Cells7 w g (o + i * 7) d va vk ∧ AttrsP P w va d.attrs ∧ ∃ p cap, vk = .slice p k.len cap ∧ (0 < k.len → ∃ g' o', p = some ⟨g', o', none⟩ ∧ P g' ∧ g' < w.heap.size ∧ NodesFrom P w k g' o' 0)) ∧ NodesFrom P w r g o (i + 1)
/-- What is left of a row from the i-th place on. -/
def NodesTail (P : Nat → Prop) (w : World) (p : Option Addr) (f : Fo) (i : Nat) : Prop := 0 < f.len → ∃ g o, p = some ⟨g, o, none⟩ ∧ P g ∧ g < w.heap.size ∧ NodesFrom P w f g o i
/-- The slice v holds the nodes f in w; all lies in blocks of P. -/
def NodesP (P : Nat → Prop) (w : World) (v : Value) (f : Fo) : Prop := ∃ p cap, v = .slice p f.len cap ∧ NodesTail P w p f 0
theorem NodesFrom.kept {P : Nat → Prop} {w w' : World} (hk : Kept P w w') : ∀ (f : Fo) (g o i : Nat), P g → g < w.heap.size → NodesFrom P w f g o i → NodesFrom P w' f g o i
  | .nil, _, _, _, _, _, _ => trivial
  | .cons d k r, g, o, i, hp, hg, ⟨⟨va, vk, h7, ha, p, cap, hv, h⟩, hr⟩ => by
    refine ⟨⟨va, vk, h7.kept hk hp hg, ha.kept hk, p, cap, hv, fun h0 => ?_⟩, NodesFrom.kept hk r g o (i + 1) hp hg hr⟩
    obtain ⟨g', o', h1, h2, h3, h4⟩ := h h0
    exact ⟨g', o', h1, h2, Nat.lt_of_lt_of_le h3 hk.size, NodesFrom.kept hk k g' o' 0 h2 h3 h4⟩
theorem NodesFrom.mono {P Q : Nat → Prop} {w : World} (hq : ∀ b, P b → b < w.heap.size → Q b) : ∀ (f : Fo) (g o i : Nat), NodesFrom P w f g o i → NodesFrom Q w f g o i
  | .nil, _, _, _, _ => trivial
  | .cons d k r, g, o, i, ⟨⟨va, vk, h7, ha, p, cap, hv, h⟩, hr⟩ => by
    refine ⟨⟨va, vk, h7, ha.mono hq, p, cap, hv, fun h0 => ?_⟩, NodesFrom.mono hq r g o (i + 1) hr⟩
    obtain ⟨g', o', h1, h2, h3, h4⟩ := h h0
    exact ⟨g', o', h1, hq g' h2 h3, h3, NodesFrom.mono hq k g' o' 0 h4⟩
theorem NodesTail.kept {P : Nat → Prop} {w w' : World} {p : Option Addr} {f : Fo} {i : Nat} (h : NodesTail P w p f i) (hk : Kept P w w') : NodesTail P w' p f i := fun h0 => by
  obtain ⟨g, o, h1, h2, h3, h4⟩ := h h0
  exact ⟨g, o, h1, h2, Nat.lt_of_lt_of_le h3 hk.size, NodesFrom.kept hk f g o i h2 h3 h4⟩
theorem NodesTail.mono {P Q : Nat → Prop} {w : World} {p : Option Addr} {f : Fo} {i : Nat} (h : NodesTail P w p f i) (hq : ∀ b, P b → b < w.heap.size → Q b) : NodesTail Q w p f i := fun h0 => by
  obtain ⟨g, o, h1, h2, h3, h4⟩ := h h0
  exact ⟨g, o, h1, hq g h2 h3, h3, NodesFrom.mono hq f g o i h4⟩
theorem NodesP.kept {P : Nat → Prop} {w w' : World} {v : Value} {f : Fo} (h : NodesP P w v f) (hk : Kept P w w') : NodesP P w' v f := by
  obtain ⟨p, cap, rfl, h⟩ := h
  exact ⟨p, cap, rfl, h.kept hk⟩
theorem NodesP.mono {P Q : Nat → Prop} {w : World} {v : Value} {f : Fo} (h : NodesP P w v f) (hq : ∀ b, P b → b < w.heap.size → Q b) : NodesP Q w v f := by
  obtain ⟨p, cap, rfl, h⟩ := h
  exact ⟨p, cap, rfl, h.mono hq⟩
/-- The first node of what is left, and the rest. -/
theorem NodesTail.head {P : Nat → Prop} {w : World} {p : Option Addr} {d : Nd} {k r : Fo} {i : Nat} (h : NodesTail P w p (.cons d k r) i) :
    ∃ g o va vk, p = some ⟨g, o, none⟩ ∧ P g ∧ g < w.heap.size ∧ Cells7 w g (o + i * 7) d va vk ∧ AttrsP P w va d.attrs ∧ NodesP P w vk k ∧ NodesTail P w p r (i + 1) := by
  obtain ⟨g, o, h1, h2, h3, ⟨va, vk, h7, ha, p', cap, hv, hk⟩, hr⟩ := h (by simp [Fo.len])
  exact ⟨g, o, va, vk, h1, h2, h3, h7, ha, ⟨p', cap, hv, hk⟩, fun _ => ⟨g, o, h1, h2, h3, hr⟩⟩
theorem NodesP.nil (P : Nat → Prop) (w : World) (p : Option Addr) (cap : Nat) : NodesP P w (.slice p 0 cap) .nil := ⟨p, cap, rfl, fun h => absurd h (by simp [Fo.len])⟩

/-- A node's cells, its rows given. -/
def nodeCell (q : Nd × Value × Value) : List Value := [.int .i64 q.1.kind, .int .i64 q.1.space, .string ⟨q.1.name.toArray⟩, q.2.1, .string ⟨q.1.text.toArray⟩, .int .i64 q.1.frm, q.2.2]
def nodeCells (qs : List (Nd × Value × Value)) : List Value := qs.flatMap nodeCell
theorem nodeCells_snoc (qs : List (Nd × Value × Value)) (q : Nd × Value × Value) : nodeCells (qs ++ [q]) = nodeCells qs ++ nodeCell q := by
  unfold nodeCells
  rw [List.flatMap_append]
  simp
theorem nodeCells_at : ∀ (qs : List (Nd × Value × Value)) (j i : Nat) (hj : j < qs.length), i < 7 → (nodeCells qs)[j * 7 + i]? = (nodeCell qs[j])[i]?
  | [], j, _, hj, _ => absurd hj (by simp)
  | q :: r, 0, i, _, hi => by
    show (nodeCell q ++ nodeCells r)[0 * 7 + i]? = _
    rw [List.getElem?_append_left (by simp [nodeCell]; omega), Nat.zero_mul, Nat.zero_add]
    rfl
  | q :: r, j + 1, i, hj, hi => by
    have h := nodeCells_at r j i (by simpa using hj) hi
    show (nodeCell q ++ nodeCells r)[(j + 1) * 7 + i]? = _
    rw [List.getElem?_append_right (by simp [nodeCell]; omega), show (j + 1) * 7 + i - (nodeCell q).length = j * 7 + i by simp [nodeCell]; omega, h]
    rfl
theorem info_node : ∃ i, Try.prog.info? 48 = some i ∧ i.zero = some (.agg #[.int .i64 0, .int .i64 0, .string ByteArray.empty, .slice none 0 0, .string ByteArray.empty, .int .i64 0, .slice none 0 0]) ∧ i.size = 7 ∧ i.bytes = 104 := by
  have hi9 : (Try.prog.info? 48).map (fun i => (i.zero, i.size, i.bytes)) = some (some (.agg #[.int .i64 0, .int .i64 0, .string ByteArray.empty, .slice none 0 0, .string ByteArray.empty, .int .i64 0, .slice none 0 0]), 7, 104) := by kernel_rfl
  obtain ⟨i0, hi, hx⟩ := Option.map_eq_some_iff.1 hi9
  simp only [Prod.mk.injEq] at hx
  exact ⟨i0, hi, hx.1, hx.2.1, hx.2.2⟩
/-- A row of nodes that is being made: its cells; what its nodes lead to lies beside it, in blocks of Q. -/
structure RowN (Q : Nat → Prop) (w : World) (v : Value) (qs : List ((Nd × Value × Value) × Fo)) (W : World) : Prop where
  row : W.ownsRow w.heap.size 48 7 v qs.length (nodeCells (qs.map (·.1)))
  attrs : ∀ q ∈ qs, AttrsP (fun b => Q b ∧ some b ≠ v.ownBlock) W q.1.2.1 q.1.1.attrs
  kids : ∀ q ∈ qs, NodesP (fun b => Q b ∧ some b ≠ v.ownBlock) W q.1.2.2 q.2
  below : Below w.heap.size w W
theorem RowN.start (Q : Nat → Prop) (w : World) : RowN Q w (.slice none 0 0) [] w := ⟨⟨rfl, Or.inl ⟨rfl, rfl⟩⟩, fun _ h => absurd h (by simp), fun _ h => absurd h (by simp), Below.refl _ _⟩
theorem RowN.on {Q : Nat → Prop} {w W W' : World} {v : Value} {qs : List ((Nd × Value × Value) × Fo)} (h : RowN Q w v qs W) (hb : Below W.heap.size W W') : RowN Q w v qs W' :=
  ⟨h.row.kept (row := none) ⟨hb.os, hb.tape, hb.output, hb.size, fun i hi _ => hb.block i hi⟩ (by cases v.ownBlock <;> simp), fun q hq => (h.attrs q hq).kept (.of_below hb), fun q hq => (h.kids q hq).kept (.of_below hb), h.below.trans (hb.mono h.below.size)⟩
/-- One more node. -/
theorem RowN.more {Q : Nat → Prop} {w W W' : World} {v : Value} {g n cap : Nat} {qs : List ((Nd × Value × Value) × Fo)} {q : (Nd × Value × Value) × Fo} (h : RowN Q w v qs W)
    (ha : AttrsP (fun b => Q b ∧ some b ≠ v.ownBlock) W q.1.2.1 q.1.1.attrs) (hk : NodesP (fun b => Q b ∧ some b ≠ v.ownBlock) W q.1.2.2 q.2)
    (hg : W.grownBy W' v.ownBlock) (hr : W'.ownsRow w.heap.size 48 7 (.slice (some ⟨g, 0, none⟩) n cap) (qs.length + 1) (nodeCells (qs.map (·.1)) ++ nodeCell q.1)) (hat : v.ownBlock = some g ∨ g = W.heap.size) : RowN Q w (.slice (some ⟨g, 0, none⟩) n cap) (qs ++ [q]) W' := by
  have h1 : ∀ b, (Q b ∧ some b ≠ v.ownBlock) → b < W.heap.size → (Q b ∧ some b ≠ v.ownBlock ∧ b < W.heap.size) := fun b hb hl => ⟨hb.1, hb.2, hl⟩
  have h2 : Kept (fun b => Q b ∧ some b ≠ v.ownBlock ∧ b < W.heap.size) W W' := .of_grown hg (fun b hb => hb.2.1)
  have h3 : ∀ b, (Q b ∧ some b ≠ v.ownBlock ∧ b < W.heap.size) → b < W'.heap.size → (Q b ∧ some b ≠ (Value.slice (some ⟨g, 0, none⟩) n cap).ownBlock) := by
    intro b hb _
    refine ⟨hb.1, ?_⟩
    show some b ≠ some g
    rcases hat with h1 | h1
    · rw [← h1]; exact hb.2.1
    · intro e; injection e with e; omega
  refine ⟨?_, ?_, ?_, h.below.grown hg h.below.size (fun k hk => (h.row.lt k hk).1)⟩
  · rw [List.length_append, List.map_append, List.map_singleton, nodeCells_snoc]
    exact hr
  · intro x hx
    rcases List.mem_append.1 hx with hx | hx
    · exact (((h.attrs x hx).mono h1).kept h2).mono h3
    · rw [List.mem_singleton] at hx
      subst hx
      exact ((ha.mono h1).kept h2).mono h3
  · intro x hx
    rcases List.mem_append.1 hx with hx | hx
    · exact (((h.kids x hx).mono h1).kept h2).mono h3
    · rw [List.mem_singleton] at hx
      subst hx
      exact ((hk.mono h1).kept h2).mono h3
theorem nodesFrom_of (P : Nat → Prop) (W : World) (g : Nat) : ∀ (qs : List ((Nd × Value × Value) × Fo)) (i : Nat),
    (∀ j (hj : j < qs.length), Cells7 W g (0 + (i + j) * 7) qs[j].1.1 qs[j].1.2.1 qs[j].1.2.2 ∧ AttrsP P W qs[j].1.2.1 qs[j].1.1.attrs ∧ NodesP P W qs[j].1.2.2 qs[j].2) → NodesFrom P W (Fo.ofList (qs.map fun q => (q.1.1, q.2))) g 0 i
  | [], _, _ => trivial
  | q :: r, i, h => by
    obtain ⟨h7, ha, p, cap, hv, hk⟩ := h 0 (by simp)
    refine ⟨⟨q.1.2.1, q.1.2.2, h7, ha, p, cap, hv, hk⟩, ?_⟩
    refine nodesFrom_of P W g r (i + 1) fun j hj => ?_
    have := h (j + 1) (by simpa using hj)
    rw [show i + 1 + j = i + (j + 1) by omega]
    exact this
/-- What the row holds, told. -/
theorem RowN.told {Q : Nat → Prop} {w W : World} {v : Value} {qs : List ((Nd × Value × Value) × Fo)} (h : RowN Q w v qs W) (hQ : ∀ b, w.heap.size ≤ b → Q b) : NodesP Q W v (Fo.ofList (qs.map fun q => (q.1.1, q.2))) := by
  rcases Joins.ownsRow_forms h.row with ⟨rfl, h0⟩ | ⟨g, cap, rfl⟩
  · have : qs = [] := List.eq_nil_of_length_eq_zero h0
    subst this
    exact NodesP.nil _ _ _ _
  · have hw : ∀ b, (Q b ∧ some b ≠ (Value.slice (some ⟨g, 0, none⟩) qs.length cap).ownBlock) → b < W.heap.size → Q b := fun b hb _ => hb.1
    refine ⟨some ⟨g, 0, none⟩, cap, by rw [Fo.of_len, List.length_map], fun _ => ⟨g, 0, rfl, hQ g (h.row.lt g rfl).1, (h.row.lt g rfl).2, nodesFrom_of Q W g qs 0 fun j hj => ?_⟩⟩
    refine ⟨?_, (h.attrs _ (List.getElem_mem hj)).mono hw, (h.kids _ (List.getElem_mem hj)).mono hw⟩
    have key : ∀ i, i < 7 → W.cell? ⟨g, 0 + (0 + j) * 7 + i, none⟩ = (nodeCell qs[j].1)[i]? := by
      intro i hi
      have hj' : j < (qs.map (·.1)).length := by simpa using hj
      rw [show 0 + (0 + j) * 7 + i = j * 7 + i by omega, h.row.cellAt (j * 7 + i) (by omega), nodeCells_at (qs.map (·.1)) j i hj' hi, List.getElem_map]
    exact ⟨key 0 (by omega), key 1 (by omega), key 2 (by omega), key 3 (by omega), key 4 (by omega), key 5 (by omega), key 6 (by omega)⟩
end Go.Proofs.Ytbadckkcjjfnoaa
