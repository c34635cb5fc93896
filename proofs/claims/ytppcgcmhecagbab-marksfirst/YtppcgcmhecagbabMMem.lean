/-
  Rows of attributes in memory; what turns and what stands. No program is walked.
-/
import Derived.Test.YtppcgcmhecagbabDBase
import Derived.Test.YtppcgcmhecagbabProg
import Derived.WalkKit
import Derived.BigCall
import Derived.WalkLawsBesides
import Derived.Lib.Hide
import Derived.Deep.AppendLies
import Derived.Laws.OwnMore
import Derived.Lib.SmallJoins
import Derived.Deep.QuietTactic
import Derived.BigQuiet
import Derived.Deep.Slices
import Derived.Deep.RegionWith
import Derived.Deep.RegionLaw
import Derived.Deep.RegionHeld3
import Derived.ChangeSame
import Derived.Laws.AppendOwnNone
import Derived.Laws.CopyRow
namespace Go.Proofs.Ytppcgcmhecagbab
open Go.RowKit

theorem lt_of_some {α : Type} {l : List α} {n : Nat} {x : α} (h : l[n]? = some x) : n < l.length := by
  rcases Nat.lt_or_ge n l.length with h' | h'
  · exact h'
  · rw [List.getElem?_eq_none h'] at h; cases h
theorem heap_lt {w : World} {g : Nat} {o : Obj} (h : w.heap[g]? = some o) : g < w.heap.size := by
  rcases Nat.lt_or_ge g w.heap.size with h1 | h1
  · exact h1
  · rw [Array.getElem?_eq_none h1] at h; cases h
/-- The blocks of P that were there are as they were. -/
structure Kept (P : Nat → Prop) (w w' : World) : Prop where
  size : w.heap.size ≤ w'.heap.size
  block : ∀ b, P b → b < w.heap.size → w'.heap[b]? = w.heap[b]?
theorem Kept.of_below {P : Nat → Prop} {w w' : World} (h : Below w.heap.size w w') : Kept P w w' := ⟨h.size, fun b _ hb => h.block b hb⟩
theorem Kept.of_grown {P : Nat → Prop} {w w' : World} {row : Option Nat} (h : w.grownBy w' row) (hP : ∀ b, P b → some b ≠ row) : Kept P w w' := ⟨h.size, fun b hp hb => h.block b hb (hP b hp)⟩
theorem Kept.cell {P : Nat → Prop} {w w' : World} (h : Kept P w w') {g o : Nat} (hp : P g) (hg : g < w.heap.size) : w'.cell? ⟨g, o, none⟩ = w.cell? ⟨g, o, none⟩ := World.cell?_of_block (w := w) (h.block g hp hg)

/-- The slice v holds the attributes rs in w, in a block of P. -/
def AttrsP (P : Nat → Prop) (w : World) (v : Value) (rs : List (List UInt8 × List UInt8)) : Prop :=
  ∃ p cap, v = .slice p rs.length cap ∧ (0 < rs.length → ∃ g o, p = some ⟨g, o, none⟩ ∧ P g ∧ g < w.heap.size ∧ ∀ j (hj : j < rs.length), w.cell? ⟨g, o + j * 2, none⟩ = some (.string ⟨rs[j].1.toArray⟩) ∧ w.cell? ⟨g, o + j * 2 + 1, none⟩ = some (.string ⟨rs[j].2.toArray⟩))
theorem AttrsP.kept {P : Nat → Prop} {w w' : World} {v : Value} {rs : List (List UInt8 × List UInt8)} (h : AttrsP P w v rs) (hk : Kept P w w') : AttrsP P w' v rs := by
  obtain ⟨p, cap, rfl, h⟩ := h
  refine ⟨p, cap, rfl, fun h0 => ?_⟩
  obtain ⟨g, o, rfl, hp, hg, hc⟩ := h h0
  exact ⟨g, o, rfl, hp, Nat.lt_of_lt_of_le hg hk.size, fun j hj => ⟨(hk.cell hp hg).trans (hc j hj).1, (hk.cell hp hg).trans (hc j hj).2⟩⟩
theorem AttrsP.mono {P Q : Nat → Prop} {w : World} {v : Value} {rs : List (List UInt8 × List UInt8)} (h : AttrsP P w v rs) (hq : ∀ b, P b → b < w.heap.size → Q b) : AttrsP Q w v rs := by
  obtain ⟨p, cap, rfl, h⟩ := h
  refine ⟨p, cap, rfl, fun h0 => ?_⟩
  obtain ⟨g, o, rfl, hp, hg, hc⟩ := h h0
  exact ⟨g, o, rfl, hq g hp hg, hg, hc⟩
theorem AttrsP.nil (P : Nat → Prop) (w : World) (p : Option Addr) (cap : Nat) : AttrsP P w (.slice p 0 cap) [] := ⟨p, cap, rfl, fun h => absurd h (by simp)⟩

/-- 'append(nil, l...)' of an empty l. -/
theorem run_append_empty {P : Program} (w : World) (t ty e : TypeId) (i : TypeInfo) (ht : P.underlying t = some (.slice e)) (hi : P.info? e = some i) (p : Option Addr) (c : Nat) :
    (Builtin.append_ #[t, t] ty #[.slice none 0 0, .slice p 0 c]).run P w = .ok (.slice none 0 0) w := by
  cases p <;> simp [Builtin.append_, run_underlying ht, sizeOf, typeInfo, hi, Builtin.lenOf, Builtin.firstCells, loadCells, loadCellsFrom]
theorem wpList_append_empty {P : Program} {w : World} {ops : Array Oper} {rest : List Oper} {o : Oper} {a : Act} {Q : Exit → Act → World → Prop} (hgd : o.guard = none) (s x : Operand) (t : TypeId)
    (ho : o.op = .call { callee := .builtin .append, args := #[s, x], argTypes := #[t, t] })
    (e : TypeId) (i : TypeInfo) (ht : P.underlying t = some (.slice e)) (hi : P.info? e = some i) (p : Option Addr) (c : Nat) (hs : a.eval s = .slice none 0 0) (hx : a.eval x = .slice p 0 c)
    (h : wpList P ops Q rest (a.put o.dst (.slice none 0 0)) w) : wpList P ops Q (o :: rest) a w := by
  refine wpList_plain hgd fun K hK => ?_
  have hrun := run_append_empty (P := P) w t o.type e i ht hi p c
  unfold Oper.wp
  simp [execOp, ho, resolve, invoke, builtin, hs, hx, hrun, Result.andThen]
  exact hK _ _ h
theorem info_at : ∃ i, Try.prog.info? 55 = some i ∧ i.zero = some (.agg #[.string ByteArray.empty, .string ByteArray.empty]) ∧ i.size = 2 ∧ i.bytes = 32 := by
  have hi9 : (Try.prog.info? 55).map (fun i => (i.zero, i.size, i.bytes)) = some (some (.agg #[.string ByteArray.empty, .string ByteArray.empty]), 2, 32) := by kernel_rfl
  obtain ⟨i0, hi, hx⟩ := Option.map_eq_some_iff.1 hi9
  simp only [Prod.mk.injEq] at hx
  exact ⟨i0, hi, hx.1, hx.2.1, hx.2.2⟩
def atCell (a : List UInt8 × List UInt8) : List Value := [.string ⟨a.1.toArray⟩, .string ⟨a.2.toArray⟩]
def atCells (l : List (List UInt8 × List UInt8)) : List Value := l.flatMap atCell
theorem atCells_len (l : List (List UInt8 × List UInt8)) : (atCells l).length = l.length * 2 := by
  induction l with
  | nil => rfl
  | cons q r ih => show (atCell q ++ atCells r).length = _; rw [List.length_append, ih, List.length_cons]; simp [atCell]; omega
theorem atCells_at : ∀ (l : List (List UInt8 × List UInt8)) (j i : Nat) (hj : j < l.length), i < 2 → (atCells l)[j * 2 + i]? = (atCell l[j])[i]?
  | [], j, _, hj, _ => absurd hj (by simp)
  | q :: r, 0, i, _, hi => by
    show (atCell q ++ atCells r)[0 * 2 + i]? = _
    rw [List.getElem?_append_left (by simp [atCell]; omega), Nat.zero_mul, Nat.zero_add]
    rfl
  | q :: r, j + 1, i, hj, hi => by
    have h := atCells_at r j i (by simpa using hj) hi
    show (atCell q ++ atCells r)[(j + 1) * 2 + i]? = _
    rw [List.getElem?_append_right (by simp [atCell]; omega), show (j + 1) * 2 + i - (atCell q).length = j * 2 + i by simp [atCell]; omega, h]
    rfl
theorem atCells_read {P : Nat → Prop} {w : World} {g o cap : Nat} {l : List (List UInt8 × List UInt8)} (h : AttrsP P w (.slice (some ⟨g, o, none⟩) l.length cap) l) : ∀ j u, (atCells l)[j]? = some u → w.cell? ((⟨g, o, none⟩ : Addr).add j) = some u := by
  intro j u hu
  have hj : j < l.length * 2 := by rw [← atCells_len]; exact lt_of_some hu
  obtain ⟨p, cap', e, hc⟩ := h
  injection e with e1 e2 e3
  obtain ⟨g', o', e', _, _, hcell⟩ := hc (by omega)
  rw [← e1] at e'
  injection e' with e'
  injection e' with e4 e5
  subst e4 e5
  have hk : j / 2 < l.length := by omega
  obtain ⟨h0, h1⟩ := hcell (j / 2) hk
  have hr := atCells_at l (j / 2) (j % 2) hk (by omega)
  rw [show j / 2 * 2 + j % 2 = j by omega, hu] at hr
  rw [show (⟨g, o, none⟩ : Addr).add j = ⟨g, o + j, none⟩ by simp [Addr.add]]
  rcases Nat.mod_two_eq_zero_or_one j with hm | hm
  · rw [hm] at hr
    rw [show o + j = o + j / 2 * 2 by omega, h0]
    exact hr.symm
  · rw [hm] at hr
    rw [show o + j = o + j / 2 * 2 + 1 by omega, h1]
    exact hr.symm
theorem atCells_one (l : List (List UInt8 × List UInt8)) : ∀ u ∈ atCells l, u.oneCell' = true := by
  intro u hu
  obtain ⟨a, _, ha⟩ := List.mem_flatMap.1 hu
  simp only [atCell, List.mem_cons, List.not_mem_nil, or_false] at ha
  rcases ha with rfl | rfl <;> rfl
/-- A row of one's own holds attributes. -/
theorem AttrsP.of_row {B : Nat} {w : World} {v : Value} {l : List (List UInt8 × List UInt8)} (h : w.ownsRow B 55 2 v l.length (atCells l)) : AttrsP (fun b => B ≤ b) w v l := by
  rcases Joins.ownsRow_forms h with ⟨rfl, h0⟩ | ⟨g, cap, rfl⟩
  · have : l = [] := List.eq_nil_of_length_eq_zero h0
    subst this
    exact AttrsP.nil _ _ _ _
  · refine ⟨some ⟨g, 0, none⟩, cap, rfl, fun _ => ⟨g, 0, rfl, (h.lt g rfl).1, (h.lt g rfl).2, fun j hj => ?_⟩⟩
    have key : ∀ i, i < 2 → w.cell? ⟨g, 0 + j * 2 + i, none⟩ = (atCell l[j])[i]? := by
      intro i hi
      rw [show 0 + j * 2 + i = j * 2 + i by omega, h.cellAt (j * 2 + i) (by omega), atCells_at l j i hj hi]
    exact ⟨key 0 (by omega), key 1 (by omega)⟩
/-- New memory with the same attributes in it. -/
def CopyA (l : List (List UInt8 × List UInt8)) (w : World) (e : Ending) (w' : World) : Prop := ∃ p c, e = .returned (.slice p l.length c) ∧ AttrsP (fun b => w.heap.size ≤ b) w' (.slice p l.length c) l ∧ Below w.heap.size w w'

/-- Nothing but blocks of M has turned, and what is new. -/
structure Turns (M : Nat → Prop) (w w' : World) : Prop where
  os : w'.os = w.os
  tape : w'.tape = w.tape
  output : w'.output = w.output
  size : w.heap.size ≤ w'.heap.size
  block : ∀ b, b < w.heap.size → ¬ M b → w'.heap[b]? = w.heap[b]?
theorem Turns.refl (M : Nat → Prop) (w : World) : Turns M w w := ⟨rfl, rfl, rfl, Nat.le_refl _, fun _ _ _ => rfl⟩
/-- M, and what is new since w. -/
def New (M : Nat → Prop) (w : World) : Nat → Prop := fun b => M b ∨ w.heap.size ≤ b
theorem Turns.trans {M : Nat → Prop} {w w1 w2 : World} (h : Turns M w w1) (k : Turns (New M w) w1 w2) : Turns M w w2 :=
  ⟨k.os.trans h.os, k.tape.trans h.tape, k.output.trans h.output, Nat.le_trans h.size k.size, fun b hb hm => (k.block b (Nat.lt_of_lt_of_le hb h.size) (fun q => q.elim hm (fun q => absurd hb (by omega)))).trans (h.block b hb hm)⟩
theorem Turns.mono {M L : Nat → Prop} {w w' : World} (h : Turns M w w') (hm : ∀ b, b < w.heap.size → M b → L b) : Turns L w w' :=
  ⟨h.os, h.tape, h.output, h.size, fun b hb hl => h.block b hb (fun q => hl (hm b hb q))⟩
theorem Turns.of_below {M : Nat → Prop} {w w' : World} (h : Below w.heap.size w w') : Turns M w w' := ⟨h.os, h.tape, h.output, h.size, fun b hb _ => h.block b hb⟩
theorem Turns.of_grown {M : Nat → Prop} {w w' : World} {row : Option Nat} (h : w.grownBy w' row) (hr : ∀ g, row = some g → M g) : Turns M w w' :=
  ⟨h.os, h.tape, h.output, h.size, fun b hb hm => h.block b hb (fun e => hm (hr b e.symm))⟩
theorem Turns.below {M : Nat → Prop} {w w' : World} {B : Nat} (h : Turns M w w') (hb : B ≤ w.heap.size) (hm : ∀ b, b < B → ¬ M b) : Below B w w' := ⟨h.os, h.tape, h.output, h.size, fun b k => h.block b (Nat.lt_of_lt_of_le k hb) (hm b k)⟩
theorem Turns.kept {M P : Nat → Prop} {w w' : World} (h : Turns M w w') (hp : ∀ b, b < w.heap.size → P b → ¬ M b) : Kept P w w' := ⟨h.size, fun b k hb => h.block b hb (hp b hb k)⟩
theorem ownsRow_kept {M : Nat → Prop} {w w' : World} {B s n : Nat} {e : TypeId} {v : Value} {xs : List Value} (h : w.ownsRow B e s v n xs) (ht : Turns M w w') (hm : ∀ g, v.ownBlock = some g → ¬ M g) : w'.ownsRow B e s v n xs := by
  obtain ⟨h1, h2⟩ := h
  refine ⟨h1, ?_⟩
  rcases h2 with h2 | ⟨g, cap, cur, rfl, hb, hg, hr⟩
  · exact .inl h2
  · refine .inr ⟨g, cap, cur, rfl, hb, ?_, hr⟩
    rw [ht.block g (heap_lt hg) (hm g rfl)]
    exact hg

end Go.Proofs.Ytppcgcmhecagbab
