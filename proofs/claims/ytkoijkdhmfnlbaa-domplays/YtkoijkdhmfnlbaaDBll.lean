/-
  A text's bytes in a row of its own, that may have come of a text: it grows in place, or moves. No program is walked.
  The program's Doc in memory (chapter 6): nodes with links, a row of ten cells each. No program is walked.
  The walks of the program's Doc that only read: has, hasElem, hasPlace, kidBefore, Up, Size, within. Any nodes, not too many.
  The walks of the program's Doc that write: meet, link, unlink. Any nodes, not too many.
  The walks of the program's link, unlink. Any nodes, not too many.
  The walks of the program's copied, add, Elem, Note, New. Any nodes, not too many.
-/
import Derived.Test.YtkoijkdhmfnlbaaDAll
import Derived.Lib.AppendStr
import Derived.Lib.ConvBytes
import Derived.Laws.IdiomStrings
import Derived.Deep.RegionWith
import Derived.StillTailTactics
import Derived.Deep.RegionLaw
import Derived.Deep.AppendLies
namespace Go.Proofs.Ytkoijkdhmfnlbaa
open Go.RowKit

theorem heap_lt {w : World} {g : Nat} {o : Obj} (h : w.heap[g]? = some o) : g < w.heap.size := by
  rcases Nat.lt_or_ge g w.heap.size with h1 | h1
  · exact h1
  · rw [Array.getElem?_eq_none h1] at h; cases h
def byteCells (l : List UInt8) : List Value := l.map fun b => .int .u8 (b.toNat : Int)
/-- The slice v has the bytes l in a row that nobody else writes. -/
def OwnsB (w : World) (v : Value) (l : List UInt8) : Prop :=
  (v = .slice none 0 0 ∧ l = []) ∨ ∃ g cap cur fz, v = .slice (some ⟨g, 0, none⟩) l.length cap ∧ w.heap[g]? = some (.cells cur 5 fz) ∧ (fz.2 ≤ l.length ∨ cur.size ≤ fz.1) ∧ l.length ≤ cap ∧ cap ≤ maxLen ∧ cur.size = cap ∧ cur.toList.take l.length = byteCells l
theorem OwnsB.lt {w : World} {v : Value} {l : List UInt8} (h : OwnsB w v l) : ∀ g, v.ownBlock = some g → g < w.heap.size := by
  intro k hk
  rcases h with ⟨rfl, _⟩ | ⟨g, cap, cur, fz, rfl, hg, _⟩
  · cases hk
  · injection hk with hk; subst hk; exact heap_lt hg
theorem OwnsB.form {w : World} {v : Value} {l : List UInt8} (h : OwnsB w v l) : ∃ p c, v = .slice p l.length c := by
  rcases h with ⟨rfl, rfl⟩ | ⟨g, cap, _, _, rfl, _⟩
  · exact ⟨none, 0, rfl⟩
  · exact ⟨_, cap, rfl⟩
theorem OwnsB.block {w w' : World} {v : Value} {l : List UInt8} (h : OwnsB w v l) (hb : ∀ g, v.ownBlock = some g → w'.heap[g]? = w.heap[g]?) : OwnsB w' v l := by
  rcases h with h | ⟨g, cap, cur, fz, rfl, hg, hr⟩
  · exact .inl h
  · exact .inr ⟨g, cap, cur, fz, rfl, (hb g rfl).trans hg, hr⟩
theorem OwnsB.nil (w : World) : OwnsB w (.slice none 0 0) [] := .inl ⟨rfl, rfl⟩
theorem byteCells_one (l : List UInt8) : ∀ u ∈ byteCells l, u.oneCell' = true := by
  intro u hu
  obtain ⟨b, _, rfl⟩ := List.mem_map.1 hu
  rfl
/-- Values laid into a row whose mark lies behind it. -/
theorem store_row (P : Program) (g o : Nat) (t : TypeId) (fz : Nat × Nat) : ∀ (vs : List Value) (i : Nat) (w : World) (cur : Array Value), w.heap[g]? = some (.cells cur t fz) → (fz.2 ≤ o + i ∨ cur.size ≤ fz.1) → o + i + vs.length ≤ cur.size → (∀ v ∈ vs, v.oneCell' = true) →
    ∃ w' cur', (storeCells ⟨g, o, none⟩ vs i).run P w = .ok () w' ∧ w'.heap[g]? = some (.cells cur' t fz) ∧ cur'.size = cur.size ∧ w.grownBy w' (some g) ∧ cur'.toList.take (o + i + vs.length) = cur.toList.take (o + i) ++ vs
  | [], i, w, cur, hg, _, _, _ => ⟨w, cur, rfl, hg, rfl, ⟨rfl, rfl, rfl, Nat.le_refl _, fun _ _ _ => rfl⟩, by simp⟩
  | v :: r, i, w, cur, hg, hz, hl, h1 => by
    simp only [List.length_cons] at hl
    have hlt : o + i < cur.size := by omega
    have hadd : (⟨g, o, none⟩ : Addr).add i = ⟨g, o + i, none⟩ := by simp [Addr.add]
    have hc : w.cell? ⟨g, o + i, none⟩ = some cur[o + i] := by simp [World.cell?, hg, hlt]
    have hf : w.frozen? ⟨g, o + i, none⟩ = false := by
      simp only [World.frozen?, hg, Bool.and_eq_false_iff, decide_eq_false_iff_not]
      rcases hz with hz | hz
      · exact .inr (by omega)
      · exact .inl (by omega)
    have hs : (store ((⟨g, o, none⟩ : Addr).add i) v).run P w = .ok () (w.setCell ⟨g, o + i, none⟩ v) := by
      rw [hadd, run_store P w _ v _ (h1 v (by simp)), hc]
      simp [hf]
    have hg1 : (w.setCell ⟨g, o + i, none⟩ v).heap[g]? = some (.cells (cur.setIfInBounds (o + i) v) t fz) := by
      simp [World.setCell, Array.getElem?_modify, hg]
    obtain ⟨w', cur', e1, e2, e3, e4, e5⟩ := store_row P g o t fz r (i + 1) _ _ hg1 (by rw [Array.size_setIfInBounds]; omega) (by rw [Array.size_setIfInBounds]; omega) (fun x hx => h1 x (by simp [hx]))
    refine ⟨w', cur', ?_, e2, by rw [e3, Array.size_setIfInBounds], ?_, ?_⟩
    · simp only [storeCells, Sem.run_bind, hs, Result.andThen_ok, e1]
    · refine ⟨e4.os, e4.tape, e4.output, by have := e4.size; simpa using this, fun k hk hne => ?_⟩
      rw [e4.block k (by simpa using hk) hne]
      exact heap_setCell_other w ⟨g, o + i, none⟩ k v (fun e => hne (by rw [e]))
    · rw [show o + i + (v :: r).length = o + (i + 1) + r.length by simp; omega, e5, Array.toList_setIfInBounds, show o + (i + 1) = o + i + 1 by omega, List.take_succ_eq_append_getElem (by simp; omega), List.take_set_of_le (by omega)]
      simp
theorem strCells_of (s : List UInt8) : Lib.strCells ⟨s.toArray⟩ = byteCells s := by
  unfold Lib.strCells byteCells
  simp
/-- 'append(b, s...)' where b owns its bytes. -/
theorem run_append_bytes {P : Program} (w : World) (t u ty : TypeId) (i : TypeInfo) (ht : P.underlying t = some (.slice 5)) (hu : P.underlying u = some .string) (hi : P.info? 5 = some i) (hz : i.zero = some (.int .u8 0)) (hsize : i.size = 1) (hby : i.bytes = 1)
    (v : Value) (l s : List UInt8) (h : OwnsB w v l) (hm : l.length + s.length ≤ 140737488355328) :
    ∃ v' w', (Builtin.append_ #[t, u] ty #[v, .string ⟨s.toArray⟩]).run P w = .ok v' w' ∧ OwnsB w' v' (l ++ s) ∧ w.grownBy w' v.ownBlock ∧ ∀ g, v'.ownBlock = some g → v.ownBlock = some g ∨ w.heap.size ≤ g := by
  have hsz : (⟨s.toArray⟩ : ByteArray).size = s.length := by show s.toArray.size = _; simp
  rcases h with ⟨rfl, rfl⟩ | ⟨g, cap, cur, fz, rfl, hg, hfz, hlc, hcm, hcs, htk⟩
  · obtain ⟨v', w', e1, e2, e3, _⟩ := Lib.run_append_own_string (P := P) w w.heap.size t u ty 5 i ht hu hi hz hsize hby (.slice none 0 0) 0 [] ⟨by simp, .inl ⟨rfl, rfl⟩⟩ ⟨s.toArray⟩ (by rw [hsz]; unfold maxLen; omega) (by rw [hsz]; simpa using hm) (Nat.le_refl _)
    rw [hsz, Nat.zero_add, List.nil_append, strCells_of] at e2
    refine ⟨v', w', e1, ?_, e3, fun g e => .inr (e2.lt g e).1⟩
    rw [List.nil_append]
    rcases e2.2 with ⟨q1, q2⟩ | ⟨g, cap, cur, q1, _, q2, q3, q4, q5, q6⟩
    · exact .inl ⟨q1, List.eq_nil_of_length_eq_zero q2⟩
    · exact .inr ⟨g, cap, cur, (0, 0), q1, q2, .inl (Nat.zero_le _), q3, q4, by simpa using q5, by simpa using q6⟩
  · have hf := Lib.run_firstCells_string (P := P) w 1 ⟨s.toArray⟩
    by_cases hroom : l.length + s.length ≤ cap
    · obtain ⟨w', cur', e1, e2, e3, e4, e5⟩ := store_row P g l.length 5 fz (byteCells s) 0 w cur hg (by simpa using hfz) (by unfold byteCells; simp; omega) (byteCells_one s)
      have hlen : (byteCells s).length = s.length := by simp [byteCells]
      rw [strCells_of] at hf
      refine ⟨.slice (some ⟨g, 0, none⟩) (l.length + s.length) cap, w', ?_, .inr ⟨g, cap, cur', fz, by rw [List.length_append], e2, ?_, by rw [List.length_append]; exact hroom, hcm, by omega, ?_⟩, e4, fun x e => .inl e⟩
      · rw [hsz] at hf
        simp [Builtin.append_, run_underlying ht, run_underlying hu, sizeOf, typeInfo, hi, hsize, Builtin.lenOf, hsz, hroom, hf, Addr.add_lit, e1]
      · rw [List.length_append]
        omega
      · rw [List.length_append, ← hlen]
        rw [Nat.add_zero] at e5
        rw [e5, htk]
        simp [byteCells]
    · have holds : ∀ j u, (byteCells l)[j]? = some u → w.cell? ((⟨g, 0, none⟩ : Addr).add j) = some u := by
        intro j u hj
        rw [show (⟨g, 0, none⟩ : Addr).add j = ⟨g, j, none⟩ by simp [Addr.add]; omega]
        rw [← htk, List.getElem?_take] at hj
        split at hj
        · simp [World.cell?, hg]
          simpa using hj
        · cases hj
      have hr := Lib.run_append_grow_string (P := P) w t u ty 5 i (.int .u8 0) ht hu hi hz ⟨g, 0, none⟩ l.length cap (byteCells l) (by rw [hsize]; simp [byteCells]) holds ⟨s.toArray⟩ (by rw [hsz]; omega) (by rw [hsz]; omega) (by rw [hby, hsz]; exact growslice_fits (by omega) (by unfold maxLen at *; omega))
      refine ⟨_, _, hr, ?_, ?_, ?_⟩
      · have hge := grownCap_ge w (l.length + s.length) cap 5
        have hle : grownCap w (l.length + s.length) cap 5 ≤ maxLen := grownCap_le_maxLen w _ cap _ (by unfold maxLen; omega)
        rw [hsz]
        refine .inr ⟨w.heap.size, grownCap w (l.length + s.length) cap 5, _, (0, 0), by rw [List.length_append], heap_alloc_new w.drew _, .inl (Nat.zero_le _), by rw [List.length_append]; exact hge, hle, ?_, ?_⟩
        · have hz1 : (Value.int IntKind.u8 0).cells.size = 1 := rfl
          simp only [Array.size_append, List.size_toArray, size_zeroCells, hz1, strCells_of]
          simp [byteCells]
          omega
        · rw [strCells_of, Array.toList_append, Array.toList_append, List.append_assoc, ← List.append_assoc, List.take_left' (by simp [byteCells])]
          simp [byteCells]
      · exact ⟨rfl, rfl, rfl, by simp, fun k hk _ => heap_alloc_old w.drew _ hk⟩
      · intro x e
        injection e with e
        exact .inr (Nat.le_of_eq e)
theorem info_u8 : ∃ i, Try.prog.info? 5 = some i ∧ i.zero = some (.int .u8 0) ∧ i.size = 1 ∧ i.bytes = 1 := by
  have hi9 : (Try.prog.info? 5).map (fun i => (i.zero, i.size, i.bytes)) = some (some (.int .u8 0), 1, 1) := by kernel_rfl
  obtain ⟨i0, hi, hx⟩ := Option.map_eq_some_iff.1 hi9
  simp only [Prod.mk.injEq] at hx
  exact ⟨i0, hi, hx.1, hx.2.1, hx.2.2⟩
/-- The operation, for the walk. -/
theorem wpList_append_bytes {w : World} {ops : Array Oper} {rest : List Oper} {o : Oper} {a : Act} {Q : Exit → Act → World → Prop} (hgd : o.guard = none) (sl x : Operand)
    (ho : o.op = .call { callee := .builtin .append, args := #[sl, x], argTypes := #[ 62, 9 ] })
    (v : Value) (l s : List UInt8) (hs : a.eval sl = v) (hx : a.eval x = .string ⟨s.toArray⟩) (h : OwnsB w v l) (hm : l.length + s.length ≤ 140737488355328)
    (hk : ∀ v' w', OwnsB w' v' (l ++ s) → w.grownBy w' v.ownBlock → (∀ g, v'.ownBlock = some g → v.ownBlock = some g ∨ w.heap.size ≤ g) → wpList Try.prog ops Q rest (a.put o.dst v') w') : wpList Try.prog ops Q (o :: rest) a w := by
  refine wpList_plain hgd fun K hK => ?_
  obtain ⟨i0, hi0, hz0, hz1, hz2⟩ := info_u8
  obtain ⟨v', w', hr, h1, h2, h3⟩ := run_append_bytes (P := Try.prog) w 62 9 o.type i0 Try.underlying62 Try.underlying9 hi0 hz0 hz1 hz2 v l s h hm
  unfold Oper.wp
  simp [execOp, ho, resolve, invoke, builtin, hs, hx, hr, Result.andThen]
  exact hK _ _ (hk v' w' h1 h2 h3)
/-- '[]byte(s)': a row of its own. -/
theorem conv_owns (w : World) (s : List UInt8) (hm : s.length ≤ 140737488355328) : ∃ c W, (convert 9 62 (.string ⟨s.toArray⟩)).run Try.prog w = .ok (.slice (some ⟨w.heap.size, 0, none⟩) s.length c) W ∧ OwnsB W (.slice (some ⟨w.heap.size, 0, none⟩) s.length c) s ∧ Below w.heap.size w W := by
  have hsz : (⟨s.toArray⟩ : ByteArray).size = s.length := by show s.toArray.size = _; simp
  have hr := Lib.run_convert_string_bytes (P := Try.prog) w 9 62 5 ⟨s.toArray⟩ Try.underlying9 Try.underlying62 Try.underlying5
  have hge := grownCap_ge w s.length 0 5
  have hle : grownCap w s.length 0 5 ≤ maxLen := grownCap_le_maxLen w _ 0 _ (by unfold maxLen; omega)
  rw [hsz] at hr
  refine ⟨_, _, hr, .inr ⟨w.heap.size, _, _, _, rfl, Lib.bytesWorld_at_new w _ _, .inr (Nat.le_refl _), hge, hle, ?_, ?_⟩, ⟨rfl, rfl, rfl, by rw [Lib.bytesWorld_size]; omega, fun k hk => Lib.bytesWorld_at_old w _ _ k hk⟩⟩
  · unfold Lib.bytesCells
    rw [hsz]
    simp
    omega
  · unfold Lib.bytesCells
    rw [Array.toList_append, List.take_left' (by simp)]
    simp [byteCells]
/-- 'string(b)'. -/
theorem conv_back (w : World) (v : Value) (l : List UInt8) (h : OwnsB w v l) : (convert 62 9 v).run Try.prog w = .ok (.string ⟨l.toArray⟩) w := by
  rcases h with ⟨rfl, rfl⟩ | ⟨g, cap, cur, fz, rfl, hg, hfz, hlc, hcm, hcs, htk⟩
  · exact run_convert_bytes_nil (P := Try.prog) w 62 5 Try.underlying62 Try.underlying5 0 0 9 Try.underlying9
  · refine run_convert_bytes_back w _ _ 5 _ cap l Try.underlying62 Try.underlying5 Try.underlying9 ?_
    intro j hj
    rw [show (⟨g, 0, none⟩ : Addr).add j = ⟨g, j, none⟩ by simp [Addr.add]; omega]
    have h1 : (byteCells l)[j]? = some (.int .u8 (l[j].toNat : Int)) := by simp [byteCells, hj]
    rw [← htk, List.getElem?_take_of_lt hj] at h1
    simp [World.cell?, hg]
    simpa using h1
end Go.Proofs.Ytkoijkdhmfnlbaa
namespace Go.Proofs.Ytkoijkdhmfnlbaa
open Go.RowKit

/-- A node as the program keeps it. -/
structure PN where
  kind : Int
  space : Int
  name : List UInt8
  attrs : List (List UInt8 × List UInt8)
  text : List UInt8
  up : Int
  before : Int
  behind : Int
  first : Int
  last : Int
deriving DecidableEq, Inhabited

def pnCell (q : PN × Value × Value) : List Value :=
  [.int .i64 q.1.kind, .int .i64 q.1.space, .string ⟨q.1.name.toArray⟩, q.2.1, q.2.2, .int .i64 q.1.up, .int .i64 q.1.before, .int .i64 q.1.behind, .int .i64 q.1.first, .int .i64 q.1.last]
def pnCells (qs : List (PN × Value × Value)) : List Value := qs.flatMap pnCell
theorem pnCells_len (qs : List (PN × Value × Value)) : (pnCells qs).length = qs.length * 10 := by
  induction qs with
  | nil => rfl
  | cons q r ih => show (pnCell q ++ pnCells r).length = _; rw [List.length_append, ih, List.length_cons]; simp [pnCell]; omega
theorem pnCells_snoc (qs : List (PN × Value × Value)) (q : PN × Value × Value) : pnCells (qs ++ [q]) = pnCells qs ++ pnCell q := by
  unfold pnCells
  rw [List.flatMap_append]
  simp
theorem pnCells_at : ∀ (qs : List (PN × Value × Value)) (j i : Nat) (hj : j < qs.length), i < 10 → (pnCells qs)[j * 10 + i]? = (pnCell qs[j])[i]?
  | [], j, _, hj, _ => absurd hj (by simp)
  | q :: r, 0, i, _, hi => by
    show (pnCell q ++ pnCells r)[0 * 10 + i]? = _
    rw [List.getElem?_append_left (by simp [pnCell]; omega), Nat.zero_mul, Nat.zero_add]
    rfl
  | q :: r, j + 1, i, hj, hi => by
    have h := pnCells_at r j i (by simpa using hj) hi
    show (pnCell q ++ pnCells r)[(j + 1) * 10 + i]? = _
    rw [List.getElem?_append_right (by simp [pnCell]; omega), show (j + 1) * 10 + i - (pnCell q).length = j * 10 + i by simp [pnCell]; omega, h]
    rfl
theorem pnCells_set : ∀ (qs : List (PN × Value × Value)) (j i : Nat) (u : Value) (q : PN × Value × Value) (hj : j < qs.length), i < 10 → pnCell q = (pnCell qs[j]).set i u → (pnCells qs).set (j * 10 + i) u = pnCells (qs.set j q)
  | [], j, _, _, _, hj, _, _ => absurd hj (by simp)
  | p :: r, 0, i, u, q, _, hi, h => by
    show (pnCell p ++ pnCells r).set (0 * 10 + i) u = pnCell q ++ pnCells r
    rw [Nat.zero_mul, Nat.zero_add, List.set_append_left _ _ (by simp [pnCell]; omega)]
    have h' : pnCell q = (pnCell p).set i u := h
    rw [h']
  | p :: r, j + 1, i, u, q, hj, hi, h => by
    show (pnCell p ++ pnCells r).set ((j + 1) * 10 + i) u = pnCell p ++ pnCells (r.set j q)
    rw [List.set_append_right _ _ (by simp [pnCell]; omega), show (j + 1) * 10 + i - (pnCell p).length = j * 10 + i by simp [pnCell]; omega, pnCells_set r j i u q (by simpa using hj) hi h]

/-- Nothing but blocks of M has turned, and what is new. -/
structure Turns (M : Nat → Prop) (w w' : World) : Prop where
  os : w'.os = w.os
  tape : w'.tape = w.tape
  output : w'.output = w.output
  size : w.heap.size ≤ w'.heap.size
  block : ∀ b, b < w.heap.size → ¬ M b → w'.heap[b]? = w.heap[b]?
theorem Turns.refl (M : Nat → Prop) (w : World) : Turns M w w := ⟨rfl, rfl, rfl, Nat.le_refl _, fun _ _ _ => rfl⟩
/-- M, and what is new since w. -/
def New (M : Nat → Prop) (w : World) : Nat → Prop := fun b => M b ∨ w.heap.size ≤ b
theorem Turns.trans {M : Nat → Prop} {w w1 w2 : World} (h : Turns M w w1) (k : Turns (New M w) w1 w2) : Turns M w w2 :=
  ⟨k.os.trans h.os, k.tape.trans h.tape, k.output.trans h.output, Nat.le_trans h.size k.size, fun b hb hm => (k.block b (Nat.lt_of_lt_of_le hb h.size) (fun q => q.elim hm (fun q => absurd hb (by omega)))).trans (h.block b hb hm)⟩
theorem Turns.mono {M L : Nat → Prop} {w w' : World} (h : Turns M w w') (hm : ∀ b, b < w.heap.size → M b → L b) : Turns L w w' :=
  ⟨h.os, h.tape, h.output, h.size, fun b hb hl => h.block b hb (fun q => hl (hm b hb q))⟩
theorem Turns.of_below {M : Nat → Prop} {w w' : World} (h : Below w.heap.size w w') : Turns M w w' := ⟨h.os, h.tape, h.output, h.size, fun b hb _ => h.block b hb⟩
theorem Turns.of_grown {M : Nat → Prop} {w w' : World} {row : Option Nat} (h : w.grownBy w' row) (hr : ∀ g, row = some g → M g) : Turns M w w' :=
  ⟨h.os, h.tape, h.output, h.size, fun b hb hm => h.block b hb (fun e => hm (hr b e.symm))⟩
theorem Turns.below {M : Nat → Prop} {w w' : World} {B : Nat} (h : Turns M w w') (hb : B ≤ w.heap.size) (hm : ∀ b, b < B → ¬ M b) : Below B w w' := ⟨h.os, h.tape, h.output, h.size, fun b k => h.block b (Nat.lt_of_lt_of_le k hb) (hm b k)⟩
theorem Turns.kept {M P : Nat → Prop} {w w' : World} (h : Turns M w w') (hp : ∀ b, b < w.heap.size → P b → ¬ M b) : Kept P w w' := ⟨h.size, fun b k hb => h.block b hb (hp b hb k)⟩
theorem ownsRow_kept {M : Nat → Prop} {w w' : World} {B s n : Nat} {e : TypeId} {v : Value} {xs : List Value} (h : w.ownsRow B e s v n xs) (ht : Turns M w w') (hm : ∀ g, v.ownBlock = some g → ¬ M g) : w'.ownsRow B e s v n xs := by
  obtain ⟨h1, h2⟩ := h
  refine ⟨h1, ?_⟩
  rcases h2 with h2 | ⟨g, cap, cur, rfl, hb, hg, hr⟩
  · exact .inl h2
  · refine .inr ⟨g, cap, cur, rfl, hb, ?_, hr⟩
    rw [ht.block g (heap_lt hg) (hm g rfl)]
    exact hg

theorem OwnsB.kept {M : Nat → Prop} {w w' : World} {v : Value} {l : List UInt8} (h : OwnsB w v l) (ht : Turns M w w') (hm : ∀ g, v.ownBlock = some g → ¬ M g) : OwnsB w' v l := h.block (fun g e => ht.block g (h.lt g e) (hm g e))
/-- The Doc at block B: v is its row of nodes, qs what that holds. All that it has lies in blocks of M. -/
structure DocQ (M : Nat → Prop) (w : World) (B : Nat) (v : Value) (qs : List (PN × Value × Value)) : Prop where
  inM : M B
  lt : B < w.heap.size
  cell : w.cell? ⟨B, 0, none⟩ = some v
  free : w.frozen? ⟨B, 0, none⟩ = false
  row : w.ownsRow 0 64 10 v qs.length (pnCells qs)
  rowM : ∀ g, v.ownBlock = some g → M g ∧ g ≠ B
  attrs : ∀ q ∈ qs, AttrsP (fun b => M b ∧ b ≠ B ∧ some b ≠ v.ownBlock ∧ ∀ p ∈ qs, some b ≠ p.2.2.ownBlock) w q.2.1 q.1.attrs
  texts : ∀ q ∈ qs, OwnsB w q.2.2 q.1.text
  textM : ∀ q ∈ qs, ∀ g, q.2.2.ownBlock = some g → M g ∧ g ≠ B ∧ some g ≠ v.ownBlock
  apart : ∀ i j (hi : i < qs.length) (hj : j < qs.length), i ≠ j → qs[i].2.2.ownBlock = none ∨ qs[i].2.2.ownBlock ≠ qs[j].2.2.ownBlock
theorem DocQ.mono {M L : Nat → Prop} {w : World} {B : Nat} {v : Value} {qs : List (PN × Value × Value)} (h : DocQ M w B v qs) (hm : ∀ b, b < w.heap.size → M b → L b) : DocQ L w B v qs :=
  ⟨hm B h.lt h.inM, h.lt, h.cell, h.free, h.row, fun g e => ⟨hm g (h.row.lt g e).2 (h.rowM g e).1, (h.rowM g e).2⟩, fun q hq => (h.attrs q hq).mono (fun b k hb => ⟨hm b hb k.1, k.2⟩), h.texts, fun q hq g e => ⟨hm g ((h.texts q hq).lt g e) (h.textM q hq g e).1, (h.textM q hq g e).2⟩, h.apart⟩
theorem DocQ.on {M L : Nat → Prop} {w w' : World} {B : Nat} {v : Value} {qs : List (PN × Value × Value)} (h : DocQ M w B v qs) (ht : Turns L w w') (hm : ∀ b, b < w.heap.size → M b → ¬ L b) : DocQ M w' B v qs := by
  have hk := ht.block B h.lt (hm B h.lt h.inM)
  refine ⟨h.inM, Nat.lt_of_lt_of_le h.lt ht.size, ?_, ?_, ?_, h.rowM, ?_, ?_, h.textM, h.apart⟩
  · rw [World.cell?_of_block (w := w) hk]; exact h.cell
  · rw [World.frozen?_of_block (w := w) hk]; exact h.free
  · exact ownsRow_kept h.row ht (fun g e => hm g (h.row.lt g e).2 (h.rowM g e).1)
  · exact fun q hq => (h.attrs q hq).kept (ht.kept (fun b hb k => hm b hb k.1))
  · exact fun q hq => OwnsB.kept (h.texts q hq) ht (fun g e => hm g ((h.texts q hq).lt g e) (h.textM q hq g e).1)
theorem DocQ.below {M : Nat → Prop} {w w' : World} {B : Nat} {v : Value} {qs : List (PN × Value × Value)} (h : DocQ M w B v qs) (hb : Below w.heap.size w w') : DocQ M w' B v qs := h.on (L := fun _ => False) (.of_below hb) (fun _ _ _ k => k)
/-- A cell of a node. -/
theorem DocQ.at {M : Nat → Prop} {w : World} {B g n cap : Nat} {qs : List (PN × Value × Value)} (h : DocQ M w B (.slice (some ⟨g, 0, none⟩) n cap) qs) (j i : Nat) (hj : j < qs.length) (hi : i < 10) : w.cell? ⟨g, j * 10 + i, none⟩ = (pnCell qs[j])[i]? := by
  have hr := h.row
  have hn : n = qs.length := by
    rcases hr.2 with ⟨e, _⟩ | ⟨_, _, _, e, _⟩
    · cases e
    · injection e
  subst hn
  rw [hr.cellAt (j * 10 + i) (by omega), pnCells_at qs j i hj hi]
theorem DocQ.form {M : Nat → Prop} {w : World} {B : Nat} {v : Value} {qs : List (PN × Value × Value)} (h : DocQ M w B v qs) : (v = .slice none 0 0 ∧ qs = []) ∨ ∃ g cap, v = .slice (some ⟨g, 0, none⟩) qs.length cap := by
  rcases h.row.2 with ⟨e, h0⟩ | ⟨g, cap, _, e, _⟩
  · exact .inl ⟨e, List.eq_nil_of_length_eq_zero h0⟩
  · exact .inr ⟨g, cap, e⟩
theorem DocQ.pos {M : Nat → Prop} {w : World} {B : Nat} {v : Value} {qs : List (PN × Value × Value)} (h : DocQ M w B v qs) (h0 : 0 < qs.length) : ∃ g cap, v = .slice (some ⟨g, 0, none⟩) qs.length cap := by
  rcases h.form with ⟨_, rfl⟩ | h
  · simp at h0
  · exact h
/-- A link of a node is set. -/
theorem DocQ.set {M : Nat → Prop} {w : World} {B g cap : Nat} {qs : List (PN × Value × Value)} (h : DocQ M w B (.slice (some ⟨g, 0, none⟩) qs.length cap) qs) (j i : Nat) (u : Value) (p : PN) (hj : j < qs.length) (hi : i < 10)
    (hc : pnCell (p, qs[j].2) = (pnCell qs[j]).set i u) (ha : p.attrs = qs[j].1.attrs) (ht : p.text = qs[j].1.text) :
    DocQ M (w.setCell ⟨g, j * 10 + i, none⟩ u) B (.slice (some ⟨g, 0, none⟩) qs.length cap) (qs.set j (p, qs[j].2)) ∧ Turns M w (w.setCell ⟨g, j * 10 + i, none⟩ u) := by
  obtain ⟨hr, hg⟩ := h.row.stored (j * 10 + i) u
  rw [pnCells_set qs j i u (p, qs[j].2) hj hi hc] at hr
  have hgM := h.rowM g rfl
  have hT : Turns (fun b => b = g) w (w.setCell ⟨g, j * 10 + i, none⟩ u) := .of_grown hg (fun x e => by injection e with e; exact e.symm)
  have hmem : ∀ q ∈ qs.set j (p, qs[j].2), ∃ q0 ∈ qs, q.2 = q0.2 ∧ q.1.attrs = q0.1.attrs ∧ q.1.text = q0.1.text := by
    intro q hq
    obtain ⟨k, hk, rfl⟩ := List.mem_iff_getElem.1 hq
    rw [List.length_set] at hk
    rw [List.getElem_set]
    split
    · exact ⟨qs[j], List.getElem_mem hj, rfl, ha, ht⟩
    · exact ⟨qs[k], List.getElem_mem hk, rfl, rfl, rfl⟩
  have hval : ∀ k (hk : k < qs.length), ((qs.set j (p, qs[j].2))[k]'(by simpa using hk)).2 = qs[k].2 := by
    intro k hk
    rw [List.getElem_set]
    split
    · rename_i e; subst e; rfl
    · rfl
  have hne : B ≠ g := fun e => hgM.2 e.symm
  refine ⟨⟨h.inM, by simpa using h.lt, ?_, ?_, ?_, h.rowM, ?_, ?_, ?_, ?_⟩, hT.mono (fun b _ e => by subst e; exact hgM.1)⟩
  · rw [World.cell?_of_block (w := w) (hT.block B h.lt hne)]; exact h.cell
  · rw [World.frozen?_of_block (w := w) (hT.block B h.lt hne)]; exact h.free
  · rw [List.length_set]; exact hr
  · intro q hq
    obtain ⟨q0, hq0, e1, e2, _⟩ := hmem q hq
    rw [e1, e2]
    refine ((h.attrs q0 hq0).kept (hT.kept ?_)).mono ?_
    · rintro b _ ⟨_, _, hb, _⟩ e
      subst e
      exact hb rfl
    · rintro b ⟨h1, h2, h3, h4⟩ _
      refine ⟨h1, h2, h3, fun x hx => ?_⟩
      obtain ⟨x0, hx0, e3, _⟩ := hmem x hx
      rw [e3]
      exact h4 x0 hx0
  · intro q hq
    obtain ⟨q0, hq0, e1, _, e3⟩ := hmem q hq
    rw [e1, e3]
    refine OwnsB.kept (h.texts q0 hq0) hT (fun x e k => ?_)
    subst k
    exact (h.textM q0 hq0 x e).2.2 rfl
  · intro q hq
    obtain ⟨q0, hq0, e1, _⟩ := hmem q hq
    rw [e1]
    exact h.textM q0 hq0
  · intro a b ha' hb' hab
    rw [List.length_set] at ha' hb'
    rw [hval a ha', hval b hb']
    exact h.apart a b ha' hb' hab
theorem Turns.setCell {M : Nat → Prop} {w w1 : World} (h : Turns M w w1) {B : Nat} (hB : New M w B) (o : Nat) (v : Value) : Turns M w (w1.setCell ⟨B, o, none⟩ v) :=
  ⟨h.os, h.tape, h.output, by simpa using h.size, fun b hb hm => (heap_setCell_other w1 ⟨B, o, none⟩ b v (by rintro rfl; exact hB.elim hm (fun q => absurd hb (by omega)))).trans (h.block b hb hm)⟩
/-- One more node. L: what is the new node's own. -/
theorem DocQ.add {M L : Nat → Prop} {w w1 : World} {B : Nat} {v v1 : Value} {qs : List (PN × Value × Value)} {q : PN × Value × Value} (h : DocQ M w B v qs) (hL : ∀ b, L b → ¬ M b)
    (ha : AttrsP (fun b => L b ∧ some b ≠ q.2.2.ownBlock) w q.2.1 q.1.attrs) (ht : OwnsB w q.2.2 q.1.text) (htL : ∀ g, q.2.2.ownBlock = some g → L g)
    (hg : w.grownBy w1 v.ownBlock) (hr : w1.ownsRow 0 64 10 v1 (qs.length + 1) (pnCells qs ++ pnCell q)) (hat : ∀ g, v1.ownBlock = some g → v.ownBlock = some g ∨ w.heap.size ≤ g) :
    DocQ (fun b => M b ∨ L b ∨ w.heap.size ≤ b) (w1.setCell ⟨B, 0, none⟩ v1) B v1 (qs ++ [q]) ∧ Turns M w (w1.setCell ⟨B, 0, none⟩ v1) := by
  have hT : Turns (fun b => some b = v.ownBlock) w w1 := .of_grown hg (fun x e => e.symm)
  have hTM : Turns M w w1 := hT.mono (fun b _ e => (h.rowM b e.symm).1)
  have hT2 : Turns M w (w1.setCell ⟨B, 0, none⟩ v1) := hTM.setCell (.inl h.inM) 0 v1
  have hT3 : Turns (fun b => some b = v.ownBlock ∨ b = B) w (w1.setCell ⟨B, 0, none⟩ v1) := (hT.mono (L := fun b => some b = v.ownBlock ∨ b = B) (fun b _ e => .inl e)).setCell (.inl (.inr rfl)) 0 v1
  have hBv : some B ≠ v.ownBlock := fun e => (h.rowM B e.symm).2 rfl
  have hB1 : w1.heap[B]? = w.heap[B]? := hT.block B h.lt hBv
  have hBv1 : ∀ g, v1.ownBlock = some g → g ≠ B := by
    rintro g e rfl
    rcases hat _ e with h1 | h1
    · exact hBv h1.symm
    · exact absurd h.lt (by omega)
  have hc1 : w1.cell? ⟨B, 0, none⟩ = some v := by rw [World.cell?_of_block (w := w) hB1]; exact h.cell
  have hnew : ∀ g, v1.ownBlock = some g → M g ∨ L g ∨ w.heap.size ≤ g := by
    intro g e
    rcases hat g e with h1 | h1
    · exact .inl (h.rowM g h1).1
    · exact .inr (.inr h1)
  have hv1 : ∀ b, b < w.heap.size → (some b ≠ v.ownBlock) → some b ≠ v1.ownBlock := by
    intro b hb hne e
    rcases hat b e.symm with h1 | h1
    · exact hne h1.symm
    · omega
  refine ⟨⟨.inl h.inM, ?_, ?_, ?_, ?_, fun g e => ⟨hnew g e, hBv1 g e⟩, ?_, ?_, ?_, ?_⟩, hT2⟩
  · have := hT.size; have := h.lt; simp; omega
  · exact World.cell?_setCell_same _ _ _ hc1
  · rw [World.frozen?_setCell, World.frozen?_of_block (w := w) hB1]; exact h.free
  · rw [List.length_append, List.length_singleton, pnCells_snoc]
    refine hr.kept (row := some B) ⟨rfl, rfl, rfl, by simp, fun k _ hk => heap_setCell_other w1 ⟨B, 0, none⟩ k v1 (by rintro rfl; exact hk rfl)⟩ ?_
    cases hv : v1.ownBlock with
    | none => exact .inl rfl
    | some g => exact .inr (by intro e; injection e with e; exact hBv1 g hv e)
  · intro x hx
    rcases List.mem_append.1 hx with hx | hx
    · refine (((h.attrs x hx).mono (Q := fun b => (M b ∧ b ≠ B ∧ some b ≠ v.ownBlock ∧ ∀ p ∈ qs, some b ≠ p.2.2.ownBlock) ∧ b < w.heap.size) (fun b k hb => ⟨k, hb⟩)).kept (hT3.kept ?_)).mono ?_
      · rintro b _ ⟨⟨_, h2, h3, _⟩, _⟩ (e | e)
        · exact h3 e
        · exact h2 e
      · rintro b ⟨⟨h1, h2, h3, h4⟩, hb⟩ _
        refine ⟨.inl h1, h2, hv1 b hb h3, fun p hp => ?_⟩
        rcases List.mem_append.1 hp with hp | hp
        · exact h4 p hp
        · rw [List.mem_singleton] at hp
          subst hp
          exact fun e => hL b (htL b e.symm) h1
    · rw [List.mem_singleton] at hx
      subst hx
      refine ((ha.mono (Q := fun b => (L b ∧ some b ≠ x.2.2.ownBlock) ∧ b < w.heap.size) (fun b k hb => ⟨k, hb⟩)).kept (hT3.kept ?_)).mono ?_
      · rintro b _ ⟨⟨h1, _⟩, _⟩ (e | e)
        · exact hL b h1 (h.rowM b e.symm).1
        · subst e; exact hL b h1 h.inM
      · rintro b ⟨⟨h1, h2⟩, hb⟩ _
        refine ⟨.inr (.inl h1), ?_, ?_, fun p hp => ?_⟩
        · rintro rfl; exact hL b h1 h.inM
        · exact hv1 b hb (fun e => hL b h1 (h.rowM b e.symm).1)
        · rcases List.mem_append.1 hp with hp | hp
          · exact fun e => hL b h1 (h.textM p hp b e.symm).1
          · rw [List.mem_singleton] at hp
            subst hp
            exact h2
  · intro x hx
    rcases List.mem_append.1 hx with hx | hx
    · refine OwnsB.kept (h.texts x hx) hT3 (fun g e k => ?_)
      rcases k with k | k
      · exact (h.textM x hx g e).2.2 k
      · exact (h.textM x hx g e).2.1 k
    · rw [List.mem_singleton] at hx
      subst hx
      refine OwnsB.kept ht hT3 (fun g e k => ?_)
      rcases k with k | k
      · exact hL g (htL g e) (h.rowM g k.symm).1
      · subst k; exact hL g (htL g e) h.inM
  · intro x hx g e
    rcases List.mem_append.1 hx with hx | hx
    · have h3 := h.textM x hx g e
      exact ⟨.inl h3.1, h3.2.1, hv1 g ((h.texts x hx).lt g e) h3.2.2⟩
    · rw [List.mem_singleton] at hx
      subst hx
      refine ⟨.inr (.inl (htL g e)), ?_, hv1 g (ht.lt g e) (fun k => hL g (htL g e) (h.rowM g k.symm).1)⟩
      rintro rfl
      exact hL _ (htL _ e) h.inM
  · intro a b ha' hb' hab
    rw [List.length_append, List.length_singleton] at ha' hb'
    have key : ∀ c (hc : c < qs.length), qs[c].2.2.ownBlock = none ∨ qs[c].2.2.ownBlock ≠ q.2.2.ownBlock := by
      intro c hc
      cases he : qs[c].2.2.ownBlock with
      | none => exact .inl rfl
      | some g => exact .inr (fun k => hL g (htL g k.symm) (h.textM _ (List.getElem_mem hc) g he).1)
    rcases Nat.lt_or_ge a qs.length with h1 | h1
    · rw [List.getElem_append_left h1]
      rcases Nat.lt_or_ge b qs.length with h2 | h2
      · rw [List.getElem_append_left h2]
        exact h.apart a b h1 h2 hab
      · have : b = qs.length := by omega
        subst this
        rw [List.getElem_concat_length rfl]
        exact key a h1
    · have : a = qs.length := by omega
      subst this
      rw [List.getElem_concat_length rfl]
      rcases Nat.lt_or_ge b qs.length with h2 | h2
      · rw [List.getElem_append_left h2]
        rcases key b h2 with k | k
        · cases he : q.2.2.ownBlock with
          | none => exact .inl rfl
          | some g => exact .inr (by rw [k]; simp)
        · exact .inr k.symm
      · omega
/-- A text grows: the row of its bytes, and the cell that leads to it. -/
theorem DocQ.grow {M : Nat → Prop} {w w1 : World} {B g cap : Nat} {qs : List (PN × Value × Value)} (h : DocQ M w B (.slice (some ⟨g, 0, none⟩) qs.length cap) qs) (j : Nat) (hj : j < qs.length) (s : List UInt8) (v1 : Value)
    (hg : w.grownBy w1 qs[j].2.2.ownBlock) (hr : OwnsB w1 v1 (qs[j].1.text ++ s)) (hat : ∀ b, v1.ownBlock = some b → qs[j].2.2.ownBlock = some b ∨ w.heap.size ≤ b) :
    DocQ (New M w) (w1.setCell ⟨g, j * 10 + 4, none⟩ v1) B (.slice (some ⟨g, 0, none⟩) qs.length cap) (qs.set j ({ qs[j].1 with text := qs[j].1.text ++ s }, qs[j].2.1, v1)) ∧ Turns M w (w1.setCell ⟨g, j * 10 + 4, none⟩ v1) := by
  have hmj := List.getElem_mem hj
  have hT : Turns (fun b => some b = qs[j].2.2.ownBlock) w w1 := .of_grown hg (fun x e => e.symm)
  have hTM : Turns M w w1 := hT.mono (fun b _ e => (h.textM _ hmj b e.symm).1)
  have hgM := h.rowM g rfl
  have hglt := (h.row.lt g rfl).2
  have hgt : ∀ p ∈ qs, some g ≠ p.2.2.ownBlock := fun p hp e => (h.textM p hp g e.symm).2.2 rfl
  have hr1 : w1.ownsRow 0 64 10 (.slice (some ⟨g, 0, none⟩) qs.length cap) qs.length (pnCells qs) := ownsRow_kept h.row hT (fun x e k => by injection e with e; subst e; exact hgt _ hmj k)
  obtain ⟨hr2, hg2⟩ := hr1.stored (j * 10 + 4) v1
  rw [pnCells_set qs j 4 v1 ({ qs[j].1 with text := qs[j].1.text ++ s }, qs[j].2.1, v1) hj (by omega) rfl] at hr2
  have hT3 : Turns (fun b => some b = qs[j].2.2.ownBlock ∨ b = g) w (w1.setCell ⟨g, j * 10 + 4, none⟩ v1) := (hT.mono (L := fun b => some b = qs[j].2.2.ownBlock ∨ b = g) (fun b _ e => .inl e)).setCell (.inl (.inr rfl)) _ v1
  have hTg : Turns (fun b => b = g) w1 (w1.setCell ⟨g, j * 10 + 4, none⟩ v1) := .of_grown hg2 (fun x e => by injection e with e; exact e.symm)
  have hBn : ¬ (some B = qs[j].2.2.ownBlock ∨ B = g) := by
    rintro (e | e)
    · exact (h.textM _ hmj B e.symm).2.1 rfl
    · exact hgM.2 e.symm
  have hv1g : ∀ b, v1.ownBlock = some b → New M w b ∧ b ≠ B ∧ b ≠ g := by
    intro b e
    rcases hat b e with k | k
    · have := h.textM _ hmj b k
      exact ⟨.inl this.1, this.2.1, fun q => this.2.2 (by rw [q]; rfl)⟩
    · refine ⟨.inr k, ?_, ?_⟩
      · rintro rfl; have := h.lt; omega
      · rintro rfl; omega
  have hmem : ∀ x ∈ qs.set j ({ qs[j].1 with text := qs[j].1.text ++ s }, qs[j].2.1, v1), (x = ({ qs[j].1 with text := qs[j].1.text ++ s }, qs[j].2.1, v1)) ∨ ∃ k, ∃ hk : k < qs.length, k ≠ j ∧ x = qs[k] := by
    intro x hx
    obtain ⟨k, hk, rfl⟩ := List.mem_iff_getElem.1 hx
    rw [List.length_set] at hk
    rw [List.getElem_set]
    split
    · exact .inl rfl
    · exact .inr ⟨k, hk, fun e => by simp_all, rfl⟩
  have hap : ∀ k (hk : k < qs.length), k ≠ j → ∀ b, qs[k].2.2.ownBlock = some b → some b ≠ qs[j].2.2.ownBlock := by
    intro k hk hkj b e q
    rcases h.apart k j hk hj hkj with r | r
    · rw [r] at e; cases e
    · exact r (e.trans q)
  have hv1a : ∀ b, b < w.heap.size → some b ≠ qs[j].2.2.ownBlock → some b ≠ v1.ownBlock := by
    intro b hb hne e
    rcases hat b e.symm with k | k
    · exact hne k.symm
    · omega
  refine ⟨⟨.inl h.inM, ?_, ?_, ?_, ?_, fun x e => ⟨.inl (h.rowM x e).1, (h.rowM x e).2⟩, ?_, ?_, ?_, ?_⟩, hTM.setCell (.inl hgM.1) _ v1⟩
  · have := hT.size; have := h.lt; simp; omega
  · rw [World.cell?_of_block (w := w) (hT3.block B h.lt hBn)]; exact h.cell
  · rw [World.frozen?_of_block (w := w) (hT3.block B h.lt hBn)]; exact h.free
  · rw [List.length_set]; exact hr2
  · have key : ∀ q0 ∈ qs, AttrsP (fun b => New M w b ∧ b ≠ B ∧ some b ≠ (Value.slice (some ⟨g, 0, none⟩) qs.length cap).ownBlock ∧ ∀ p ∈ qs.set j ({ qs[j].1 with text := qs[j].1.text ++ s }, qs[j].2.1, v1), some b ≠ p.2.2.ownBlock) (w1.setCell ⟨g, j * 10 + 4, none⟩ v1) q0.2.1 q0.1.attrs := by
      intro q0 hq0
      refine (((h.attrs q0 hq0).mono (Q := fun b => (M b ∧ b ≠ B ∧ some b ≠ (Value.slice (some ⟨g, 0, none⟩) qs.length cap).ownBlock ∧ ∀ p ∈ qs, some b ≠ p.2.2.ownBlock) ∧ b < w.heap.size) (fun b k hb => ⟨k, hb⟩)).kept (hT3.kept ?_)).mono ?_
      · rintro b _ ⟨⟨_, _, h3, h4⟩, _⟩ (e | e)
        · exact h4 _ hmj e
        · subst e; exact h3 rfl
      · rintro b ⟨⟨h1, h2, h3, h4⟩, hb⟩ _
        refine ⟨.inl h1, h2, h3, fun p hp => ?_⟩
        rcases hmem p hp with rfl | ⟨k, hk, _, rfl⟩
        · exact hv1a b hb (h4 _ hmj)
        · exact h4 _ (List.getElem_mem hk)
    intro x hx
    rcases hmem x hx with rfl | ⟨k, hk, _, rfl⟩
    · exact key qs[j] hmj
    · exact key _ (List.getElem_mem hk)
  · intro x hx
    rcases hmem x hx with rfl | ⟨k, hk, hkj, rfl⟩
    · exact OwnsB.kept hr hTg (fun b e => (hv1g b e).2.2)
    · refine OwnsB.kept (h.texts _ (List.getElem_mem hk)) hT3 (fun b e => ?_)
      rintro (q | q)
      · exact hap k hk hkj b e q
      · subst q; exact hgt _ (List.getElem_mem hk) e.symm
  · intro x hx b e
    rcases hmem x hx with rfl | ⟨k, hk, _, rfl⟩
    · obtain ⟨h1, h2, h3⟩ := hv1g b e
      exact ⟨h1, h2, fun q => h3 (by injection q)⟩
    · have := h.textM _ (List.getElem_mem hk) b e
      exact ⟨.inl this.1, this.2⟩
  · intro a b ha' hb' hab
    rw [List.length_set] at ha' hb'
    rw [List.getElem_set, List.getElem_set]
    have key : ∀ c (hc : c < qs.length), c ≠ j → qs[c].2.2.ownBlock = none ∨ qs[c].2.2.ownBlock ≠ v1.ownBlock := by
      intro c hc hcj
      cases he : qs[c].2.2.ownBlock with
      | none => exact .inl rfl
      | some x => exact .inr (hv1a x ((h.texts _ (List.getElem_mem hc)).lt x he) (hap c hc hcj x he))
    split
    · rename_i e
      subst e
      split
      · rename_i e; omega
      · rcases key b hb' (by omega) with k | k
        · cases hv : v1.ownBlock with
          | none => exact .inl rfl
          | some x => exact .inr (by rw [k]; simp)
        · exact .inr (fun q => k q.symm)
    · split
      · rename_i e
        subst e
        exact key a ha' (by omega)
      · exact h.apart a b ha' hb' hab
/-- The Doc at block B has the nodes S. -/
def DocM (M : Nat → Prop) (w : World) (B : Nat) (S : List PN) : Prop := ∃ v qs, S = qs.map (·.1) ∧ DocQ M w B v qs
end Go.Proofs.Ytkoijkdhmfnlbaa
namespace Go.Proofs.Ytkoijkdhmfnlbaa
open Go.RowKit

def pget (S : List PN) (n : Int) : PN := S.getD n.toNat default
def pHas (S : List PN) (n : Int) : Bool := decide (0 ≤ n) && decide (n < (S.length : Int))
def pElem (S : List PN) (n : Int) : Bool := pHas S n && decide ((pget S n).kind = 1)
def pPlace (S : List PN) (up ahead : Int) : Bool := pElem S up && (decide (ahead = -1) || (pHas S ahead && decide ((pget S ahead).up = up)))
def pBefore (S : List PN) (up ahead : Int) : Int := if ahead = -1 then (pget S up).last else (pget S ahead).before
def pUp (S : List PN) (n : Int) : Int := if pHas S n then (pget S n).up else -1
theorem pHas_iff (S : List PN) (n : Int) : pHas S n = true ↔ 0 ≤ n ∧ n < (S.length : Int) := by
  unfold pHas
  rw [Bool.and_eq_true, decide_eq_true_eq, decide_eq_true_eq]
theorem pHas_nat {S : List PN} {n : Int} (h : pHas S n = true) : ∃ j : Nat, n = (j : Int) ∧ j < S.length := by
  rw [pHas_iff] at h
  exact ⟨n.toNat, by omega, by omega⟩
theorem pget_nat {S : List PN} {j : Nat} (h : j < S.length) : pget S (j : Int) = S[j] := by
  unfold pget
  rw [Int.toNat_natCast, List.getD_eq_getElem?_getD, List.getElem?_eq_getElem h]
  rfl
theorem int_one (n : Int) : (n == 1) = decide (n = 1) := by rw [Bool.eq_iff_iff, beq_iff_eq, decide_eq_true_eq]
theorem int_eq (n m : Int) : (n == m) = decide (n = m) := by rw [Bool.eq_iff_iff, beq_iff_eq, decide_eq_true_eq]
/-- What can be read of a Doc. -/
structure Reads (w : World) (B : Nat) (S : List PN) (p : Option Addr) (cap : Nat) : Prop where
  lt : B < w.heap.size
  cell : w.cell? ⟨B, 0, none⟩ = some (.slice p S.length cap)
  at_ : ∀ j (hj : j < S.length), ∃ g va vt, p = some ⟨g, 0, none⟩ ∧ g < w.heap.size ∧ ∀ i, i < 10 → w.cell? ⟨g, j * 10 + i, none⟩ = (pnCell (S[j], va, vt))[i]?
  free : ∀ g o, p = some ⟨g, 0, none⟩ → w.frozen? ⟨g, o, none⟩ = false
theorem DocQ.reads {M : Nat → Prop} {w : World} {B : Nat} {v : Value} {qs : List (PN × Value × Value)} (h : DocQ M w B v qs) : ∃ p cap, v = .slice p qs.length cap ∧ Reads w B (qs.map (·.1)) p cap := by
  rcases h.form with ⟨rfl, rfl⟩ | ⟨g, cap, rfl⟩
  · exact ⟨none, 0, rfl, h.lt, h.cell, fun j hj => absurd hj (by simp), fun _ _ e => by cases e⟩
  · refine ⟨_, cap, rfl, h.lt, by rw [List.length_map]; exact h.cell, fun j hj => ?_, fun g' o e => by injection e with e; injection e with e; subst e; exact h.row.frozenAt o⟩
    have hj' : j < qs.length := by simpa using hj
    refine ⟨g, qs[j].2.1, qs[j].2.2, rfl, (h.row.lt g rfl).2, fun i hi => ?_⟩
    rw [h.at j i hj' hi, List.getElem_map]
theorem DocM.reads {M : Nat → Prop} {w : World} {B : Nat} {S : List PN} (h : DocM M w B S) : ∃ p cap, Reads w B S p cap := by
  obtain ⟨v, qs, rfl, h⟩ := h
  obtain ⟨p, cap, _, hr⟩ := h.reads
  exact ⟨p, cap, hr⟩
/-- The ten cells of a node. -/
structure Cells10 (w : World) (g o : Nat) (n : PN) (va vt : Value) : Prop where
  c0 : w.cell? ⟨g, o, none⟩ = some (.int .i64 n.kind)
  c1 : w.cell? ⟨g, o + 1, none⟩ = some (.int .i64 n.space)
  c2 : w.cell? ⟨g, o + 2, none⟩ = some (.string ⟨n.name.toArray⟩)
  c3 : w.cell? ⟨g, o + 3, none⟩ = some va
  c4 : w.cell? ⟨g, o + 4, none⟩ = some vt
  c5 : w.cell? ⟨g, o + 5, none⟩ = some (.int .i64 n.up)
  c6 : w.cell? ⟨g, o + 6, none⟩ = some (.int .i64 n.before)
  c7 : w.cell? ⟨g, o + 7, none⟩ = some (.int .i64 n.behind)
  c8 : w.cell? ⟨g, o + 8, none⟩ = some (.int .i64 n.first)
  c9 : w.cell? ⟨g, o + 9, none⟩ = some (.int .i64 n.last)
theorem Reads.node {w : World} {B : Nat} {S : List PN} {p : Option Addr} {cap : Nat} (h : Reads w B S p cap) (j : Nat) (hj : j < S.length) : ∃ g va vt, p = some ⟨g, 0, none⟩ ∧ g < w.heap.size ∧ Cells10 w g (j * 10) S[j] va vt := by
  obtain ⟨g, va, vt, e, hg, hc⟩ := h.at_ j hj
  exact ⟨g, va, vt, e, hg, hc 0 (by omega), hc 1 (by omega), hc 2 (by omega), hc 3 (by omega), hc 4 (by omega), hc 5 (by omega), hc 6 (by omega), hc 7 (by omega), hc 8 (by omega), hc 9 (by omega)⟩

set_option maxHeartbeats 1000000 in
set_option maxRecDepth 100000 in
theorem dhasP (S : List PN) (B : Nat) (w : World) (p : Option Addr) (cap : Nat) (n : Int) (h : Reads w B S p cap) : Calls Try.prog 40 #[.pointer (some ⟨B, 0, none⟩), .int .i64 n] w (Gives (.bool (pHas S n)) w) := by
  have h0 := h.cell
  by_cases a : 0 ≤ n
  · by_cases b : n < (S.length : Int)
    · have HE := Lib.hid ((pHas_iff S n).2 ⟨a, b⟩)
      go_enter Try.func40, Try.ntmps40
      go_wp2
      go_ret
      exact ⟨by rw [HE.out]; simp, rfl⟩
    · have HE : Hid (pHas S n = false) := Lib.hid (by rw [Bool.eq_false_iff]; exact fun h => b ((pHas_iff S n).1 h).2)
      go_enter Try.func40, Try.ntmps40
      go_wp2
      go_ret
      exact ⟨by rw [HE.out]; simp, rfl⟩
  · have HE : Hid (pHas S n = false) := Lib.hid (by rw [Bool.eq_false_iff]; exact fun h => a ((pHas_iff S n).1 h).1)
    go_enter Try.func40, Try.ntmps40
    go_wp2
    go_ret
    exact ⟨by rw [HE.out]; rfl, rfl⟩
set_option maxHeartbeats 1000000 in
set_option maxRecDepth 100000 in
theorem delemP (S : List PN) (B : Nat) (w : World) (p : Option Addr) (cap : Nat) (n : Int) (h : Reads w B S p cap) : Calls Try.prog 47 #[.pointer (some ⟨B, 0, none⟩), .int .i64 n] w (Gives (.bool (pElem S n)) w) := by
  have HI := Lib.hid (dhasP S B w p cap n h)
  have h0 := h.cell
  cases hn : pHas S n
  · have HE : Hid (pElem S n = false) := Lib.hid (by unfold pElem; rw [hn]; rfl)
    rw [hn] at HI
    go_enter Try.func47, Try.ntmps47
    go_wp2_with fail
    refine HI.out.mono ?_
    rintro e w1 ⟨rfl, rfl⟩
    go_wp2_with fail
    go_ret
    exact ⟨by rw [HE.out]; rfl, rfl⟩
  · have HE : Hid (pElem S n = decide ((pget S n).kind = 1)) := Lib.hid (by unfold pElem; rw [hn]; rfl)
    rw [hn] at HI
    obtain ⟨j, rfl, hj⟩ := pHas_nat hn
    rw [pget_nat hj] at HE
    obtain ⟨g, va, vt, rfl, hg, hc⟩ := h.node j hj
    have c0 := hc.c0
    have j0 : (0 : Int) ≤ (j : Int) := by omega
    have j1 : (j : Int) < (S.length : Int) := by omega
    clear hn h hc
    go_enter Try.func47, Try.ntmps47
    go_wp2_with fail
    refine HI.out.mono ?_
    rintro e w1 ⟨rfl, rfl⟩
    go_wp2_with fail
    go_ret
    exact ⟨by rw [HE.out, ← int_one]; rfl, rfl⟩
set_option maxHeartbeats 1000000 in
set_option maxRecDepth 100000 in
theorem dplaceP (S : List PN) (B : Nat) (w : World) (p : Option Addr) (cap : Nat) (up ahead : Int) (h : Reads w B S p cap) : Calls Try.prog 34 #[.pointer (some ⟨B, 0, none⟩), .int .i64 up, .int .i64 ahead] w (Gives (.bool (pPlace S up ahead)) w) := by
  have HI := Lib.hid (delemP S B w p cap up h)
  have HJ := Lib.hid (dhasP S B w p cap ahead h)
  have h0 := h.cell
  cases hn : pElem S up
  · have HE : Hid (pPlace S up ahead = false) := Lib.hid (by unfold pPlace; rw [hn]; rfl)
    rw [hn] at HI
    go_enter Try.func34, Try.ntmps34
    go_wp2_with fail
    refine HI.out.mono ?_
    rintro e w1 ⟨rfl, rfl⟩
    go_wp2_with fail
    go_ret
    exact ⟨by rw [HE.out]; rfl, rfl⟩
  · rw [hn] at HI
    by_cases a : ahead = -1
    · have HE : Hid (pPlace S up ahead = true) := Lib.hid (by unfold pPlace; rw [hn, decide_eq_true a]; rfl)
      have q1 : (ahead == -1) = true := beq_iff_eq.2 a
      clear a
      go_enter Try.func34, Try.ntmps34
      go_wp2_with fail
      refine HI.out.mono ?_
      rintro e w1 ⟨rfl, rfl⟩
      go_wp2_with fail
      go_ret
      exact ⟨by rw [HE.out]; rfl, rfl⟩
    · have q1 : (ahead == -1) = false := beq_eq_false_iff_ne.2 a
      cases hm : pHas S ahead
      · have HE : Hid (pPlace S up ahead = false) := Lib.hid (by unfold pPlace; rw [hn, decide_eq_false a, hm]; rfl)
        rw [hm] at HJ
        clear a
        go_enter Try.func34, Try.ntmps34
        go_wp2_with fail
        refine HI.out.mono ?_
        rintro e w1 ⟨rfl, rfl⟩
        go_wp2_with fail
        refine HJ.out.mono ?_
        rintro e w1 ⟨rfl, rfl⟩
        go_wp2_with fail
        go_ret
        exact ⟨by rw [HE.out]; rfl, rfl⟩
      · have HE : Hid (pPlace S up ahead = decide ((pget S ahead).up = up)) := Lib.hid (by unfold pPlace; rw [hn, decide_eq_false a, hm]; rfl)
        rw [hm] at HJ
        obtain ⟨j, rfl, hj⟩ := pHas_nat hm
        rw [pget_nat hj] at HE
        obtain ⟨g, va, vt, rfl, hg, hc⟩ := h.node j hj
        have c5 := hc.c5
        have j0 : (0 : Int) ≤ (j : Int) := by omega
        have j1 : (j : Int) < (S.length : Int) := by omega
        clear a hm h hc
        go_enter Try.func34, Try.ntmps34
        go_wp2_with fail
        refine HI.out.mono ?_
        rintro e w1 ⟨rfl, rfl⟩
        go_wp2_with fail
        refine HJ.out.mono ?_
        rintro e w1 ⟨rfl, rfl⟩
        go_wp2_with fail
        go_ret
        exact ⟨by rw [HE.out, ← int_eq]; rfl, rfl⟩
set_option maxHeartbeats 1000000 in
set_option maxRecDepth 100000 in
theorem dbeforeP (S : List PN) (B : Nat) (w : World) (p : Option Addr) (cap : Nat) (up ahead : Int) (h : Reads w B S p cap) (hu : pHas S up = true) (ha : ahead = -1 ∨ pHas S ahead = true) : Calls Try.prog 35 #[.pointer (some ⟨B, 0, none⟩), .int .i64 up, .int .i64 ahead] w (Gives (.int .i64 (pBefore S up ahead)) w) := by
  have h0 := h.cell
  by_cases a : ahead = -1
  · obtain ⟨j, rfl, hj⟩ := pHas_nat hu
    have HE : Hid (pBefore S (j : Int) ahead = S[j].last) := Lib.hid (by unfold pBefore; rw [if_pos a, pget_nat hj])
    have q1 : (ahead == -1) = true := beq_iff_eq.2 a
    obtain ⟨g, va, vt, rfl, hg, hc⟩ := h.node j hj
    have c9 := hc.c9
    have j0 : (0 : Int) ≤ (j : Int) := by omega
    have j1 : (j : Int) < (S.length : Int) := by omega
    clear a hu ha h hc
    go_enter Try.func35, Try.ntmps35
    go_wp2_with fail
    go_ret
    exact ⟨by rw [HE.out]; rfl, rfl⟩
  · obtain ⟨j, rfl, hj⟩ := pHas_nat (ha.resolve_left a)
    have HE : Hid (pBefore S up (j : Int) = S[j].before) := Lib.hid (by unfold pBefore; rw [if_neg a, pget_nat hj])
    have q1 : ((j : Int) == -1) = false := beq_eq_false_iff_ne.2 a
    obtain ⟨g, va, vt, rfl, hg, hc⟩ := h.node j hj
    have c6 := hc.c6
    have j0 : (0 : Int) ≤ (j : Int) := by omega
    have j1 : (j : Int) < (S.length : Int) := by omega
    clear a hu ha h hc
    go_enter Try.func35, Try.ntmps35
    go_wp2_with fail
    go_ret
    exact ⟨by rw [HE.out]; rfl, rfl⟩
set_option maxHeartbeats 1000000 in
set_option maxRecDepth 100000 in
theorem dupP (S : List PN) (B : Nat) (w : World) (p : Option Addr) (cap : Nat) (n : Int) (h : Reads w B S p cap) : Calls Try.prog 29 #[.pointer (some ⟨B, 0, none⟩), .int .i64 n] w (Gives (.int .i64 (pUp S n)) w) := by
  have HI := Lib.hid (dhasP S B w p cap n h)
  have h0 := h.cell
  cases hn : pHas S n
  · have HE : Hid (pUp S n = -1) := Lib.hid (by unfold pUp; rw [hn]; rfl)
    rw [hn] at HI
    go_enter Try.func29, Try.ntmps29
    go_wp2_with fail
    refine HI.out.mono ?_
    rintro e w1 ⟨rfl, rfl⟩
    go_wp2_with fail
    go_ret
    exact ⟨by rw [HE.out]; rfl, rfl⟩
  · have HE : Hid (pUp S n = (pget S n).up) := Lib.hid (by unfold pUp; rw [hn]; rfl)
    rw [hn] at HI
    obtain ⟨j, rfl, hj⟩ := pHas_nat hn
    rw [pget_nat hj] at HE
    obtain ⟨g, va, vt, rfl, hg, hc⟩ := h.node j hj
    have c5 := hc.c5
    have j0 : (0 : Int) ≤ (j : Int) := by omega
    have j1 : (j : Int) < (S.length : Int) := by omega
    clear hn h hc
    go_enter Try.func29, Try.ntmps29
    go_wp2_with fail
    refine HI.out.mono ?_
    rintro e w1 ⟨rfl, rfl⟩
    go_wp2_with fail
    go_ret
    exact ⟨by rw [HE.out]; rfl, rfl⟩
set_option maxHeartbeats 1000000 in
set_option maxRecDepth 100000 in
theorem dsizeP (S : List PN) (B : Nat) (w : World) (p : Option Addr) (cap : Nat) (h : Reads w B S p cap) : Calls Try.prog 13 #[.pointer (some ⟨B, 0, none⟩)] w (Gives (.int .i64 (S.length : Int)) w) := by
  have h0 := h.cell
  go_enter Try.func13, Try.ntmps13
  go_wp2_with fail
  go_ret
  exact ⟨rfl, rfl⟩
/-- Up from n, step by step: is top met? -/
def pClimb (S : List PN) : Nat → Int → Int → Option Bool
  | 0, _, _ => none
  | f + 1, n, top => if n = -1 ∨ n = top then some (decide (n = top)) else if pHas S n then pClimb S f (pget S n).up top else none
def pSteps (S : List PN) : Nat → Int → Int → Nat
  | 0, _, _ => 0
  | f + 1, n, top => if n = -1 ∨ n = top then 0 else 1 + pSteps S f (pget S n).up top
theorem pSteps_fuel {S : List PN} : ∀ (k f : Nat) (n top : Int) (b : Bool), k ≤ f → pClimb S k n top = some b → pSteps S f n top = pSteps S k n top
  | 0, _, _, _, _, _, h => by cases h
  | k + 1, 0, _, _, _, h, _ => by omega
  | k + 1, f + 1, n, top, b, hk, h => by
    unfold pClimb at h
    unfold pSteps
    split
    · rfl
    · rename_i c
      rw [if_neg c] at h
      cases hm : pHas S n
      · rw [hm] at h; cases h
      · rw [hm, if_pos rfl] at h
        rw [pSteps_fuel k f _ top b (by omega) h]
theorem pSteps_step {S : List PN} (f k : Nat) (n top : Int) (b : Bool) (hk : k < f) (c : ¬ (n = -1 ∨ n = top)) (h : pClimb S (k + 1) n top = some b) : pSteps S f (pget S n).up top < pSteps S f n top := by
  rw [pSteps_fuel (k + 1) f n top b hk h]
  unfold pClimb at h
  rw [if_neg c] at h
  cases hm : pHas S n
  · rw [hm] at h; cases h
  · rw [hm, if_pos rfl] at h
    rw [pSteps_fuel k f _ top b (by omega) h]
    show _ < pSteps S (k + 1) n top
    conv => rhs; unfold pSteps
    rw [if_neg c]
    omega
def pWithin (S : List PN) (f : Nat) (n top : Int) : Option Bool := if (pget S top).first = -1 then some (decide (n = top)) else pClimb S f n top
set_option maxHeartbeats 1000000 in
set_option maxRecDepth 100000 in
theorem dwithinP (S : List PN) (B : Nat) (w : World) (p : Option Addr) (cap : Nat) (f : Nat) (n top : Int) (b : Bool) (h : Reads w B S p cap) (ht : pHas S top = true) (hb : pWithin S f n top = some b) : Calls Try.prog 41 #[.pointer (some ⟨B, 0, none⟩), .int .i64 n, .int .i64 top] w (Gives (.bool b) w) := by
  have h0 := h.cell
  have HR := Lib.hid h
  obtain ⟨j, rfl, hj⟩ := pHas_nat ht
  obtain ⟨g, va, vt, rfl, hg, hc⟩ := h.node j hj
  have c8 := hc.c8
  have j0 : (0 : Int) ≤ (j : Int) := by omega
  have j1 : (j : Int) < (S.length : Int) := by omega
  unfold pWithin at hb
  rw [pget_nat hj] at hb
  clear h hc ht
  by_cases a : S[j].first = -1
  · rw [if_pos a] at hb
    have q1 : (S[j].first == -1) = true := beq_iff_eq.2 a
    have HE := Lib.hid (Option.some.inj hb)
    clear hb a
    go_enter Try.func41, Try.ntmps41
    go_wp2_with fail
    go_ret
    exact ⟨by rw [← HE.out, ← int_eq]; rfl, rfl⟩
  · rw [if_neg a] at hb
    have q1 : (S[j].first == -1) = false := beq_eq_false_iff_ne.2 a
    have HB := Lib.hid hb
    clear hb a
    go_enter Try.func41, Try.ntmps41
    go_wp2_with fail
    go_loopw [1] (fun i wr => ∃ (m : Int) (k : Nat), k ≤ f ∧ i = .int .i64 m ∧ wr = w ∧ pClimb S k m (j : Int) = some b) (fun i _ => pSteps S f (intOf i) (j : Int))
    case atStart => exact ⟨n, f, Nat.le_refl _, rfl, rfl, HB.out⟩
    case round =>
      obtain ⟨m, k, hk, rfl, rfl, hb⟩ := hrel
      cases k with
      | zero => cases hb
      | succ k =>
        by_cases c : m = -1 ∨ m = (j : Int)
        · have HE : Hid (decide (m = (j : Int)) = b) := Lib.hid (by unfold pClimb at hb; rw [if_pos c] at hb; exact Option.some.inj hb)
          clear hb
          by_cases c1 : m = -1
          · have q2 : (m != -1) = false := by simp [c1]
            clear c c1
            go_wp2_with fail
            go_ret
            exact ⟨by rw [← HE.out, ← int_eq]; rfl, rfl⟩
          · have q2 : (m != -1) = true := by simp [c1]
            have q3 : (m != (j : Int)) = false := by simp [c.resolve_left c1]
            clear c c1
            go_wp2_with fail
            go_ret
            exact ⟨by rw [← HE.out, ← int_eq]; rfl, rfl⟩
        · have c1 : m ≠ -1 := fun e => c (.inl e)
          have c2 : m ≠ (j : Int) := fun e => c (.inr e)
          have q2 : (m != -1) = true := by simp [c1]
          have q3 : (m != (j : Int)) = true := by simp [c2]
          have hb2 := hb
          unfold pClimb at hb2
          rw [if_neg c] at hb2
          cases hm : pHas S m
          · rw [hm] at hb2; cases hb2
          · rw [hm, if_pos rfl] at hb2
            have HS := Lib.hid (pSteps_step f k m (j : Int) b (by omega) c hb)
            have HB2 := Lib.hid hb2
            obtain ⟨x, rfl, hx⟩ := pHas_nat hm
            rw [pget_nat hx] at HS HB2
            obtain ⟨g2, va2, vt2, e2, hg2, hc2⟩ := HR.out.node x hx
            have e3 : g = g2 := by injection e2 with e2; injection e2
            subst e3
            have c5 := hc2.c5
            have x0 : (0 : Int) ≤ (x : Int) := by omega
            have x1 : (x : Int) < (S.length : Int) := by omega
            clear hb hb2 hm c c1 c2 hc2 e2
            go_wp2_with fail
            exact ⟨⟨_, k, by omega, rfl, trivial, HB2.out⟩, HS.out⟩
end Go.Proofs.Ytkoijkdhmfnlbaa
namespace Go.Proofs.Ytkoijkdhmfnlbaa
open Go.RowKit

/-- A link of a node is set. -/
theorem DocM.put {M : Nat → Prop} {w : World} {B g cap : Nat} {S : List PN} (h : DocM M w B S) (hr : Reads w B S (some ⟨g, 0, none⟩) cap) (j i : Nat) (u : Value) (p : PN) (hj : j < S.length) (hi : i < 10)
    (hc : ∀ x, pnCell (p, x) = (pnCell (S[j], x)).set i u) (ha : p.attrs = S[j].attrs) (ht : p.text = S[j].text) :
    DocM M (w.setCell ⟨g, j * 10 + i, none⟩ u) B (S.set j p) ∧ Reads (w.setCell ⟨g, j * 10 + i, none⟩ u) B (S.set j p) (some ⟨g, 0, none⟩) cap ∧ Turns M w (w.setCell ⟨g, j * 10 + i, none⟩ u) := by
  obtain ⟨v, qs, rfl, hq⟩ := h
  have hv := hq.cell.symm.trans hr.cell
  rw [List.length_map] at hv
  injection hv with hv
  subst hv
  have hj' : j < qs.length := by simpa using hj
  rw [List.getElem_map] at hc ha ht
  obtain ⟨h1, h2⟩ := hq.set j i u p hj' hi (hc _) ha ht
  have hm : (qs.map (·.1)).set j p = (qs.set j (p, qs[j].2)).map (·.1) := by rw [List.map_set]
  rw [hm]
  refine ⟨⟨_, _, rfl, h1⟩, ?_, h2⟩
  have h1' := h1
  rw [show qs.length = (qs.set j (p, qs[j].2)).length by simp] at h1'
  obtain ⟨p', cap', e, h3⟩ := h1'.reads
  injection e with e1 e2 e3
  subst e1 e3
  exact h3
/-- A field of a node is set. -/
def pset (S : List PN) (n : Int) (f : PN → PN) : List PN := S.modify n.toNat f
theorem pset_len (S : List PN) (n : Int) (f : PN → PN) : (pset S n f).length = S.length := by simp [pset]
theorem pset_nat {S : List PN} {j : Nat} (h : j < S.length) (f : PN → PN) : pset S (j : Int) f = S.set j (f S[j]) := by
  unfold pset
  rw [Int.toNat_natCast]
  apply List.ext_getElem
  · simp
  · intro k h1 h2
    rw [List.getElem_modify, List.getElem_set]
    split
    · rename_i e; subst e; rfl
    · rfl
theorem pset_has (S : List PN) (n : Int) (f : PN → PN) (m : Int) : pHas (pset S n f) m = pHas S m := by unfold pHas; rw [pset_len]
def pMeet1 (S : List PN) (up before behind : Int) : List PN := if before = -1 then pset S up (fun x => { x with first := behind }) else pset S before (fun x => { x with behind := behind })
def pMeet2 (S : List PN) (up before behind : Int) : List PN := if behind = -1 then pset S up (fun x => { x with last := before }) else pset S behind (fun x => { x with before := before })
def pMeet (S : List PN) (up before behind : Int) : List PN := pMeet2 (pMeet1 S up before behind) up before behind
def okMeet (S : List PN) (up before behind : Int) : Bool := (if before = -1 then pHas S up else pHas S before) && (if behind = -1 then pHas S up else pHas S behind)
/-- What a call does that writes, and makes nothing new. -/
def Sets (M : Nat → Prop) (w : World) (B : Nat) (S : List PN) (g cap : Nat) (v : Value) (e : Ending) (w' : World) : Prop := e = .returned v ∧ DocM M w' B S ∧ Reads w' B S (some ⟨g, 0, none⟩) cap ∧ Turns M w w'

set_option maxHeartbeats 1000000 in
set_option maxRecDepth 100000 in
theorem dmeetP (S : List PN) (B : Nat) (M : Nat → Prop) (w : World) (g cap : Nat) (up before behind : Int) (h : DocM M w B S) (hr : Reads w B S (some ⟨g, 0, none⟩) cap) (ho : okMeet S up before behind = true) :
    Calls Try.prog 51 #[.pointer (some ⟨B, 0, none⟩), .int .i64 up, .int .i64 before, .int .i64 behind] w (Sets M w B (pMeet S up before behind) g cap (.tuple #[])) := by
  unfold okMeet at ho
  rw [Bool.and_eq_true] at ho
  obtain ⟨ho1, ho2⟩ := ho
  have h0 := hr.cell
  unfold pMeet
  by_cases a : before = -1
  · rw [if_pos a] at ho1
    have q1 : (before == -1) = true := beq_iff_eq.2 a
    by_cases b : behind = -1
    · rw [if_pos b] at ho2
      have q2 : (behind == -1) = true := beq_iff_eq.2 b
      obtain ⟨j1, rfl, hj1⟩ := pHas_nat ho1
      have he1 : pMeet1 S (j1 : Int) before behind = (S).set j1 { (S)[j1] with first := behind } := by unfold pMeet1; rw [if_pos a, pset_nat hj1]
      obtain ⟨_, va1, vt1, e1, hg1, hc1⟩ := hr.node j1 hj1
      injection e1 with e1; injection e1 with e1; subst e1
      have c1 := hc1.c8
      have f1 := hr.free g (j1 * 10 + 8) rfl
      obtain ⟨D1, R1, T1⟩ := h.put hr j1 8 (.int .i64 behind) { (S)[j1] with first := behind } hj1 (by omega) (fun _ => rfl) rfl rfl
      rw [← he1] at D1 R1
      obtain ⟨w1, hw1⟩ : ∃ w1, w.setCell ⟨g, j1 * 10 + 8, none⟩ (.int .i64 behind) = w1 := ⟨_, rfl⟩
      rw [hw1] at D1 R1 T1
      have m1 : (0 : Int) ≤ (j1 : Int) := by omega
      have l1 : (j1 : Int) < ((S).length : Int) := by omega
      have h1 := R1.cell
      have hl1 : (pMeet1 S (j1 : Int) before behind).length = S.length := by rw [he1]; simp
      rw [hl1] at h1
      have hj2 : j1 < (pMeet1 S (j1 : Int) before behind).length := by rw [hl1]; exact hj1
      have he2 : pMeet2 (pMeet1 S (j1 : Int) before behind) (j1 : Int) before behind = (pMeet1 S (j1 : Int) before behind).set j1 { (pMeet1 S (j1 : Int) before behind)[j1] with last := before } := by unfold pMeet2; rw [if_pos b, pset_nat hj2]
      obtain ⟨_, va2, vt2, e2, hg2, hc2⟩ := R1.node j1 hj2
      injection e2 with e2; injection e2 with e2; subst e2
      have c2 := hc2.c9
      have f2 := R1.free g (j1 * 10 + 9) rfl
      obtain ⟨D2, R2, T2⟩ := D1.put R1 j1 9 (.int .i64 before) { (pMeet1 S (j1 : Int) before behind)[j1] with last := before } hj2 (by omega) (fun _ => rfl) rfl rfl
      rw [← he2] at D2 R2
      obtain ⟨w2, hw2⟩ : ∃ w2, w1.setCell ⟨g, j1 * 10 + 9, none⟩ (.int .i64 before) = w2 := ⟨_, rfl⟩
      rw [hw2] at D2 R2 T2
      have m2 : (0 : Int) ≤ (j1 : Int) := by omega
      have l2 : (j1 : Int) < ((pMeet1 S (j1 : Int) before behind).length : Int) := by omega
      rw [hl1] at l2
      have HD := Lib.hid D2
      have HR := Lib.hid R2
      have HT := Lib.hid (T1.trans (T2.mono (fun b _ k => .inl k)))
      clear h hr D1 D2 R1 R2 T1 T2 hc1 hc2 he1 he2 ho1 ho2 a b hl1
      go_enter Try.func51, Try.ntmps51
      go_wp2_with fail
      exact bodyPost_end (results_none rfl _ _ _) rfl ⟨rfl, HD.out, HR.out, HT.out⟩
    · rw [if_neg b] at ho2
      have q2 : (behind == -1) = false := beq_eq_false_iff_ne.2 b
      obtain ⟨j1, rfl, hj1⟩ := pHas_nat ho1
      have he1 : pMeet1 S (j1 : Int) before behind = (S).set j1 { (S)[j1] with first := behind } := by unfold pMeet1; rw [if_pos a, pset_nat hj1]
      obtain ⟨_, va1, vt1, e1, hg1, hc1⟩ := hr.node j1 hj1
      injection e1 with e1; injection e1 with e1; subst e1
      have c1 := hc1.c8
      have f1 := hr.free g (j1 * 10 + 8) rfl
      obtain ⟨D1, R1, T1⟩ := h.put hr j1 8 (.int .i64 behind) { (S)[j1] with first := behind } hj1 (by omega) (fun _ => rfl) rfl rfl
      rw [← he1] at D1 R1
      obtain ⟨w1, hw1⟩ : ∃ w1, w.setCell ⟨g, j1 * 10 + 8, none⟩ (.int .i64 behind) = w1 := ⟨_, rfl⟩
      rw [hw1] at D1 R1 T1
      have m1 : (0 : Int) ≤ (j1 : Int) := by omega
      have l1 : (j1 : Int) < ((S).length : Int) := by omega
      have h1 := R1.cell
      have hl1 : (pMeet1 S (j1 : Int) before behind).length = S.length := by rw [he1]; simp
      rw [hl1] at h1
      obtain ⟨j2, rfl, hj2⟩ := pHas_nat (show pHas (pMeet1 S (j1 : Int) before behind) behind = true by unfold pHas at ho2 ⊢; rw [hl1]; exact ho2)
      have he2 : pMeet2 (pMeet1 S (j1 : Int) before (j2 : Int)) (j1 : Int) before (j2 : Int) = (pMeet1 S (j1 : Int) before (j2 : Int)).set j2 { (pMeet1 S (j1 : Int) before (j2 : Int))[j2] with before := before } := by unfold pMeet2; rw [if_neg b, pset_nat hj2]
      obtain ⟨_, va2, vt2, e2, hg2, hc2⟩ := R1.node j2 hj2
      injection e2 with e2; injection e2 with e2; subst e2
      have c2 := hc2.c6
      have f2 := R1.free g (j2 * 10 + 6) rfl
      obtain ⟨D2, R2, T2⟩ := D1.put R1 j2 6 (.int .i64 before) { (pMeet1 S (j1 : Int) before (j2 : Int))[j2] with before := before } hj2 (by omega) (fun _ => rfl) rfl rfl
      rw [← he2] at D2 R2
      obtain ⟨w2, hw2⟩ : ∃ w2, w1.setCell ⟨g, j2 * 10 + 6, none⟩ (.int .i64 before) = w2 := ⟨_, rfl⟩
      rw [hw2] at D2 R2 T2
      have m2 : (0 : Int) ≤ (j2 : Int) := by omega
      have l2 : (j2 : Int) < ((pMeet1 S (j1 : Int) before (j2 : Int)).length : Int) := by omega
      rw [hl1] at l2
      have HD := Lib.hid D2
      have HR := Lib.hid R2
      have HT := Lib.hid (T1.trans (T2.mono (fun b _ k => .inl k)))
      clear h hr D1 D2 R1 R2 T1 T2 hc1 hc2 he1 he2 ho1 ho2 a b hl1
      go_enter Try.func51, Try.ntmps51
      go_wp2_with fail
      exact bodyPost_end (results_none rfl _ _ _) rfl ⟨rfl, HD.out, HR.out, HT.out⟩
  · rw [if_neg a] at ho1
    have q1 : (before == -1) = false := beq_eq_false_iff_ne.2 a
    by_cases b : behind = -1
    · rw [if_pos b] at ho2
      have q2 : (behind == -1) = true := beq_iff_eq.2 b
      obtain ⟨j1, rfl, hj1⟩ := pHas_nat ho1
      have he1 : pMeet1 S up (j1 : Int) behind = (S).set j1 { (S)[j1] with behind := behind } := by unfold pMeet1; rw [if_neg a, pset_nat hj1]
      obtain ⟨_, va1, vt1, e1, hg1, hc1⟩ := hr.node j1 hj1
      injection e1 with e1; injection e1 with e1; subst e1
      have c1 := hc1.c7
      have f1 := hr.free g (j1 * 10 + 7) rfl
      obtain ⟨D1, R1, T1⟩ := h.put hr j1 7 (.int .i64 behind) { (S)[j1] with behind := behind } hj1 (by omega) (fun _ => rfl) rfl rfl
      rw [← he1] at D1 R1
      obtain ⟨w1, hw1⟩ : ∃ w1, w.setCell ⟨g, j1 * 10 + 7, none⟩ (.int .i64 behind) = w1 := ⟨_, rfl⟩
      rw [hw1] at D1 R1 T1
      have m1 : (0 : Int) ≤ (j1 : Int) := by omega
      have l1 : (j1 : Int) < ((S).length : Int) := by omega
      have h1 := R1.cell
      have hl1 : (pMeet1 S up (j1 : Int) behind).length = S.length := by rw [he1]; simp
      rw [hl1] at h1
      obtain ⟨j2, rfl, hj2⟩ := pHas_nat (show pHas (pMeet1 S up (j1 : Int) behind) up = true by unfold pHas at ho2 ⊢; rw [hl1]; exact ho2)
      have he2 : pMeet2 (pMeet1 S (j2 : Int) (j1 : Int) behind) (j2 : Int) (j1 : Int) behind = (pMeet1 S (j2 : Int) (j1 : Int) behind).set j2 { (pMeet1 S (j2 : Int) (j1 : Int) behind)[j2] with last := (j1 : Int) } := by unfold pMeet2; rw [if_pos b, pset_nat hj2]
      obtain ⟨_, va2, vt2, e2, hg2, hc2⟩ := R1.node j2 hj2
      injection e2 with e2; injection e2 with e2; subst e2
      have c2 := hc2.c9
      have f2 := R1.free g (j2 * 10 + 9) rfl
      obtain ⟨D2, R2, T2⟩ := D1.put R1 j2 9 (.int .i64 (j1 : Int)) { (pMeet1 S (j2 : Int) (j1 : Int) behind)[j2] with last := (j1 : Int) } hj2 (by omega) (fun _ => rfl) rfl rfl
      rw [← he2] at D2 R2
      obtain ⟨w2, hw2⟩ : ∃ w2, w1.setCell ⟨g, j2 * 10 + 9, none⟩ (.int .i64 (j1 : Int)) = w2 := ⟨_, rfl⟩
      rw [hw2] at D2 R2 T2
      have m2 : (0 : Int) ≤ (j2 : Int) := by omega
      have l2 : (j2 : Int) < ((pMeet1 S (j2 : Int) (j1 : Int) behind).length : Int) := by omega
      rw [hl1] at l2
      have HD := Lib.hid D2
      have HR := Lib.hid R2
      have HT := Lib.hid (T1.trans (T2.mono (fun b _ k => .inl k)))
      clear h hr D1 D2 R1 R2 T1 T2 hc1 hc2 he1 he2 ho1 ho2 a b hl1
      go_enter Try.func51, Try.ntmps51
      go_wp2_with fail
      exact bodyPost_end (results_none rfl _ _ _) rfl ⟨rfl, HD.out, HR.out, HT.out⟩
    · rw [if_neg b] at ho2
      have q2 : (behind == -1) = false := beq_eq_false_iff_ne.2 b
      obtain ⟨j1, rfl, hj1⟩ := pHas_nat ho1
      have he1 : pMeet1 S up (j1 : Int) behind = (S).set j1 { (S)[j1] with behind := behind } := by unfold pMeet1; rw [if_neg a, pset_nat hj1]
      obtain ⟨_, va1, vt1, e1, hg1, hc1⟩ := hr.node j1 hj1
      injection e1 with e1; injection e1 with e1; subst e1
      have c1 := hc1.c7
      have f1 := hr.free g (j1 * 10 + 7) rfl
      obtain ⟨D1, R1, T1⟩ := h.put hr j1 7 (.int .i64 behind) { (S)[j1] with behind := behind } hj1 (by omega) (fun _ => rfl) rfl rfl
      rw [← he1] at D1 R1
      obtain ⟨w1, hw1⟩ : ∃ w1, w.setCell ⟨g, j1 * 10 + 7, none⟩ (.int .i64 behind) = w1 := ⟨_, rfl⟩
      rw [hw1] at D1 R1 T1
      have m1 : (0 : Int) ≤ (j1 : Int) := by omega
      have l1 : (j1 : Int) < ((S).length : Int) := by omega
      have h1 := R1.cell
      have hl1 : (pMeet1 S up (j1 : Int) behind).length = S.length := by rw [he1]; simp
      rw [hl1] at h1
      obtain ⟨j2, rfl, hj2⟩ := pHas_nat (show pHas (pMeet1 S up (j1 : Int) behind) behind = true by unfold pHas at ho2 ⊢; rw [hl1]; exact ho2)
      have he2 : pMeet2 (pMeet1 S up (j1 : Int) (j2 : Int)) up (j1 : Int) (j2 : Int) = (pMeet1 S up (j1 : Int) (j2 : Int)).set j2 { (pMeet1 S up (j1 : Int) (j2 : Int))[j2] with before := (j1 : Int) } := by unfold pMeet2; rw [if_neg b, pset_nat hj2]
      obtain ⟨_, va2, vt2, e2, hg2, hc2⟩ := R1.node j2 hj2
      injection e2 with e2; injection e2 with e2; subst e2
      have c2 := hc2.c6
      have f2 := R1.free g (j2 * 10 + 6) rfl
      obtain ⟨D2, R2, T2⟩ := D1.put R1 j2 6 (.int .i64 (j1 : Int)) { (pMeet1 S up (j1 : Int) (j2 : Int))[j2] with before := (j1 : Int) } hj2 (by omega) (fun _ => rfl) rfl rfl
      rw [← he2] at D2 R2
      obtain ⟨w2, hw2⟩ : ∃ w2, w1.setCell ⟨g, j2 * 10 + 6, none⟩ (.int .i64 (j1 : Int)) = w2 := ⟨_, rfl⟩
      rw [hw2] at D2 R2 T2
      have m2 : (0 : Int) ≤ (j2 : Int) := by omega
      have l2 : (j2 : Int) < ((pMeet1 S up (j1 : Int) (j2 : Int)).length : Int) := by omega
      rw [hl1] at l2
      have HD := Lib.hid D2
      have HR := Lib.hid R2
      have HT := Lib.hid (T1.trans (T2.mono (fun b _ k => .inl k)))
      clear h hr D1 D2 R1 R2 T1 T2 hc1 hc2 he1 he2 ho1 ho2 a b hl1
      go_enter Try.func51, Try.ntmps51
      go_wp2_with fail
      exact bodyPost_end (results_none rfl _ _ _) rfl ⟨rfl, HD.out, HR.out, HT.out⟩
end Go.Proofs.Ytkoijkdhmfnlbaa
namespace Go.Proofs.Ytkoijkdhmfnlbaa
open Go.RowKit

theorem pMeet_len (S : List PN) (up before behind : Int) : (pMeet S up before behind).length = S.length := by
  unfold pMeet pMeet2 pMeet1
  split <;> split <;> simp [pset_len]
theorem pMeet_has (S : List PN) (up before behind n : Int) : pHas (pMeet S up before behind) n = pHas S n := by unfold pHas; rw [pMeet_len]
theorem has_ne {S : List PN} {n : Int} (h : pHas S n = true) : n ≠ -1 := by
  obtain ⟨j, rfl, _⟩ := pHas_nat h
  omega
def pLink0 (S : List PN) (n up : Int) : List PN := pset S n (fun x => { x with up := up })
def pLink (S : List PN) (n up ahead : Int) : List PN := pMeet (pMeet (pLink0 S n up) up (pBefore (pLink0 S n up) up ahead) n) up n ahead
def okLink (S : List PN) (n up ahead : Int) : Bool := pHas S n && pHas S up && (decide (ahead = -1) || pHas S ahead) && (decide (pBefore (pLink0 S n up) up ahead = -1) || pHas S (pBefore (pLink0 S n up) up ahead))
theorem pLink_len (S : List PN) (n up ahead : Int) : (pLink S n up ahead).length = S.length := by unfold pLink pLink0; rw [pMeet_len, pMeet_len, pset_len]

set_option maxHeartbeats 1000000 in
set_option maxRecDepth 100000 in
theorem dlinkP (S : List PN) (B : Nat) (M : Nat → Prop) (w : World) (g cap : Nat) (n up ahead : Int) (h : DocM M w B S) (hr : Reads w B S (some ⟨g, 0, none⟩) cap) (ho : okLink S n up ahead = true) :
    Calls Try.prog 36 #[.pointer (some ⟨B, 0, none⟩), .int .i64 n, .int .i64 up, .int .i64 ahead] w (Sets M w B (pLink S n up ahead) g cap (.tuple #[])) := by
  unfold okLink at ho
  simp only [Bool.and_eq_true, Bool.or_eq_true, decide_eq_true_eq] at ho
  obtain ⟨⟨⟨on, ou⟩, oa⟩, ob⟩ := ho
  have h0 := hr.cell
  unfold pLink
  obtain ⟨j, rfl, hj⟩ := pHas_nat on
  have he : pLink0 S (j : Int) up = S.set j { S[j] with up := up } := by unfold pLink0; rw [pset_nat hj]
  obtain ⟨_, va, vt, e, hg, hc⟩ := hr.node j hj
  injection e with e; injection e with e; subst e
  have c5 := hc.c5
  have f5 := hr.free g (j * 10 + 5) rfl
  obtain ⟨D1, R1, T1⟩ := h.put hr j 5 (.int .i64 up) { S[j] with up := up } hj (by omega) (fun _ => rfl) rfl rfl
  rw [← he] at D1 R1
  have hl : (pLink0 S (j : Int) up).length = S.length := by rw [he]; simp
  have hh : ∀ m, pHas (pLink0 S (j : Int) up) m = pHas S m := fun m => by unfold pHas; rw [hl]
  obtain ⟨w1, hw1⟩ : ∃ w1, w.setCell ⟨g, j * 10 + 5, none⟩ (.int .i64 up) = w1 := ⟨_, rfl⟩
  rw [hw1] at D1 R1 T1
  have HB := Lib.hid (dbeforeP _ B w1 _ cap up ahead R1 (by rw [hh]; exact ou) (by rw [hh]; exact oa))
  have ok1 : okMeet (pLink0 S (j : Int) up) up (pBefore (pLink0 S (j : Int) up) up ahead) (j : Int) = true := by
    unfold okMeet
    rw [if_neg (has_ne on), hh, hh, hh, on, Bool.and_true]
    split
    · exact ou
    · rename_i q; exact ob.resolve_left q
  have HM1 := Lib.hid (dmeetP _ B M w1 g cap up _ (j : Int) D1 R1 ok1)
  have ok2 : okMeet (pMeet (pLink0 S (j : Int) up) up (pBefore (pLink0 S (j : Int) up) up ahead) (j : Int)) up (j : Int) ahead = true := by
    unfold okMeet
    simp only [pMeet_has, hh]
    rw [if_neg (has_ne on), on, Bool.true_and]
    split
    · exact ou
    · rename_i q; exact oa.resolve_left q
  have OK2 := Lib.hid ok2
  have HT1 := Lib.hid T1
  have j0 : (0 : Int) ≤ (j : Int) := by omega
  have j1 : (j : Int) < (S.length : Int) := by omega
  clear h hr D1 R1 T1 hc he ok1 ok2 on ou oa ob hl hh
  generalize pBefore (pLink0 S (j : Int) up) up ahead = bf at *
  go_enter Try.func36, Try.ntmps36
  go_wp2_with fail
  refine HB.out.mono ?_
  rintro e w2 ⟨rfl, rfl⟩
  go_wp2_with fail
  refine HM1.out.mono ?_
  rintro e w2 ⟨rfl, D2, R2, T2⟩
  have HM2 := Lib.hid (dmeetP _ B M w2 g cap up (j : Int) ahead D2 R2 OK2.out)
  have HT2 := Lib.hid (HT1.out.trans (T2.mono (fun b _ k => .inl k)))
  clear D2 R2 T2
  go_wp2_with fail
  refine HM2.out.mono ?_
  rintro e w3 ⟨rfl, D3, R3, T3⟩
  have HD := Lib.hid D3
  have HR := Lib.hid R3
  have HT := Lib.hid (HT2.out.trans (T3.mono (fun b _ k => .inl k)))
  clear D3 R3 T3
  go_wp2_with fail
  exact bodyPost_end (results_none rfl _ _ _) rfl ⟨rfl, HD.out, HR.out, HT.out⟩

def pCut (S : List PN) (n : Int) : List PN := pset S n (fun x => { x with up := -1, before := -1, behind := -1 })
def pUnlink (S : List PN) (n : Int) : List PN := pCut (pMeet S (pget S n).up (pget S n).before (pget S n).behind) n
def okUnlink (S : List PN) (n : Int) : Bool := pHas S n && okMeet S (pget S n).up (pget S n).before (pget S n).behind
theorem pUnlink_len (S : List PN) (n : Int) : (pUnlink S n).length = S.length := by unfold pUnlink pCut; rw [pset_len, pMeet_len]
theorem DocM.below {M : Nat → Prop} {w w' : World} {B : Nat} {S : List PN} (h : DocM M w B S) (hb : Below w.heap.size w w') : DocM M w' B S := by
  obtain ⟨v, qs, e, hq⟩ := h
  exact ⟨v, qs, e, hq.below hb⟩
theorem Reads.below {w w' : World} {B : Nat} {S : List PN} {p : Option Addr} {cap : Nat} (h : Reads w B S p cap) (hb : Below w.heap.size w w') (hp : ∀ g, p = some ⟨g, 0, none⟩ → g < w.heap.size) : Reads w' B S p cap := by
  refine ⟨Nat.lt_of_lt_of_le h.lt hb.size, (hb.cell (p := ⟨B, 0, none⟩) h.lt).trans h.cell, fun j hj => ?_, fun g o e => ?_⟩
  · obtain ⟨g, va, vt, e, hg, hc⟩ := h.at_ j hj
    exact ⟨g, va, vt, e, Nat.lt_of_lt_of_le hg hb.size, fun i hi => (hb.cell (p := ⟨g, j * 10 + i, none⟩) hg).trans (hc i hi)⟩
  · rw [World.frozen?_of_block (w := w) (hb.block g (hp g e))]
    exact h.free g o e
set_option maxHeartbeats 1000000 in
set_option maxRecDepth 100000 in
theorem dunlinkP (S : List PN) (B : Nat) (M : Nat → Prop) (w : World) (g cap : Nat) (n : Int) (h : DocM M w B S) (hr : Reads w B S (some ⟨g, 0, none⟩) cap) (ho : okUnlink S n = true) :
    Calls Try.prog 44 #[.pointer (some ⟨B, 0, none⟩), .int .i64 n] w (Sets M w B (pUnlink S n) g cap (.tuple #[])) := by
  unfold okUnlink at ho
  rw [Bool.and_eq_true] at ho
  obtain ⟨on, om⟩ := ho
  have h0 := hr.cell
  unfold pUnlink
  obtain ⟨j, rfl, hj⟩ := pHas_nat on
  rw [pget_nat hj] at om ⊢
  obtain ⟨_, va, vt, e, hg, hc⟩ := hr.node j hj
  injection e with e; injection e with e; subst e
  have c5 := hc.c5
  have c6 := hc.c6
  have c7 := hc.c7
  have HK : Hid (∀ W, Below w.heap.size w W → Calls Try.prog 51 #[.pointer (some ⟨B, 0, none⟩), .int .i64 S[j].up, .int .i64 S[j].before, .int .i64 S[j].behind] W (Sets M w B (pMeet S S[j].up S[j].before S[j].behind) g cap (.tuple #[]))) := by
    refine Lib.hid fun W b => (dmeetP S B M W g cap _ _ _ (h.below b) (hr.below b (fun g' e => by injection e with e; injection e with e; subst e; exact hg)) om).mono ?_
    rintro e w3 ⟨rfl, d3, r3, t3⟩
    exact ⟨rfl, d3, r3, (Turns.of_below b).trans (t3.mono fun b _ k => .inl k)⟩
  have j0 : (0 : Int) ≤ (j : Int) := by omega
  have j1 : (j : Int) < (S.length : Int) := by omega
  have hl := pMeet_len S S[j].up S[j].before S[j].behind
  clear h hr hc om on
  generalize pMeet S S[j].up S[j].before S[j].behind = S3 at *
  go_enter Try.func44, Try.ntmps44
  go_wp2_with fail
  go_still_tail 13, (by kernel_rfl)
  have HW := Lib.hid (show Below w.heap.size w w.drew from (Below.refl _ _).drew)
  change wpList _ _ _ _ _ w.drew
  generalize w.drew = w2 at *
  go_wp2_with fail
  refine (HK.out _ HW.out).mono ?_
  rintro e w3 ⟨rfl, D3, R3, T3⟩
  have hj3 : j < S3.length := by rw [hl]; exact hj
  have HE : Hid (pCut S3 (j : Int) = S3.set j { S3[j] with up := -1, before := -1, behind := -1 }) := Lib.hid (by unfold pCut; rw [pset_nat hj3])
  obtain ⟨_, va3, vt3, e3, hg3, hc3⟩ := R3.node j hj3
  injection e3 with e3; injection e3 with e3; subst e3
  have d3 := hc3.c5
  have f3 := R3.free g (j * 10 + 5) rfl
  obtain ⟨D4, R4, T4⟩ := D3.put R3 j 5 (.int .i64 (-1)) { (S3)[j] with up := -1 } hj3 (by omega) (fun _ => rfl) rfl rfl
  have hj4 : j < ((S3).set j { (S3)[j] with up := -1 }).length := by simpa using hj3
  obtain ⟨w4, hw4⟩ : ∃ w4, w3.setCell ⟨g, j * 10 + 5, none⟩ (.int .i64 (-1)) = w4 := ⟨_, rfl⟩
  rw [hw4] at D4 R4 T4
  obtain ⟨_, va4, vt4, e4, hg4, hc4⟩ := R4.node j hj4
  injection e4 with e4; injection e4 with e4; subst e4
  have d4 := hc4.c6
  have f4 := R4.free g (j * 10 + 6) rfl
  obtain ⟨D5, R5, T5⟩ := D4.put R4 j 6 (.int .i64 (-1)) { (S3.set j { S3[j] with up := -1 })[j] with before := -1 } hj4 (by omega) (fun _ => rfl) rfl rfl
  have hj5 : j < ((S3.set j { S3[j] with up := -1 }).set j { (S3.set j { S3[j] with up := -1 })[j] with before := -1 }).length := by simpa using hj4
  obtain ⟨w5, hw5⟩ : ∃ w5, w4.setCell ⟨g, j * 10 + 6, none⟩ (.int .i64 (-1)) = w5 := ⟨_, rfl⟩
  rw [hw5] at D5 R5 T5
  obtain ⟨_, va5, vt5, e5, hg5, hc5⟩ := R5.node j hj5
  injection e5 with e5; injection e5 with e5; subst e5
  have d5 := hc5.c7
  have f5 := R5.free g (j * 10 + 7) rfl
  obtain ⟨D6, R6, T6⟩ := D5.put R5 j 7 (.int .i64 (-1)) { ((S3.set j { S3[j] with up := -1 }).set j { (S3.set j { S3[j] with up := -1 })[j] with before := -1 })[j] with behind := -1 } hj5 (by omega) (fun _ => rfl) rfl rfl
  have hj6 : j < (((S3.set j { S3[j] with up := -1 }).set j { (S3.set j { S3[j] with up := -1 })[j] with before := -1 }).set j { ((S3.set j { S3[j] with up := -1 }).set j { (S3.set j { S3[j] with up := -1 })[j] with before := -1 })[j] with behind := -1 }).length := by simpa using hj5
  obtain ⟨w6, hw6⟩ : ∃ w6, w5.setCell ⟨g, j * 10 + 7, none⟩ (.int .i64 (-1)) = w6 := ⟨_, rfl⟩
  rw [hw6] at D6 R6 T6
  have HT := Lib.hid (T3.trans ((T4.trans ((T5.trans (T6.mono fun b _ k => .inl k)).mono fun b _ k => .inl k)).mono fun b _ k => .inl k))
  have HD := Lib.hid D6
  have HR := Lib.hid R6
  have j3 : (j : Int) < (S3.length : Int) := by omega
  clear D3 R3 T3 D4 R4 T4 D5 R5 T5 D6 R6 T6 hc3 hc4 hc5 h0 c5 c6 c7 HK hl
  go_wp2_with fail
  refine bodyPost_end (results_none rfl _ _ _) rfl ⟨rfl, ?_, ?_, HT.out⟩
  · rw [HE.out]
    simpa using HD.out
  · rw [HE.out]
    simpa using HR.out
end Go.Proofs.Ytkoijkdhmfnlbaa
namespace Go.Proofs.Ytkoijkdhmfnlbaa
open Go.RowKit

def fresh (n : PN) : PN := { n with up := -1, before := -1, behind := -1, first := -1, last := -1 }
def nodeOf (n : PN) (va vt : Value) : Value := .agg #[.int .i64 n.kind, .int .i64 n.space, .string ⟨n.name.toArray⟩, va, vt, .int .i64 n.up, .int .i64 n.before, .int .i64 n.behind, .int .i64 n.first, .int .i64 n.last]
theorem info_pn : ∃ i, Try.prog.info? 64 = some i ∧ i.zero = some (.agg #[.int .i64 0, .int .i64 0, .string ByteArray.empty, .slice none 0 0, .slice none 0 0, .int .i64 0, .int .i64 0, .int .i64 0, .int .i64 0, .int .i64 0]) ∧ i.size = 10 ∧ i.bytes = 120 := by
  have hi9 : (Try.prog.info? 64).map (fun i => (i.zero, i.size, i.bytes)) = some (some (.agg #[.int .i64 0, .int .i64 0, .string ByteArray.empty, .slice none 0 0, .slice none 0 0, .int .i64 0, .int .i64 0, .int .i64 0, .int .i64 0, .int .i64 0]), 10, 120) := by kernel_rfl
  obtain ⟨i0, hi, hx⟩ := Option.map_eq_some_iff.1 hi9
  simp only [Prod.mk.injEq] at hx
  exact ⟨i0, hi, hx.1, hx.2.1, hx.2.2⟩
set_option maxHeartbeats 1000000 in
set_option maxRecDepth 100000 in
theorem daddP (S : List PN) (B : Nat) (M L : Nat → Prop) (w : World) (n : PN) (pa pt : Option Addr) (la ca lt ct : Nat) (h : DocM M w B S) (hs : S.length ≤ 4294967296) (hL : ∀ b, L b → ¬ M b)
    (ha : AttrsP (fun b => L b ∧ some b ≠ (Value.slice pt lt ct).ownBlock) w (.slice pa la ca) n.attrs) (ht : OwnsB w (.slice pt lt ct) n.text) (htL : ∀ g, (Value.slice pt lt ct).ownBlock = some g → L g) :
    Calls Try.prog 37 #[.pointer (some ⟨B, 0, none⟩), nodeOf n (.slice pa la ca) (.slice pt lt ct)] w (fun e w' => e = .returned (.int .i64 (S.length : Int)) ∧ DocM (fun b => M b ∨ L b ∨ w.heap.size ≤ b) w' B (S ++ [fresh n]) ∧ Turns M w w') := by
  obtain ⟨v, qs, rfl, hq⟩ := h
  obtain ⟨p, cap, rfl, hrd⟩ := hq.reads
  have h0 := hq.cell
  have hB := hq.lt
  have hf := hq.free
  have HQ := Lib.hid hq
  have HA := Lib.hid ha
  have HTX := Lib.hid ht
  have HLL := Lib.hid hL
  have HTL := Lib.hid htL
  rw [List.length_map] at hs
  obtain ⟨i0, hi0, hz0, hz1, hz2⟩ := info_pn
  have HI := Lib.hid (And.intro hi0 (And.intro hz0 (And.intro hz1 hz2)))
  have HLen : Hid ((qs.map (·.1)).length = qs.length) := Lib.hid (by simp)
  have fb : some B ≠ (Value.slice p qs.length cap).ownBlock := fun e => (hq.rowM B e.symm).2 rfl
  clear hi0 hz0 hz1 hz2 hrd hq ha ht hL htL
  rw [HLen.out]
  unfold nodeOf
  have HW : Hid (∀ W, Below (w.alloc (.cells #[.int .i64 n.kind, .int .i64 n.space, .string ⟨n.name.toArray⟩, .slice pa la ca, .slice pt lt ct, .int .i64 (-1), .int .i64 (-1), .int .i64 (-1), .int .i64 (-1), .int .i64 (-1)] 64)).heap.size (w.alloc (.cells #[.int .i64 n.kind, .int .i64 n.space, .string ⟨n.name.toArray⟩, .slice pa la ca, .slice pt lt ct, .int .i64 (-1), .int .i64 (-1), .int .i64 (-1), .int .i64 (-1), .int .i64 (-1)] 64)) W → Below w.heap.size w W) := Lib.hid fun W b => ((Below.refl _ w).alloc (Nat.le_refl _) _).trans (b.mono (by simp))
  go_enter Try.func37, Try.ntmps37
  go_wp2_with fail
  have k0 : ∀ i, (w.alloc (.cells #[.int .i64 n.kind, .int .i64 n.space, .string ⟨n.name.toArray⟩, .slice pa la ca, .slice pt lt ct, .int .i64 (-1), .int .i64 (-1), .int .i64 (-1), .int .i64 (-1), .int .i64 (-1)] 64)).cell? ⟨w.heap.size, i, none⟩ = #[.int .i64 n.kind, .int .i64 n.space, .string ⟨n.name.toArray⟩, .slice pa la ca, .slice pt lt ct, .int .i64 (-1), .int .i64 (-1), .int .i64 (-1), .int .i64 (-1), .int .i64 (-1)][i]? := fun i => World.cell?_alloc_mark w _ _ (0, 0) i
  have k1 : (w.alloc (.cells #[.int .i64 n.kind, .int .i64 n.space, .string ⟨n.name.toArray⟩, .slice pa la ca, .slice pt lt ct, .int .i64 (-1), .int .i64 (-1), .int .i64 (-1), .int .i64 (-1), .int .i64 (-1)] 64)).cell? ⟨B, 0, none⟩ = some (.slice p qs.length cap) := (World.cell?_alloc_lt _ _ _ (by simpa using hB)).trans h0
  have hsz : w.heap.size < (w.alloc (.cells #[.int .i64 n.kind, .int .i64 n.space, .string ⟨n.name.toArray⟩, .slice pa la ca, .slice pt lt ct, .int .i64 (-1), .int .i64 (-1), .int .i64 (-1), .int .i64 (-1), .int .i64 (-1)] 64)).heap.size := by simp
  have kf : (w.alloc (.cells #[.int .i64 n.kind, .int .i64 n.space, .string ⟨n.name.toArray⟩, .slice pa la ca, .slice pt lt ct, .int .i64 (-1), .int .i64 (-1), .int .i64 (-1), .int .i64 (-1), .int .i64 (-1)] 64)).frozen? ⟨B, 0, none⟩ = false := by
    rw [((Below.refl _ w).alloc (Nat.le_refl _) (.cells #[.int .i64 n.kind, .int .i64 n.space, .string ⟨n.name.toArray⟩, .slice pa la ca, .slice pt lt ct, .int .i64 (-1), .int .i64 (-1), .int .i64 (-1), .int .i64 (-1), .int .i64 (-1)] 64)).frozen (p := ⟨B, 0, none⟩) hB]; exact hf
  generalize w.alloc (.cells #[.int .i64 n.kind, .int .i64 n.space, .string ⟨n.name.toArray⟩, .slice pa la ca, .slice pt lt ct, .int .i64 (-1), .int .i64 (-1), .int .i64 (-1), .int .i64 (-1), .int .i64 (-1)] 64) = w1 at *
  have x0 := k0 0
  have x1 := k0 1
  have x2 := k0 2
  have x3 := k0 3
  have x4 := k0 4
  have x5 := k0 5
  have x6 := k0 6
  have x7 := k0 7
  have x8 := k0 8
  have x9 := k0 9
  simp at x0 x1 x2 x3 x4 x5 x6 x7 x8 x9
  clear k0 h0 hf
  have HROW : Hid (∀ W, Below w1.heap.size w1 W → DocQ M W B (.slice p qs.length cap) qs) := Lib.hid fun W b => HQ.out.below (HW.out W b)
  have hlt1 : B < w1.heap.size := by omega
  go_region_law (refine step_append_lies _ (by rfl) _ _ 46 (by rfl) 0 64 i0 (.agg #[.int .i64 0, .int .i64 0, .string ByteArray.empty, .slice none 0 0, .slice none 0 0, .int .i64 0, .int .i64 0, .int .i64 0, .int .i64 0, .int .i64 0]) 10 120 Try.underlying46 HI.out.1 HI.out.2.1 HI.out.2.2.1 HI.out.2.2.2 rfl (by omega) (.slice p qs.length cap) qs.length (pnCells qs) (by rfl) (by first | exact (((HROW.out w1 (Below.refl _ _)).row).alloc _).drew | exact ((HROW.out w1 (Below.refl _ _)).row).drew.alloc _ | exact ((HROW.out w1 (Below.refl _ _)).row).alloc _) ⟨w1.heap.size, 0, none⟩ 1 1 [.int .i64 n.kind, .int .i64 n.space, .string ⟨n.name.toArray⟩, .slice pa la ca, .slice pt lt ct, .int .i64 (-1), .int .i64 (-1), .int .i64 (-1), .int .i64 (-1), .int .i64 (-1)] (by rfl) (by rfl) (World.news_of_block (cs := #[.int .i64 n.kind, .int .i64 n.space, .string ⟨n.name.toArray⟩, .slice pa la ca, .slice pt lt ct, .int .i64 (-1), .int .i64 (-1), .int .i64 (-1), .int .i64 (-1), .int .i64 (-1)]) (t := 64) (fr := (0, 0)) (heap_alloc_new w1 _)) (by simp [Value.oneCell']) (by omega) (by unfold maxLen; omega) (by omega) (by omega) (w1.heap.size + 1) (by simp) ?_; intro ga capa W5 hr5 hg5 hor5 hlt5; have k5 : W5.cell? ⟨B, 0, none⟩ = some (.slice p qs.length cap) := (hg5.cell_far ⟨B, 0, none⟩ (by simp; omega) fb).trans ((World.cell?_alloc_lt w1 _ _ (by simp; omega)).trans k1); have f5 : W5.frozen? ⟨B, 0, none⟩ = false := (hg5.frozen_far ⟨B, 0, none⟩ (by simp; omega) fb).trans ((((Below.refl _ w1).alloc (Nat.le_refl _) (.cells #[.int .i64 n.kind, .int .i64 n.space, .string ⟨n.name.toArray⟩, .slice pa la ca, .slice pt lt ct, .int .i64 (-1), .int .i64 (-1), .int .i64 (-1), .int .i64 (-1), .int .i64 (-1)] 64)).frozen (p := ⟨B, 0, none⟩) (by simp; omega)).trans kf); have HD5 := Lib.hid (DocQ.add (L := L) (q := (fresh n, .slice pa la ca, .slice pt lt ct)) (HROW.out _ (((Below.refl _ w1).alloc (Nat.le_refl _) (.cells #[.int .i64 n.kind, .int .i64 n.space, .string ⟨n.name.toArray⟩, .slice pa la ca, .slice pt lt ct, .int .i64 (-1), .int .i64 (-1), .int .i64 (-1), .int .i64 (-1), .int .i64 (-1)] 64)).drew)) HLL.out (HA.out.kept (.of_below (HW.out _ (((Below.refl _ w1).alloc (Nat.le_refl _) (.cells #[.int .i64 n.kind, .int .i64 n.space, .string ⟨n.name.toArray⟩, .slice pa la ca, .slice pt lt ct, .int .i64 (-1), .int .i64 (-1), .int .i64 (-1), .int .i64 (-1), .int .i64 (-1)] 64)).drew)))) (OwnsB.kept (M := fun _ => False) HTX.out (.of_below (HW.out _ (((Below.refl _ w1).alloc (Nat.le_refl _) (.cells #[.int .i64 n.kind, .int .i64 n.space, .string ⟨n.name.toArray⟩, .slice pa la ca, .slice pt lt ct, .int .i64 (-1), .int .i64 (-1), .int .i64 (-1), .int .i64 (-1), .int .i64 (-1)] 64)).drew))) (fun _ _ k => k)) HTL.out hg5 hr5 (fun g e => by injection e with e; subst e; exact hor5.elim Or.inl (fun k => Or.inr (by rw [k]; simp)))); clear hr5 hg5 hor5 hlt5)
  all_goals
    have HC5 := Lib.hid HD5.out.1.cell
    have c5 := HC5.out
    have j0 : (0 : Int) ≤ (qs.length : Int) := by omega
    go_wp2
    go_ret
    refine ⟨?_, ?_, ?_⟩
    · simp
    · refine ⟨_, _, ?_, HD5.out.1.mono ?_⟩
      · rw [List.map_append]; rfl
      · rintro b _ (k | k | k)
        · exact .inl k
        · exact .inr (.inl k)
        · exact .inr (.inr (by simp at k; omega))
    · exact (Turns.of_below (HW.out _ (((Below.refl _ w1).alloc (Nat.le_refl _) (.cells #[.int .i64 n.kind, .int .i64 n.space, .string ⟨n.name.toArray⟩, .slice pa la ca, .slice pt lt ct, .int .i64 (-1), .int .i64 (-1), .int .i64 (-1), .int .i64 (-1), .int .i64 (-1)] 64)).drew))).trans (HD5.out.2.mono fun b _ k => .inl k)
end Go.Proofs.Ytkoijkdhmfnlbaa
