/-
  The walks of the program's copied, of attributes. Any attributes, not too many.
-/
import Derived.Test.YtbadckkcjjfnoaaDMem
import Derived.Laws.AppendOwnNone
namespace Go.Proofs.Ytbadckkcjjfnoaa
open Go.RowKit

/-- 'append(nil, l...)' of an empty l. -/
theorem run_append_empty {P : Program} (w : World) (t ty e : TypeId) (i : TypeInfo) (ht : P.underlying t = some (.slice e)) (hi : P.info? e = some i) (p : Option Addr) (c : Nat) :
    (Builtin.append_ #[t, t] ty #[.slice none 0 0, .slice p 0 c]).run P w = .ok (.slice none 0 0) w := by
  cases p <;> simp [Builtin.append_, run_underlying ht, sizeOf, typeInfo, hi, Builtin.lenOf, Builtin.firstCells, loadCells, loadCellsFrom]
theorem wpList_append_empty {P : Program} {w : World} {ops : Array Oper} {rest : List Oper} {o : Oper} {a : Act} {Q : Exit → Act → World → Prop} (hgd : o.guard = none) (s x : Operand) (t : TypeId)
    (ho : o.op = .call { callee := .builtin .append, args := #[s, x], argTypes := #[t, t] })
    (e : TypeId) (i : TypeInfo) (ht : P.underlying t = some (.slice e)) (hi : P.info? e = some i) (p : Option Addr) (c : Nat) (hs : a.eval s = .slice none 0 0) (hx : a.eval x = .slice p 0 c)
    (h : wpList P ops Q rest (a.put o.dst (.slice none 0 0)) w) : wpList P ops Q (o :: rest) a w := by
  refine wpList_plain hgd fun K hK => ?_
  have hrun := run_append_empty (P := P) w t o.type e i ht hi p c
  unfold Oper.wp
  simp [execOp, ho, resolve, invoke, builtin, hs, hx, hrun, Result.andThen]
  exact hK _ _ h
theorem info_at : ∃ i, Try.prog.info? 40 = some i ∧ i.zero = some (.agg #[.string ByteArray.empty, .string ByteArray.empty]) ∧ i.size = 2 ∧ i.bytes = 32 := by
  have hi9 : (Try.prog.info? 40).map (fun i => (i.zero, i.size, i.bytes)) = some (some (.agg #[.string ByteArray.empty, .string ByteArray.empty]), 2, 32) := by kernel_rfl
  obtain ⟨i0, hi, hx⟩ := Option.map_eq_some_iff.1 hi9
  simp only [Prod.mk.injEq] at hx
  exact ⟨i0, hi, hx.1, hx.2.1, hx.2.2⟩
def atCell (a : List UInt8 × List UInt8) : List Value := [.string ⟨a.1.toArray⟩, .string ⟨a.2.toArray⟩]
def atCells (l : List (List UInt8 × List UInt8)) : List Value := l.flatMap atCell
theorem atCells_len (l : List (List UInt8 × List UInt8)) : (atCells l).length = l.length * 2 := by
  induction l with
  | nil => rfl
  | cons q r ih => show (atCell q ++ atCells r).length = _; rw [List.length_append, ih, List.length_cons]; simp [atCell]; omega
theorem atCells_at : ∀ (l : List (List UInt8 × List UInt8)) (j i : Nat) (hj : j < l.length), i < 2 → (atCells l)[j * 2 + i]? = (atCell l[j])[i]?
  | [], j, _, hj, _ => absurd hj (by simp)
  | q :: r, 0, i, _, hi => by
    show (atCell q ++ atCells r)[0 * 2 + i]? = _
    rw [List.getElem?_append_left (by simp [atCell]; omega), Nat.zero_mul, Nat.zero_add]
    rfl
  | q :: r, j + 1, i, hj, hi => by
    have h := atCells_at r j i (by simpa using hj) hi
    show (atCell q ++ atCells r)[(j + 1) * 2 + i]? = _
    rw [List.getElem?_append_right (by simp [atCell]; omega), show (j + 1) * 2 + i - (atCell q).length = j * 2 + i by simp [atCell]; omega, h]
    rfl
theorem atCells_read {P : Nat → Prop} {w : World} {g o cap : Nat} {l : List (List UInt8 × List UInt8)} (h : AttrsP P w (.slice (some ⟨g, o, none⟩) l.length cap) l) : ∀ j u, (atCells l)[j]? = some u → w.cell? ((⟨g, o, none⟩ : Addr).add j) = some u := by
  intro j u hu
  have hj : j < l.length * 2 := by rw [← atCells_len]; exact lt_of_some hu
  obtain ⟨p, cap', e, hc⟩ := h
  injection e with e1 e2 e3
  obtain ⟨g', o', e', _, _, hcell⟩ := hc (by omega)
  rw [← e1] at e'
  injection e' with e'
  injection e' with e4 e5
  subst e4 e5
  have hk : j / 2 < l.length := by omega
  obtain ⟨h0, h1⟩ := hcell (j / 2) hk
  have hr := atCells_at l (j / 2) (j % 2) hk (by omega)
  rw [show j / 2 * 2 + j % 2 = j by omega, hu] at hr
  rw [show (⟨g, o, none⟩ : Addr).add j = ⟨g, o + j, none⟩ by simp [Addr.add]]
  rcases Nat.mod_two_eq_zero_or_one j with hm | hm
  · rw [hm] at hr
    rw [show o + j = o + j / 2 * 2 by omega, h0]
    exact hr.symm
  · rw [hm] at hr
    rw [show o + j = o + j / 2 * 2 + 1 by omega, h1]
    exact hr.symm
theorem atCells_one (l : List (List UInt8 × List UInt8)) : ∀ u ∈ atCells l, u.oneCell' = true := by
  intro u hu
  obtain ⟨a, _, ha⟩ := List.mem_flatMap.1 hu
  simp only [atCell, List.mem_cons, List.not_mem_nil, or_false] at ha
  rcases ha with rfl | rfl <;> rfl
/-- A row of one's own holds attributes. -/
theorem AttrsP.of_row {B : Nat} {w : World} {v : Value} {l : List (List UInt8 × List UInt8)} (h : w.ownsRow B 40 2 v l.length (atCells l)) : AttrsP (fun b => B ≤ b) w v l := by
  rcases Joins.ownsRow_forms h with ⟨rfl, h0⟩ | ⟨g, cap, rfl⟩
  · have : l = [] := List.eq_nil_of_length_eq_zero h0
    subst this
    exact AttrsP.nil _ _ _ _
  · refine ⟨some ⟨g, 0, none⟩, cap, rfl, fun _ => ⟨g, 0, rfl, (h.lt g rfl).1, (h.lt g rfl).2, fun j hj => ?_⟩⟩
    have key : ∀ i, i < 2 → w.cell? ⟨g, 0 + j * 2 + i, none⟩ = (atCell l[j])[i]? := by
      intro i hi
      rw [show 0 + j * 2 + i = j * 2 + i by omega, h.cellAt (j * 2 + i) (by omega), atCells_at l j i hj hi]
    exact ⟨key 0 (by omega), key 1 (by omega)⟩
/-- New memory with the same attributes in it. -/
def CopyA (l : List (List UInt8 × List UInt8)) (w : World) (e : Ending) (w' : World) : Prop := ∃ p c, e = .returned (.slice p l.length c) ∧ AttrsP (fun b => w.heap.size ≤ b) w' (.slice p l.length c) l ∧ Below w.heap.size w w'

set_option maxHeartbeats 1000000 in
set_option maxRecDepth 100000 in
theorem dcopyA (l : List (List UInt8 × List UInt8)) (P : Nat → Prop) (v : Value) (w : World) (h : AttrsP P w v l) (hs : l.length ≤ 4294967296) : Calls Try.prog 73 #[v] w (CopyA l w) := by
  obtain ⟨i0, hi0, hz0, hz1, hz2⟩ := info_at
  obtain ⟨p, cap, rfl, hc⟩ := id h
  rcases Nat.eq_zero_or_pos l.length with h0 | h0
  · have : l = [] := List.eq_nil_of_length_eq_zero h0
    subst this
    have HI := Lib.hid hi0
    clear hc h hz0 hz1 hz2 hi0
    go_enter Try.func73, Try.ntmps73
    go_wp2_with (first
      | (at_builtin; refine wpList_append_empty rfl _ _ 41 rfl 40 i0 Try.underlying41 HI.out p cap rfl rfl ?_)
      | fail)
    go_ret
    exact ⟨none, 0, rfl, AttrsP.nil _ _ _ _, Below.refl _ _⟩
  · obtain ⟨g, o, rfl, _, hg, _⟩ := hc h0
    have HN := Lib.hid (atCells_read h)
    have HO := Lib.hid (World.ownsRow_nil w w.heap.size 40 2)
    have HI := Lib.hid (And.intro hi0 (And.intro hz0 (And.intro hz1 hz2)))
    clear hc h hz0 hz1 hz2 hi0
    go_enter Try.func73, Try.ntmps73
    go_wp2_with (first
      | (at_builtin; refine wpList_append_own _ rfl _ _ 41 rfl w.heap.size 40 i0 (.agg #[.string ByteArray.empty, .string ByteArray.empty]) 2 32 Try.underlying41 HI.out.1 HI.out.2.1 HI.out.2.2.1 HI.out.2.2.2 rfl (by omega) (.slice none 0 0) 0 [] rfl HO.out ⟨g, o, none⟩ l.length cap (atCells l) rfl (atCells_len l) HN.out (atCells_one l) (by unfold maxLen; omega) (by omega) (Nat.le_refl _) ?_; intro v1 w1 hr1 hg1 _)
      | fail)
    rw [Nat.zero_add, List.nil_append] at hr1
    have hb : Below w.heap.size w w1 := ⟨hg1.os, hg1.tape, hg1.output, hg1.size, fun k hk => hg1.block k hk (by simp [Value.ownBlock])⟩
    have hA := AttrsP.of_row hr1
    rcases Joins.ownsRow_forms hr1 with ⟨_, h1⟩ | ⟨g1, c1, rfl⟩
    · omega
    · go_ret
      exact ⟨_, _, rfl, hA, hb⟩
end Go.Proofs.Ytbadckkcjjfnoaa
