/-
  A text's bytes in a row of its own, that may have come of a text: it grows in place, or moves. No program is walked.
-/
import Derived.Test.YtbadckkcjjfnoaaDMem
import Derived.Lib.AppendStr
import Derived.Lib.ConvBytes
import Derived.Laws.IdiomStrings
namespace Go.Proofs.Ytbadckkcjjfnoaa
open Go.RowKit

theorem heap_lt {w : World} {g : Nat} {o : Obj} (h : w.heap[g]? = some o) : g < w.heap.size := by
  rcases Nat.lt_or_ge g w.heap.size with h1 | h1
  · exact h1
  · rw [Array.getElem?_eq_none h1] at h; cases h
def byteCells (l : List UInt8) : List Value := l.map fun b => .int .u8 (b.toNat : Int)
/-- The slice v has the bytes l in a row that nobody else writes. -/
def OwnsB (w : World) (v : Value) (l : List UInt8) : Prop :=
  (v = .slice none 0 0 ∧ l = []) ∨ ∃ g cap cur fz, v = .slice (some ⟨g, 0, none⟩) l.length cap ∧ w.heap[g]? = some (.cells cur 5 fz) ∧ (fz.2 ≤ l.length ∨ cur.size ≤ fz.1) ∧ l.length ≤ cap ∧ cap ≤ maxLen ∧ cur.size = cap ∧ cur.toList.take l.length = byteCells l
theorem OwnsB.lt {w : World} {v : Value} {l : List UInt8} (h : OwnsB w v l) : ∀ g, v.ownBlock = some g → g < w.heap.size := by
  intro k hk
  rcases h with ⟨rfl, _⟩ | ⟨g, cap, cur, fz, rfl, hg, _⟩
  · cases hk
  · injection hk with hk; subst hk; exact heap_lt hg
theorem OwnsB.form {w : World} {v : Value} {l : List UInt8} (h : OwnsB w v l) : ∃ p c, v = .slice p l.length c := by
  rcases h with ⟨rfl, rfl⟩ | ⟨g, cap, _, _, rfl, _⟩
  · exact ⟨none, 0, rfl⟩
  · exact ⟨_, cap, rfl⟩
theorem OwnsB.block {w w' : World} {v : Value} {l : List UInt8} (h : OwnsB w v l) (hb : ∀ g, v.ownBlock = some g → w'.heap[g]? = w.heap[g]?) : OwnsB w' v l := by
  rcases h with h | ⟨g, cap, cur, fz, rfl, hg, hr⟩
  · exact .inl h
  · exact .inr ⟨g, cap, cur, fz, rfl, (hb g rfl).trans hg, hr⟩
theorem OwnsB.nil (w : World) : OwnsB w (.slice none 0 0) [] := .inl ⟨rfl, rfl⟩
theorem byteCells_one (l : List UInt8) : ∀ u ∈ byteCells l, u.oneCell' = true := by
  intro u hu
  obtain ⟨b, _, rfl⟩ := List.mem_map.1 hu
  rfl
/-- Values laid into a row whose mark lies behind it. -/
theorem store_row (P : Program) (g o : Nat) (t : TypeId) (fz : Nat × Nat) : ∀ (vs : List Value) (i : Nat) (w : World) (cur : Array Value), w.heap[g]? = some (.cells cur t fz) → (fz.2 ≤ o + i ∨ cur.size ≤ fz.1) → o + i + vs.length ≤ cur.size → (∀ v ∈ vs, v.oneCell' = true) →
    ∃ w' cur', (storeCells ⟨g, o, none⟩ vs i).run P w = .ok () w' ∧ w'.heap[g]? = some (.cells cur' t fz) ∧ cur'.size = cur.size ∧ w.grownBy w' (some g) ∧ cur'.toList.take (o + i + vs.length) = cur.toList.take (o + i) ++ vs
  | [], i, w, cur, hg, _, _, _ => ⟨w, cur, rfl, hg, rfl, ⟨rfl, rfl, rfl, Nat.le_refl _, fun _ _ _ => rfl⟩, by simp⟩
  | v :: r, i, w, cur, hg, hz, hl, h1 => by
    simp only [List.length_cons] at hl
    have hlt : o + i < cur.size := by omega
    have hadd : (⟨g, o, none⟩ : Addr).add i = ⟨g, o + i, none⟩ := by simp [Addr.add]
    have hc : w.cell? ⟨g, o + i, none⟩ = some cur[o + i] := by simp [World.cell?, hg, hlt]
    have hf : w.frozen? ⟨g, o + i, none⟩ = false := by
      simp only [World.frozen?, hg, Bool.and_eq_false_iff, decide_eq_false_iff_not]
      rcases hz with hz | hz
      · exact .inr (by omega)
      · exact .inl (by omega)
    have hs : (store ((⟨g, o, none⟩ : Addr).add i) v).run P w = .ok () (w.setCell ⟨g, o + i, none⟩ v) := by
      rw [hadd, run_store P w _ v _ (h1 v (by simp)), hc]
      simp [hf]
    have hg1 : (w.setCell ⟨g, o + i, none⟩ v).heap[g]? = some (.cells (cur.setIfInBounds (o + i) v) t fz) := by
      simp [World.setCell, Array.getElem?_modify, hg]
    obtain ⟨w', cur', e1, e2, e3, e4, e5⟩ := store_row P g o t fz r (i + 1) _ _ hg1 (by rw [Array.size_setIfInBounds]; omega) (by rw [Array.size_setIfInBounds]; omega) (fun x hx => h1 x (by simp [hx]))
    refine ⟨w', cur', ?_, e2, by rw [e3, Array.size_setIfInBounds], ?_, ?_⟩
    · simp only [storeCells, Sem.run_bind, hs, Result.andThen_ok, e1]
    · refine ⟨e4.os, e4.tape, e4.output, by have := e4.size; simpa using this, fun k hk hne => ?_⟩
      rw [e4.block k (by simpa using hk) hne]
      exact heap_setCell_other w ⟨g, o + i, none⟩ k v (fun e => hne (by rw [e]))
    · rw [show o + i + (v :: r).length = o + (i + 1) + r.length by simp; omega, e5, Array.toList_setIfInBounds, show o + (i + 1) = o + i + 1 by omega, List.take_succ_eq_append_getElem (by simp; omega), List.take_set_of_le (by omega)]
      simp
theorem strCells_of (s : List UInt8) : Lib.strCells ⟨s.toArray⟩ = byteCells s := by
  unfold Lib.strCells byteCells
  simp
/-- 'append(b, s...)' where b owns its bytes. -/
theorem run_append_bytes {P : Program} (w : World) (t u ty : TypeId) (i : TypeInfo) (ht : P.underlying t = some (.slice 5)) (hu : P.underlying u = some .string) (hi : P.info? 5 = some i) (hz : i.zero = some (.int .u8 0)) (hsize : i.size = 1) (hby : i.bytes = 1)
    (v : Value) (l s : List UInt8) (h : OwnsB w v l) (hm : l.length + s.length ≤ 140737488355328) :
    ∃ v' w', (Builtin.append_ #[t, u] ty #[v, .string ⟨s.toArray⟩]).run P w = .ok v' w' ∧ OwnsB w' v' (l ++ s) ∧ w.grownBy w' v.ownBlock ∧ ∀ g, v'.ownBlock = some g → v.ownBlock = some g ∨ w.heap.size ≤ g := by
  have hsz : (⟨s.toArray⟩ : ByteArray).size = s.length := by show s.toArray.size = _; simp
  rcases h with ⟨rfl, rfl⟩ | ⟨g, cap, cur, fz, rfl, hg, hfz, hlc, hcm, hcs, htk⟩
  · obtain ⟨v', w', e1, e2, e3, _⟩ := Lib.run_append_own_string (P := P) w w.heap.size t u ty 5 i ht hu hi hz hsize hby (.slice none 0 0) 0 [] ⟨by simp, .inl ⟨rfl, rfl⟩⟩ ⟨s.toArray⟩ (by rw [hsz]; unfold maxLen; omega) (by rw [hsz]; simpa using hm) (Nat.le_refl _)
    rw [hsz, Nat.zero_add, List.nil_append, strCells_of] at e2
    refine ⟨v', w', e1, ?_, e3, fun g e => .inr (e2.lt g e).1⟩
    rw [List.nil_append]
    rcases e2.2 with ⟨q1, q2⟩ | ⟨g, cap, cur, q1, _, q2, q3, q4, q5, q6⟩
    · exact .inl ⟨q1, List.eq_nil_of_length_eq_zero q2⟩
    · exact .inr ⟨g, cap, cur, (0, 0), q1, q2, .inl (Nat.zero_le _), q3, q4, by simpa using q5, by simpa using q6⟩
  · have hf := Lib.run_firstCells_string (P := P) w 1 ⟨s.toArray⟩
    by_cases hroom : l.length + s.length ≤ cap
    · obtain ⟨w', cur', e1, e2, e3, e4, e5⟩ := store_row P g l.length 5 fz (byteCells s) 0 w cur hg (by simpa using hfz) (by unfold byteCells; simp; omega) (byteCells_one s)
      have hlen : (byteCells s).length = s.length := by simp [byteCells]
      rw [strCells_of] at hf
      refine ⟨.slice (some ⟨g, 0, none⟩) (l.length + s.length) cap, w', ?_, .inr ⟨g, cap, cur', fz, by rw [List.length_append], e2, ?_, by rw [List.length_append]; exact hroom, hcm, by omega, ?_⟩, e4, fun x e => .inl e⟩
      · rw [hsz] at hf
        simp [Builtin.append_, run_underlying ht, run_underlying hu, sizeOf, typeInfo, hi, hsize, Builtin.lenOf, hsz, hroom, hf, Addr.add_lit, e1]
      · rw [List.length_append]
        omega
      · rw [List.length_append, ← hlen]
        rw [Nat.add_zero] at e5
        rw [e5, htk]
        simp [byteCells]
    · have holds : ∀ j u, (byteCells l)[j]? = some u → w.cell? ((⟨g, 0, none⟩ : Addr).add j) = some u := by
        intro j u hj
        rw [show (⟨g, 0, none⟩ : Addr).add j = ⟨g, j, none⟩ by simp [Addr.add]; omega]
        rw [← htk, List.getElem?_take] at hj
        split at hj
        · simp [World.cell?, hg]
          simpa using hj
        · cases hj
      have hr := Lib.run_append_grow_string (P := P) w t u ty 5 i (.int .u8 0) ht hu hi hz ⟨g, 0, none⟩ l.length cap (byteCells l) (by rw [hsize]; simp [byteCells]) holds ⟨s.toArray⟩ (by rw [hsz]; omega) (by rw [hsz]; omega) (by rw [hby, hsz]; exact growslice_fits (by omega) (by unfold maxLen at *; omega))
      refine ⟨_, _, hr, ?_, ?_, ?_⟩
      · have hge := grownCap_ge w (l.length + s.length) cap 5
        have hle : grownCap w (l.length + s.length) cap 5 ≤ maxLen := grownCap_le_maxLen w _ cap _ (by unfold maxLen; omega)
        rw [hsz]
        refine .inr ⟨w.heap.size, grownCap w (l.length + s.length) cap 5, _, (0, 0), by rw [List.length_append], heap_alloc_new w.drew _, .inl (Nat.zero_le _), by rw [List.length_append]; exact hge, hle, ?_, ?_⟩
        · have hz1 : (Value.int IntKind.u8 0).cells.size = 1 := rfl
          simp only [Array.size_append, List.size_toArray, size_zeroCells, hz1, strCells_of]
          simp [byteCells]
          omega
        · rw [strCells_of, Array.toList_append, Array.toList_append, List.append_assoc, ← List.append_assoc, List.take_left' (by simp [byteCells])]
          simp [byteCells]
      · exact ⟨rfl, rfl, rfl, by simp, fun k hk _ => heap_alloc_old w.drew _ hk⟩
      · intro x e
        injection e with e
        exact .inr (Nat.le_of_eq e)
theorem info_u8 : ∃ i, Try.prog.info? 5 = some i ∧ i.zero = some (.int .u8 0) ∧ i.size = 1 ∧ i.bytes = 1 := by
  have hi9 : (Try.prog.info? 5).map (fun i => (i.zero, i.size, i.bytes)) = some (some (.int .u8 0), 1, 1) := by kernel_rfl
  obtain ⟨i0, hi, hx⟩ := Option.map_eq_some_iff.1 hi9
  simp only [Prod.mk.injEq] at hx
  exact ⟨i0, hi, hx.1, hx.2.1, hx.2.2⟩
/-- The operation, for the walk. -/
theorem wpList_append_bytes {w : World} {ops : Array Oper} {rest : List Oper} {o : Oper} {a : Act} {Q : Exit → Act → World → Prop} (hgd : o.guard = none) (sl x : Operand)
    (ho : o.op = .call { callee := .builtin .append, args := #[sl, x], argTypes := #[ 91, 9 ] })
    (v : Value) (l s : List UInt8) (hs : a.eval sl = v) (hx : a.eval x = .string ⟨s.toArray⟩) (h : OwnsB w v l) (hm : l.length + s.length ≤ 140737488355328)
    (hk : ∀ v' w', OwnsB w' v' (l ++ s) → w.grownBy w' v.ownBlock → (∀ g, v'.ownBlock = some g → v.ownBlock = some g ∨ w.heap.size ≤ g) → wpList Try.prog ops Q rest (a.put o.dst v') w') : wpList Try.prog ops Q (o :: rest) a w := by
  refine wpList_plain hgd fun K hK => ?_
  obtain ⟨i0, hi0, hz0, hz1, hz2⟩ := info_u8
  obtain ⟨v', w', hr, h1, h2, h3⟩ := run_append_bytes (P := Try.prog) w 91 9 o.type i0 Try.underlying91 Try.underlying9 hi0 hz0 hz1 hz2 v l s h hm
  unfold Oper.wp
  simp [execOp, ho, resolve, invoke, builtin, hs, hx, hr, Result.andThen]
  exact hK _ _ (hk v' w' h1 h2 h3)
/-- '[]byte(s)': a row of its own. -/
theorem conv_owns (w : World) (s : List UInt8) (hm : s.length ≤ 140737488355328) : ∃ c W, (convert 9 91 (.string ⟨s.toArray⟩)).run Try.prog w = .ok (.slice (some ⟨w.heap.size, 0, none⟩) s.length c) W ∧ OwnsB W (.slice (some ⟨w.heap.size, 0, none⟩) s.length c) s ∧ Below w.heap.size w W := by
  have hsz : (⟨s.toArray⟩ : ByteArray).size = s.length := by show s.toArray.size = _; simp
  have hr := Lib.run_convert_string_bytes (P := Try.prog) w 9 91 5 ⟨s.toArray⟩ Try.underlying9 Try.underlying91 Try.underlying5
  have hge := grownCap_ge w s.length 0 5
  have hle : grownCap w s.length 0 5 ≤ maxLen := grownCap_le_maxLen w _ 0 _ (by unfold maxLen; omega)
  rw [hsz] at hr
  refine ⟨_, _, hr, .inr ⟨w.heap.size, _, _, _, rfl, Lib.bytesWorld_at_new w _ _, .inr (Nat.le_refl _), hge, hle, ?_, ?_⟩, ⟨rfl, rfl, rfl, by rw [Lib.bytesWorld_size]; omega, fun k hk => Lib.bytesWorld_at_old w _ _ k hk⟩⟩
  · unfold Lib.bytesCells
    rw [hsz]
    simp
    omega
  · unfold Lib.bytesCells
    rw [Array.toList_append, List.take_left' (by simp)]
    simp [byteCells]
/-- 'string(b)'. -/
theorem conv_back (w : World) (v : Value) (l : List UInt8) (h : OwnsB w v l) : (convert 91 9 v).run Try.prog w = .ok (.string ⟨l.toArray⟩) w := by
  rcases h with ⟨rfl, rfl⟩ | ⟨g, cap, cur, fz, rfl, hg, hfz, hlc, hcm, hcs, htk⟩
  · exact run_convert_bytes_nil (P := Try.prog) w 91 5 Try.underlying91 Try.underlying5 0 0 9 Try.underlying9
  · refine run_convert_bytes_back w _ _ 5 _ cap l Try.underlying91 Try.underlying5 Try.underlying9 ?_
    intro j hj
    rw [show (⟨g, 0, none⟩ : Addr).add j = ⟨g, j, none⟩ by simp [Addr.add]; omega]
    have h1 : (byteCells l)[j]? = some (.int .u8 (l[j].toNat : Int)) := by simp [byteCells, hj]
    rw [← htk, List.getElem?_take_of_lt hj] at h1
    simp [World.cell?, hg]
    simpa using h1
end Go.Proofs.Ytbadckkcjjfnoaa
