/-
  The walk of slices.Insert ahead of the end of a row of elements: where there is room. Any row, not too long.
-/
import Derived.Test.YtbadckkcjjfnoaaSWB
import Derived.Test.YtbadckkcjjfnoaaSW7
import Derived.Test.YtbadckkcjjfnoaaMW4
import Derived.Lib.Overlaps
import Derived.Lib.AppendZerosOnto
namespace Go.Proofs.Ytbadckkcjjfnoaa
open Go.RowKit Go.Maps

/-- 'copy' where its run is known. -/
theorem step_copy_eq {ops : Array Oper} {o : Oper} {a : Act} {w w' : World} {K : Act → World → Prop} {Q : Exit → Act → World → Prop} {E : Prop} (hgd : o.guard = none) (s x : Operand) (t : TypeId)
    (ho : o.op = .call { callee := .builtin .copy, args := #[s, x], argTypes := #[t, t] }) (vs vx r : Value) (hs : a.eval s = vs) (hx : a.eval x = vx) (hrun : ∀ ty, (Builtin.copy_ #[t, t] ty #[vs, vx]).run Try.prog w = .ok r w')
    (h : K (a.put o.dst r) w') : if Region.wanted o (yielded ops a.tmps) = true then Oper.wp Try.prog o a w K Q else E := by
  have hw : Region.wanted o (yielded ops a.tmps) = true := by simp [Region.wanted, hgd]
  rw [if_pos hw]
  unfold Oper.wp
  simp [execOp, ho, resolve, invoke, builtin, hs, hx, hrun, Result.andThen]
  exact h
theorem wpList_copy_eq {ops : Array Oper} {rest : List Oper} {o : Oper} {a : Act} {w w' : World} {Q : Exit → Act → World → Prop} (hgd : o.guard = none) (s x : Operand) (t : TypeId)
    (ho : o.op = .call { callee := .builtin .copy, args := #[s, x], argTypes := #[t, t] }) (vs vx r : Value) (hs : a.eval s = vs) (hx : a.eval x = vx) (hrun : ∀ ty, (Builtin.copy_ #[t, t] ty #[vs, vx]).run Try.prog w = .ok r w')
    (h : wpList Try.prog ops Q rest (a.put o.dst r) w') : wpList Try.prog ops Q (o :: rest) a w := by
  refine wpList_plain hgd fun K hK => ?_
  unfold Oper.wp
  simp [execOp, ho, resolve, invoke, builtin, hs, hx, hrun, Result.andThen]
  exact hK _ _ h
theorem size_el : (Try.prog.info? 125).map (·.size) = some 3 := by kernel_rfl
theorem sizeOf_el (w : World) : (Go.sizeOf 125).run Try.prog w = .ok 3 w := by kernel_rfl
theorem el_row_form {R : List EL} {w : World} {g n cap : Nat} (h : w.ownsRow 0 125 3 (.slice (some ⟨g, 0, none⟩) n cap) n (elCells R)) : ∃ cur, w.heap[g]? = some (.cells cur 125 (0, 0)) ∧ n ≤ cap ∧ cap ≤ maxLen ∧ cur.size = cap * 3 ∧ cur.toList.take (n * 3) = elCells R := by
  rcases h.2 with ⟨e, _⟩ | ⟨g', cap', cur, e, _, hg, h1, h2, h3, h4⟩
  · cases e
  · injection e with e1 e2 e3
    injection e1 with e1
    injection e1 with e1
    subst e1 e3
    exact ⟨cur, hg, h1, h2, h3, h4⟩
set_option maxHeartbeats 2000000 in
set_option maxRecDepth 100000 in
theorem sinsShiftP (R : List EL) (x : EL) (g n cap i b : Nat) (w : World) (h : w.ownsRow 0 125 3 (.slice (some ⟨g, 0, none⟩) n cap) n (elCells R)) (hb : w.heap[b]? = some (.cells #[.int .i64 x.n, .int .i64 x.space, .string ⟨x.name.toArray⟩] 125 (0, 0))) (hn : R.length = n) (hi : i < n) (hroom : n + 1 ≤ cap) (hr : n ≤ 4294967296) :
    Calls Try.prog 132 #[.slice (some ⟨g, 0, none⟩) n cap, .int .i64 (i : Int), .slice (some ⟨b, 0, none⟩) 1 1] w (fun e w' => e = .returned (.slice (some ⟨g, 0, none⟩) (n + 1) cap) ∧ w'.ownsRow 0 125 3 (.slice (some ⟨g, 0, none⟩) (n + 1) cap) (n + 1) (elCells (R.take i ++ x :: R.drop i)) ∧ w.grownBy w' (some g)) := by
  obtain ⟨cur, hg, h1, h2, h3, h4⟩ := el_row_form h
  have hbg : b ≠ g := by
    rintro rfl
    rw [hg] at hb
    have e := congrArg (fun o : Option Obj => match o with | some (.cells c _ _) => c.size | _ => 0) hb
    simp at e
    omega
  have hc1 : cur.toList.length = cap * 3 := by rw [Array.length_toList]; exact h3
  -- the first copy
  obtain ⟨cs, hcs⟩ : ∃ cs, cs = elCells (R.drop i) := ⟨_, rfl⟩
  have hcl : cs.length = (n - i) * 3 := by rw [hcs, elCells_len, List.length_drop, hn]
  obtain ⟨cur1, hcur1⟩ : ∃ cur1, cur1 = (cur.toList.take ((i + 1) * 3) ++ (cs ++ cur.toList.drop ((i + 1) * 3 + cs.length))).toArray := ⟨_, rfl⟩
  have hs1 : cur1.size = cap * 3 := by
    rw [hcur1, List.size_toArray, List.length_append, List.length_append, List.length_take, List.length_drop, hcl, hc1]
    omega
  have hg1 : w.drew.heap[g]? = some (.cells cur 125 (0, 0)) := hg
  have hcp1 : ∀ ty, (Builtin.copy_ #[ 120 , 120 ] ty #[.slice (some ⟨g, (i + 1) * 3, none⟩) (n - i) (cap - (i + 1)), .slice (some ⟨g, i * 3, none⟩) (n + 1 - i) (cap - i)]).run Try.prog w.drew = .ok (goInt ((n - i : Nat) : Int)) (w.drew.setRow g cur1) := fun ty => by
    have := run_copy_rows w.drew 120 120 ty 125 3 Try.underlying120 size_el (some ⟨g, (i + 1) * 3, none⟩) (some ⟨g, i * 3, none⟩) (n + 1 - (i + 1)) (cap - (i + 1)) (n + 1 - i) (cap - i) g ((i + 1) * 3) cur 125 hg1 cs (n - i) (by show n - i = min (n + 1 - i) (n + 1 - (i + 1)); omega) hcl (fun _ => ⟨rfl, _, rfl, fun j v hv => by
      rw [show (⟨g, i * 3, none⟩ : Addr).add j = ⟨g, i * 3 + j, none⟩ by simp [Addr.add]]
      have hj := lt_of_some hv
      rw [hcl] at hj
      rw [hcs, ← elCells_drop, List.getElem?_drop] at hv
      show w.cell? _ = _
      rw [h.cellAt (i * 3 + j) (by omega)]
      exact hv⟩) (by rw [hcl, h3]; omega) (by rw [hcs]; exact elCells_one _)
    rw [← hcur1, show n + 1 - (i + 1) = n - i by omega] at this
    exact this
  -- the second copy
  have hg2 : (w.drew.setRow g cur1).heap[g]? = some (.cells cur1 125 (0, 0)) := setRow_heap w.drew g cur cur1 _ _ hg1
  have hb2 : (w.drew.setRow g cur1).heap[b]? = some (.cells #[.int .i64 x.n, .int .i64 x.space, .string ⟨x.name.toArray⟩] 125 (0, 0)) := (setRow_other _ g b _ hbg).trans hb
  obtain ⟨cur2, hcur2⟩ : ∃ cur2, cur2 = (cur1.toList.take (i * 3) ++ (elCell x ++ cur1.toList.drop (i * 3 + (elCell x).length))).toArray := ⟨_, rfl⟩
  have hl1 : cur1.toList.length = cap * 3 := by rw [Array.length_toList]; exact hs1
  have hxl : (elCell x).length = 3 := rfl
  have hs2 : cur2.size = cap * 3 := by
    rw [hcur2, List.size_toArray, List.length_append, List.length_append, List.length_take, List.length_drop, hxl, hl1]
    omega
  have hcp2 : ∀ ty, (Builtin.copy_ #[ 120 , 120 ] ty #[.slice (some ⟨g, i * 3, none⟩) (n + 1 - i) (cap - i), .slice (some ⟨b, 0, none⟩) 1 1]).run Try.prog (w.drew.setRow g cur1) = .ok (goInt 1) ((w.drew.setRow g cur1).setRow g cur2) := fun ty => by
    have := run_copy_rows (w.drew.setRow g cur1) 120 120 ty 125 3 Try.underlying120 size_el (some ⟨g, i * 3, none⟩) (some ⟨b, 0, none⟩) (n + 1 - i) (cap - i) 1 1 g (i * 3) cur1 125 hg2 (elCell x) 1 (by show 1 = min 1 (n + 1 - i); omega) hxl (fun _ => ⟨rfl, _, rfl, fun j v hv => by
      rw [Addr.add_lit, Nat.zero_add, blk_cell hb2 j]
      exact List.getElem?_toArray.trans hv⟩) (by rw [hxl, hs1]; omega) (by intro u hu; exact elCells_one [x] u (by simpa [elCells] using hu))
    rw [← hcur2] at this
    exact this
  have ht2 : cur2.toList.take ((n + 1) * 3) = elCells (R.take i ++ x :: R.drop i) := by
    have e1 : cur.toList.take (i * 3) = elCells (R.take i) := by rw [← elCells_take, ← h4, List.take_take, Nat.min_eq_left (by omega)]
    have e2 : cur1.toList.take (i * 3) = elCells (R.take i) := by
      rw [hcur1, List.toList_toArray, List.take_append_of_le_length (by rw [List.length_take, hc1]; omega), List.take_take, Nat.min_eq_left (by omega), e1]
    have e3 : (cur1.toList.drop (i * 3 + 3)).take ((n - i) * 3) = cs := by
      rw [hcur1, List.toList_toArray, show i * 3 + 3 = (i + 1) * 3 by omega, List.drop_append_of_le_length (by rw [List.length_take, hc1]; omega), List.drop_of_length_le (by rw [List.length_take]; omega), List.nil_append, List.take_append_of_le_length (by omega), List.take_of_length_le (by omega)]
    rw [hcur2, List.toList_toArray, hxl, elCells_app, e2]
    rw [List.take_append, List.take_of_length_le (by rw [elCells_len, List.length_take, hn]; omega)]
    congr 1
    rw [elCells_len, List.length_take, hn, Nat.min_eq_left (by omega), show (n + 1) * 3 - i * 3 = 3 + (n - i) * 3 by omega]
    rw [List.take_append, List.take_of_length_le (by rw [hxl]; omega), hxl, show 3 + (n - i) * 3 - 3 = (n - i) * 3 by omega, e3, hcs]
    rfl
  have hg3 : ((w.drew.setRow g cur1).setRow g cur2).heap[g]? = some (.cells cur2 125 (0, 0)) := setRow_heap _ g cur1 cur2 _ _ hg2
  have HP : Hid (((w.drew.setRow g cur1).setRow g cur2).ownsRow 0 125 3 (.slice (some ⟨g, 0, none⟩) (n + 1) cap) (n + 1) (elCells (R.take i ++ x :: R.drop i)) ∧ w.grownBy ((w.drew.setRow g cur1).setRow g cur2) (some g)) := by
    refine Lib.hid ⟨⟨?_, .inr ⟨g, cap, cur2, rfl, Nat.zero_le _, hg3, hroom, h2, hs2, ht2⟩⟩, rfl, rfl, rfl, by simp [World.setRow], fun b _ hb => ?_⟩
    · rw [elCells_len]; congr 1; simp; omega
    · have hne : b ≠ g := fun e => hb (by rw [e])
      rw [setRow_other _ g b _ hne, setRow_other _ g b _ hne]
      rfl
  have hov : ∀ lb cb, (callFunc 147 #[.slice (some ⟨b, 0, none⟩) 1 1, .slice (some ⟨g, (i + 1) * 3, none⟩) lb cb]).run Try.prog w = .ok (.value (.bool false)) w := fun lb cb => by
    rw [run_callFunc_extern Try.func147 (by kernel_rfl) (by kernel_rfl) (by kernel_rfl) (e := Extern.SlicesOverlaps.overlaps #[ 120 , 120 ] #[ 4 ]) (by kernel_rfl),
      Lib.run_overlaps_apart w 120 4 125 Try.underlying120 3 sizeOf_el ⟨b, 0, none⟩ ⟨g, (i + 1) * 3, none⟩ 1 1 lb cb hbg 125 125 3 (cap * 3) (by simp [World.shape?, hb]) (by simp [World.shape?, hg, h3]) (by omega) (by simp [World.frozen?, hb]) (by simp [World.frozen?, hb])]
    rfl
  have ji0 : (0 : Int) ≤ (i : Int) := by omega
  have ji1 : (i : Int) ≤ (n : Int) := by omega
  have jne : ((i : Int) == (n : Int)) = false := beq_eq_false_iff_ne.2 (by omega)
  have jroom : ¬ (cap : Int) < (n : Int) + 1 := by omega
  have jr2 : (n : Int) + 1 ≤ (cap : Int) := by omega
  have ji2 : (i : Int) + 1 ≤ (n : Int) + 1 := by omega
  have ji3 : (0 : Int) ≤ (i : Int) + 1 := by omega
  have ji4 : (i : Int) ≤ (n : Int) + 1 := by omega
  have jn0 : (0 : Int) ≤ (n : Int) + 1 := by omega
  have hni : n ≠ i := by omega
  have hw1 : IntKind.i64.wrap ((i : Int) + 1) = ((i + 1 : Nat) : Int) := by rw [IntWalk.i64_in _ (by omega)]; omega
  have hi1n : i + 1 ≤ n + 1 := by omega
  have hci : cap ≠ i := by omega
  have hci1 : cap ≠ i + 1 := by omega
  have hin : i ≤ n := by omega
  clear h hb hn hg h3 h4 hc1 hcs hcl hcur1 hs1 hg1 hg2 hb2 hcur2 hl1 hxl hs2 ht2 hg3
  go_enter Try.func132, Try.ntmps132
  go_wp2_with (simp only [hov])
  go_region_law (fail)
  all_goals
    generalize w.drew.setRow g cur1 = W1 at *
    go_wp2_with fail
    refine bodyPost_ret (w := W1.setRow g cur2) (results_tmp (t := 6) rfl _ _ _) rfl ?_
    exact ⟨rfl, HP.out.1, HP.out.2⟩
end Go.Proofs.Ytbadckkcjjfnoaa
