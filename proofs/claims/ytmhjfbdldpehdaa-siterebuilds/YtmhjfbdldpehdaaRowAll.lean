/-
  The walk of slices.Insert ahead of the end of a row of elements: where there is room. Any row, not too long.
  The walk of slices.Insert ahead of the end of a row of elements: where there is no room; Insert anywhere. Any row, not too long.
  The walks of the Doc's Node of any number; of the program's newcomer. Any Site.
  The walks of the program's Put, Push and Swap. Any Site.
  The walk of the program's Open. Any Site.
  The row of open elements in the law of rows: its root stays, no number stands twice, the others are of the six elements.
  A Site beside a tape of numbers: the calls of the law of rows.
-/
import Derived.Test.YtmhjfbdldpehdaaSWB
import Derived.Test.YtmhjfbdldpehdaaSW7
import Derived.Test.YtmhjfbdldpehdaaMW4
import Derived.Lib.Overlaps
import Derived.Lib.AppendZerosOnto
import Derived.Test.YtmhjfbdldpehdaaSWE
import Derived.Laws.ResultCell
import Derived.Test.YtmhjfbdldpehdaaDPKids
import Derived.Test.YtmhjfbdldpehdaaSWG
import Derived.Test.YtmhjfbdldpehdaaDTape
import Derived.Test.YtmhjfbdldpehdaaDPNote
namespace Go.Proofs.Ytmhjfbdldpehdaa
open Go.RowKit Go.Maps

/-- 'copy' where its run is known. -/
theorem step_copy_eq {ops : Array Oper} {o : Oper} {a : Act} {w w' : World} {K : Act → World → Prop} {Q : Exit → Act → World → Prop} {E : Prop} (hgd : o.guard = none) (s x : Operand) (t : TypeId)
    (ho : o.op = .call { callee := .builtin .copy, args := #[s, x], argTypes := #[t, t] }) (vs vx r : Value) (hs : a.eval s = vs) (hx : a.eval x = vx) (hrun : ∀ ty, (Builtin.copy_ #[t, t] ty #[vs, vx]).run Try.prog w = .ok r w')
    (h : K (a.put o.dst r) w') : if Region.wanted o (yielded ops a.tmps) = true then Oper.wp Try.prog o a w K Q else E := by
  have hw : Region.wanted o (yielded ops a.tmps) = true := by simp [Region.wanted, hgd]
  rw [if_pos hw]
  unfold Oper.wp
  simp [execOp, ho, resolve, invoke, builtin, hs, hx, hrun, Result.andThen]
  exact h
theorem wpList_copy_eq {ops : Array Oper} {rest : List Oper} {o : Oper} {a : Act} {w w' : World} {Q : Exit → Act → World → Prop} (hgd : o.guard = none) (s x : Operand) (t : TypeId)
    (ho : o.op = .call { callee := .builtin .copy, args := #[s, x], argTypes := #[t, t] }) (vs vx r : Value) (hs : a.eval s = vs) (hx : a.eval x = vx) (hrun : ∀ ty, (Builtin.copy_ #[t, t] ty #[vs, vx]).run Try.prog w = .ok r w')
    (h : wpList Try.prog ops Q rest (a.put o.dst r) w') : wpList Try.prog ops Q (o :: rest) a w := by
  refine wpList_plain hgd fun K hK => ?_
  unfold Oper.wp
  simp [execOp, ho, resolve, invoke, builtin, hs, hx, hrun, Result.andThen]
  exact hK _ _ h
theorem size_el : (Try.prog.info? 129).map (·.size) = some 3 := by kernel_rfl
theorem sizeOf_el (w : World) : (Go.sizeOf 129).run Try.prog w = .ok 3 w := by kernel_rfl
theorem el_row_form {R : List EL} {w : World} {g n cap : Nat} (h : w.ownsRow 0 129 3 (.slice (some ⟨g, 0, none⟩) n cap) n (elCells R)) : ∃ cur, w.heap[g]? = some (.cells cur 129 (0, 0)) ∧ n ≤ cap ∧ cap ≤ maxLen ∧ cur.size = cap * 3 ∧ cur.toList.take (n * 3) = elCells R := by
  rcases h.2 with ⟨e, _⟩ | ⟨g', cap', cur, e, _, hg, h1, h2, h3, h4⟩
  · cases e
  · injection e with e1 e2 e3
    injection e1 with e1
    injection e1 with e1
    subst e1 e3
    exact ⟨cur, hg, h1, h2, h3, h4⟩
set_option maxHeartbeats 2000000 in
set_option maxRecDepth 100000 in
theorem sinsShiftP (R : List EL) (x : EL) (g n cap i b : Nat) (w : World) (h : w.ownsRow 0 129 3 (.slice (some ⟨g, 0, none⟩) n cap) n (elCells R)) (hb : w.heap[b]? = some (.cells #[.int .i64 x.n, .int .i64 x.space, .string ⟨x.name.toArray⟩] 129 (0, 0))) (hn : R.length = n) (hi : i < n) (hroom : n + 1 ≤ cap) (hr : n ≤ 4294967296) :
    Calls Try.prog 148 #[.slice (some ⟨g, 0, none⟩) n cap, .int .i64 (i : Int), .slice (some ⟨b, 0, none⟩) 1 1] w (fun e w' => e = .returned (.slice (some ⟨g, 0, none⟩) (n + 1) cap) ∧ w'.ownsRow 0 129 3 (.slice (some ⟨g, 0, none⟩) (n + 1) cap) (n + 1) (elCells (R.take i ++ x :: R.drop i)) ∧ w.grownBy w' (some g)) := by
  obtain ⟨cur, hg, h1, h2, h3, h4⟩ := el_row_form h
  have hbg : b ≠ g := by
    rintro rfl
    rw [hg] at hb
    have e := congrArg (fun o : Option Obj => match o with | some (.cells c _ _) => c.size | _ => 0) hb
    simp at e
    omega
  have hc1 : cur.toList.length = cap * 3 := by rw [Array.length_toList]; exact h3
  -- the first copy
  obtain ⟨cs, hcs⟩ : ∃ cs, cs = elCells (R.drop i) := ⟨_, rfl⟩
  have hcl : cs.length = (n - i) * 3 := by rw [hcs, elCells_len, List.length_drop, hn]
  obtain ⟨cur1, hcur1⟩ : ∃ cur1, cur1 = (cur.toList.take ((i + 1) * 3) ++ (cs ++ cur.toList.drop ((i + 1) * 3 + cs.length))).toArray := ⟨_, rfl⟩
  have hs1 : cur1.size = cap * 3 := by
    rw [hcur1, List.size_toArray, List.length_append, List.length_append, List.length_take, List.length_drop, hcl, hc1]
    omega
  have hg1 : w.drew.heap[g]? = some (.cells cur 129 (0, 0)) := hg
  have hcp1 : ∀ ty, (Builtin.copy_ #[ 124 , 124 ] ty #[.slice (some ⟨g, (i + 1) * 3, none⟩) (n - i) (cap - (i + 1)), .slice (some ⟨g, i * 3, none⟩) (n + 1 - i) (cap - i)]).run Try.prog w.drew = .ok (goInt ((n - i : Nat) : Int)) (w.drew.setRow g cur1) := fun ty => by
    have := run_copy_rows w.drew 124 124 ty 129 3 Try.underlying124 size_el (some ⟨g, (i + 1) * 3, none⟩) (some ⟨g, i * 3, none⟩) (n + 1 - (i + 1)) (cap - (i + 1)) (n + 1 - i) (cap - i) g ((i + 1) * 3) cur 129 hg1 cs (n - i) (by show n - i = min (n + 1 - i) (n + 1 - (i + 1)); omega) hcl (fun _ => ⟨rfl, _, rfl, fun j v hv => by
      rw [show (⟨g, i * 3, none⟩ : Addr).add j = ⟨g, i * 3 + j, none⟩ by simp [Addr.add]]
      have hj := lt_of_some hv
      rw [hcl] at hj
      rw [hcs, ← elCells_drop, List.getElem?_drop] at hv
      show w.cell? _ = _
      rw [h.cellAt (i * 3 + j) (by omega)]
      exact hv⟩) (by rw [hcl, h3]; omega) (by rw [hcs]; exact elCells_one _)
    rw [← hcur1, show n + 1 - (i + 1) = n - i by omega] at this
    exact this
  -- the second copy
  have hg2 : (w.drew.setRow g cur1).heap[g]? = some (.cells cur1 129 (0, 0)) := setRow_heap w.drew g cur cur1 _ _ hg1
  have hb2 : (w.drew.setRow g cur1).heap[b]? = some (.cells #[.int .i64 x.n, .int .i64 x.space, .string ⟨x.name.toArray⟩] 129 (0, 0)) := (setRow_other _ g b _ hbg).trans hb
  obtain ⟨cur2, hcur2⟩ : ∃ cur2, cur2 = (cur1.toList.take (i * 3) ++ (elCell x ++ cur1.toList.drop (i * 3 + (elCell x).length))).toArray := ⟨_, rfl⟩
  have hl1 : cur1.toList.length = cap * 3 := by rw [Array.length_toList]; exact hs1
  have hxl : (elCell x).length = 3 := rfl
  have hs2 : cur2.size = cap * 3 := by
    rw [hcur2, List.size_toArray, List.length_append, List.length_append, List.length_take, List.length_drop, hxl, hl1]
    omega
  have hcp2 : ∀ ty, (Builtin.copy_ #[ 124 , 124 ] ty #[.slice (some ⟨g, i * 3, none⟩) (n + 1 - i) (cap - i), .slice (some ⟨b, 0, none⟩) 1 1]).run Try.prog (w.drew.setRow g cur1) = .ok (goInt 1) ((w.drew.setRow g cur1).setRow g cur2) := fun ty => by
    have := run_copy_rows (w.drew.setRow g cur1) 124 124 ty 129 3 Try.underlying124 size_el (some ⟨g, i * 3, none⟩) (some ⟨b, 0, none⟩) (n + 1 - i) (cap - i) 1 1 g (i * 3) cur1 129 hg2 (elCell x) 1 (by show 1 = min 1 (n + 1 - i); omega) hxl (fun _ => ⟨rfl, _, rfl, fun j v hv => by
      rw [Addr.add_lit, Nat.zero_add, blk_cell hb2 j]
      exact List.getElem?_toArray.trans hv⟩) (by rw [hxl, hs1]; omega) (by intro u hu; exact elCells_one [x] u (by simpa [elCells] using hu))
    rw [← hcur2] at this
    exact this
  have ht2 : cur2.toList.take ((n + 1) * 3) = elCells (R.take i ++ x :: R.drop i) := by
    have e1 : cur.toList.take (i * 3) = elCells (R.take i) := by rw [← elCells_take, ← h4, List.take_take, Nat.min_eq_left (by omega)]
    have e2 : cur1.toList.take (i * 3) = elCells (R.take i) := by
      rw [hcur1, List.toList_toArray, List.take_append_of_le_length (by rw [List.length_take, hc1]; omega), List.take_take, Nat.min_eq_left (by omega), e1]
    have e3 : (cur1.toList.drop (i * 3 + 3)).take ((n - i) * 3) = cs := by
      rw [hcur1, List.toList_toArray, show i * 3 + 3 = (i + 1) * 3 by omega, List.drop_append_of_le_length (by rw [List.length_take, hc1]; omega), List.drop_of_length_le (by rw [List.length_take]; omega), List.nil_append, List.take_append_of_le_length (by omega), List.take_of_length_le (by omega)]
    rw [hcur2, List.toList_toArray, hxl, elCells_app, e2]
    rw [List.take_append, List.take_of_length_le (by rw [elCells_len, List.length_take, hn]; omega)]
    congr 1
    rw [elCells_len, List.length_take, hn, Nat.min_eq_left (by omega), show (n + 1) * 3 - i * 3 = 3 + (n - i) * 3 by omega]
    rw [List.take_append, List.take_of_length_le (by rw [hxl]; omega), hxl, show 3 + (n - i) * 3 - 3 = (n - i) * 3 by omega, e3, hcs]
    rfl
  have hg3 : ((w.drew.setRow g cur1).setRow g cur2).heap[g]? = some (.cells cur2 129 (0, 0)) := setRow_heap _ g cur1 cur2 _ _ hg2
  have HP : Hid (((w.drew.setRow g cur1).setRow g cur2).ownsRow 0 129 3 (.slice (some ⟨g, 0, none⟩) (n + 1) cap) (n + 1) (elCells (R.take i ++ x :: R.drop i)) ∧ w.grownBy ((w.drew.setRow g cur1).setRow g cur2) (some g)) := by
    refine Lib.hid ⟨⟨?_, .inr ⟨g, cap, cur2, rfl, Nat.zero_le _, hg3, hroom, h2, hs2, ht2⟩⟩, rfl, rfl, rfl, by simp [World.setRow], fun b _ hb => ?_⟩
    · rw [elCells_len]; congr 1; simp; omega
    · have hne : b ≠ g := fun e => hb (by rw [e])
      rw [setRow_other _ g b _ hne, setRow_other _ g b _ hne]
      rfl
  have hov : ∀ lb cb, (callFunc 163 #[.slice (some ⟨b, 0, none⟩) 1 1, .slice (some ⟨g, (i + 1) * 3, none⟩) lb cb]).run Try.prog w = .ok (.value (.bool false)) w := fun lb cb => by
    rw [run_callFunc_extern Try.func163 (by kernel_rfl) (by kernel_rfl) (by kernel_rfl) (e := Extern.SlicesOverlaps.overlaps #[ 124 , 124 ] #[ 4 ]) (by kernel_rfl),
      Lib.run_overlaps_apart w 124 4 129 Try.underlying124 3 sizeOf_el ⟨b, 0, none⟩ ⟨g, (i + 1) * 3, none⟩ 1 1 lb cb hbg 129 129 3 (cap * 3) (by simp [World.shape?, hb]) (by simp [World.shape?, hg, h3]) (by omega) (by simp [World.frozen?, hb]) (by simp [World.frozen?, hb])]
    rfl
  have ji0 : (0 : Int) ≤ (i : Int) := by omega
  have ji1 : (i : Int) ≤ (n : Int) := by omega
  have jne : ((i : Int) == (n : Int)) = false := beq_eq_false_iff_ne.2 (by omega)
  have jroom : ¬ (cap : Int) < (n : Int) + 1 := by omega
  have jr2 : (n : Int) + 1 ≤ (cap : Int) := by omega
  have ji2 : (i : Int) + 1 ≤ (n : Int) + 1 := by omega
  have ji3 : (0 : Int) ≤ (i : Int) + 1 := by omega
  have ji4 : (i : Int) ≤ (n : Int) + 1 := by omega
  have jn0 : (0 : Int) ≤ (n : Int) + 1 := by omega
  have hni : n ≠ i := by omega
  have hw1 : IntKind.i64.wrap ((i : Int) + 1) = ((i + 1 : Nat) : Int) := by rw [IntWalk.i64_in _ (by omega)]; omega
  have hi1n : i + 1 ≤ n + 1 := by omega
  have hci : cap ≠ i := by omega
  have hci1 : cap ≠ i + 1 := by omega
  have hin : i ≤ n := by omega
  clear h hb hn hg h3 h4 hc1 hcs hcl hcur1 hs1 hg1 hg2 hb2 hcur2 hl1 hxl hs2 ht2 hg3
  go_enter Try.func148, Try.ntmps148
  go_wp2_with (simp only [hov])
  go_region_law (fail)
  all_goals
    generalize w.drew.setRow g cur1 = W1 at *
    go_wp2_with fail
    refine bodyPost_ret (w := W1.setRow g cur2) (results_tmp (t := 6) rfl _ _ _) rfl ?_
    exact ⟨rfl, HP.out.1, HP.out.2⟩
end Go.Proofs.Ytmhjfbdldpehdaa
namespace Go.Proofs.Ytmhjfbdldpehdaa
open Go.RowKit Go.Maps

set_option maxHeartbeats 2000000 in
set_option maxRecDepth 100000 in
theorem sinsGrowP (R : List EL) (x : EL) (g n cap i b : Nat) (w : World) (h : w.ownsRow 0 129 3 (.slice (some ⟨g, 0, none⟩) n cap) n (elCells R)) (hb : w.heap[b]? = some (.cells #[.int .i64 x.n, .int .i64 x.space, .string ⟨x.name.toArray⟩] 129 (0, 0))) (hn : R.length = n) (hi : i < n) (hroom : cap < n + 1) (hr : n ≤ 4294967296) :
    Calls Try.prog 148 #[.slice (some ⟨g, 0, none⟩) n cap, .int .i64 (i : Int), .slice (some ⟨b, 0, none⟩) 1 1] w (fun e w' => ∃ G, e = .returned (.slice (some ⟨w.heap.size, 0, none⟩) (n + 1) G) ∧ w'.ownsRow 0 129 3 (.slice (some ⟨w.heap.size, 0, none⟩) (n + 1) G) (n + 1) (elCells (R.take i ++ x :: R.drop i)) ∧ w.grownBy w' (some g)) := by
  obtain ⟨cur, hg, h1, h2, h3, h4⟩ := el_row_form h
  obtain ⟨i0, hi0, hz0, hz1, hz2⟩ := info_el
  obtain rfl : cap = n := by omega
  have hgw := heap_lt hg
  have hbw := heap_lt hb
  obtain ⟨G, hG⟩ : ∃ G, G = grownCap w (cap + 1) cap 129 := ⟨_, rfl⟩
  have hGn : cap + 1 ≤ G := by rw [hG]; exact grownCap_ge w _ _ _
  have hG63 : G ≤ maxLen := by rw [hG]; exact grownCap_le_maxLen w (cap + 1) cap _ (by unfold maxLen; omega)
  obtain ⟨ROW, hROW⟩ : ∃ ROW : Array Value, ROW = (elCells (R.take i)).toArray ++ Builtin.zeroCells (Value.agg #[.int .i64 0, .int .i64 0, .string ByteArray.empty]).cells (cap + 1 - i) ++ Builtin.zeroCells (Value.agg #[.int .i64 0, .int .i64 0, .string ByteArray.empty]).cells (G - (cap + 1)) := ⟨_, rfl⟩
  have htl : (elCells (R.take i)).length = i * 3 := by rw [elCells_len, List.length_take]; congr 1; omega
  have hRs : ROW.size = G * 3 := by
    rw [hROW, Array.size_append, Array.size_append, List.size_toArray, zeroE_len, zeroE_len, htl]
    omega
  have hRt : ROW.toList.take (i * 3) = elCells (R.take i) := by
    rw [hROW, Array.toList_append, Array.toList_append, List.append_assoc, List.toList_toArray, List.take_append_of_le_length (by omega), List.take_of_length_le (by omega)]
  have hap : ∀ ty, (Builtin.append_ #[ 124 , 3 ] ty #[.slice (some ⟨g, 0, none⟩) i cap, .int .i64 ((cap : Int) + 1 - (i : Int))]).run Try.prog w = .ok (.slice (some ⟨w.heap.size, 0, none⟩) (cap + 1) G) ((w.alloc (.cells ROW 129)).drew) := fun ty => by
    have hold : (Builtin.firstCells i0.size i (.slice (some ⟨g, 0, none⟩) i cap)).run Try.prog w.drew = .ok (elCells (R.take i)).toArray w.drew := by
      rw [hz1]
      exact run_firstCells_some w.drew 3 i ⟨g, 0, none⟩ i cap (elCells (R.take i)) htl (fun j v hj => by
        rw [Addr.add_lit, Nat.zero_add]
        have hl := lt_of_some hj
        rw [htl] at hl
        rw [← elCells_take, List.getElem?_take, if_pos hl] at hj
        show w.cell? _ = _
        rw [h.cellAt j (by omega)]
        exact hj)
    have := Lib.run_append_grow_zeros w 124 3 ty 129 i0 _ .i64 .i64 Try.underlying124 Try.underlying3 hi0 hz0 (some ⟨g, 0, none⟩) i cap (elCells (R.take i)) hold (cap + 1 - i) (by omega) (by omega) (by omega) (by omega) (by rw [hz2]; omega) (by rw [hz2, show i + (cap + 1 - i) = cap + 1 by omega]; exact growslice_fits (by omega) (by omega))
    rw [show i + (cap + 1 - i) = cap + 1 by omega, ← hG, ← hROW, show ((cap + 1 - i : Nat) : Int) = (cap : Int) + 1 - (i : Int) by omega] at this
    exact this
  -- the first copy
  have hg1 : ((w.alloc (.cells ROW 129)).drew).heap[w.heap.size]? = some (.cells ROW 129 (0, 0)) := heap_alloc_new w _
  have hold1 : ∀ k, k < w.heap.size → ((w.alloc (.cells ROW 129)).drew).heap[k]? = w.heap[k]? := fun k hk => heap_alloc_old w _ hk
  obtain ⟨cur1, hcur1⟩ : ∃ cur1, cur1 = (ROW.toList.take (i * 3) ++ (elCell x ++ ROW.toList.drop (i * 3 + (elCell x).length))).toArray := ⟨_, rfl⟩
  have hl0 : ROW.toList.length = G * 3 := by rw [Array.length_toList]; exact hRs
  have hxl : (elCell x).length = 3 := rfl
  have hs1 : cur1.size = G * 3 := by
    rw [hcur1, List.size_toArray, List.length_append, List.length_append, List.length_take, List.length_drop, hxl, hl0]
    omega
  have hcp1 : ∀ ty, (Builtin.copy_ #[ 124 , 124 ] ty #[.slice (some ⟨w.heap.size, i * 3, none⟩) (cap + 1 - i) (G - i), .slice (some ⟨b, 0, none⟩) 1 1]).run Try.prog ((w.alloc (.cells ROW 129)).drew) = .ok (goInt 1) (((w.alloc (.cells ROW 129)).drew).setRow w.heap.size cur1) := fun ty => by
    have := run_copy_rows ((w.alloc (.cells ROW 129)).drew) 124 124 ty 129 3 Try.underlying124 size_el (some ⟨w.heap.size, i * 3, none⟩) (some ⟨b, 0, none⟩) (cap + 1 - i) (G - i) 1 1 w.heap.size (i * 3) ROW 129 hg1 (elCell x) 1 (by show 1 = min 1 (cap + 1 - i); omega) hxl (fun _ => ⟨rfl, _, rfl, fun j v hv => by
      rw [Addr.add_lit, Nat.zero_add, blk_cell ((hold1 b hbw).trans hb) j]
      exact List.getElem?_toArray.trans hv⟩) (by rw [hxl, hRs]; omega) (by intro u hu; exact elCells_one [x] u (by simpa [elCells] using hu))
    rw [← hcur1] at this
    exact this
  -- the second copy
  obtain ⟨W1, hW1⟩ : ∃ W1, W1 = ((w.alloc (.cells ROW 129)).drew).setRow w.heap.size cur1 := ⟨_, rfl⟩
  have hg2 : W1.heap[w.heap.size]? = some (.cells cur1 129 (0, 0)) := by rw [hW1]; exact setRow_heap _ _ ROW cur1 _ _ hg1
  have hold2 : ∀ k, k < w.heap.size → W1.heap[k]? = w.heap[k]? := fun k hk => by rw [hW1, setRow_other _ _ k _ (by omega)]; exact hold1 k hk
  have hz : W1.heap.size = w.heap.size + 1 := by rw [hW1]; simp [World.setRow]
  have hos : W1.os = w.os ∧ W1.tape = w.tape ∧ W1.output = w.output := by rw [hW1]; exact ⟨rfl, rfl, rfl⟩
  obtain ⟨cs, hcs⟩ : ∃ cs, cs = elCells (R.drop i) := ⟨_, rfl⟩
  have hcl : cs.length = (cap - i) * 3 := by rw [hcs, elCells_len, List.length_drop, hn]
  obtain ⟨cur2, hcur2⟩ : ∃ cur2, cur2 = (cur1.toList.take ((i + 1) * 3) ++ (cs ++ cur1.toList.drop ((i + 1) * 3 + cs.length))).toArray := ⟨_, rfl⟩
  have hl1 : cur1.toList.length = G * 3 := by rw [Array.length_toList]; exact hs1
  have hs2 : cur2.size = G * 3 := by
    rw [hcur2, List.size_toArray, List.length_append, List.length_append, List.length_take, List.length_drop, hcl, hl1]
    omega
  have hcp2 : ∀ ty, (Builtin.copy_ #[ 124 , 124 ] ty #[.slice (some ⟨w.heap.size, (i + 1) * 3, none⟩) (cap - i) (G - (i + 1)), .slice (some ⟨g, i * 3, none⟩) (cap - i) (cap - i)]).run Try.prog W1.drew = .ok (goInt ((cap - i : Nat) : Int)) (W1.drew.setRow w.heap.size cur2) := fun ty => by
    have := run_copy_rows W1.drew 124 124 ty 129 3 Try.underlying124 size_el (some ⟨w.heap.size, (i + 1) * 3, none⟩) (some ⟨g, i * 3, none⟩) (cap - i) (G - (i + 1)) (cap - i) (cap - i) w.heap.size ((i + 1) * 3) cur1 129 hg2 cs (cap - i) (by show cap - i = min (cap - i) (cap - i); omega) hcl (fun _ => ⟨rfl, _, rfl, fun j v hv => by
      rw [Addr.add_lit]
      have hj := lt_of_some hv
      rw [hcl] at hj
      rw [hcs, ← elCells_drop, List.getElem?_drop] at hv
      show W1.cell? _ = _
      rw [World.cell?_of_block (w := w) (hold2 g hgw), h.cellAt (i * 3 + j) (by omega)]
      exact hv⟩) (by rw [hcl, hs1]; omega) (by rw [hcs]; exact elCells_one _)
    rw [← hcur2] at this
    exact this
  have ht2 : cur2.toList.take ((cap + 1) * 3) = elCells (R.take i ++ x :: R.drop i) := by
    have e2 : cur1.toList.take ((i + 1) * 3) = elCells (R.take i) ++ elCell x := by
      rw [hcur1, List.toList_toArray, hRt, ← List.append_assoc, List.take_append_of_le_length (by rw [List.length_append, htl, hxl]; omega), List.take_of_length_le (by rw [List.length_append, htl, hxl]; omega)]
    rw [hcur2, List.toList_toArray, e2, ← List.append_assoc, List.take_append_of_le_length (by rw [List.length_append, List.length_append, htl, hxl, hcl]; omega), List.take_of_length_le (by rw [List.length_append, List.length_append, htl, hxl, hcl]; omega), hcs, elCells_app, List.append_assoc]
    rfl
  have HP : Hid ((W1.drew.setRow w.heap.size cur2).ownsRow 0 129 3 (.slice (some ⟨w.heap.size, 0, none⟩) (cap + 1) G) (cap + 1) (elCells (R.take i ++ x :: R.drop i)) ∧ w.grownBy (W1.drew.setRow w.heap.size cur2) (some g)) := by
    have hg3 : (W1.drew.setRow w.heap.size cur2).heap[w.heap.size]? = some (.cells cur2 129 (0, 0)) := setRow_heap _ _ cur1 cur2 _ _ hg2
    refine Lib.hid ⟨⟨?_, .inr ⟨w.heap.size, G, cur2, rfl, Nat.zero_le _, hg3, hGn, hG63, hs2, ht2⟩⟩, hos.1, hos.2.1, hos.2.2, by show w.heap.size ≤ (W1.drew.setRow w.heap.size cur2).heap.size; simp [World.setRow]; omega, fun b hb _ => ?_⟩
    · rw [elCells_len]; congr 1; simp; omega
    · rw [setRow_other _ _ b _ (by omega)]
      exact hold2 b hb
  rw [← hW1] at hcp1
  have ji0 : (0 : Int) ≤ (i : Int) := by omega
  have ji1 : (i : Int) ≤ (cap : Int) := by omega
  have jne : ((i : Int) == (cap : Int)) = false := beq_eq_false_iff_ne.2 (by omega)
  have jroom : (cap : Int) < (cap : Int) + 1 := by omega
  have hni : cap ≠ i := by omega
  have hw1 : IntKind.i64.wrap ((i : Int) + 1) = ((i + 1 : Nat) : Int) := by rw [IntWalk.i64_in _ (by omega)]; omega
  have hi1n : i + 1 ≤ cap + 1 := by omega
  have hin : i ≤ cap := by omega
  have hin1 : i ≤ cap + 1 := by omega
  have hGi : G ≠ i := by omega
  have hGi1 : G ≠ i + 1 := by omega
  have jG : ((cap + 1 : Nat) : Int) ≤ (G : Int) := by omega
  have ji4 : (i : Int) ≤ (cap : Int) + 1 := by omega
  have ji5 : (0 : Int) ≤ (i : Int) + 1 := by omega
  clear h hb hn hg h3 h4 hi0 hz0 hz1 hz2 hG hROW htl hRs hRt hg1 hold1 hcur1 hl0 hxl hs1 hg2 hold2 hz hos hcs hcl hcur2 hl1 hs2 ht2 hW1
  go_enter Try.func148, Try.ntmps148
  go_wp2_with (first
    | (at_builtin; refine Lib.wpList_append_run _ rfl _ _ _ _ rfl _ _ rfl rfl _ _ (hap _) ?_)
    | fail)
  go_region_law (fail)
  all_goals
    go_wp2_with fail
    refine bodyPost_ret (w := W1.drew.setRow w.heap.size cur2) (results_tmp (t := 6) rfl _ _ _) rfl ?_
    exact ⟨G, rfl, HP.out.1, HP.out.2⟩
/-- Insert, anywhere. -/
theorem sinsP (v : Value) (R : List EL) (x : EL) (w : World) (b i : Nat) (h : w.ownsRow 0 129 3 v R.length (elCells R)) (hb : w.heap[b]? = some (.cells #[.int .i64 x.n, .int .i64 x.space, .string ⟨x.name.toArray⟩] 129 (0, 0))) (hi : i ≤ R.length) (hr : R.length ≤ 4294967296) :
    Calls Try.prog 148 #[v, .int .i64 (i : Int), .slice (some ⟨b, 0, none⟩) 1 1] w (InsOut v (R.take i ++ x :: R.drop i) w) := by
  rcases Nat.lt_or_ge i R.length with hlt | hge
  · have hf : ∃ g cap, v = .slice (some ⟨g, 0, none⟩) R.length cap := by
      rcases h.2 with ⟨e, h0⟩ | ⟨g, cap, _, e, _⟩
      · omega
      · exact ⟨g, cap, e⟩
    obtain ⟨g, cap, rfl⟩ := hf
    have hl : (R.take i ++ x :: R.drop i).length = R.length + 1 := by simp; omega
    unfold InsOut
    rw [hl]
    rcases Nat.lt_or_ge cap (R.length + 1) with hc | hc
    · refine (sinsGrowP R x g R.length cap i b w h hb rfl hlt hc hr).mono ?_
      rintro e w' ⟨G, rfl, q1, q2⟩
      refine ⟨_, rfl, q1, q2, fun g' e => .inr ?_⟩
      have e' : w.heap.size = g' := by injection e
      omega
    · refine (sinsShiftP R x g R.length cap i b w h hb rfl hlt hc hr).mono ?_
      rintro e w' ⟨rfl, q1, q2⟩
      exact ⟨_, rfl, q1, q2, fun g' e => .inl e⟩
  · obtain rfl : i = R.length := by omega
    rw [List.take_length, List.drop_length]
    exact sinsEndP v R x w b h hb hr
end Go.Proofs.Ytmhjfbdldpehdaa
namespace Go.Proofs.Ytmhjfbdldpehdaa
open Go.RowKit Go.Maps

def pnZero : PN := ⟨0, 0, [], [], [], 0, 0, 0, 0, 0⟩
set_option maxHeartbeats 1000000 in
set_option maxRecDepth 100000 in
theorem dnodeNone (S : List PN) (B : Nat) (M : Nat → Prop) (w : World) (n : Int) (h : DocM M w B S) (hn : pHas S n = false) : Calls Try.prog 65 #[.pointer (some ⟨B, 0, none⟩), .int .i64 n] w (NodeOut pnZero w) := by
  have HH : Hid (∀ W, Below w.heap.size w W → Calls Try.prog 94 #[.pointer (some ⟨B, 0, none⟩), .int .i64 n] W (Gives (.bool false) W)) := by
    refine Lib.hid fun W b => ?_
    obtain ⟨p, cap, hr⟩ := (h.below b).reads
    have := dhasP S B W p cap n hr
    rwa [hn] at this
  have hb4 : (w.alloc (.cells #[.int .i64 0, .int .i64 0, .string ⟨#[]⟩, .slice none 0 0, .string ⟨#[]⟩, .int .i64 0, .slice none 0 0] 44)).heap[w.heap.size]? = some (.cells #[.int .i64 0, .int .i64 0, .string ⟨#[]⟩, .slice none 0 0, .string ⟨#[]⟩, .int .i64 0, .slice none 0 0] 44 (0, 0)) := heap_alloc_new w _
  have HB4 := Lib.hid hb4
  clear hb4 h hn
  go_enter Try.func65, Try.ntmps65
  go_wp2_with fail
  refine (HH.out _ ((Below.refl _ w).alloc (Nat.le_refl _) _)).mono ?_
  rintro e w1 ⟨rfl, rfl⟩
  go_wp2_with fail
  exact bodyPost_ret (results_cell_row rfl _ _ _ _ _ _ _ rfl HB4.out Try.underlying44 rfl (by kernel_rfl)) rfl ⟨none, 0, rfl, AttrsP.nil _ _ _ _, (Below.refl _ w).alloc (Nat.le_refl _) _⟩
/-- The node of a number, or none. -/
def pNode (S : List PN) (n : Int) : PN := if pHas S n then pget S n else pnZero
theorem dnodeAny (S : List PN) (B : Nat) (M : Nat → Prop) (w : World) (n : Int) (h : DocM M w B S) (ha : ∀ x ∈ S, x.attrs.length ≤ 4294967296) : Calls Try.prog 65 #[.pointer (some ⟨B, 0, none⟩), .int .i64 n] w (NodeOut (pNode S n) w) := by
  cases hn : pHas S n
  · have e : pNode S n = pnZero := by unfold pNode; rw [hn]; rfl
    rw [e]
    exact dnodeNone S B M w n h hn
  · obtain ⟨j, rfl, hj⟩ := pHas_nat hn
    have e : pNode S (j : Int) = S[j] := by unfold pNode; rw [if_pos hn, pget_nat hj]
    rw [e]
    exact dnodeP S B M w j h hj (ha _ (List.getElem_mem hj))
theorem cell_lt {W : World} {g o : Nat} {v : Value} (h : W.cell? ⟨g, o, none⟩ = some v) : g < W.heap.size := by
  rcases Nat.lt_or_ge g W.heap.size with h' | h'
  · exact h'
  · unfold World.cell? at h
    rw [Array.getElem?_eq_none h'] at h
    cases h
variable {M : Nat → Prop} {w w' : World} {B : Nat} {a : SA} {S : List PN} {L : List MK} {R : List EL} {fO : Int → Bool} {fN : List UInt8 → Int} {fo : Bool} {T : Nat}
theorem results_cr {fn : Func} {p u : Tmp} (h : fn.results = #[.cell p 129, .tmp u]) (tmps : Array Value) (w : World) (g : Nat) (t : TypeId) (x0 x1 x2 : Value) (fr : Nat × Nat)
    (hp : tmps.getD p undef = .pointer (some ⟨g, 0, none⟩)) (hg : w.heap[g]? = some (.cells #[x0, x1, x2] t fr)) :
    (results fn tmps).run Try.prog w = .ok (.tuple #[.agg #[x0, x1, x2], tmps.getD u undef]) w := by
  have hp' : tmps[p]?.getD undef = .pointer (some ⟨g, 0, none⟩) := by simpa using hp
  have hl := run_loadVar_row (P := Try.prog) w g t 129 #[x0, x1, x2] fr _ hg Try.underlying129 rfl (by kernel_rfl)
  rw [results_cell_tmp h]
  simp [hp', asAddr, hl, Result.andThen]
/-- The newcomer. -/
def newE (S : List PN) (n : Int) : EL := ⟨n, (pNode S n).space, (pNode S n).name⟩
def mayE (S : List PN) (fO : Int → Bool) (n : Int) : Bool := decide ((pNode S n).kind = 1) && !fO n
set_option maxHeartbeats 4000000 in
set_option maxRecDepth 100000 in
theorem snewcP (h : SiteQ M w B a S L R fO fN fo) (n : Int) (n0 : -9223372036854775808 ≤ n) (n1 : n ≤ 9223372036854775807) (ha : ∀ x ∈ S, x.attrs.length ≤ 4294967296) :
    Calls Try.prog 130 #[.pointer (some ⟨B, 0, none⟩), .int .i64 n] w (Brings (.tuple #[elV (newE S n), .bool (mayE S fO n)]) w) := by
  obtain ⟨DD, hDD⟩ : ∃ DD, DD = a.D := ⟨_, rfl⟩
  have HN : Hid (∀ W, Below w.heap.size w W → Calls Try.prog 65 #[.pointer (some ⟨DD, 0, none⟩), .int .i64 n] W (NodeOut (pNode S n) W)) := Lib.hid fun W hb => by rw [hDD]; exact dnodeAny S a.D a.MD W n (h.below hb).doc ha
  have HO : Hid (∀ W, Below w.heap.size w W → Calls Try.prog 159 #[.pointer (some ⟨B, 0, none⟩), .int .i64 n] W (Brings (.bool (fO n)) W)) := Lib.hid fun W hb => sopenP (h.below hb) n n0 n1
  have c0 : (w.alloc (.cells #[.int .i64 0, .int .i64 0, .string ⟨#[]⟩] 129)).cell? ⟨B, 0, none⟩ = some (.pointer (some ⟨DD, 0, none⟩)) := by rw [hDD]; exact (h.below ((Below.refl _ w).alloc (Nat.le_refl _) _)).c0
  have hB : B < (w.alloc (.cells #[.int .i64 0, .int .i64 0, .string ⟨#[]⟩] 129)).heap.size := (h.below ((Below.refl _ w).alloc (Nat.le_refl _) _)).lt
  have HBW : Hid (Below w.heap.size w (w.alloc (.cells #[.int .i64 0, .int .i64 0, .string ⟨#[]⟩] 129))) := Lib.hid ((Below.refl _ w).alloc (Nat.le_refl _) _)
  have HX : Hid ((w.alloc (.cells #[.int .i64 0, .int .i64 0, .string ⟨#[]⟩] 129)).heap[w.heap.size]? = some (.cells #[.int .i64 0, .int .i64 0, .string ⟨#[]⟩] 129 (0, 0))) := Lib.hid (heap_alloc_new w _)
  have HS : Hid ((w.alloc (.cells #[.int .i64 0, .int .i64 0, .string ⟨#[]⟩] 129)).heap.size = w.heap.size + 1) := Lib.hid (by simp)
  unfold newE mayE elV
  clear h hDD ha
  generalize pNode S n = x at *
  go_enter Try.func130, Try.ntmps130
  go_wp2_with fail
  generalize w.alloc (.cells #[.int .i64 0, .int .i64 0, .string ⟨#[]⟩] 129) = w1 at *
  refine (HN.out w1 HBW.out).mono ?_
  rintro e w2 ⟨p, c, rfl, -, hb2⟩
  go_wp2_with fail
  have b3 : Below w.heap.size w (w2.alloc (.cells #[.int .i64 x.kind, .int .i64 x.space, .string ⟨x.name.toArray⟩, .slice p x.attrs.length c, .string ⟨x.text.toArray⟩, .int .i64 0, .slice none 0 0] 44)) := (HBW.out.trans (hb2.mono HBW.out.size)).alloc (by have := HBW.out.size; have := hb2.size; omega) _
  have k3 : (w2.alloc (.cells #[.int .i64 x.kind, .int .i64 x.space, .string ⟨x.name.toArray⟩, .slice p x.attrs.length c, .string ⟨x.text.toArray⟩, .int .i64 0, .slice none 0 0] 44)).heap[w2.heap.size]? = some (.cells #[.int .i64 x.kind, .int .i64 x.space, .string ⟨x.name.toArray⟩, .slice p x.attrs.length c, .string ⟨x.text.toArray⟩, .int .i64 0, .slice none 0 0] 44 (0, 0)) := heap_alloc_new w2 _
  have k4 : (w2.alloc (.cells #[.int .i64 x.kind, .int .i64 x.space, .string ⟨x.name.toArray⟩, .slice p x.attrs.length c, .string ⟨x.text.toArray⟩, .int .i64 0, .slice none 0 0] 44)).heap[w.heap.size]? = some (.cells #[.int .i64 0, .int .i64 0, .string ⟨#[]⟩] 129 (0, 0)) := by
    have h1 : w.heap.size < w1.heap.size := by have := HS.out; omega
    rw [heap_alloc_old w2 _ (Nat.lt_of_lt_of_le h1 hb2.size), hb2.block _ h1]
    exact HX.out
  generalize w2.alloc (.cells #[.int .i64 x.kind, .int .i64 x.space, .string ⟨x.name.toArray⟩, .slice p x.attrs.length c, .string ⟨x.text.toArray⟩, .int .i64 0, .slice none 0 0] 44) = w3 at *
  have hw2 : w.heap.size < w2.heap.size := by have := HS.out; have := hb2.size; omega
  have HB3 := Lib.hid b3
  obtain ⟨NM, hNM⟩ : ∃ NM : ByteArray, (⟨x.name.toArray⟩ : ByteArray) = NM := ⟨_, rfl⟩
  rw [hNM] at k3 ⊢
  have a3 := fun i => blk_cell k3 i
  have y0 := a3 0
  have y1 := a3 1
  have y2 := a3 2
  simp at y0 y1 y2
  have hxk : (x.kind == 1) = decide (x.kind = 1) := int_one _
  generalize x.space = SP at *
  generalize x.kind = KD at *
  have HS0 : Hid (∀ W, W = w3.drew → (fun W => W.cell? ⟨w2.heap.size, 0, none⟩ = some (.int .i64 KD) ∧ W.cell? ⟨w2.heap.size, 1, none⟩ = some (.int .i64 SP) ∧ W.cell? ⟨w2.heap.size, 2, none⟩ = some (.string NM) ∧ (∃ x0 x1 x2, W.heap[w.heap.size]? = some (.cells #[x0, x1, x2] 129 (0, 0))) ∧ Below w.heap.size w W) W) := Lib.hid fun W e => by
    subst e
    exact ⟨y0, y1, y2, ⟨_, _, _, k4⟩, b3.drew⟩
  have HSB : Hid (∀ W W', (fun W => W.cell? ⟨w2.heap.size, 0, none⟩ = some (.int .i64 KD) ∧ W.cell? ⟨w2.heap.size, 1, none⟩ = some (.int .i64 SP) ∧ W.cell? ⟨w2.heap.size, 2, none⟩ = some (.string NM) ∧ (∃ x0 x1 x2, W.heap[w.heap.size]? = some (.cells #[x0, x1, x2] 129 (0, 0))) ∧ Below w.heap.size w W) W → Below W.heap.size W W' → (fun W => W.cell? ⟨w2.heap.size, 0, none⟩ = some (.int .i64 KD) ∧ W.cell? ⟨w2.heap.size, 1, none⟩ = some (.int .i64 SP) ∧ W.cell? ⟨w2.heap.size, 2, none⟩ = some (.string NM) ∧ (∃ x0 x1 x2, W.heap[w.heap.size]? = some (.cells #[x0, x1, x2] 129 (0, 0))) ∧ Below w.heap.size w W) W') := Lib.hid fun W W' hs hb => by
    obtain ⟨q0, q1, q2, ⟨x0, x1, x2, q3⟩, q4⟩ := hs
    have hl := cell_lt q0
    exact ⟨(hb.cell hl).trans q0, (hb.cell hl).trans q1, (hb.cell hl).trans q2, ⟨x0, x1, x2, (hb.block _ (heap_lt q3)).trans q3⟩, q4.trans (hb.mono q4.size)⟩
  have HFZ : Hid (∀ (W : World) (cs : Array Value), W.heap[w.heap.size]? = some (.cells cs 129 (0, 0)) → ∀ i, W.frozen? ⟨w.heap.size, i, none⟩ = false) := Lib.hid fun W cs q i => by simp [World.frozen?, q]
  have HST : Hid (∀ W, (fun W => W.cell? ⟨w2.heap.size, 0, none⟩ = some (.int .i64 KD) ∧ W.cell? ⟨w2.heap.size, 1, none⟩ = some (.int .i64 SP) ∧ W.cell? ⟨w2.heap.size, 2, none⟩ = some (.string NM) ∧ (∃ x0 x1 x2, W.heap[w.heap.size]? = some (.cells #[x0, x1, x2] 129 (0, 0))) ∧ Below w.heap.size w W) W → (fun W => W.cell? ⟨w2.heap.size, 0, none⟩ = some (.int .i64 KD) ∧ W.cell? ⟨w2.heap.size, 1, none⟩ = some (.int .i64 SP) ∧ W.cell? ⟨w2.heap.size, 2, none⟩ = some (.string NM) ∧ (∃ x0 x1 x2, W.heap[w.heap.size]? = some (.cells #[x0, x1, x2] 129 (0, 0))) ∧ Below w.heap.size w W) (((W.setCell ⟨w.heap.size, 0, none⟩ (.int .i64 n)).setCell ⟨w.heap.size, 1, none⟩ (.int .i64 SP)).setCell ⟨w.heap.size, 2, none⟩ (.string NM)) ∧ (((W.setCell ⟨w.heap.size, 0, none⟩ (.int .i64 n)).setCell ⟨w.heap.size, 1, none⟩ (.int .i64 SP)).setCell ⟨w.heap.size, 2, none⟩ (.string NM)).heap[w.heap.size]? = some (.cells #[.int .i64 n, .int .i64 SP, .string NM] 129 (0, 0))) := Lib.hid fun W hs => by
    obtain ⟨q0, q1, q2, ⟨x0, x1, x2, q3⟩, q4⟩ := hs
    have h5 := set3 (w3 := W) (.int .i64 n) (.int .i64 SP) (.string NM) q3
    have ho : ∀ k, (((W.setCell ⟨w.heap.size, 0, none⟩ (.int .i64 n)).setCell ⟨w.heap.size, 1, none⟩ (.int .i64 SP)).setCell ⟨w.heap.size, 2, none⟩ (.string NM)).cell? ⟨w2.heap.size, k, none⟩ = W.cell? ⟨w2.heap.size, k, none⟩ := fun k => World.cell?_of_block (w := W) (by
      rw [heap_setCell_other _ _ _ _ (by show w2.heap.size ≠ w.heap.size; omega), heap_setCell_other _ _ _ _ (by show w2.heap.size ≠ w.heap.size; omega), heap_setCell_other _ _ _ _ (by show w2.heap.size ≠ w.heap.size; omega)])
    refine ⟨⟨(ho 0).trans q0, (ho 1).trans q1, (ho 2).trans q2, ⟨_, _, _, h5⟩, ?_⟩, h5⟩
    iterate 3 refine Below.setCell ?_ (by simp) _
    exact q4
  clear k3 k4 b3 hb2 c0 hB HBW HX HS HN a3 y0 y1 y2
  by_cases kk : KD = 1
  · have q1 : (KD == 1) = true := by simp [kk]
    have HV : Hid ((decide (KD = 1) && !fO n) = !fO n) := Lib.hid (by simp [kk])
    rw [HV.out]
    clear HV hxk
    refine wp_region_held_drew (S := (fun W => W.cell? ⟨w2.heap.size, 0, none⟩ = some (.int .i64 KD) ∧ W.cell? ⟨w2.heap.size, 1, none⟩ = some (.int .i64 SP) ∧ W.cell? ⟨w2.heap.size, 2, none⟩ = some (.string NM) ∧ (∃ x0 x1 x2, W.heap[w.heap.size]? = some (.cells #[x0, x1, x2] 129 (0, 0))) ∧ Below w.heap.size w W)) (by kernel_rfl) (by exact HS0.out _ rfl) (fun hHeld => ?_)
    refine wpAnyH_take (i := 0) (oi := { dst := some 13, op := Op.move (Operand.tmp 1), type := 3, pos := "site.go:127", after := #[], guard := none }) (v := ?_) rfl (by kernel_rfl) (by kernel_rfl) (by kernel_rfl) (fun _ _ _ h => h) (Or.inl ⟨by rfl, ?_⟩) (by assumption) ?_
    rotate_left
    focus (intro w hSw; (try dsimp only at hSw); go_simp; (try with_reducible rfl))
    try simp only [Act.put, List.setIfInBounds_toArray, List.set_cons_zero, List.set_cons_succ]
    refine wpAnyH_take (i := 1) (oi := { dst := some 14, op := Op.fieldAddr 44 (Operand.tmp 6) 1, type := 0, pos := "site.go:127", after := #[], guard := none }) (v := ?_) rfl (by kernel_rfl) (by kernel_rfl) (by kernel_rfl) (fun _ _ _ h => h) (Or.inl ⟨by rfl, ?_⟩) (by assumption) ?_
    rotate_left
    focus (intro w hSw; (try dsimp only at hSw); go_simp; (try with_reducible rfl))
    try simp only [Act.put, List.setIfInBounds_toArray, List.set_cons_zero, List.set_cons_succ]
    refine wpAnyH_take (i := 2) (oi := { dst := some 15, op := Op.load 3 (Operand.tmp 14), type := 3, pos := "site.go:127", after := #[{ on := 1, ground := Ground.data }], guard := none }) (v := ?_) rfl (by kernel_rfl) (by kernel_rfl) (by kernel_rfl) (fun _ _ _ h => h) (Or.inl ⟨by rfl, ?_⟩) (by assumption) ?_
    rotate_left
    focus (intro w hSw; (try dsimp only at hSw); go_simp; (try with_reducible rfl))
    try simp only [Act.put, List.setIfInBounds_toArray, List.set_cons_zero, List.set_cons_succ]
    refine wpAnyH_take (i := 3) (oi := { dst := some 16, op := Op.fieldAddr 44 (Operand.tmp 6) 2, type := 0, pos := "site.go:127", after := #[], guard := none }) (v := ?_) rfl (by kernel_rfl) (by kernel_rfl) (by kernel_rfl) (fun _ _ _ h => h) (Or.inl ⟨by rfl, ?_⟩) (by assumption) ?_
    rotate_left
    focus (intro w hSw; (try dsimp only at hSw); go_simp; (try with_reducible rfl))
    try simp only [Act.put, List.setIfInBounds_toArray, List.set_cons_zero, List.set_cons_succ]
    refine wpAnyH_take (i := 4) (oi := { dst := some 17, op := Op.load 9 (Operand.tmp 16), type := 9, pos := "site.go:127", after := #[{ on := 3, ground := Ground.data }], guard := none }) (v := ?_) rfl (by kernel_rfl) (by kernel_rfl) (by kernel_rfl) (fun _ _ _ h => h) (Or.inl ⟨by rfl, ?_⟩) (by assumption) ?_
    rotate_left
    focus (intro w hSw; (try dsimp only at hSw); go_simp; (try with_reducible rfl))
    try simp only [Act.put, List.setIfInBounds_toArray, List.set_cons_zero, List.set_cons_succ]
    refine wpAnyH_take (i := 5) (oi := { dst := some 18, op := Op.build 129 #[(0, Operand.tmp 13), (1, Operand.tmp 15), (2, Operand.tmp 17)], type := 129, pos := "site.go:127", after := #[{ on := 0, ground := Ground.data }, { on := 2, ground := Ground.data }, { on := 4, ground := Ground.data }], guard := none }) (v := ?_) rfl (by kernel_rfl) (by kernel_rfl) (by kernel_rfl) (fun _ _ _ h => h) (Or.inl ⟨by rfl, ?_⟩) (by assumption) ?_
    rotate_left
    focus (intro w hSw; (try dsimp only at hSw); go_simp; (try with_reducible rfl))
    try simp only [Act.put, List.setIfInBounds_toArray, List.set_cons_zero, List.set_cons_succ]
    refine wpAnyH_take (i := 6) (oi := { dst := some 19, op := Op.fieldAddr 44 (Operand.tmp 6) 0, type := 0, pos := "site.go:127", after := #[], guard := none }) (v := ?_) rfl (by kernel_rfl) (by kernel_rfl) (by kernel_rfl) (fun _ _ _ h => h) (Or.inl ⟨by rfl, ?_⟩) (by assumption) ?_
    rotate_left
    focus (intro w hSw; (try dsimp only at hSw); go_simp; (try with_reducible rfl))
    try simp only [Act.put, List.setIfInBounds_toArray, List.set_cons_zero, List.set_cons_succ]
    refine wpAnyH_take (i := 7) (oi := { dst := some 20, op := Op.load 3 (Operand.tmp 19), type := 3, pos := "site.go:127", after := #[{ on := 6, ground := Ground.data }], guard := none }) (v := ?_) rfl (by kernel_rfl) (by kernel_rfl) (by kernel_rfl) (fun _ _ _ h => h) (Or.inl ⟨by rfl, ?_⟩) (by assumption) ?_
    rotate_left
    focus (intro w hSw; (try dsimp only at hSw); go_simp; (try with_reducible rfl))
    try simp only [Act.put, List.setIfInBounds_toArray, List.set_cons_zero, List.set_cons_succ]
    refine wpAnyH_take (i := 8) (oi := { dst := some 21, op := Op.binOp BinOp.eql 3 (Operand.tmp 20) (Operand.const (Value.int IntKind.i64 1)) 3, type := 4, pos := "site.go:127", after := #[{ on := 7, ground := Ground.data }], guard := none }) (v := ?_) rfl (by kernel_rfl) (by kernel_rfl) (by kernel_rfl) (fun _ _ _ h => h) (Or.inl ⟨by rfl, ?_⟩) (by assumption) ?_
    rotate_left
    focus (intro w hSw; (try dsimp only at hSw); go_simp; (try with_reducible rfl))
    try simp only [Act.put, List.setIfInBounds_toArray, List.set_cons_zero, List.set_cons_succ]
    refine wpAnyH_take (i := 9) (oi := { dst := some 22, op := Op.move (Operand.tmp 21), type := 4, pos := "site.go:127", after := #[{ on := 8, ground := Ground.data }], guard := none }) (v := ?_) rfl (by kernel_rfl) (by kernel_rfl) (by kernel_rfl) (fun _ _ _ h => h) (Or.inl ⟨by rfl, ?_⟩) (by assumption) ?_
    rotate_left
    focus (intro w hSw; (try dsimp only at hSw); go_simp; (try with_reducible rfl))
    try simp only [Act.put, List.setIfInBounds_toArray, List.set_cons_zero, List.set_cons_succ]
    refine wpAnyH_take (i := 10) (oi := { dst := some 23, op := Op.move (Operand.tmp 0), type := 73, pos := "site.go:127", after := #[{ on := 9, ground := Ground.guard }], guard := some (9, true) }) (v := ?_) rfl (by kernel_rfl) (by kernel_rfl) (by kernel_rfl) (fun _ _ _ h => h) (Or.inl ⟨by rfl, ?_⟩) (by assumption) ?_
    rotate_left
    focus (intro w hSw; (try dsimp only at hSw); go_simp; (try with_reducible rfl))
    try simp only [Act.put, List.setIfInBounds_toArray, List.set_cons_zero, List.set_cons_succ]
    refine wpAnyH_take (i := 11) (oi := { dst := some 24, op := Op.move (Operand.tmp 1), type := 3, pos := "site.go:127", after := #[{ on := 9, ground := Ground.guard }], guard := some (9, true) }) (v := ?_) rfl (by kernel_rfl) (by kernel_rfl) (by kernel_rfl) (fun _ _ _ h => h) (Or.inl ⟨by rfl, ?_⟩) (by assumption) ?_
    rotate_left
    focus (intro w hSw; (try dsimp only at hSw); go_simp; (try with_reducible rfl))
    try simp only [Act.put, List.setIfInBounds_toArray, List.set_cons_zero, List.set_cons_succ]
    refine wpAnyH_ready (rs := [12]) (by kernel_rfl) (by simp) ?_
    refine AllReadyH.cons (o := { dst := some 25, op := Op.call { callee := Callee.value (Operand.func 159), args := #[Operand.tmp 23, Operand.tmp 24], argTypes := #[ 73, 3 ] }, type := 4, pos := "site.go:127", after := #[{ on := 10, ground := Ground.data }, { on := 11, ground := Ground.data }, { on := 9, ground := Ground.chain }, { on := 9, ground := Ground.guard }], guard := some (9, true) }) rfl (fun K hK => ?_) AllReadyH.nil
    go_simp
    refine (HO.out _ hHeld.2.2.2.2).mono ?_
    rintro e w4 ⟨rfl, hb4⟩
    have hS4 := HSB.out _ _ hHeld hb4
    go_wp2_with fail
    refine hK.out _ _ (by exact hS4) (fun hHeld => ?_)
    clear hK K
    try simp only [Act.put, List.setIfInBounds_toArray, List.set_cons_zero, List.set_cons_succ]
    refine wpAnyH_take (i := 13) (oi := { dst := some 26, op := Op.unOp UnOp.not 4 (Operand.tmp 25), type := 4, pos := "site.go:127", after := #[{ on := 12, ground := Ground.data }, { on := 9, ground := Ground.guard }, { on := 15, ground := Ground.gcOnly Departure.lateStores }], guard := some (9, true) }) (v := ?_) rfl (by kernel_rfl) (by kernel_rfl) (by kernel_rfl) (fun _ _ _ h => h) (Or.inl ⟨by rfl, ?_⟩) (by assumption) ?_
    rotate_left
    focus (intro w hSw; (try dsimp only at hSw); go_simp; (try with_reducible rfl))
    try simp only [Act.put, List.setIfInBounds_toArray, List.set_cons_zero, List.set_cons_succ]
    refine wpAnyH_take (i := 14) (oi := { dst := some 27, op := Op.pick (Operand.tmp 22) (Operand.tmp 26) (Operand.const (Value.bool false)), type := 4, pos := "site.go:127", after := #[{ on := 9, ground := Ground.data }, { on := 13, ground := Ground.data }, { on := 15, ground := Ground.gcOnly Departure.lateStores }], guard := none }) (v := ?_) rfl (by kernel_rfl) (by kernel_rfl) (by kernel_rfl) (fun _ _ _ h => h) (Or.inl ⟨by rfl, ?_⟩) (by assumption) ?_
    rotate_left
    focus (intro w hSw; (try dsimp only at hSw); go_simp; (try with_reducible rfl))
    try simp only [Act.put, List.setIfInBounds_toArray, List.set_cons_zero, List.set_cons_succ]
    refine wpAnyH_ready (rs := [15]) (by kernel_rfl) (by simp) ?_
    refine AllReadyH.cons (o := { dst := none, op := Op.store 129 (Operand.tmp 4) (Operand.tmp 18), type := 0, pos := "site.go:127", after := #[{ on := 5, ground := Ground.data }, { on := 12, ground := Ground.chain }, { on := 0, ground := Ground.phase }, { on := 1, ground := Ground.phase }, { on := 2, ground := Ground.phase }, { on := 3, ground := Ground.phase }, { on := 4, ground := Ground.phase }, { on := 5, ground := Ground.phase }, { on := 6, ground := Ground.textOnly Departure.lateStores }, { on := 7, ground := Ground.textOnly Departure.lateStores }, { on := 8, ground := Ground.textOnly Departure.lateStores }, { on := 9, ground := Ground.textOnly Departure.lateStores }, { on := 10, ground := Ground.textOnly Departure.lateStores }, { on := 11, ground := Ground.textOnly Departure.lateStores }, { on := 12, ground := Ground.textOnly Departure.lateStoresUnsure }, { on := 13, ground := Ground.textOnly Departure.lateStores }, { on := 14, ground := Ground.textOnly Departure.lateStores }], guard := none }) rfl (fun K hK => ?_) AllReadyH.nil
    have hS5 := hHeld
    obtain ⟨_, _, _, ⟨x0, x1, x2, hb3⟩, _⟩ := hS5
    have z0 := blk_cell hb3 0
    have z1 := blk_cell hb3 1
    have z2 := blk_cell hb3 2
    simp at z0 z1 z2
    have f0 := HFZ.out _ _ hb3 0
    have f1 := HFZ.out _ _ hb3 1
    have f2 := HFZ.out _ _ hb3 2
    have s5 := heap_lt hb3
    obtain ⟨hS6, hb6⟩ := HST.out _ hHeld
    have HB6 := Lib.hid hb6
    clear hb6 hb3
    go_simp
    refine hK.out _ _ (by exact hS6) (fun hHeld => ?_)
    clear hK K
    try simp only [Act.put, List.setIfInBounds_toArray, List.set_cons_zero, List.set_cons_succ]
    refine wpAnyH_take (i := 16) (oi := { dst := some 5, op := Op.assign (Operand.tmp 27), type := 4, pos := "site.go:127", after := #[{ on := 14, ground := Ground.data }, { on := 15, ground := Ground.chain }, { on := 0, ground := Ground.phase }, { on := 1, ground := Ground.phase }, { on := 2, ground := Ground.phase }, { on := 3, ground := Ground.phase }, { on := 4, ground := Ground.phase }, { on := 5, ground := Ground.phase }, { on := 6, ground := Ground.phase }, { on := 7, ground := Ground.phase }, { on := 8, ground := Ground.phase }, { on := 9, ground := Ground.phase }, { on := 10, ground := Ground.phase }, { on := 11, ground := Ground.phase }, { on := 12, ground := Ground.phase }, { on := 13, ground := Ground.phase }, { on := 14, ground := Ground.phase }, { on := 15, ground := Ground.phase }], guard := none }) (v := ?_) rfl (by kernel_rfl) (by kernel_rfl) (by kernel_rfl) (fun _ _ _ h => h) (Or.inl ⟨by rfl, ?_⟩) (by assumption) ?_
    rotate_left
    focus (intro w hSw; (try dsimp only at hSw); go_simp; (try with_reducible rfl))
    try simp only [Act.put, List.setIfInBounds_toArray, List.set_cons_zero, List.set_cons_succ]
    refine wpAnyH_done (by kernel_rfl) ?_ _
    go_wp2_with fail
    exact bodyPost_ret (results_cr rfl _ _ _ _ _ _ _ _ rfl HB6.out) rfl ⟨by simp [hNM, kk], hHeld.2.2.2.2⟩
  · have q1 : (KD == 1) = false := by simp [kk]
    have HV : Hid ((decide (KD = 1) && !fO n) = false) := Lib.hid (by simp [kk])
    rw [HV.out]
    clear HV hxk
    refine wp_region_held_drew (S := (fun W => W.cell? ⟨w2.heap.size, 0, none⟩ = some (.int .i64 KD) ∧ W.cell? ⟨w2.heap.size, 1, none⟩ = some (.int .i64 SP) ∧ W.cell? ⟨w2.heap.size, 2, none⟩ = some (.string NM) ∧ (∃ x0 x1 x2, W.heap[w.heap.size]? = some (.cells #[x0, x1, x2] 129 (0, 0))) ∧ Below w.heap.size w W)) (by kernel_rfl) (by exact HS0.out _ rfl) (fun hHeld => ?_)
    generalize w3.drew = w4 at *
    refine wpAnyH_take (i := 0) (oi := { dst := some 13, op := Op.move (Operand.tmp 1), type := 3, pos := "site.go:127", after := #[], guard := none }) (v := ?_) rfl (by kernel_rfl) (by kernel_rfl) (by kernel_rfl) (fun _ _ _ h => h) (Or.inl ⟨by rfl, ?_⟩) (by assumption) ?_
    rotate_left
    focus (intro w hSw; (try dsimp only at hSw); go_simp; (try with_reducible rfl))
    try simp only [Act.put, List.setIfInBounds_toArray, List.set_cons_zero, List.set_cons_succ]
    refine wpAnyH_take (i := 1) (oi := { dst := some 14, op := Op.fieldAddr 44 (Operand.tmp 6) 1, type := 0, pos := "site.go:127", after := #[], guard := none }) (v := ?_) rfl (by kernel_rfl) (by kernel_rfl) (by kernel_rfl) (fun _ _ _ h => h) (Or.inl ⟨by rfl, ?_⟩) (by assumption) ?_
    rotate_left
    focus (intro w hSw; (try dsimp only at hSw); go_simp; (try with_reducible rfl))
    try simp only [Act.put, List.setIfInBounds_toArray, List.set_cons_zero, List.set_cons_succ]
    refine wpAnyH_take (i := 2) (oi := { dst := some 15, op := Op.load 3 (Operand.tmp 14), type := 3, pos := "site.go:127", after := #[{ on := 1, ground := Ground.data }], guard := none }) (v := ?_) rfl (by kernel_rfl) (by kernel_rfl) (by kernel_rfl) (fun _ _ _ h => h) (Or.inl ⟨by rfl, ?_⟩) (by assumption) ?_
    rotate_left
    focus (intro w hSw; (try dsimp only at hSw); go_simp; (try with_reducible rfl))
    try simp only [Act.put, List.setIfInBounds_toArray, List.set_cons_zero, List.set_cons_succ]
    refine wpAnyH_take (i := 3) (oi := { dst := some 16, op := Op.fieldAddr 44 (Operand.tmp 6) 2, type := 0, pos := "site.go:127", after := #[], guard := none }) (v := ?_) rfl (by kernel_rfl) (by kernel_rfl) (by kernel_rfl) (fun _ _ _ h => h) (Or.inl ⟨by rfl, ?_⟩) (by assumption) ?_
    rotate_left
    focus (intro w hSw; (try dsimp only at hSw); go_simp; (try with_reducible rfl))
    try simp only [Act.put, List.setIfInBounds_toArray, List.set_cons_zero, List.set_cons_succ]
    refine wpAnyH_take (i := 4) (oi := { dst := some 17, op := Op.load 9 (Operand.tmp 16), type := 9, pos := "site.go:127", after := #[{ on := 3, ground := Ground.data }], guard := none }) (v := ?_) rfl (by kernel_rfl) (by kernel_rfl) (by kernel_rfl) (fun _ _ _ h => h) (Or.inl ⟨by rfl, ?_⟩) (by assumption) ?_
    rotate_left
    focus (intro w hSw; (try dsimp only at hSw); go_simp; (try with_reducible rfl))
    try simp only [Act.put, List.setIfInBounds_toArray, List.set_cons_zero, List.set_cons_succ]
    refine wpAnyH_take (i := 5) (oi := { dst := some 18, op := Op.build 129 #[(0, Operand.tmp 13), (1, Operand.tmp 15), (2, Operand.tmp 17)], type := 129, pos := "site.go:127", after := #[{ on := 0, ground := Ground.data }, { on := 2, ground := Ground.data }, { on := 4, ground := Ground.data }], guard := none }) (v := ?_) rfl (by kernel_rfl) (by kernel_rfl) (by kernel_rfl) (fun _ _ _ h => h) (Or.inl ⟨by rfl, ?_⟩) (by assumption) ?_
    rotate_left
    focus (intro w hSw; (try dsimp only at hSw); go_simp; (try with_reducible rfl))
    try simp only [Act.put, List.setIfInBounds_toArray, List.set_cons_zero, List.set_cons_succ]
    refine wpAnyH_take (i := 6) (oi := { dst := some 19, op := Op.fieldAddr 44 (Operand.tmp 6) 0, type := 0, pos := "site.go:127", after := #[], guard := none }) (v := ?_) rfl (by kernel_rfl) (by kernel_rfl) (by kernel_rfl) (fun _ _ _ h => h) (Or.inl ⟨by rfl, ?_⟩) (by assumption) ?_
    rotate_left
    focus (intro w hSw; (try dsimp only at hSw); go_simp; (try with_reducible rfl))
    try simp only [Act.put, List.setIfInBounds_toArray, List.set_cons_zero, List.set_cons_succ]
    refine wpAnyH_take (i := 7) (oi := { dst := some 20, op := Op.load 3 (Operand.tmp 19), type := 3, pos := "site.go:127", after := #[{ on := 6, ground := Ground.data }], guard := none }) (v := ?_) rfl (by kernel_rfl) (by kernel_rfl) (by kernel_rfl) (fun _ _ _ h => h) (Or.inl ⟨by rfl, ?_⟩) (by assumption) ?_
    rotate_left
    focus (intro w hSw; (try dsimp only at hSw); go_simp; (try with_reducible rfl))
    try simp only [Act.put, List.setIfInBounds_toArray, List.set_cons_zero, List.set_cons_succ]
    refine wpAnyH_take (i := 8) (oi := { dst := some 21, op := Op.binOp BinOp.eql 3 (Operand.tmp 20) (Operand.const (Value.int IntKind.i64 1)) 3, type := 4, pos := "site.go:127", after := #[{ on := 7, ground := Ground.data }], guard := none }) (v := ?_) rfl (by kernel_rfl) (by kernel_rfl) (by kernel_rfl) (fun _ _ _ h => h) (Or.inl ⟨by rfl, ?_⟩) (by assumption) ?_
    rotate_left
    focus (intro w hSw; (try dsimp only at hSw); go_simp; (try with_reducible rfl))
    try simp only [Act.put, List.setIfInBounds_toArray, List.set_cons_zero, List.set_cons_succ]
    refine wpAnyH_take (i := 9) (oi := { dst := some 22, op := Op.move (Operand.tmp 21), type := 4, pos := "site.go:127", after := #[{ on := 8, ground := Ground.data }], guard := none }) (v := ?_) rfl (by kernel_rfl) (by kernel_rfl) (by kernel_rfl) (fun _ _ _ h => h) (Or.inl ⟨by rfl, ?_⟩) (by assumption) ?_
    rotate_left
    focus (intro w hSw; (try dsimp only at hSw); go_simp; (try with_reducible rfl))
    try simp only [Act.put, List.setIfInBounds_toArray, List.set_cons_zero, List.set_cons_succ]
    refine wpAnyH_take (i := 10) (oi := { dst := some 23, op := Op.move (Operand.tmp 0), type := 73, pos := "site.go:127", after := #[{ on := 9, ground := Ground.guard }], guard := some (9, true) }) (v := undef) rfl (by kernel_rfl) (by kernel_rfl) (by kernel_rfl) (fun _ _ _ h => h) (Or.inr ⟨by rfl, rfl⟩) (by assumption) ?_
    simp only [Act.put, List.setIfInBounds_toArray, List.set_cons_zero, List.set_cons_succ]
    refine wpAnyH_take (i := 11) (oi := { dst := some 24, op := Op.move (Operand.tmp 1), type := 3, pos := "site.go:127", after := #[{ on := 9, ground := Ground.guard }], guard := some (9, true) }) (v := undef) rfl (by kernel_rfl) (by kernel_rfl) (by kernel_rfl) (fun _ _ _ h => h) (Or.inr ⟨by rfl, rfl⟩) (by assumption) ?_
    simp only [Act.put, List.setIfInBounds_toArray, List.set_cons_zero, List.set_cons_succ]
    refine wpAnyH_take (i := 12) (oi := { dst := some 25, op := Op.call { callee := Callee.value (Operand.func 159), args := #[Operand.tmp 23, Operand.tmp 24], argTypes := #[ 73, 3 ] }, type := 4, pos := "site.go:127", after := #[{ on := 10, ground := Ground.data }, { on := 11, ground := Ground.data }, { on := 9, ground := Ground.chain }, { on := 9, ground := Ground.guard }], guard := some (9, true) }) (v := undef) rfl (by kernel_rfl) (by kernel_rfl) (by kernel_rfl) (fun _ _ _ h => h) (Or.inr ⟨by rfl, rfl⟩) (by assumption) ?_
    simp only [Act.put, List.setIfInBounds_toArray, List.set_cons_zero, List.set_cons_succ]
    refine wpAnyH_take (i := 13) (oi := { dst := some 26, op := Op.unOp UnOp.not 4 (Operand.tmp 25), type := 4, pos := "site.go:127", after := #[{ on := 12, ground := Ground.data }, { on := 9, ground := Ground.guard }, { on := 15, ground := Ground.gcOnly Departure.lateStores }], guard := some (9, true) }) (v := undef) rfl (by kernel_rfl) (by kernel_rfl) (by kernel_rfl) (fun _ _ _ h => h) (Or.inr ⟨by rfl, rfl⟩) (by assumption) ?_
    simp only [Act.put, List.setIfInBounds_toArray, List.set_cons_zero, List.set_cons_succ]
    refine wpAnyH_take (i := 14) (oi := { dst := some 27, op := Op.pick (Operand.tmp 22) (Operand.tmp 26) (Operand.const (Value.bool false)), type := 4, pos := "site.go:127", after := #[{ on := 9, ground := Ground.data }, { on := 13, ground := Ground.data }, { on := 15, ground := Ground.gcOnly Departure.lateStores }], guard := none }) (v := ?_) rfl (by kernel_rfl) (by kernel_rfl) (by kernel_rfl) (fun _ _ _ h => h) (Or.inl ⟨by rfl, ?_⟩) (by assumption) ?_
    rotate_left
    focus (intro w hSw; (try dsimp only at hSw); go_simp; (try with_reducible rfl))
    try simp only [Act.put, List.setIfInBounds_toArray, List.set_cons_zero, List.set_cons_succ]
    refine wpAnyH_ready (rs := [15]) (by kernel_rfl) (by simp) ?_
    refine AllReadyH.cons (o := { dst := none, op := Op.store 129 (Operand.tmp 4) (Operand.tmp 18), type := 0, pos := "site.go:127", after := #[{ on := 5, ground := Ground.data }, { on := 12, ground := Ground.chain }, { on := 0, ground := Ground.phase }, { on := 1, ground := Ground.phase }, { on := 2, ground := Ground.phase }, { on := 3, ground := Ground.phase }, { on := 4, ground := Ground.phase }, { on := 5, ground := Ground.phase }, { on := 6, ground := Ground.textOnly Departure.lateStores }, { on := 7, ground := Ground.textOnly Departure.lateStores }, { on := 8, ground := Ground.textOnly Departure.lateStores }, { on := 9, ground := Ground.textOnly Departure.lateStores }, { on := 10, ground := Ground.textOnly Departure.lateStores }, { on := 11, ground := Ground.textOnly Departure.lateStores }, { on := 12, ground := Ground.textOnly Departure.lateStoresUnsure }, { on := 13, ground := Ground.textOnly Departure.lateStores }, { on := 14, ground := Ground.textOnly Departure.lateStores }], guard := none }) rfl (fun K hK => ?_) AllReadyH.nil
    have hS5 := hHeld
    obtain ⟨_, _, _, ⟨x0, x1, x2, hb3⟩, _⟩ := hS5
    have z0 := blk_cell hb3 0
    have z1 := blk_cell hb3 1
    have z2 := blk_cell hb3 2
    simp at z0 z1 z2
    have f0 := HFZ.out _ _ hb3 0
    have f1 := HFZ.out _ _ hb3 1
    have f2 := HFZ.out _ _ hb3 2
    have s5 := heap_lt hb3
    obtain ⟨hS6, hb6⟩ := HST.out _ hHeld
    have HB6 := Lib.hid hb6
    clear hb6 hb3
    go_simp
    refine hK.out _ _ (by exact hS6) (fun hHeld => ?_)
    clear hK K
    try simp only [Act.put, List.setIfInBounds_toArray, List.set_cons_zero, List.set_cons_succ]
    refine wpAnyH_take (i := 16) (oi := { dst := some 5, op := Op.assign (Operand.tmp 27), type := 4, pos := "site.go:127", after := #[{ on := 14, ground := Ground.data }, { on := 15, ground := Ground.chain }, { on := 0, ground := Ground.phase }, { on := 1, ground := Ground.phase }, { on := 2, ground := Ground.phase }, { on := 3, ground := Ground.phase }, { on := 4, ground := Ground.phase }, { on := 5, ground := Ground.phase }, { on := 6, ground := Ground.phase }, { on := 7, ground := Ground.phase }, { on := 8, ground := Ground.phase }, { on := 9, ground := Ground.phase }, { on := 10, ground := Ground.phase }, { on := 11, ground := Ground.phase }, { on := 12, ground := Ground.phase }, { on := 13, ground := Ground.phase }, { on := 14, ground := Ground.phase }, { on := 15, ground := Ground.phase }], guard := none }) (v := ?_) rfl (by kernel_rfl) (by kernel_rfl) (by kernel_rfl) (fun _ _ _ h => h) (Or.inl ⟨by rfl, ?_⟩) (by assumption) ?_
    rotate_left
    focus (intro w hSw; (try dsimp only at hSw); go_simp; (try with_reducible rfl))
    try simp only [Act.put, List.setIfInBounds_toArray, List.set_cons_zero, List.set_cons_succ]
    refine wpAnyH_done (by kernel_rfl) ?_ _
    go_wp2_with fail
    exact bodyPost_ret (results_cr rfl _ _ _ _ _ _ _ _ rfl HB6.out) rfl ⟨rfl, hHeld.2.2.2.2⟩
end Go.Proofs.Ytmhjfbdldpehdaa
namespace Go.Proofs.Ytmhjfbdldpehdaa
open Go.RowKit Go.Maps

variable {M : Nat → Prop} {w w' : World} {B : Nat} {a : SA} {S : List PN} {L : List MK} {R : List EL} {fO : Int → Bool} {fN : List UInt8 → Int} {fo : Bool} {T : Nat}
theorem senterAtM (h : SiteM M w B S L R fo T) (x : EL) (i : Nat) (hi : i ≤ R.length) (hr : R.length ≤ 4294967296) (hT : T < 4294967296) (hx0 : -9223372036854775808 ≤ x.n) (hx1 : x.n ≤ 9223372036854775807) (hxn : x.name.length ≤ 4294967296) :
    Calls Try.prog 117 #[.pointer (some ⟨B, 0, none⟩), .int .i64 (i : Int), elV x] w (SiteOut M w B S L (R.take i ++ x :: R.drop i) fo (T + 1) (.tuple #[])) := by
  obtain ⟨a, h, k⟩ := h
  have hm : (4294967296 : Nat) ≤ maxLen := by decide
  refine (senter_of h x i (R.take i ++ x :: R.drop i) (by omega) (by omega) hx0 hx1 hxn (fun s => ?_) (by simp; omega) (fun W b hrow hb => sinsP a.v R x W b i hrow hb hi hr)).mono ?_
  · have := elNamed_le R s
    omega
  · intro e w' q
    have e1 : R.take i ++ R.drop i = R := List.take_append_drop i R
    exact SiteM.entered (A := R.take i) (C := R.drop i) k (by rw [e1]; exact q)
/-- A node put at a place of the row. -/
def putS (S : List PN) (R : List EL) (i n : Int) : List EL × Bool :=
  if mayE S (elOpen R) n = true ∧ 0 < i ∧ i ≤ R.length then (R.take i.toNat ++ newE S n :: R.drop i.toNat, true) else (R, false)
set_option maxHeartbeats 1000000 in
set_option maxRecDepth 100000 in
theorem sputP (h : SiteM M w B S L R fo T) (i n : Int) (hr : R.length ≤ 4294967296) (hT : T < 4294967296) (n0 : -9223372036854775808 ≤ n) (n1 : n ≤ 9223372036854775807) (ha : ∀ x ∈ S, x.attrs.length ≤ 4294967296) (hnm : (newE S n).name.length ≤ 4294967296) :
    Calls Try.prog 67 #[.pointer (some ⟨B, 0, none⟩), .int .i64 i, .int .i64 n] w (SiteOut M w B S L (putS S R i n).1 fo (T + 1) (.bool (putS S R i n).2)) := by
  have HM := Lib.hid h
  have HN : Hid (Calls Try.prog 130 #[.pointer (some ⟨B, 0, none⟩), .int .i64 n] w (Brings (.tuple #[elV (newE S n), .bool (mayE S (elOpen R) n)]) w)) := Lib.hid (by
    obtain ⟨a, h, _⟩ := h
    exact snewcP h n n0 n1 ha)
  have HE : Hid (∀ W, Below w.heap.size w W → ∀ j : Nat, j ≤ R.length → Calls Try.prog 117 #[.pointer (some ⟨B, 0, none⟩), .int .i64 (j : Int), elV (newE S n)] W (SiteOut M w B S L (R.take j ++ newE S n :: R.drop j) fo (T + 1) (.tuple #[]))) := Lib.hid fun W hb j hj => (senterAtM (h.below hb) (newE S n) j hj hr hT n0 n1 hnm).mono fun _ _ q => q.ahead hb
  have HR : Hid (∀ W, Below w.heap.size w W → ∃ p c, W.cell? ⟨B, 2, none⟩ = some (.slice p R.length c) ∧ B < W.heap.size) := Lib.hid fun W hb => (h.below hb).rowAt
  clear h
  cases hm : mayE S (elOpen R) n
  · have HZ : Hid (putS S R i n = (R, false)) := Lib.hid (by unfold putS; rw [hm]; simp)
    rw [HZ.out]
    rw [hm] at HN
    clear HZ hm HE HR
    unfold elV at *
    generalize newE S n = x at *
    go_enter Try.func67, Try.ntmps67
    go_wp2_with fail
    refine HN.out.mono ?_
    rintro e w2 ⟨rfl, hb⟩
    have HB := Lib.hid (hb.alloc hb.size (.cells #[.int .i64 x.n, .int .i64 x.space, .string ⟨x.name.toArray⟩] 129))
    clear hb
    go_wp2_with fail
    go_ret
    exact (HM.out.out HB.out).more (Nat.le_succ _)
  · rw [hm] at HN
    by_cases k : 0 < i
    · by_cases k2 : i ≤ R.length
      · have HZ : Hid (putS S R i n = (R.take i.toNat ++ newE S n :: R.drop i.toNat, true)) := Lib.hid (by unfold putS; rw [if_pos ⟨hm, k, k2⟩])
        rw [HZ.out]
        obtain ⟨j, rfl⟩ : ∃ j : Nat, i = (j : Int) := ⟨i.toNat, by omega⟩
        have HI : Hid ((j : Int).toNat = j) := Lib.hid (by simp)
        rw [HI.out]
        clear HZ hm HM
        unfold elV at *
        generalize hx : newE S n = x at *
        clear hx
        go_enter Try.func67, Try.ntmps67
        go_wp2_with fail
        refine HN.out.mono ?_
        rintro e w2 ⟨rfl, hb⟩
        obtain ⟨p, c, c2, hB2⟩ := HR.out w2 hb
        have HB := Lib.hid (hb.alloc hb.size (.cells #[.int .i64 x.n, .int .i64 x.space, .string ⟨x.name.toArray⟩] 129))
        have HC := Lib.hid (HE.out _ (hb.alloc hb.size (.cells #[.int .i64 x.n, .int .i64 x.space, .string ⟨x.name.toArray⟩] 129)) j (by omega))
        clear hb
        go_wp2_with fail
        refine HC.out.mono ?_
        rintro e w3 ⟨rfl, d, t⟩
        have HD := Lib.hid d
        have HT := Lib.hid t
        clear d t
        go_wp2_with fail
        go_ret
        exact ⟨rfl, HD.out, HT.out⟩
      · have HZ : Hid (putS S R i n = (R, false)) := Lib.hid (by unfold putS; rw [if_neg (fun q => k2 q.2.2)])
        rw [HZ.out]
        clear HZ hm HE
        unfold elV at *
        generalize newE S n = x at *
        go_enter Try.func67, Try.ntmps67
        go_wp2_with fail
        refine HN.out.mono ?_
        rintro e w2 ⟨rfl, hb⟩
        obtain ⟨p, c, c2, hB2⟩ := HR.out w2 hb
        have HB := Lib.hid (hb.alloc hb.size (.cells #[.int .i64 x.n, .int .i64 x.space, .string ⟨x.name.toArray⟩] 129))
        clear hb
        go_wp2_with fail
        go_ret
        exact (HM.out.out HB.out).more (Nat.le_succ _)
    · have HZ : Hid (putS S R i n = (R, false)) := Lib.hid (by unfold putS; rw [if_neg (fun q => k q.2.1)])
      rw [HZ.out]
      clear HZ hm HE HR
      unfold elV at *
      generalize newE S n = x at *
      go_enter Try.func67, Try.ntmps67
      go_wp2_with fail
      refine HN.out.mono ?_
      rintro e w2 ⟨rfl, hb⟩
      have HB := Lib.hid (hb.alloc hb.size (.cells #[.int .i64 x.n, .int .i64 x.space, .string ⟨x.name.toArray⟩] 129))
      clear hb
      go_wp2_with fail
      go_ret
      exact (HM.out.out HB.out).more (Nat.le_succ _)
set_option maxHeartbeats 1000000 in
set_option maxRecDepth 100000 in
theorem spushP (h : SiteM M w B S L R fo T) (n : Int) (hr : R.length ≤ 4294967296) (hT : T < 4294967296) (n0 : -9223372036854775808 ≤ n) (n1 : n ≤ 9223372036854775807) (ha : ∀ x ∈ S, x.attrs.length ≤ 4294967296) (hnm : (newE S n).name.length ≤ 4294967296) :
    Calls Try.prog 70 #[.pointer (some ⟨B, 0, none⟩), .int .i64 n] w (SiteOut M w B S L (putS S R R.length n).1 fo (T + 1) (.bool (putS S R R.length n).2)) := by
  have HP := Lib.hid (sputP h (R.length : Int) n hr hT n0 n1 ha hnm)
  obtain ⟨p, c, c2, hB⟩ := h.rowAt
  clear h
  generalize putS S R R.length n = r at *
  go_enter Try.func70, Try.ntmps70
  go_wp2_with fail
  refine HP.out.mono ?_
  rintro e w3 ⟨rfl, d, t⟩
  have HD := Lib.hid d
  have HT := Lib.hid t
  clear d t
  go_wp2_with fail
  go_ret
  exact ⟨rfl, HD.out, HT.out⟩
/-- One node in the place of another. -/
def swapS (S : List PN) (R : List EL) (n m : Int) : List EL × Bool :=
  if mayE S (elOpen R) m = true ∧ 0 < placeS R n then ((R.eraseIdx (placeS R n).toNat).take (placeS R n).toNat ++ newE S m :: (R.eraseIdx (placeS R n).toNat).drop (placeS R n).toNat, true) else (R, false)
set_option maxHeartbeats 1000000 in
set_option maxRecDepth 100000 in
theorem sswapP (h : SiteM M w B S L R fo T) (n m : Int) (h0 : 0 < R.length) (hr : R.length ≤ 4294967296) (hT : T + 1 < 4294967296) (hf : Fit R) (n0 : -9223372036854775808 ≤ n) (n1 : n ≤ 9223372036854775807) (m0 : -9223372036854775808 ≤ m) (m1 : m ≤ 9223372036854775807) (ha : ∀ x ∈ S, x.attrs.length ≤ 4294967296) (hnm : (newE S m).name.length ≤ 4294967296) :
    Calls Try.prog 68 #[.pointer (some ⟨B, 0, none⟩), .int .i64 n, .int .i64 m] w (SiteOut M w B S L (swapS S R n m).1 fo (T + 2) (.bool (swapS S R n m).2)) := by
  have HM := Lib.hid h
  have HP : Hid (Calls Try.prog 131 #[.pointer (some ⟨B, 0, none⟩), .int .i64 n] w (Brings (.int .i64 (placeS R n)) w)) := Lib.hid (by
    obtain ⟨a, h, _⟩ := h
    exact splaceP h n h0 hr n0 n1)
  have HN : Hid (∀ W, Below w.heap.size w W → Calls Try.prog 130 #[.pointer (some ⟨B, 0, none⟩), .int .i64 m] W (Brings (.tuple #[elV (newE S m), .bool (mayE S (elOpen R) m)]) W)) := Lib.hid fun W hb => by
    obtain ⟨a, h, _⟩ := h.below hb
    exact snewcP h m m0 m1 ha
  have hp := placeS_lt (n := n) h0
  have HF := Lib.hid hf
  have HEN : Hid (∀ (N : Nat → Prop) W (i : Nat), i < R.length → SiteM N W B S L (R.eraseIdx i) fo (T + 1) → Calls Try.prog 117 #[.pointer (some ⟨B, 0, none⟩), .int .i64 (i : Int), elV (newE S m)] W (SiteOut N W B S L ((R.eraseIdx i).take i ++ newE S m :: (R.eraseIdx i).drop i) fo (T + 1 + 1) (.tuple #[]))) := Lib.hid fun N W i hi q => by
    have hl : (R.eraseIdx i).length = R.length - 1 := by rw [List.length_eraseIdx, if_pos hi]
    exact senterAtM q (newE S m) i (by omega) (by omega) hT m0 m1 hnm
  have HL : Hid (∀ W, Below w.heap.size w W → ∀ i : Nat, i < R.length → Calls Try.prog 132 #[.pointer (some ⟨B, 0, none⟩), .int .i64 (i : Int)] W (SiteOut (fun b => M b ∧ b < w.heap.size) W B S L (R.eraseIdx i) fo (T + 1) (.tuple #[]))) := Lib.hid fun W hb i hi => sleaveM ((h.mono (N := fun b => M b ∧ b < w.heap.size) (fun b hb k => ⟨k, hb⟩)).below hb) i hi hr (by omega) hf
  clear h hf
  cases hm : mayE S (elOpen R) m
  · have HZ : Hid (swapS S R n m = (R, false)) := Lib.hid (by unfold swapS; rw [hm]; simp)
    rw [HZ.out]
    rw [hm] at HN
    clear HZ hm HEN HL hp
    generalize placeS R n = i at *
    unfold elV at *
    generalize newE S m = x at *
    go_enter Try.func68, Try.ntmps68
    go_wp2_with fail
    refine HP.out.mono ?_
    rintro e w1 ⟨rfl, hb1⟩
    have HB1 := Lib.hid hb1
    have HN1 := Lib.hid (HN.out w1 hb1)
    clear hb1
    go_wp2_with fail
    refine HN1.out.mono ?_
    rintro e w2 ⟨rfl, hb⟩
    have HB := Lib.hid ((HB1.out.trans (hb.mono HB1.out.size)).alloc (Nat.le_trans HB1.out.size hb.size) (.cells #[.int .i64 x.n, .int .i64 x.space, .string ⟨x.name.toArray⟩] 129))
    clear hb
    go_wp2_with fail
    go_ret
    exact (HM.out.out HB.out).more (by omega)
  · rw [hm] at HN
    by_cases k : 0 < placeS R n
    · obtain ⟨i, hi⟩ : ∃ i : Nat, placeS R n = (i : Int) := ⟨(placeS R n).toNat, by omega⟩
      have HZ : Hid (swapS S R n m = ((R.eraseIdx i).take i ++ newE S m :: (R.eraseIdx i).drop i, true)) := Lib.hid (by
        unfold swapS
        rw [if_pos ⟨hm, k⟩, hi, Int.toNat_natCast])
      rw [HZ.out]
      rw [hi] at HP k hp
      clear HZ hm HM hi
      unfold elV at *
      generalize hx : newE S m = x at *
      clear hx
      go_enter Try.func68, Try.ntmps68
      go_wp2_with fail
      refine HP.out.mono ?_
      rintro e w1 ⟨rfl, hb1⟩
      have HB1 := Lib.hid hb1
      have HN1 := Lib.hid (HN.out w1 hb1)
      clear hb1
      go_wp2_with fail
      refine HN1.out.mono ?_
      rintro e w2 ⟨rfl, hb⟩
      have HB := Lib.hid ((HB1.out.trans (hb.mono HB1.out.size)).alloc (Nat.le_trans HB1.out.size hb.size) (.cells #[.int .i64 x.n, .int .i64 x.space, .string ⟨x.name.toArray⟩] 129))
      have hw2 : w.heap.size ≤ w2.heap.size := Nat.le_trans HB1.out.size hb.size
      have hX : (w2.alloc (.cells #[.int .i64 x.n, .int .i64 x.space, .string ⟨x.name.toArray⟩] 129)).heap[w2.heap.size]? = some (.cells #[.int .i64 x.n, .int .i64 x.space, .string ⟨x.name.toArray⟩] 129) := heap_alloc_new w2 _
      have HC := Lib.hid (HL.out _ HB.out i (by omega))
      clear hb
      go_wp2_with fail
      refine HC.out.mono ?_
      rintro e w3 ⟨rfl, d, t⟩
      have HD := Lib.hid d
      have HT := Lib.hid t
      clear d t
      have h3 := (HT.out.block w2.heap.size (by simp) (fun q => absurd q.2 (by omega))).trans hX
      have a3 := fun i => blk_cell h3 i
      have y0 := a3 0
      have y1 := a3 1
      have y2 := a3 2
      simp at y0 y1 y2
      clear a3 h3 hX
      have HC4 := Lib.hid (HEN.out _ w3 i (by omega) HD.out)
      go_wp2_with fail
      refine HC4.out.mono ?_
      rintro e w4 ⟨rfl, d, t⟩
      have HD4 := Lib.hid d
      have HT4 := Lib.hid t
      clear d t
      go_wp2_with fail
      go_ret
      obtain ⟨_, d, t⟩ := SiteOut.then_ (v := .tuple #[]) ⟨rfl, HD4.out, HT4.out⟩ HT.out
      exact ⟨rfl, (SiteOut.ahead (M := M) (v := .tuple #[]) ⟨rfl, d.mono (fun b _ k => k.imp And.left id), t.mono (fun b _ k => k.1)⟩ HB.out).2⟩
    · have HZ : Hid (swapS S R n m = (R, false)) := Lib.hid (by unfold swapS; rw [if_neg (fun q => k q.2)])
      rw [HZ.out]
      clear HZ hm HEN HL hp
      generalize placeS R n = i at *
      unfold elV at *
      generalize newE S m = x at *
      go_enter Try.func68, Try.ntmps68
      go_wp2_with fail
      refine HP.out.mono ?_
      rintro e w1 ⟨rfl, hb1⟩
      have HB1 := Lib.hid hb1
      have HN1 := Lib.hid (HN.out w1 hb1)
      clear hb1
      go_wp2_with fail
      refine HN1.out.mono ?_
      rintro e w2 ⟨rfl, hb⟩
      have HB := Lib.hid ((HB1.out.trans (hb.mono HB1.out.size)).alloc (Nat.le_trans HB1.out.size hb.size) (.cells #[.int .i64 x.n, .int .i64 x.space, .string ⟨x.name.toArray⟩] 129))
      clear hb
      go_wp2_with fail
      go_ret
      exact (HM.out.out HB.out).more (by omega)
end Go.Proofs.Ytmhjfbdldpehdaa
namespace Go.Proofs.Ytmhjfbdldpehdaa
open Go.RowKit Go.Maps

variable {M : Nat → Prop} {w w' : World} {B : Nat} {a : SA} {S : List PN} {L : List MK} {R : List EL} {fO : Int → Bool} {fN : List UInt8 → Int} {fo : Bool} {T : Nat}
/-- The numbers of a row, the first k of them laid. -/
def numsTo (R : List EL) (k : Nat) : List Value := (R.take k).map (fun x => Value.int .i64 x.n) ++ List.replicate (R.length - k) (Value.int .i64 0)
theorem numsTo_length {k : Nat} (h : k ≤ R.length) : (numsTo R k).length = R.length := by simp [numsTo]; omega
theorem numsTo_set {k : Nat} (h : k < R.length) : (numsTo R k).set k (.int .i64 R[k].n) = numsTo R (k + 1) := by
  have e : R.length - k = (R.length - (k + 1)) + 1 := by omega
  have hl : (List.map (fun x : EL => Value.int .i64 x.n) (R.take k)).length = k := by simp; omega
  unfold numsTo
  rw [e, List.replicate_succ, List.set_append_right _ _ (by omega), hl, Nat.sub_self, List.set_cons_zero, List.take_succ_eq_append_getElem h, List.map_append, List.append_assoc]
  rfl
theorem numsTo_at {k : Nat} (h : k < R.length) : (numsTo R k)[k]? = some (.int .i64 0) := by
  have e : R.length - k = (R.length - (k + 1)) + 1 := by omega
  have hl : (List.map (fun x : EL => Value.int .i64 x.n) (R.take k)).length = k := by simp; omega
  unfold numsTo
  rw [e, List.replicate_succ, List.getElem?_append_right (by omega), hl, Nat.sub_self]
  rfl
def numsRow (R : List EL) (b g k : Nat) (w : World) : Prop := w.ownsRow b 3 1 (.slice (some ⟨g, 0, none⟩) R.length R.length) R.length (numsTo R k)
def NumsOut (R : List EL) (w : World) (e : Ending) (w' : World) : Prop :=
  e = .returned (.slice (some ⟨w.heap.size, 0, none⟩) R.length R.length) ∧ numsRow R w.heap.size w.heap.size R.length w' ∧ Below w.heap.size w w'
set_option maxHeartbeats 1000000 in
set_option maxRecDepth 100000 in
theorem sOpenRowP (h : SiteQ M w B a S L R fO fN fo) (h0 : 0 < R.length) (hr : R.length ≤ 4294967296) :
    Calls Try.prog 62 #[.pointer (some ⟨B, 0, none⟩)] w (NumsOut R w) := by
  obtain ⟨g, cap, e⟩ := h.pos h0
  have HQ := Lib.hid h
  have HE := Lib.hid e
  have c2 := h.c2
  rw [e] at c2
  have hB := h.lt
  clear h e
  obtain ⟨i0, hi0, hz0, hs0, hb0⟩ := info_int
  obtain ⟨w1, hmk, hown, hgr⟩ := run_make_full (P := Try.prog) w w.heap.size 32 3 i0 (.int .i64 0) 1 Try.underlying32 hi0 hz0 hs0 .i64 .i64 R.length (by rw [hb0]; omega) (by unfold maxLen; omega) (Nat.le_refl _)
  have HB1 : Hid (Below w.heap.size w w1) := Lib.hid ⟨hgr.os, hgr.tape, hgr.output, hgr.size, fun q hq => hgr.block q hq (by simp)⟩
  have HR1 : Hid (numsRow R w.heap.size w.heap.size 0 w1) := Lib.hid (by
    have e1 : (madeCells (Value.int IntKind.i64 0).cells (R.length * 1)).toList = numsTo R 0 := by
      rw [Nat.mul_one]
      exact toList_madeCells_one _ _
    rw [e1] at hown
    exact hown)
  clear hi0 hz0 hs0 hb0 hown hgr
  have d2 : w1.cell? ⟨B, 2, none⟩ = some (.slice (some ⟨g, 0, none⟩) R.length cap) := (HB1.out.cell hB).trans c2
  have hB1 : B < w1.heap.size := Nat.lt_of_lt_of_le hB HB1.out.size
  generalize hG : w.heap.size = G at *
  have HG := Lib.hid hG
  clear hG
  go_enter Try.func62, Try.ntmps62
  go_wp2_with fail
  go_loopw [16] (fun i wr => ∃ k : Nat, k ≤ R.length ∧ i = .int .i64 (k : Int) ∧ numsRow R G G k wr ∧ Below G w wr) (fun i _ => R.length - (intOf i).toNat)
  case atStart => exact ⟨0, Nat.zero_le _, rfl, HR1.out, HB1.out⟩
  case round =>
    obtain ⟨k, hk, rfl, hrow, hb⟩ := hrel
    have h' := HQ.out.below (by rw [HG.out]; exact hb)
    have c2 := h'.c2
    rw [HE.out] at c2
    have hB := h'.lt
    by_cases hlt : k < R.length
    · obtain ⟨y0, e0, _, _⟩ := h'.el HE.out k hlt
      have hcap := h'.cap_le HE.out
      have z0 := (hrow.cellAt k (by omega)).trans (numsTo_at hlt)
      have z1 := hrow.frozenAt k
      have zl := (hrow.lt G rfl).2
      have HR2 := Lib.hid ((hrow.stored k (.int .i64 R[k].n)).1)
      have HB2 := Lib.hid ((hrow.stored k (.int .i64 R[k].n)).2)
      have HBB := Lib.hid hb
      have j0 : (0 : Int) ≤ (k : Int) := by omega
      have j1 : (k : Int) < (R.length : Int) := by omega
      have HX := Lib.hid (numsTo_set hlt)
      clear h' hrow hb
      generalize R[k].n = X at *
      go_wp2_with fail
      refine ⟨⟨k + 1, by omega, by go_num, ?_, ?_⟩, by simp [intOf]; omega⟩
      · have := HR2.out
        rw [HX.out] at this
        exact this
      · exact HBB.out.setCell (by simp) _
    · have hkr : k = R.length := by omega
      subst hkr
      have HRR := Lib.hid hrow
      have HBB := Lib.hid hb
      clear h' hrow hb
      go_wp2_with fail
      go_ret
      exact ⟨by rw [HG.out]; rfl, by rw [HG.out]; exact HRR.out, by rw [HG.out]; exact HBB.out⟩
end Go.Proofs.Ytmhjfbdldpehdaa
namespace Go.Proofs.Ytmhjfbdldpehdaa
open Go.RowKit

structure RowC (m : Nat) (C : List EL) : Prop where
  once : (C.map (·.n)).Nodup
  num : ∀ x ∈ C, 1 ≤ x.n ∧ x.n ≤ 6
  name : ∀ x ∈ C, x.name.length ≤ 1
  len : C.length ≤ m
def RowOk (m : Nat) (R : List EL) : Prop := ∃ C, R = elRoot :: C ∧ RowC m C
theorem RowC.cut {m : Nat} {A D : List EL} {x : EL} (h : RowC m (A ++ x :: D)) : RowC m (A ++ D) ∧ x.n ∉ (A ++ D).map (·.n) := by
  obtain ⟨h1, h2, h3, h4⟩ := h
  rw [List.map_append, List.map_cons, List.nodup_append] at h1
  obtain ⟨a1, a2, a3⟩ := h1
  rw [List.nodup_cons] at a2
  refine ⟨⟨?_, fun y hy => h2 y ?_, fun y hy => h3 y ?_, ?_⟩, ?_⟩
  · rw [List.map_append, List.nodup_append]
    exact ⟨a1, a2.2, fun p hp q hq => a3 p hp q (List.mem_cons_of_mem _ hq)⟩
  · rcases List.mem_append.1 hy with k | k
    · exact List.mem_append_left _ k
    · exact List.mem_append_right _ (List.mem_cons_of_mem _ k)
  · rcases List.mem_append.1 hy with k | k
    · exact List.mem_append_left _ k
    · exact List.mem_append_right _ (List.mem_cons_of_mem _ k)
  · simp at h4 ⊢; omega
  · intro k
    rw [List.map_append] at k
    rcases List.mem_append.1 k with k | k
    · exact a3 _ k _ List.mem_cons_self rfl
    · exact a2.1 k
theorem RowC.put {m : Nat} {A D : List EL} {x : EL} (h : RowC m (A ++ D)) (hx : x.n ∉ (A ++ D).map (·.n)) (h1 : 1 ≤ x.n) (h2 : x.n ≤ 6) (h3 : x.name.length ≤ 1) : RowC (m + 1) (A ++ x :: D) := by
  obtain ⟨b1, b2, b3, b4⟩ := h
  rw [List.map_append] at hx b1
  rw [List.nodup_append] at b1
  obtain ⟨a1, a2, a3⟩ := b1
  refine ⟨?_, fun y hy => ?_, fun y hy => ?_, by simp at b4 ⊢; omega⟩
  · rw [List.map_append, List.map_cons, List.nodup_append, List.nodup_cons]
    refine ⟨a1, ⟨fun k => hx (List.mem_append_right _ k), a2⟩, fun p hp q hq => ?_⟩
    rcases List.mem_cons.1 hq with rfl | k
    · exact fun e => hx (List.mem_append_left _ (e ▸ hp))
    · exact a3 p hp q k
  · rcases List.mem_append.1 hy with k | k
    · exact b2 y (List.mem_append_left _ k)
    · rcases List.mem_cons.1 k with rfl | k
      · exact ⟨h1, h2⟩
      · exact b2 y (List.mem_append_right _ k)
  · rcases List.mem_append.1 hy with k | k
    · exact b3 y (List.mem_append_left _ k)
    · rcases List.mem_cons.1 k with rfl | k
      · exact h3
      · exact b3 y (List.mem_append_right _ k)
theorem RowC.more {m n : Nat} {C : List EL} (h : RowC m C) (k : m ≤ n) : RowC n C := ⟨h.once, h.num, h.name, Nat.le_trans h.len k⟩
theorem RowOk.more {m n : Nat} {R : List EL} (h : RowOk m R) (k : m ≤ n) : RowOk n R := by
  obtain ⟨C, e, h⟩ := h
  exact ⟨C, e, h.more k⟩
theorem RowOk.start : RowOk 0 [elRoot] := ⟨[], rfl, ⟨List.nodup_nil, fun _ h => absurd h (by simp), fun _ h => absurd h (by simp), Nat.le_refl _⟩⟩
theorem RowOk.pos {m : Nat} {R : List EL} (h : RowOk m R) : 0 < R.length := by
  obtain ⟨C, rfl, _⟩ := h
  simp
theorem RowOk.len {m : Nat} {R : List EL} (h : RowOk m R) : R.length ≤ m + 1 := by
  obtain ⟨C, rfl, h⟩ := h
  have := h.len
  simp; omega
theorem RowOk.fit {m : Nat} {R : List EL} (h : RowOk m R) : Fit R := by
  obtain ⟨C, rfl, h⟩ := h
  refine ⟨?_, fun x hx => ?_, fun x hx => ?_⟩
  · rw [List.map_cons, List.nodup_cons]
    refine ⟨fun k => ?_, h.once⟩
    obtain ⟨x, hx, e⟩ := List.mem_map.1 k
    have := (h.num x hx).1
    have e2 : elRoot.n = 0 := rfl
    rw [e2] at e
    omega
  · rcases List.mem_cons.1 hx with rfl | k
    · exact ⟨by decide, by decide⟩
    · have := h.num x k
      omega
  · rcases List.mem_cons.1 hx with rfl | k
    · exact by decide
    · have := h.name x k
      omega
theorem RowOk.erase {m i : Nat} {R : List EL} (h : RowOk m R) (h0 : 0 < i) (hi : i < R.length) : RowOk m (R.eraseIdx i) := by
  obtain ⟨C, rfl, h⟩ := h
  obtain ⟨j, rfl⟩ : ∃ j, i = j + 1 := ⟨i - 1, by omega⟩
  have hj : j < C.length := by simpa using hi
  rw [List.eraseIdx_cons_succ]
  refine ⟨_, rfl, ?_⟩
  obtain ⟨e1, e2⟩ := split_at hj
  rw [e2]
  rw [e1] at h
  exact h.cut.1
theorem RowOk.insert {m i : Nat} {R : List EL} {x : EL} (h : RowOk m R) (h0 : 0 < i) (hi : i ≤ R.length) (hx : elOpen R x.n = false) (h1 : 1 ≤ x.n) (h2 : x.n ≤ 6) (h3 : x.name.length ≤ 1) : RowOk (m + 1) (R.take i ++ x :: R.drop i) := by
  obtain ⟨C, rfl, h⟩ := h
  obtain ⟨j, rfl⟩ : ∃ j, i = j + 1 := ⟨i - 1, by omega⟩
  rw [List.take_succ_cons, List.drop_succ_cons, List.cons_append]
  refine ⟨_, rfl, ?_⟩
  have e : C.take j ++ C.drop j = C := List.take_append_drop j C
  refine RowC.put (by rw [e]; exact h) (by
    rw [e]
    intro k
    obtain ⟨y, hy, ey⟩ := List.mem_map.1 k
    unfold elOpen at hx
    rw [List.any_eq_false] at hx
    exact hx y (List.mem_cons_of_mem _ hy) (by simpa using ey)) h1 h2 h3
theorem RowOk.head {m : Nat} {R : List EL} (h : RowOk m R) : R[0]? = some elRoot := by
  obtain ⟨C, rfl, _⟩ := h
  rfl
theorem RowOk.root {m : Nat} {R : List EL} (h : RowOk m R) : elOpen R 0 = true := by
  obtain ⟨C, rfl, _⟩ := h
  rfl
theorem RowOk.at_ {m k : Nat} {R : List EL} (h : RowOk m R) (h0 : 0 < k) (hk : k < R.length) : 1 ≤ R[k].n ∧ R[k].n ≤ 6 := by
  obtain ⟨C, rfl, h⟩ := h
  obtain ⟨j, rfl⟩ : ∃ j, k = j + 1 := ⟨k - 1, by omega⟩
  rw [List.getElem_cons_succ]
  exact h.num _ (List.getElem_mem _)
theorem RowOk.ne {m j k : Nat} {R : List EL} (h : RowOk m R) (hj : j < k) (hk : k < R.length) : R[j].n ≠ R[k].n := by
  have h1 := h.fit.once
  have h2 := (List.pairwise_iff_getElem.1 h1) j k (by rw [List.length_map]; omega) (by rw [List.length_map]; omega) hj
  simpa using h2
/-- The nodes of the law: the root, six elements, a note. -/
def nodes8 : List PN := elemPN 1 [] [] :: (List.replicate 6 (elemPN 1 [120] []) ++ [notePN 3 [110]])
theorem nodes8_attrs : ∀ x ∈ nodes8, x.attrs.length ≤ 4294967296 := by
  intro x hx
  have e : nodes8.map (·.attrs) = [[], [], [], [], [], [], [], []] := by kernel_rfl
  have := List.mem_map_of_mem (f := fun x : PN => x.attrs) hx
  rw [e] at this
  have q : x.attrs = [] := by simpa using this
  rw [q]
  exact Nat.zero_le _
theorem nodes8_none {n : Int} (h : ¬ (0 ≤ n ∧ n < 8)) : pNode nodes8 n = pnZero := by
  unfold pNode pHas
  have e : (nodes8.length : Int) = 8 := by kernel_rfl
  rw [e, if_neg]
  simp only [Bool.and_eq_true, decide_eq_true_eq]
  exact h
theorem nodes8_may {fO : Int → Bool} {n : Int} (h : mayE nodes8 fO n = true) : 0 ≤ n ∧ n ≤ 6 ∧ fO n = false := by
  unfold mayE at h
  simp only [Bool.and_eq_true, decide_eq_true_eq, Bool.not_eq_true'] at h
  obtain ⟨h1, h2⟩ := h
  by_cases k : 0 ≤ n ∧ n < 8
  · refine ⟨k.1, ?_, h2⟩
    rcases Int.lt_or_le n 7 with q | q
    · omega
    · have e : n = 7 := by omega
      subst e
      exact absurd h1 (by decide +kernel)
  · rw [nodes8_none k] at h1
    exact absurd h1 (by decide +kernel)
theorem nodes8_name (n : Int) : (newE nodes8 n).name.length ≤ 1 := by
  show (pNode nodes8 n).name.length ≤ 1
  by_cases k : 0 ≤ n ∧ n < 8
  · obtain ⟨j, rfl⟩ : ∃ j : Nat, n = (j : Int) := ⟨n.toNat, by omega⟩
    have hj : j < 8 := by omega
    have hall : ∀ j : Fin 8, (pNode nodes8 ((j : Nat) : Int)).name.length ≤ 1 := by decide +kernel
    exact hall ⟨j, hj⟩
  · rw [nodes8_none k]
    decide +kernel
theorem elOpen_erase {R : List EL} {i : Nat} {n : Int} (h : elOpen R n = false) : elOpen (R.eraseIdx i) n = false := by
  unfold elOpen at h ⊢
  rw [List.any_eq_false] at h ⊢
  exact fun x hx => h x (List.mem_of_mem_eraseIdx hx)
theorem RowOk.new {m : Nat} {R : List EL} {n : Int} (h : RowOk m R) (hm : mayE nodes8 (elOpen R) n = true) : 1 ≤ n ∧ n ≤ 6 ∧ elOpen R n = false := by
  obtain ⟨k0, k1, k2⟩ := nodes8_may hm
  refine ⟨?_, k1, k2⟩
  rcases Int.lt_or_le n 1 with q | q
  · have e : n = 0 := by omega
    subst e
    rw [h.root] at k2
    cases k2
  · exact q
theorem RowOk.putS {m : Nat} {R : List EL} (h : RowOk m R) (i n : Int) : RowOk (m + 1) (putS nodes8 R i n).1 := by
  unfold Proofs.Ytmhjfbdldpehdaa.putS
  split
  · rename_i k
    obtain ⟨k1, k2, k3⟩ := k
    obtain ⟨q1, q2, q3⟩ := h.new k1
    exact h.insert (x := newE nodes8 n) (by omega) (by omega) q3 q1 q2 (nodes8_name n)
  · exact h.more (Nat.le_succ _)
theorem RowOk.dropS {m : Nat} {R : List EL} (h : RowOk m R) (n : Int) : RowOk (m + 1) (dropS R n).1 := by
  unfold Proofs.Ytmhjfbdldpehdaa.dropS
  split
  · exact h.more (Nat.le_succ _)
  · have := placeS_lt (n := n) h.pos
    exact (h.erase (by omega) (by omega)).more (Nat.le_succ _)
theorem RowOk.popS {m : Nat} {R : List EL} (h : RowOk m R) : RowOk (m + 1) (popS R).1 := h.dropS _
theorem RowOk.swapS {m : Nat} {R : List EL} (h : RowOk m R) (n k : Int) : RowOk (m + 1) (swapS nodes8 R n k).1 := by
  unfold Proofs.Ytmhjfbdldpehdaa.swapS
  split
  · rename_i q
    obtain ⟨k1, k2⟩ := q
    obtain ⟨q1, q2, q3⟩ := h.new k1
    have := placeS_lt (n := n) h.pos
    have he := h.erase (i := (placeS R n).toNat) (by omega) (by omega)
    exact he.insert (x := newE nodes8 k) (by omega) (by rw [List.length_eraseIdx, if_pos (by omega)]; omega) (elOpen_erase q3) q1 q2 (nodes8_name k)
  · exact h.more (Nat.le_succ _)
end Go.Proofs.Ytmhjfbdldpehdaa
namespace Go.Proofs.Ytmhjfbdldpehdaa
open Go.RowKit Go.Maps

theorem Stepped.turns8 {T : Nat} {W W' : World} (h : Stepped T W W') : Turns (fun b => b = T) W W' := by
  obtain ⟨q1, q2, rfl | ⟨u, rfl⟩⟩ := h
  · exact Turns.of_below (below_drewN (Below.refl _ _) q1)
  · exact ((Turns.of_below (M := fun b => b = T) (below_drewN (Below.refl _ W) q1)).setCell (B := T) (.inl rfl) 1 u).trans (Turns.of_below (below_drewN (Below.refl _ _) q2))
theorem TapeAt.turns8 {w W W' : World} {v : Value} {n B : Nat} {M : Nat → Prop} (h : TapeAt w v n B W) (ht : Turns M W W') (hB : B < W.heap.size) (hm : ¬ M B) (hw : ∀ b, M b → w.heap.size ≤ b) : TapeAt w v n B W' := by
  obtain ⟨a, ha, hc⟩ := h.at_
  have hk := ht.block B hB hm
  refine ⟨h.ints, h.new, ?_, ⟨a, ha, ?_⟩, ?_, h.below.trans (ht.below h.below.size fun b hb k => absurd (hw b k) (by omega))⟩
  · rw [World.cell?_of_block (w := W) hk]; exact h.row
  · rw [World.cell?_of_block (w := W) hk]; exact hc
  · rw [World.frozen?_of_block (w := W) hk]; exact h.free
/-- A tape beside a Site. -/
structure TapeK8 (w W : World) (M : Nat → Prop) (v : Value) (n T : Nat) : Prop where
  tape : TapeAt w v n T W
  off : ¬ M T
  lt : T < W.heap.size
theorem TapeK8.on {w W W' : World} {M : Nat → Prop} {v : Value} {n T : Nat} (h : TapeK8 w W M v n T) (hb : Below W.heap.size W W') : TapeK8 w W' M v n T := ⟨h.tape.on hb h.lt, h.off, Nat.lt_of_lt_of_le h.lt hb.size⟩
theorem TapeK8.turns {w w1 W W' : World} {M M' : Nat → Prop} {v : Value} {n T : Nat} (h : TapeK8 w W M v n T) (hs : ∀ b, b < W.heap.size → M' b → M b) (ht : Turns M W W') (hw : ∀ b, M b → w1.heap.size ≤ b) (hz : w.heap.size ≤ w1.heap.size) : TapeK8 w W' M' v n T :=
  ⟨h.tape.turns8 ht h.lt h.off (fun b k => Nat.le_trans hz (hw b k)), fun k => h.off (hs T h.lt k), Nat.lt_of_lt_of_le h.lt ht.size⟩
structure RowsQ (w w0 W : World) (v : Value) (n A B : Nat) (S : List PN) (R : List EL) (T : Nat) : Prop where
  ex : ∃ M, SiteK w0 W M B S [] R false T ∧ TapeK8 w W M v n A
  sz : w.heap.size ≤ w0.heap.size
  szA : w0.heap.size ≤ A
variable {w w0 W w' : World} {v : Value} {n A B : Nat} {S S' : List PN} {R R' : List EL} {T T' : Nat}
theorem RowsQ.out {vv : Value} {e : Ending} {M : Nat → Prop} (k : SiteK w0 W M B S [] R false T) (t : TapeK8 w W M v n A) (sz : w.heap.size ≤ w0.heap.size) (szA : w0.heap.size ≤ A) (q : SiteOut M W B S' [] R' false T' vv e w') : e = .returned vv ∧ RowsQ w w0 w' v n A B S' R' T' := by
  obtain ⟨he, M', k', hs, ht⟩ := k.out q
  exact ⟨he, ⟨⟨M', k', t.turns (w1 := w0) hs ht (fun b hb => (k.inn b hb).1) sz⟩, sz, szA⟩⟩
theorem RowsQ.on (h : RowsQ w w0 W v n A B S R T) (hb : Below W.heap.size W w') : RowsQ w w0 w' v n A B S R T := by
  obtain ⟨⟨M, k, t⟩, sz, szA⟩ := h
  exact ⟨⟨M, k.on hb, t.on hb⟩, sz, szA⟩
theorem RowsQ.below (h : RowsQ w w0 W v n A B S R T) : Below w0.heap.size w0 W := by
  obtain ⟨⟨M, k, t⟩, sz, szA⟩ := h
  exact k.below
theorem qNext (h : RowsQ w w0 W v n A B S R T) (m : Nat) (hm1 : 1 ≤ m) (hm2 : m ≤ 2147483647) :
    Calls Try.prog 51 #[.pointer (some ⟨A, 0, none⟩), .int .i64 (m : Int)] W (fun e w' => ∃ r : Nat, r < m ∧ e = .returned (.int .i64 (r : Int)) ∧ RowsQ w w0 w' v n A B S R T) := by
  obtain ⟨⟨M, k, t⟩, sz, szA⟩ := h
  refine (tape_next w v n A m W t.tape hm1 hm2).mono ?_
  rintro e w' ⟨r, hr, he, hs, ht⟩
  have htt := hs.turns8
  exact ⟨r, hr, he, ⟨⟨M, ⟨k.site.on htt (fun b _ kk e => t.off (by rw [← e]; exact kk)), fun b kk => ⟨(k.inn b kk).1, by rw [hs.size]; exact (k.inn b kk).2⟩, k.below.trans (htt.below k.below.size fun b hb e => by omega)⟩, ⟨ht, t.off, by rw [hs.size]; exact t.lt⟩⟩, sz, szA⟩⟩
theorem qMore (h : RowsQ w w0 W v n A B S R T) :
    Calls Try.prog 50 #[.pointer (some ⟨A, 0, none⟩)] W (fun e w' => ∃ b, e = .returned (.bool b) ∧ RowsQ w w0 w' v n A B S R T) := by
  obtain ⟨M, k, t⟩ := h.ex
  refine (tape_more w v n A W t.tape).mono ?_
  rintro e w' ⟨b, q, he, rfl⟩
  exact ⟨b, he, h.on (below_drewN (Below.refl _ _) q)⟩
theorem qDoc (h : RowsQ w w0 W v n A B S R T) (hS : S.length ≤ 4294967296) : ∃ D, Calls Try.prog 58 #[.pointer (some ⟨B, 0, none⟩)] W (Gives (.pointer (some ⟨D, 0, none⟩)) W) ∧
    (∀ nm : List UInt8, Calls Try.prog 19 #[.pointer (some ⟨D, 0, none⟩), .int .i64 1, .string ⟨nm.toArray⟩, .slice none 0 0] W (fun e w' => e = .returned (.int .i64 (S.length : Int)) ∧ RowsQ w w0 w' v n A B (S ++ [elemPN 1 nm []]) R T)) ∧
    (∀ s : List UInt8, s.length ≤ 4294967296 → Calls Try.prog 66 #[.pointer (some ⟨D, 0, none⟩), .string ⟨s.toArray⟩] W (fun e w' => e = .returned (.int .i64 (S.length : Int)) ∧ RowsQ w w0 w' v n A B (S ++ [notePN 3 s]) R T)) := by
  obtain ⟨⟨M, k, t⟩, sz, szA⟩ := h
  obtain ⟨a, hh, kk⟩ := k.site
  refine ⟨a.D, sdocP hh, fun nm => ?_, fun s hs => ?_⟩
  · exact (delemNewP S a.D a.MD (fun _ => True) W 1 nm [] (.slice none 0 0) hh.doc (fun b q => (hh.dM b q).2.1) hS (AttrsP.nil _ _ _ _) (by simp)).mono fun e w' q => RowsQ.out k t sz szA (SiteM.docOut hh kk q)
  · exact (dnoteP S a.D a.MD W s hh.doc (fun b q => (hh.dM b q).2.1) hS hs).mono fun e w' q => RowsQ.out k t sz szA (SiteM.docOut hh kk q)
theorem qTop (h : RowsQ w w0 W v n A B S R T) (h0 : 0 < R.length) (hr : R.length ≤ 4294967296) : Calls Try.prog 71 #[.pointer (some ⟨B, 0, none⟩)] W (Brings (.int .i64 (lastE R).n) W) := by
  obtain ⟨⟨M, k, t⟩, sz, szA⟩ := h
  exact sTopM k.site h0 hr
theorem qOpen (h : RowsQ w w0 W v n A B S R T) (h0 : 0 < R.length) (hr : R.length ≤ 4294967296) : Calls Try.prog 62 #[.pointer (some ⟨B, 0, none⟩)] W (NumsOut R W) := by
  obtain ⟨⟨M, k, t⟩, sz, szA⟩ := h
  obtain ⟨a, hh, kk⟩ := k.site
  exact sOpenRowP hh h0 hr
/-- What stands in the law's loop, i calls behind its start. -/
def RowsI (w w0 W : World) (v : Value) (n A B : Nat) (i : Nat) : Prop := ∃ R T, RowsQ w w0 W v n A B nodes8 R T ∧ RowOk i R ∧ T ≤ 1 + 2 * i
theorem RowsI.on {i : Nat} (h : RowsI w w0 W v n A B i) (hb : Below W.heap.size W w') : RowsI w w0 w' v n A B i := by
  obtain ⟨R, T, h, k, l⟩ := h
  exact ⟨R, T, h.on hb, k, l⟩
theorem iNext {i : Nat} (h : RowsI w w0 W v n A B i) (m : Nat) (hm1 : 1 ≤ m) (hm2 : m ≤ 2147483647) :
    Calls Try.prog 51 #[.pointer (some ⟨A, 0, none⟩), .int .i64 (m : Int)] W (fun e w' => ∃ r : Nat, r < m ∧ e = .returned (.int .i64 (r : Int)) ∧ RowsI w w0 w' v n A B i) := by
  obtain ⟨R, T, h, k, l⟩ := h
  exact (qNext h m hm1 hm2).mono fun e w' ⟨r, hr, he, q⟩ => ⟨r, hr, he, R, T, q, k, l⟩
theorem iMore {i : Nat} (h : RowsI w w0 W v n A B i) :
    Calls Try.prog 50 #[.pointer (some ⟨A, 0, none⟩)] W (fun e w' => ∃ b, e = .returned (.bool b) ∧ RowsI w w0 w' v n A B i) := by
  obtain ⟨R, T, h, k, l⟩ := h
  exact (qMore h).mono fun e w' ⟨b, he, q⟩ => ⟨b, he, R, T, q, k, l⟩
def RowsStep (w w0 : World) (v : Value) (n A B i : Nat) (e : Ending) (w' : World) : Prop := ∃ b, e = .returned (.bool b) ∧ RowsI w w0 w' v n A B i
theorem iPop {i : Nat} (h : RowsI w w0 W v n A B i) (hi : i ≤ 100) : Calls Try.prog 60 #[.pointer (some ⟨B, 0, none⟩)] W (RowsStep w w0 v n A B (i + 1)) := by
  obtain ⟨R, T, ⟨⟨M, k, t⟩, sz, szA⟩, ok, l⟩ := h
  have hl := ok.len
  refine (spopP k.site ok.pos (by omega) (by omega) ok.fit).mono fun e w' q => ?_
  obtain ⟨he, q⟩ := RowsQ.out k t sz szA q
  exact ⟨_, he, _, _, q, ok.popS, by omega⟩
theorem iDrop {i : Nat} (h : RowsI w w0 W v n A B i) (hi : i ≤ 100) (m : Nat) (hm : m ≤ 100) : Calls Try.prog 69 #[.pointer (some ⟨B, 0, none⟩), .int .i64 (m : Int)] W (RowsStep w w0 v n A B (i + 1)) := by
  obtain ⟨R, T, ⟨⟨M, k, t⟩, sz, szA⟩, ok, l⟩ := h
  have hl := ok.len
  refine (sdropP k.site (m : Int) ok.pos (by omega) (by omega) ok.fit (by omega) (by omega)).mono fun e w' q => ?_
  obtain ⟨he, q⟩ := RowsQ.out k t sz szA q
  exact ⟨_, he, _, _, q, ok.dropS _, by omega⟩
theorem iPush {i : Nat} (h : RowsI w w0 W v n A B i) (hi : i ≤ 100) (m : Nat) (hm : m ≤ 100) : Calls Try.prog 70 #[.pointer (some ⟨B, 0, none⟩), .int .i64 (m : Int)] W (RowsStep w w0 v n A B (i + 1)) := by
  obtain ⟨R, T, ⟨⟨M, k, t⟩, sz, szA⟩, ok, l⟩ := h
  have hl := ok.len
  refine (spushP k.site (m : Int) (by omega) (by omega) (by omega) (by omega) nodes8_attrs (by have := nodes8_name (m : Int); omega)).mono fun e w' q => ?_
  obtain ⟨he, q⟩ := RowsQ.out k t sz szA q
  exact ⟨_, he, _, _, q, ok.putS _ _, by omega⟩
theorem iPut {i : Nat} (h : RowsI w w0 W v n A B i) (hi : i ≤ 100) (j m : Nat) (hm : m ≤ 100) : Calls Try.prog 67 #[.pointer (some ⟨B, 0, none⟩), .int .i64 (j : Int), .int .i64 (m : Int)] W (RowsStep w w0 v n A B (i + 1)) := by
  obtain ⟨R, T, ⟨⟨M, k, t⟩, sz, szA⟩, ok, l⟩ := h
  have hl := ok.len
  refine (sputP k.site (j : Int) (m : Int) (by omega) (by omega) (by omega) (by omega) nodes8_attrs (by have := nodes8_name (m : Int); omega)).mono fun e w' q => ?_
  obtain ⟨he, q⟩ := RowsQ.out k t sz szA q
  exact ⟨_, he, _, _, q, ok.putS _ _, by omega⟩
theorem iSwap {i : Nat} (h : RowsI w w0 W v n A B i) (hi : i ≤ 100) (j m : Nat) (hj : j ≤ 100) (hm : m ≤ 100) : Calls Try.prog 68 #[.pointer (some ⟨B, 0, none⟩), .int .i64 (j : Int), .int .i64 (m : Int)] W (RowsStep w w0 v n A B (i + 1)) := by
  obtain ⟨R, T, ⟨⟨M, k, t⟩, sz, szA⟩, ok, l⟩ := h
  have hl := ok.len
  refine (sswapP k.site (j : Int) (m : Int) ok.pos (by omega) (by omega) ok.fit (by omega) (by omega) (by omega) (by omega) nodes8_attrs (by have := nodes8_name (m : Int); omega)).mono fun e w' q => ?_
  obtain ⟨he, q⟩ := RowsQ.out k t sz szA q
  exact ⟨_, he, _, _, q, ok.swapS _ _, by omega⟩
/-- Open, and what it says. -/
theorem iOpen {i : Nat} (h : RowsI w w0 W v n A B i) (hi : i ≤ 100) : ∃ R, RowOk i R ∧ Calls Try.prog 62 #[.pointer (some ⟨B, 0, none⟩)] W (NumsOut R W) ∧ ∀ W', Below W.heap.size W W' → Calls Try.prog 71 #[.pointer (some ⟨B, 0, none⟩)] W' (Brings (.int .i64 (lastE R).n) W') := by
  obtain ⟨R, T, q, ok, l⟩ := h
  have hl := ok.len
  exact ⟨R, ok, qOpen q ok.pos (by omega), fun W' hb => qTop (q.on hb) ok.pos (by omega)⟩
end Go.Proofs.Ytmhjfbdldpehdaa
