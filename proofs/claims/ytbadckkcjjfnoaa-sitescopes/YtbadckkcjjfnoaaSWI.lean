/-
  The walk of slices.Insert ahead of the end of a row of elements: where there is no room; Insert anywhere. Any row, not too long.
-/
import Derived.Test.YtbadckkcjjfnoaaSWH
namespace Go.Proofs.Ytbadckkcjjfnoaa
open Go.RowKit Go.Maps

set_option maxHeartbeats 2000000 in
set_option maxRecDepth 100000 in
theorem sinsGrowP (R : List EL) (x : EL) (g n cap i b : Nat) (w : World) (h : w.ownsRow 0 125 3 (.slice (some ⟨g, 0, none⟩) n cap) n (elCells R)) (hb : w.heap[b]? = some (.cells #[.int .i64 x.n, .int .i64 x.space, .string ⟨x.name.toArray⟩] 125 (0, 0))) (hn : R.length = n) (hi : i < n) (hroom : cap < n + 1) (hr : n ≤ 4294967296) :
    Calls Try.prog 132 #[.slice (some ⟨g, 0, none⟩) n cap, .int .i64 (i : Int), .slice (some ⟨b, 0, none⟩) 1 1] w (fun e w' => ∃ G, e = .returned (.slice (some ⟨w.heap.size, 0, none⟩) (n + 1) G) ∧ w'.ownsRow 0 125 3 (.slice (some ⟨w.heap.size, 0, none⟩) (n + 1) G) (n + 1) (elCells (R.take i ++ x :: R.drop i)) ∧ w.grownBy w' (some g)) := by
  obtain ⟨cur, hg, h1, h2, h3, h4⟩ := el_row_form h
  obtain ⟨i0, hi0, hz0, hz1, hz2⟩ := info_el
  obtain rfl : cap = n := by omega
  have hgw := heap_lt hg
  have hbw := heap_lt hb
  obtain ⟨G, hG⟩ : ∃ G, G = grownCap w (cap + 1) cap 125 := ⟨_, rfl⟩
  have hGn : cap + 1 ≤ G := by rw [hG]; exact grownCap_ge w _ _ _
  have hG63 : G ≤ maxLen := by rw [hG]; exact grownCap_le_maxLen w (cap + 1) cap _ (by unfold maxLen; omega)
  obtain ⟨ROW, hROW⟩ : ∃ ROW : Array Value, ROW = (elCells (R.take i)).toArray ++ Builtin.zeroCells (Value.agg #[.int .i64 0, .int .i64 0, .string ByteArray.empty]).cells (cap + 1 - i) ++ Builtin.zeroCells (Value.agg #[.int .i64 0, .int .i64 0, .string ByteArray.empty]).cells (G - (cap + 1)) := ⟨_, rfl⟩
  have htl : (elCells (R.take i)).length = i * 3 := by rw [elCells_len, List.length_take]; congr 1; omega
  have hRs : ROW.size = G * 3 := by
    rw [hROW, Array.size_append, Array.size_append, List.size_toArray, zeroE_len, zeroE_len, htl]
    omega
  have hRt : ROW.toList.take (i * 3) = elCells (R.take i) := by
    rw [hROW, Array.toList_append, Array.toList_append, List.append_assoc, List.toList_toArray, List.take_append_of_le_length (by omega), List.take_of_length_le (by omega)]
  have hap : ∀ ty, (Builtin.append_ #[ 120 , 3 ] ty #[.slice (some ⟨g, 0, none⟩) i cap, .int .i64 ((cap : Int) + 1 - (i : Int))]).run Try.prog w = .ok (.slice (some ⟨w.heap.size, 0, none⟩) (cap + 1) G) ((w.alloc (.cells ROW 125)).drew) := fun ty => by
    have hold : (Builtin.firstCells i0.size i (.slice (some ⟨g, 0, none⟩) i cap)).run Try.prog w.drew = .ok (elCells (R.take i)).toArray w.drew := by
      rw [hz1]
      exact run_firstCells_some w.drew 3 i ⟨g, 0, none⟩ i cap (elCells (R.take i)) htl (fun j v hj => by
        rw [Addr.add_lit, Nat.zero_add]
        have hl := lt_of_some hj
        rw [htl] at hl
        rw [← elCells_take, List.getElem?_take, if_pos hl] at hj
        show w.cell? _ = _
        rw [h.cellAt j (by omega)]
        exact hj)
    have := Lib.run_append_grow_zeros w 120 3 ty 125 i0 _ .i64 .i64 Try.underlying120 Try.underlying3 hi0 hz0 (some ⟨g, 0, none⟩) i cap (elCells (R.take i)) hold (cap + 1 - i) (by omega) (by omega) (by omega) (by omega) (by rw [hz2]; omega) (by rw [hz2, show i + (cap + 1 - i) = cap + 1 by omega]; exact growslice_fits (by omega) (by omega))
    rw [show i + (cap + 1 - i) = cap + 1 by omega, ← hG, ← hROW, show ((cap + 1 - i : Nat) : Int) = (cap : Int) + 1 - (i : Int) by omega] at this
    exact this
  -- the first copy
  have hg1 : ((w.alloc (.cells ROW 125)).drew).heap[w.heap.size]? = some (.cells ROW 125 (0, 0)) := heap_alloc_new w _
  have hold1 : ∀ k, k < w.heap.size → ((w.alloc (.cells ROW 125)).drew).heap[k]? = w.heap[k]? := fun k hk => heap_alloc_old w _ hk
  obtain ⟨cur1, hcur1⟩ : ∃ cur1, cur1 = (ROW.toList.take (i * 3) ++ (elCell x ++ ROW.toList.drop (i * 3 + (elCell x).length))).toArray := ⟨_, rfl⟩
  have hl0 : ROW.toList.length = G * 3 := by rw [Array.length_toList]; exact hRs
  have hxl : (elCell x).length = 3 := rfl
  have hs1 : cur1.size = G * 3 := by
    rw [hcur1, List.size_toArray, List.length_append, List.length_append, List.length_take, List.length_drop, hxl, hl0]
    omega
  have hcp1 : ∀ ty, (Builtin.copy_ #[ 120 , 120 ] ty #[.slice (some ⟨w.heap.size, i * 3, none⟩) (cap + 1 - i) (G - i), .slice (some ⟨b, 0, none⟩) 1 1]).run Try.prog ((w.alloc (.cells ROW 125)).drew) = .ok (goInt 1) (((w.alloc (.cells ROW 125)).drew).setRow w.heap.size cur1) := fun ty => by
    have := run_copy_rows ((w.alloc (.cells ROW 125)).drew) 120 120 ty 125 3 Try.underlying120 size_el (some ⟨w.heap.size, i * 3, none⟩) (some ⟨b, 0, none⟩) (cap + 1 - i) (G - i) 1 1 w.heap.size (i * 3) ROW 125 hg1 (elCell x) 1 (by show 1 = min 1 (cap + 1 - i); omega) hxl (fun _ => ⟨rfl, _, rfl, fun j v hv => by
      rw [Addr.add_lit, Nat.zero_add, blk_cell ((hold1 b hbw).trans hb) j]
      exact List.getElem?_toArray.trans hv⟩) (by rw [hxl, hRs]; omega) (by intro u hu; exact elCells_one [x] u (by simpa [elCells] using hu))
    rw [← hcur1] at this
    exact this
  -- the second copy
  obtain ⟨W1, hW1⟩ : ∃ W1, W1 = ((w.alloc (.cells ROW 125)).drew).setRow w.heap.size cur1 := ⟨_, rfl⟩
  have hg2 : W1.heap[w.heap.size]? = some (.cells cur1 125 (0, 0)) := by rw [hW1]; exact setRow_heap _ _ ROW cur1 _ _ hg1
  have hold2 : ∀ k, k < w.heap.size → W1.heap[k]? = w.heap[k]? := fun k hk => by rw [hW1, setRow_other _ _ k _ (by omega)]; exact hold1 k hk
  have hz : W1.heap.size = w.heap.size + 1 := by rw [hW1]; simp [World.setRow]
  have hos : W1.os = w.os ∧ W1.tape = w.tape ∧ W1.output = w.output := by rw [hW1]; exact ⟨rfl, rfl, rfl⟩
  obtain ⟨cs, hcs⟩ : ∃ cs, cs = elCells (R.drop i) := ⟨_, rfl⟩
  have hcl : cs.length = (cap - i) * 3 := by rw [hcs, elCells_len, List.length_drop, hn]
  obtain ⟨cur2, hcur2⟩ : ∃ cur2, cur2 = (cur1.toList.take ((i + 1) * 3) ++ (cs ++ cur1.toList.drop ((i + 1) * 3 + cs.length))).toArray := ⟨_, rfl⟩
  have hl1 : cur1.toList.length = G * 3 := by rw [Array.length_toList]; exact hs1
  have hs2 : cur2.size = G * 3 := by
    rw [hcur2, List.size_toArray, List.length_append, List.length_append, List.length_take, List.length_drop, hcl, hl1]
    omega
  have hcp2 : ∀ ty, (Builtin.copy_ #[ 120 , 120 ] ty #[.slice (some ⟨w.heap.size, (i + 1) * 3, none⟩) (cap - i) (G - (i + 1)), .slice (some ⟨g, i * 3, none⟩) (cap - i) (cap - i)]).run Try.prog W1.drew = .ok (goInt ((cap - i : Nat) : Int)) (W1.drew.setRow w.heap.size cur2) := fun ty => by
    have := run_copy_rows W1.drew 120 120 ty 125 3 Try.underlying120 size_el (some ⟨w.heap.size, (i + 1) * 3, none⟩) (some ⟨g, i * 3, none⟩) (cap - i) (G - (i + 1)) (cap - i) (cap - i) w.heap.size ((i + 1) * 3) cur1 125 hg2 cs (cap - i) (by show cap - i = min (cap - i) (cap - i); omega) hcl (fun _ => ⟨rfl, _, rfl, fun j v hv => by
      rw [Addr.add_lit]
      have hj := lt_of_some hv
      rw [hcl] at hj
      rw [hcs, ← elCells_drop, List.getElem?_drop] at hv
      show W1.cell? _ = _
      rw [World.cell?_of_block (w := w) (hold2 g hgw), h.cellAt (i * 3 + j) (by omega)]
      exact hv⟩) (by rw [hcl, hs1]; omega) (by rw [hcs]; exact elCells_one _)
    rw [← hcur2] at this
    exact this
  have ht2 : cur2.toList.take ((cap + 1) * 3) = elCells (R.take i ++ x :: R.drop i) := by
    have e2 : cur1.toList.take ((i + 1) * 3) = elCells (R.take i) ++ elCell x := by
      rw [hcur1, List.toList_toArray, hRt, ← List.append_assoc, List.take_append_of_le_length (by rw [List.length_append, htl, hxl]; omega), List.take_of_length_le (by rw [List.length_append, htl, hxl]; omega)]
    rw [hcur2, List.toList_toArray, e2, ← List.append_assoc, List.take_append_of_le_length (by rw [List.length_append, List.length_append, htl, hxl, hcl]; omega), List.take_of_length_le (by rw [List.length_append, List.length_append, htl, hxl, hcl]; omega), hcs, elCells_app, List.append_assoc]
    rfl
  have HP : Hid ((W1.drew.setRow w.heap.size cur2).ownsRow 0 125 3 (.slice (some ⟨w.heap.size, 0, none⟩) (cap + 1) G) (cap + 1) (elCells (R.take i ++ x :: R.drop i)) ∧ w.grownBy (W1.drew.setRow w.heap.size cur2) (some g)) := by
    have hg3 : (W1.drew.setRow w.heap.size cur2).heap[w.heap.size]? = some (.cells cur2 125 (0, 0)) := setRow_heap _ _ cur1 cur2 _ _ hg2
    refine Lib.hid ⟨⟨?_, .inr ⟨w.heap.size, G, cur2, rfl, Nat.zero_le _, hg3, hGn, hG63, hs2, ht2⟩⟩, hos.1, hos.2.1, hos.2.2, by show w.heap.size ≤ (W1.drew.setRow w.heap.size cur2).heap.size; simp [World.setRow]; omega, fun b hb _ => ?_⟩
    · rw [elCells_len]; congr 1; simp; omega
    · rw [setRow_other _ _ b _ (by omega)]
      exact hold2 b hb
  rw [← hW1] at hcp1
  have ji0 : (0 : Int) ≤ (i : Int) := by omega
  have ji1 : (i : Int) ≤ (cap : Int) := by omega
  have jne : ((i : Int) == (cap : Int)) = false := beq_eq_false_iff_ne.2 (by omega)
  have jroom : (cap : Int) < (cap : Int) + 1 := by omega
  have hni : cap ≠ i := by omega
  have hw1 : IntKind.i64.wrap ((i : Int) + 1) = ((i + 1 : Nat) : Int) := by rw [IntWalk.i64_in _ (by omega)]; omega
  have hi1n : i + 1 ≤ cap + 1 := by omega
  have hin : i ≤ cap := by omega
  have hin1 : i ≤ cap + 1 := by omega
  have hGi : G ≠ i := by omega
  have hGi1 : G ≠ i + 1 := by omega
  have jG : ((cap + 1 : Nat) : Int) ≤ (G : Int) := by omega
  have ji4 : (i : Int) ≤ (cap : Int) + 1 := by omega
  have ji5 : (0 : Int) ≤ (i : Int) + 1 := by omega
  clear h hb hn hg h3 h4 hi0 hz0 hz1 hz2 hG hROW htl hRs hRt hg1 hold1 hcur1 hl0 hxl hs1 hg2 hold2 hz hos hcs hcl hcur2 hl1 hs2 ht2 hW1
  go_enter Try.func132, Try.ntmps132
  go_wp2_with (first
    | (at_builtin; refine Lib.wpList_append_run _ rfl _ _ _ _ rfl _ _ rfl rfl _ _ (hap _) ?_)
    | fail)
  go_region_law (fail)
  all_goals
    go_wp2_with fail
    refine bodyPost_ret (w := W1.drew.setRow w.heap.size cur2) (results_tmp (t := 6) rfl _ _ _) rfl ?_
    exact ⟨G, rfl, HP.out.1, HP.out.2⟩
/-- Insert, anywhere. -/
theorem sinsP (v : Value) (R : List EL) (x : EL) (w : World) (b i : Nat) (h : w.ownsRow 0 125 3 v R.length (elCells R)) (hb : w.heap[b]? = some (.cells #[.int .i64 x.n, .int .i64 x.space, .string ⟨x.name.toArray⟩] 125 (0, 0))) (hi : i ≤ R.length) (hr : R.length ≤ 4294967296) :
    Calls Try.prog 132 #[v, .int .i64 (i : Int), .slice (some ⟨b, 0, none⟩) 1 1] w (InsOut v (R.take i ++ x :: R.drop i) w) := by
  rcases Nat.lt_or_ge i R.length with hlt | hge
  · have hf : ∃ g cap, v = .slice (some ⟨g, 0, none⟩) R.length cap := by
      rcases h.2 with ⟨e, h0⟩ | ⟨g, cap, _, e, _⟩
      · omega
      · exact ⟨g, cap, e⟩
    obtain ⟨g, cap, rfl⟩ := hf
    have hl : (R.take i ++ x :: R.drop i).length = R.length + 1 := by simp; omega
    unfold InsOut
    rw [hl]
    rcases Nat.lt_or_ge cap (R.length + 1) with hc | hc
    · refine (sinsGrowP R x g R.length cap i b w h hb rfl hlt hc hr).mono ?_
      rintro e w' ⟨G, rfl, q1, q2⟩
      refine ⟨_, rfl, q1, q2, fun g' e => .inr ?_⟩
      have e' : w.heap.size = g' := by injection e
      omega
    · refine (sinsShiftP R x g R.length cap i b w h hb rfl hlt hc hr).mono ?_
      rintro e w' ⟨rfl, q1, q2⟩
      exact ⟨_, rfl, q1, q2, fun g' e => .inl e⟩
  · obtain rfl : i = R.length := by omega
    rw [List.take_length, List.drop_length]
    exact sinsEndP v R x w b h hb hr
end Go.Proofs.Ytbadckkcjjfnoaa
