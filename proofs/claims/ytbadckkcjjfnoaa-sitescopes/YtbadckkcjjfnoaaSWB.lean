/-
  The walk of slices.Delete of one element. Any row, not too long.
-/
import Derived.Test.YtbadckkcjjfnoaaSW6
import Derived.Test.YtbadckkcjjfnoaaMW3
namespace Go.Proofs.Ytbadckkcjjfnoaa
open Go.RowKit Go.Maps

theorem zero_el (w : World) : (zeroValue 125).run Try.prog w = .ok (.agg #[.int .i64 0, .int .i64 0, .string ByteArray.empty]) w := by kernel_rfl
theorem zeroE_len (n : Nat) : (Builtin.zeroCells (Value.agg #[.int .i64 0, .int .i64 0, .string ByteArray.empty]).cells n).size = n * 3 := by
  simp [Builtin.zeroCells, Value.cells]
theorem zeroE_one (n : Nat) : ∀ v ∈ (Builtin.zeroCells (Value.agg #[.int .i64 0, .int .i64 0, .string ByteArray.empty]).cells n).toList, v.oneCell' = true := by
  intro v hv
  simp [Builtin.zeroCells, Value.cells] at hv
  obtain ⟨i, _, rfl⟩ := hv
  have : i % 3 < 3 := Nat.mod_lt _ (by omega)
  match i % 3, this with
  | 0, _ => rfl
  | 1, _ => rfl
  | 2, _ => rfl
theorem setRow_drew (w : World) (g : Nat) (c : Array Value) : w.drew.setRow g c = (w.setRow g c).drew := rfl
/-- 'append' where its run is known, as one step of a region that draws. -/
theorem step_append_eq {ops : Array Oper} {o : Oper} {a : Act} {w w' : World} {K : Act → World → Prop} {Q : Exit → Act → World → Prop} {E : Prop} (hgd : o.guard = none) (s x : Operand) (t : TypeId)
    (ho : o.op = .call { callee := .builtin .append, args := #[s, x], argTypes := #[t, t] }) (vs vx r : Value) (hs : a.eval s = vs) (hx : a.eval x = vx) (hrun : ∀ ty, (Builtin.append_ #[t, t] ty #[vs, vx]).run Try.prog w = .ok r w')
    (h : K (a.put o.dst r) w') : if Region.wanted o (yielded ops a.tmps) = true then Oper.wp Try.prog o a w K Q else E := by
  have hw : Region.wanted o (yielded ops a.tmps) = true := by simp [Region.wanted, hgd]
  rw [if_pos hw]
  unfold Oper.wp
  simp [execOp, ho, resolve, invoke, builtin, hs, hx, hrun, Result.andThen]
  exact h
set_option maxHeartbeats 1000000 in
set_option maxRecDepth 100000 in
theorem sdelP (R : List EL) (g n m cap i : Nat) (w : World) (h : w.ownsRow 0 125 3 (.slice (some ⟨g, 0, none⟩) n cap) n (elCells R)) (hn : R.length = n) (hm : n = m + 1) (hi : i < n) (hr : n ≤ 4294967296) :
    Calls Try.prog 157 #[.slice (some ⟨g, 0, none⟩) n cap, .int .i64 (i : Int), .int .i64 ((i : Int) + 1)] w (fun e w' => e = .returned (.slice (some ⟨g, 0, none⟩) m cap) ∧ w'.ownsRow 0 125 3 (.slice (some ⟨g, 0, none⟩) m cap) m (elCells (R.eraseIdx i)) ∧ w.grownBy w' (some g)) := by
  obtain ⟨i0, hi0, hz0, hz1, hz2⟩ := info_el
  have hrow : ∃ cur, w.heap[g]? = some (.cells cur 125 (0, 0)) ∧ n ≤ cap ∧ cap ≤ maxLen ∧ cur.size = cap * 3 ∧ cur.toList.take (n * 3) = elCells R := by
    rcases h.2 with ⟨e, _⟩ | ⟨g', cap', cur, e, _, hg, h1, h2, h3, h4⟩
    · cases e
    · injection e with e1 e2 e3
      injection e1 with e1
      injection e1 with e1
      subst e1 e3
      exact ⟨cur, hg, h1, h2, h3, h4⟩
  obtain ⟨cur, hg, h1, h2, h3, h4⟩ := hrow
  have hc1 : cur.toList.length = cap * 3 := by rw [Array.length_toList]; exact h3
  obtain ⟨news, hnews⟩ : ∃ news, news = elCells (R.drop (i + 1)) := ⟨_, rfl⟩
  have hnl : news.length = (n - (i + 1)) * 3 := by rw [hnews, elCells_len, List.length_drop, hn]
  obtain ⟨cur1, hcur1⟩ : ∃ cur1, cur1 = (cur.toList.take (i * 3) ++ news ++ cur.toList.drop (i * 3 + news.length)).toArray := ⟨_, rfl⟩
  have hs1 : cur1.size = cap * 3 := by
    rw [hcur1, List.size_toArray, List.length_append, List.length_append, List.length_take, List.length_drop, hnl, hc1]
    omega
  have hER : R.eraseIdx i = R.take i ++ R.drop (i + 1) := List.eraseIdx_eq_take_drop_succ R i
  have ht1 : cur1.toList.take (m * 3) = elCells (R.eraseIdx i) := by
    have e1 : cur.toList.take (i * 3) = elCells (R.take i) := by rw [← elCells_take, ← h4, List.take_take, Nat.min_eq_left (by omega)]
    rw [hER, elCells_app, ← e1, ← hnews, hcur1, List.toList_toArray, List.take_append_of_le_length (by rw [List.length_append, List.length_take, hnl, hc1]; omega), List.take_of_length_le (by rw [List.length_append, List.length_take, hnl, hc1]; omega)]
  have hg1 : w.drew.heap[g]? = some (.cells cur 125 (0, 0)) := hg
  have hread : ∀ j v, news[j]? = some v → w.drew.cell? ((⟨g, (i + 1) * 3, none⟩ : Addr).add j) = some v := by
    intro j v hv
    rw [show (⟨g, (i + 1) * 3, none⟩ : Addr).add j = ⟨g, (i + 1) * 3 + j, none⟩ by simp [Addr.add]]
    have hj := lt_of_some hv
    rw [hnl] at hj
    rw [hnews, ← elCells_drop, List.getElem?_drop] at hv
    show w.cell? _ = _
    rw [h.cellAt ((i + 1) * 3 + j) (by omega)]
    exact hv
  have hap : ∃ A c2, ((if cap = i + 1 then (Value.slice (some ⟨g, 0, none⟩) 0 0) else .slice (some ⟨g, (i + 1) * 3, none⟩) (n - (i + 1)) (cap - (i + 1))) = .slice (some A) (n - (i + 1)) c2) ∧ ∀ ty, (Builtin.append_ #[ 120 , 120 ] ty #[.slice (some ⟨g, 0, none⟩) i cap, .slice (some A) (n - (i + 1)) c2]).run Try.prog w.drew = .ok (.slice (some ⟨g, 0, none⟩) m cap) (w.drew.setRow g cur1) := by
    by_cases e : cap = i + 1
    · refine ⟨⟨g, 0, none⟩, 0, by rw [if_pos e, show n - (i + 1) = 0 by omega], fun ty => ?_⟩
      have := run_append_room (P := Try.prog) w.drew 120 ty 125 i0 Try.underlying120 hi0 g i cap cur hg1 ⟨g, 0, none⟩ (n - (i + 1)) 0 news (by rw [hz1]; exact hnl) (by
        intro j v hv
        have := lt_of_some hv
        omega) (by rw [hnews]; exact elCells_one _) (by omega) (by rw [hz1, hnl, h3]; omega)
      rw [hz1, ← hcur1, show i + (n - (i + 1)) = m by omega] at this
      exact this
    · refine ⟨⟨g, (i + 1) * 3, none⟩, cap - (i + 1), by rw [if_neg e], fun ty => ?_⟩
      have := run_append_room (P := Try.prog) w.drew 120 ty 125 i0 Try.underlying120 hi0 g i cap cur hg1 ⟨g, (i + 1) * 3, none⟩ (n - (i + 1)) (cap - (i + 1)) news (by rw [hz1]; exact hnl) hread (by rw [hnews]; exact elCells_one _) (by omega) (by rw [hz1, hnl, h3]; omega)
      rw [hz1, ← hcur1, show i + (n - (i + 1)) = m by omega] at this
      exact this
  have hg2 : (w.drew.setRow g cur1).heap[g]? = some (.cells cur1 125 (0, 0)) := setRow_heap w.drew g cur cur1 _ _ hg1
  have hzl : (Builtin.zeroCells (Value.agg #[.int .i64 0, .int .i64 0, .string ByteArray.empty]).cells (n - m)).toList.length = (n - m) * 3 := by rw [Array.length_toList]; exact zeroE_len _
  obtain ⟨cur2, hcur2⟩ : ∃ cur2, cur2 = (cur1.toList.take (m * 3) ++ (Builtin.zeroCells (Value.agg #[.int .i64 0, .int .i64 0, .string ByteArray.empty]).cells (n - m)).toList ++ cur1.toList.drop (m * 3 + (Builtin.zeroCells (Value.agg #[.int .i64 0, .int .i64 0, .string ByteArray.empty]).cells (n - m)).toList.length)).toArray := ⟨_, rfl⟩
  have hcl := fun ty => run_clear_row (w.drew.setRow g cur1) 120 ty 125 _ Try.underlying120 zero_el g (m * 3) (n - m) (cap - m) cur1 125 hg2 (by omega) (by rw [zeroE_len, hs1]; omega) (zeroE_one _)
  rw [← hcur2] at hcl
  have hl1 : cur1.toList.length = cap * 3 := by rw [Array.length_toList]; exact hs1
  have hs2 : cur2.size = cap * 3 := by
    rw [hcur2, List.size_toArray, List.length_append, List.length_append, List.length_take, List.length_drop, hzl, hl1]
    omega
  have ht2 : cur2.toList.take (m * 3) = elCells (R.eraseIdx i) := by
    rw [hcur2, List.toList_toArray, take_lay _ _ _ _ (Nat.le_refl _) (by rw [hzl, hl1]; omega)]
    exact ht1
  have hg3 : ((w.drew.setRow g cur1).setRow g cur2).heap[g]? = some (.cells cur2 125 (0, 0)) := setRow_heap _ g cur1 cur2 _ _ hg2
  have HP : Hid (((w.drew.setRow g cur1).setRow g cur2).ownsRow 0 125 3 (.slice (some ⟨g, 0, none⟩) m cap) m (elCells (R.eraseIdx i)) ∧ w.grownBy ((w.drew.setRow g cur1).setRow g cur2) (some g)) := by
    refine Lib.hid ⟨⟨?_, .inr ⟨g, cap, cur2, rfl, Nat.zero_le _, hg3, by omega, h2, hs2, ht2⟩⟩, rfl, rfl, rfl, by simp [World.setRow], fun b _ hb => ?_⟩
    · rw [elCells_len, List.length_eraseIdx, hn, if_pos hi]; congr 1; omega
    · have hne : b ≠ g := fun e => hb (by rw [e])
      rw [setRow_other _ g b _ hne, setRow_other _ g b _ hne]
      rfl
  obtain ⟨A, c2, hA, hap⟩ := hap
  have hne : cap ≠ m := by omega
  have hmn : n - m = 1 := by omega
  have ji0 : (0 : Int) ≤ (i : Int) := by omega
  have ji1 : (i : Int) ≤ (n : Int) := by omega
  have ji2 : (i : Int) + 1 ≤ (n : Int) := by omega
  have ji3 : (0 : Int) ≤ (i : Int) + 1 := by omega
  have ji4 : (i : Int) ≤ (i : Int) + 1 := by omega
  have ji5 : ((i : Int) == (i : Int) + 1) = false := beq_eq_false_iff_ne.2 (by omega)
  have jm0 : (0 : Int) ≤ (m : Int) := by omega
  have jm1 : (m : Int) ≤ (n : Int) := by omega
  have jnc : (n : Int) ≤ (cap : Int) := by omega
  clear h hn hi0 hz0 hz1 hz2 hg h3 h4 hc1 hnews hnl hcur1 hs1 hER ht1 hg1 hread hg2 hzl hcur2 hl1 hs2 ht2 hg3
  by_cases e : cap = i + 1
  · rw [if_pos e] at hA
    injection hA with hA1 hA2 hA3
    injection hA1 with hA1
    subst hA1 hA3
    rw [← hA2] at hap
    obtain rfl : n = i + 1 := by omega
    obtain rfl : m = i := by omega
    subst e
    clear hA2 hm hi hne ji2 jnc jm0 jm1 hmn
    have hmn : m + 1 - m = 1 := by omega
    rw [hmn] at hcl
    go_enter Try.func157, Try.ntmps157
    go_wp2_with fail
    go_region_law (refine step_append_eq rfl (.tmp 22) (.tmp 25) 120 rfl _ _ _ (by rfl) (by rfl) hap ?_)
    all_goals
      generalize w.drew.setRow g cur1 = W1 at *
      go_wp2_with fail
      refine bodyPost_ret (w := W1.setRow g cur2) (results_tmp (t := 6) rfl _ _ _) rfl ?_
      exact ⟨rfl, HP.out.1, HP.out.2⟩
  · have hne2 : cap ≠ i + 1 := e
    rw [if_neg e] at hA
    injection hA with hA1 hA2 hA3
    injection hA1 with hA1
    subst hA1 hA3
    clear hA2 hm e
    rw [hmn] at hcl
    have hil : i ≤ cap := by omega
    have hil1 : i + 1 ≤ cap := by omega
    have hil2 : i + 1 ≤ n := by omega
    go_enter Try.func157, Try.ntmps157
    go_wp2_with fail
    go_region_law (refine step_append_eq rfl (.tmp 22) (.tmp 25) 120 rfl _ _ _ (by rfl) (by rfl) hap ?_)
    all_goals
      generalize w.drew.setRow g cur1 = W1 at *
      go_wp2_with fail
      refine bodyPost_ret (w := W1.setRow g cur2) (results_tmp (t := 6) rfl _ _ _) rfl ?_
      exact ⟨rfl, HP.out.1, HP.out.2⟩
end Go.Proofs.Ytbadckkcjjfnoaa
