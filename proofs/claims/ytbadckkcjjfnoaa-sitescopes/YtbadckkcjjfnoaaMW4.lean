/-
  The walk of the program's remove. Any marks, not too many.
-/
import Derived.Test.YtbadckkcjjfnoaaMW3
namespace Go.Proofs.Ytbadckkcjjfnoaa
open Go.RowKit

/-- 'copy' of elements of more than one cell, into a row that is known whole. -/
theorem run_copy_rows (w : World) (dT sT ty elem : TypeId) (sz : Nat) (hu : Try.prog.underlying dT = some (.slice elem)) (hsz : (Try.prog.info? elem).map (·.size) = some sz) (dp sp : Option Addr) (dLen dCap sLen sCap : Nat)
    (g off : Nat) (cur : Array Value) (t : TypeId) (hg : w.heap[g]? = some (.cells cur t (0, 0))) (cs : List Value) (n : Nat) (hn : n = Nat.min sLen dLen) (hcs : cs.length = n * sz)
    (hpos : 0 < n → dp = some ⟨g, off, none⟩ ∧ ∃ ad, sp = some ad ∧ ∀ j v, cs[j]? = some v → w.cell? (ad.add j) = some v) (hfit : off + cs.length ≤ cur.size) (h1 : ∀ v ∈ cs, v.oneCell' = true) :
    (Builtin.copy_ #[dT, sT] ty #[.slice dp dLen dCap, .slice sp sLen sCap]).run Try.prog w = .ok (goInt n) (w.setRow g (cur.toList.take off ++ (cs ++ cur.toList.drop (off + cs.length))).toArray) := by
  obtain ⟨i, hq, hi⟩ := Option.map_eq_some_iff.1 hsz
  have hn' : Nat.min sLen dLen = n := hn.symm
  by_cases hz : n = 0
  · subst hz
    obtain rfl : cs = [] := List.eq_nil_of_length_eq_zero (by omega)
    have hw : w.setRow g (cur.toList.take off ++ ([] ++ cur.toList.drop (off + ([] : List Value).length))).toArray = w := by
      simp only [List.nil_append, List.length_nil, Nat.add_zero, List.take_append_drop, Array.toArray_toList]
      exact setRow_self w g cur t (0, 0) hg
    rw [hw]
    have hl : ∀ (x : Addr), (loadCells x 0).run Try.prog w = .ok #[] w := fun x => by simpa using run_loadCells_list (P := Try.prog) w x [] (by simp)
    cases dp <;> cases sp <;> simp [Builtin.copy_, run_underlying hu, Builtin.lenOf, Builtin.firstCells, sizeOf, typeInfo, hq, hn', storeCells, hl]
  · obtain ⟨rfl, ad, rfl, hsrc⟩ := hpos (by omega)
    have hl := run_loadCells_list (P := Try.prog) w ad cs hsrc
    have hst := run_storeCells_at Try.prog g off t cs 0 cur w hg (by simpa using hfit) h1
    rw [Nat.add_zero, List.append_assoc] at hst
    rw [hcs] at hl
    simp [Builtin.copy_, run_underlying hu, Builtin.lenOf, Builtin.firstCells, sizeOf, typeInfo, hq, hi, hn', hl, hst]
theorem step_copy_rows {ops : Array Oper} {o : Oper} {a : Act} {w : World} {K : Act → World → Prop} {Q : Exit → Act → World → Prop} {E : Prop} (hgd : o.guard = none) (d s : Operand) (dT sT : TypeId)
    (ho : o.op = .call { callee := .builtin .copy, args := #[d, s], argTypes := #[dT, sT] }) (elem : TypeId) (sz : Nat) (hu : Try.prog.underlying dT = some (.slice elem)) (hsz : (Try.prog.info? elem).map (·.size) = some sz)
    (dp sp : Option Addr) (dLen dCap sLen sCap : Nat) (hd : a.eval d = .slice dp dLen dCap) (hs : a.eval s = .slice sp sLen sCap)
    (g off : Nat) (cur : Array Value) (t : TypeId) (hg : w.heap[g]? = some (.cells cur t (0, 0))) (cs : List Value) (n : Nat) (hn : n = Nat.min sLen dLen) (hcs : cs.length = n * sz)
    (hpos : 0 < n → dp = some ⟨g, off, none⟩ ∧ ∃ ad, sp = some ad ∧ ∀ j v, cs[j]? = some v → w.cell? (ad.add j) = some v) (hfit : off + cs.length ≤ cur.size) (h1 : ∀ v ∈ cs, v.oneCell' = true)
    (h : K (a.put o.dst (goInt n)) (w.setRow g (cur.toList.take off ++ (cs ++ cur.toList.drop (off + cs.length))).toArray)) :
    if Region.wanted o (yielded ops a.tmps) = true then Oper.wp Try.prog o a w K Q else E := by
  have hw : Region.wanted o (yielded ops a.tmps) = true := by simp [Region.wanted, hgd]
  rw [if_pos hw]
  have hrun := run_copy_rows w dT sT o.type elem sz hu hsz dp sp dLen dCap sLen sCap g off cur t hg cs n hn hcs hpos hfit h1
  unfold Oper.wp
  simp [execOp, ho, resolve, invoke, builtin, hd, hs, hrun, Result.andThen]
  exact h
theorem size_mark : (Try.prog.info? 63).map (·.size) = some 3 := by kernel_rfl
theorem mkCells_one (qs : List (MK × Value)) (h : ∀ q ∈ qs, q.2.oneCell' = true) : ∀ u ∈ mkCells qs, u.oneCell' = true := by
  intro u hu
  obtain ⟨q, hq, hu⟩ := List.mem_flatMap.1 hu
  simp only [mkCell, List.mem_cons, List.not_mem_nil, or_false] at hu
  rcases hu with rfl | rfl | rfl
  · rfl
  · rfl
  · exact h q hq
theorem AttrsP.one {P : Nat → Prop} {w : World} {v : Value} {rs : List (List UInt8 × List UInt8)} (h : AttrsP P w v rs) : v.oneCell' = true := by
  obtain ⟨p, c, rfl, _⟩ := h
  rfl
theorem MarkQ.ones {M : Nat → Prop} {w : World} {B : Nat} {v : Value} {qs : List (MK × Value)} (h : MarkQ M w B v qs) : ∀ q ∈ qs, q.2.oneCell' = true := fun q hq => (h.attrs q hq).one
/-- The cells from the k-th mark on. -/
theorem MarkQ.from {M : Nat → Prop} {w : World} {B g n cap : Nat} {qs : List (MK × Value)} (h : MarkQ M w B (.slice (some ⟨g, 0, none⟩) n cap) qs) (k : Nat) : ∀ j v, (mkCells (qs.drop k))[j]? = some v → w.cell? ((⟨g, k * 3, none⟩ : Addr).add j) = some v := by
  obtain ⟨hn, cur, hg, h1, h2, h3, h4⟩ := h.row_at
  intro j v hv
  rw [show (⟨g, k * 3, none⟩ : Addr).add j = ⟨g, k * 3 + j, none⟩ by simp [Addr.add]]
  have hj := lt_of_some hv
  rw [mkCells_len, List.length_drop] at hj
  rw [← mkCells_drop, List.getElem?_drop] at hv
  subst hn
  rw [h.row.cellAt (k * 3 + j) (by omega)]
  exact hv
set_option maxHeartbeats 1000000 in
set_option maxRecDepth 100000 in
theorem mremoveP (S : List MK) (B : Nat) (M : Nat → Prop) (w : World) (i : Nat) (h : MarksM M w B S) (hi : i < S.length) (hs : S.length ≤ 4294967296) :
    Calls Try.prog 91 #[.pointer (some ⟨B, 0, none⟩), .int .i64 (i : Int)] w (fun e w' => e = .returned (.tuple #[]) ∧ MarksM M w' B (S.eraseIdx i) ∧ Turns M w w') := by
  obtain ⟨v, qs, rfl, hq⟩ := h
  have h0 := hq.cell
  have hB := hq.lt
  rw [List.length_map] at hi hs
  rcases hq.form with ⟨rfl, rfl⟩ | ⟨g, cap, rfl⟩
  · exact absurd hi (by simp)
  obtain ⟨_, cur, hg, h1, h2, h3, h4⟩ := hq.row_at
  have hc1 : cur.toList.length = cap * 3 := by rw [Array.length_toList]; exact h3
  -- the row behind the copy
  obtain ⟨cur', hcur'⟩ : ∃ cur', cur' = (cur.toList.take (i * 3) ++ (mkCells (qs.drop (i + 1)) ++ cur.toList.drop (i * 3 + (mkCells (qs.drop (i + 1))).length))).toArray := ⟨_, rfl⟩
  have hml : (mkCells (qs.drop (i + 1))).length = (qs.length - (i + 1)) * 3 := by rw [mkCells_len, List.length_drop]
  have hcs : cur'.size = cap * 3 := by
    rw [hcur', List.size_toArray, List.length_append, List.length_append, List.length_take, List.length_drop, hml, hc1]
    omega
  obtain ⟨lst, hlst⟩ : ∃ lst, lst = qs[qs.length - 1]'(by omega) := ⟨_, rfl⟩
  have hlist : (qs.take i ++ qs.drop (i + 1) ++ [lst]).length = qs.length := by simp; omega
  have hct : cur'.toList.take ((qs.take i ++ qs.drop (i + 1) ++ [lst]).length * 3) = mkCells (qs.take i ++ qs.drop (i + 1) ++ [lst]) := by
    have e1 : cur.toList.take (i * 3) = mkCells (qs.take i) := by rw [← mkCells_take, ← h4, List.take_take, Nat.min_eq_left (by omega)]
    have e2 : (cur.toList.drop (i * 3 + (qs.length - (i + 1)) * 3)).take 3 = mkCell lst := by
      have : (cur.toList.take (qs.length * 3)).drop ((qs.length - 1) * 3) = mkCells (qs.drop (qs.length - 1)) := by rw [h4, mkCells_drop]
      rw [List.drop_take, show qs.length * 3 - (qs.length - 1) * 3 = 3 by omega] at this
      rw [show i * 3 + (qs.length - (i + 1)) * 3 = (qs.length - 1) * 3 by omega, this, List.drop_eq_getElem_cons (by omega), show qs.length - 1 + 1 = qs.length by omega, List.drop_length, ← hlst]
      simp [mkCells]
    rw [hlist, hcur', List.toList_toArray, hml, ← List.append_assoc, mkCells_snoc, mkCells_app, ← e1, ← e2, List.take_append, List.take_of_length_le (by rw [List.length_append, List.length_take, hml]; omega)]
    congr 1
    rw [List.length_append, List.length_take, hml, hc1]
    congr 1
    omega
  have hmem : ∀ q ∈ qs.take i ++ qs.drop (i + 1) ++ [lst], q ∈ qs := by
    intro q hm
    rw [List.mem_append, List.mem_append, List.mem_singleton] at hm
    rcases hm with (hm | hm) | hm
    · exact List.mem_of_mem_take hm
    · exact List.mem_of_mem_drop hm
    · rw [hm, hlst]; exact List.getElem_mem _
  have HN : Hid (∀ W, Below w.heap.size w W → MarkQ M (W.setRow g cur') B (.slice (some ⟨g, 0, none⟩) qs.length cap) (qs.take i ++ qs.drop (i + 1) ++ [lst]) ∧ Turns M w (W.setRow g cur')) := by
    refine Lib.hid fun W b => ?_
    have hq' := hq.below b
    have := hq'.relaid_same cur' _ hcs hlist hct (fun q hm => hq'.attrs_at q (hmem q hm))
    exact ⟨this.1, (Turns.of_below b).trans (this.2.mono fun b _ k => .inl k)⟩
  have HER : Hid ((qs.map (·.1)).eraseIdx i = ((qs.take i ++ qs.drop (i + 1) ++ [lst]).map (·.1)).take (qs.length - 1)) := by
    refine Lib.hid ?_
    rw [← List.map_take, List.take_append_of_le_length (by simp; omega), List.take_of_length_le (by simp; omega), List.eraseIdx_eq_take_drop_succ]
    simp
  have HG : Hid (∀ W, Below w.heap.size w W → W.heap[g]? = some (.cells cur 63 (0, 0)) ∧ ∀ j v, (mkCells (qs.drop (i + 1)))[j]? = some v → W.cell? ((⟨g, (i + 1) * 3, none⟩ : Addr).add j) = some v) := Lib.hid fun W b => ⟨(b.block g (heap_lt hg)).trans hg, (hq.below b).from (i + 1)⟩
  have HCUT : Hid (∀ W, Below w.heap.size w W → Calls Try.prog 88 #[.pointer (some ⟨B, 0, none⟩), .int .i64 ((qs.length : Int) - 1)] (W.setRow g cur') (fun e w' => e = .returned (.tuple #[]) ∧ MarksM M w' B ((qs.map (·.1)).eraseIdx i) ∧ Turns M w w')) := by
    refine Lib.hid fun W b => ?_
    obtain ⟨k1, k2⟩ := HN.out W b
    have := mcutP ((qs.take i ++ qs.drop (i + 1) ++ [lst]).map (·.1)) B M (W.setRow g cur') (qs.length - 1) ⟨_, _, rfl, k1⟩ (by rw [List.length_map, hlist]; omega)
    rw [← HER.out, show ((qs.length - 1 : Nat) : Int) = (qs.length : Int) - 1 by omega] at this
    refine this.mono ?_
    rintro e w' ⟨q1, q2, q3⟩
    exact ⟨q1, q2, k2.trans (q3.mono fun b _ k => .inl k)⟩
  have HC : Hid (∀ W, Below w.heap.size w W → (W.setRow g cur').cell? ⟨B, 0, none⟩ = some (.slice (some ⟨g, 0, none⟩) qs.length cap) ∧ B < (W.setRow g cur').heap.size) := Lib.hid fun W b => ⟨(HN.out W b).1.cell, (HN.out W b).1.lt⟩
  have HM := Lib.hid (mkCells_one _ (fun q hm => hq.ones q (List.mem_of_mem_drop (i := i + 1) hm)))
  have HML := Lib.hid hml
  have HCU := Lib.hid hcur'
  have hic : i ≤ cap := by omega
  have hil : i ≤ qs.length := by omega
  have hil1 : i + 1 ≤ qs.length := by omega
  have hz0 : (0 : Int) ≤ (i : Int) + 1 := by omega
  have hz1 : (i : Int) + 1 ≤ (qs.length : Int) := by omega
  have hw1 : IntKind.i64.wrap ((i : Int) + 1) = ((i + 1 : Nat) : Int) := by rw [IntWalk.i64_in _ (by omega)]; omega
  have hic1 : i + 1 ≤ cap := by omega
  have hne : cap ≠ i := by omega
  have HH3 := Lib.hid h3
  have HMIN : Hid (qs.length - (i + 1) = Nat.min (qs.length - (i + 1)) (qs.length - i)) := Lib.hid (Nat.min_eq_left (by omega)).symm
  clear hq hg h3 h4 hc1 hcur' hcs hct hml hlist hmem hlst
  rcases Nat.lt_or_ge (i + 1) cap with hlc | hlc
  · have hne2 : cap ≠ i + 1 := by omega
    go_enter Try.func91, Try.ntmps91
    go_wp2_with fail
    go_region_law (refine step_copy_rows rfl (.tmp 9) (.tmp 16) 102 102 rfl 63 3 Try.underlying102 size_mark _ _ _ _ _ _ (by rfl) (by rfl) g (i * 3) cur 63 (HG.out _ ((Below.refl _ _).drew)).1 (mkCells (qs.drop (i + 1))) (qs.length - (i + 1)) HMIN.out HML.out (fun _ => ⟨rfl, _, rfl, (HG.out _ ((Below.refl _ _).drew)).2⟩) (by have := HML.out; have := HH3.out; omega) HM.out ?_)
    all_goals
      rw [← HCU.out]
      have c0 := (HC.out w.drew ((Below.refl _ _).drew)).1
      have s0 := (HC.out w.drew ((Below.refl _ _).drew)).2
      have HX := Lib.hid (HCUT.out w.drew ((Below.refl _ _).drew))
      clear HC HCUT HG HN
      generalize w.drew.setRow g cur' = W1 at *
      go_wp2_with fail
      refine HX.out.mono ?_
      rintro e w2 ⟨rfl, d2, t2⟩
      have HD := Lib.hid d2
      have HT := Lib.hid t2
      clear d2 t2
      go_wp2_with fail
      exact bodyPost_end (results_none rfl _ _ _) rfl ⟨rfl, HD.out, HT.out⟩
  · obtain rfl : cap = i + 1 := by omega
    have HMN : Hid (0 = Nat.min 0 (qs.length - i)) := Lib.hid (Nat.min_eq_left (Nat.zero_le _)).symm
    have HM0 : Hid ((mkCells (qs.drop (i + 1))).length = 0 * 3) := Lib.hid (by have := HML.out; omega)
    go_enter Try.func91, Try.ntmps91
    go_wp2_with fail
    go_region_law (refine step_copy_rows rfl (.tmp 9) (.tmp 16) 102 102 rfl 63 3 Try.underlying102 size_mark _ _ _ _ _ _ (by rfl) (by rfl) g (i * 3) cur 63 (HG.out _ ((Below.refl _ _).drew)).1 (mkCells (qs.drop (i + 1))) 0 HMN.out HM0.out (fun q => absurd q (by omega)) (by have := HML.out; have := HH3.out; omega) HM.out ?_)
    all_goals
      rw [← HCU.out]
      have c0 := (HC.out w.drew ((Below.refl _ _).drew)).1
      have s0 := (HC.out w.drew ((Below.refl _ _).drew)).2
      have HX := Lib.hid (HCUT.out w.drew ((Below.refl _ _).drew))
      clear HC HCUT HG HN
      generalize w.drew.setRow g cur' = W1 at *
      go_wp2_with fail
      refine HX.out.mono ?_
      rintro e w2 ⟨rfl, d2, t2⟩
      have HD := Lib.hid d2
      have HT := Lib.hid t2
      clear d2 t2
      go_wp2_with fail
      exact bodyPost_end (results_none rfl _ _ _) rfl ⟨rfl, HD.out, HT.out⟩
end Go.Proofs.Ytbadckkcjjfnoaa
