/-
  The walks of the reference's New, Len, is, Drop for marks. Any marks, not too many.
-/
import Derived.Test.YtbadckkcjjfnoaaMR1
namespace Go.Proofs.Ytbadckkcjjfnoaa
open Go.RowKit

theorem RefQ.form {P : Nat → Prop} {w : World} {B : Nat} {v : Value} {rs : List (MK × Value)} (h : RefQ P w B v rs) : ∃ p c, v = .slice p rs.length c ∧ rs.length ≤ c ∧ (p = none → c = 0) := by
  obtain ⟨p, c, rfl, hl, _⟩ := h.row
  exact ⟨p, c, rfl, hl, fun e => by subst e; exact h.nil _ _ rfl⟩
theorem RowP.take {P : Nat → Prop} {w : World} {g o n c k : Nat} {rs : List (MK × Value)} (h : RowP P w (.slice (some ⟨g, o, none⟩) n c) rs) (hk : k ≤ rs.length) : RowP P w (.slice (some ⟨g, o, none⟩) k c) (rs.take k) := by
  obtain ⟨p, cap, e, hl, hc, ha⟩ := h
  injection e with e1 e2 e3
  subst e1 e3
  refine ⟨_, c, by rw [List.length_take, Nat.min_eq_left hk], by rw [List.length_take]; omega, fun j hj => ?_, fun q hq => ha q (List.mem_of_mem_take hq)⟩
  have hj' : j < rs.length := by rw [List.length_take] at hj; omega
  rw [List.getElem_take]
  exact hc j hj'
theorem RowP.drop {P : Nat → Prop} {w : World} {g o n c k : Nat} {rs : List (MK × Value)} (h : RowP P w (.slice (some ⟨g, o, none⟩) n c) rs) : RowP P w (.slice (some ⟨g, o + k * 3, none⟩) (n - k) (c - k)) (rs.drop k) := by
  obtain ⟨p, cap, e, hl, hc, ha⟩ := h
  injection e with e1 e2 e3
  subst e1 e3
  refine ⟨_, c - k, by rw [List.length_drop, e2], by rw [List.length_drop]; omega, fun j hj => ?_, fun q hq => ha q (List.mem_of_mem_drop hq)⟩
  have hj' : k + j < rs.length := by rw [List.length_drop] at hj; omega
  obtain ⟨g', o', e', hp, hg, h0, h1, h2⟩ := hc (k + j) hj'
  rw [List.getElem_drop]
  injection e' with e'
  injection e' with e4 e5
  subst e4 e5
  refine ⟨g, o + k * 3, rfl, hp, hg, ?_, ?_, ?_⟩
  · rw [show o + k * 3 + j * 3 = o + (k + j) * 3 by omega]; exact h0
  · rw [show o + k * 3 + j * 3 = o + (k + j) * 3 by omega]; exact h1
  · rw [show o + k * 3 + j * 3 = o + (k + j) * 3 by omega]; exact h2
theorem RowP.empty (P : Nat → Prop) (w : World) (p : Option Addr) (c : Nat) : RowP P w (.slice p 0 c) [] := ⟨p, c, rfl, Nat.zero_le _, fun j hj => absurd hj (by simp), fun q hq => absurd hq (by simp)⟩
theorem step_append_row {ops : Array Oper} {o : Oper} {a : Act} {w : World} {K : Act → World → Prop} {Q : Exit → Act → World → Prop} {E : Prop} (hgd : o.guard = none) (s x : Operand)
    (ho : o.op = .call { callee := .builtin .append, args := #[s, x], argTypes := #[102, 102 ] }) (base : Nat) (es : List (MK × Value))
    (v : Value) (hs : a.eval s = v) (hown : w.ownsRow base 63 3 v es.length (mkCells es)) (P : Nat → Prop)
    (p : Option Addr) (m c : Nat) (ms : List (MK × Value)) (hx : a.eval x = .slice p m c) (hp : p = none → m = 0 ∧ c = 0) (hrow : RowP P w (.slice p m c) ms)
    (hb : es.length + ms.length ≤ 4294967296) (hbase : base ≤ w.heap.size)
    (h : ∀ v' w', w'.ownsRow base 63 3 v' (es ++ ms).length (mkCells (es ++ ms)) → w.grownBy w' v.ownBlock → K (a.put o.dst v') w') :
    if Region.wanted o (yielded ops a.tmps) = true then Oper.wp Try.prog o a w K Q else E := by
  obtain ⟨e, _, hr, hl, h1⟩ := hrow.reads
  refine step_append_any hgd s x ho base v es.length (mkCells es) hs hown p m c (mkCells ms) hx hp hl hr h1 (by omega) hbase fun v' w' q1 q2 => h v' w' ?_ q2
  rw [List.length_append, mkCells_app, ← e]
  exact q1
theorem RStep.same {P : Nat → Prop} {w : World} {B : Nat} {S : List MK} (h : RefM P w B S) : RStep w B P S w := by
  obtain ⟨v, rs, e, hq⟩ := h
  exact ⟨⟨v, rs, e, hq.lt, hq.cell, hq.free, hq.row.mono fun b k _ => .inl k, fun k => k.elim hq.off (fun q => by omega), hq.nil, hq.addr⟩, Turns.refl _ _⟩
theorem RowP.attrs {P : Nat → Prop} {w : World} {v : Value} {rs : List (MK × Value)} (h : RowP P w v rs) : ∀ q ∈ rs, AttrsP P w q.2 q.1.attrs := by
  obtain ⟨_, _, _, _, _, ha⟩ := h
  exact ha
theorem own_slice {w : World} {base n : Nat} {v : Value} {xs : List Value} (h : w.ownsRow base 63 3 v n xs) : ∃ p l c, v = .slice p l c := by
  rcases h.2 with ⟨e, _⟩ | ⟨g, cap, _, e, _⟩
  · exact ⟨_, _, _, e⟩
  · exact ⟨_, _, _, e⟩
/-- What stands behind an append to a row of one's own. -/
theorem RefQ.grown {P : Nat → Prop} {w W W' : World} {B : Nat} {v v0 : Value} {rs : List (MK × Value)} {n : Nat} {xs : List Value} (h : RefQ P w B v rs) (hb : Below w.heap.size w W) (hr : W.ownsRow w.heap.size 63 3 v0 n xs) (hg : W.grownBy W' v0.ownBlock) :
    Below w.heap.size w W' ∧ W'.cell? ⟨B, 0, none⟩ = some v ∧ W'.frozen? ⟨B, 0, none⟩ = false ∧ B < W'.heap.size := by
  have b := hb.grown hg hb.size fun g e => (hr.lt g e).1
  exact ⟨b, (h.below b).cell, (h.below b).free, (h.below b).lt⟩
set_option maxHeartbeats 1000000 in
set_option maxRecDepth 100000 in
theorem risP (S : List MK) (B : Nat) (P : Nat → Prop) (w : World) (i : Int) (h : RefM P w B S) : Calls Try.prog 92 #[.pointer (some ⟨B, 0, none⟩), .int .i64 i] w (Gives (.bool (mHas S i)) w) := by
  obtain ⟨v, rs, rfl, hq⟩ := h
  obtain ⟨p, cap, rfl, _⟩ := hq.form
  have h0 := hq.cell
  have hB := hq.lt
  have HL : Hid ((rs.map (·.1)).length = rs.length) := Lib.hid (by simp)
  have HR : Hid (mHas (rs.map (·.1)) i = (decide (0 ≤ i) && decide (i < rs.length))) := Lib.hid (by unfold mHas; rw [HL.out])
  rw [HR.out]
  clear hq
  by_cases c1 : 0 ≤ i
  · by_cases c2 : i < rs.length
    · have HV : Hid ((decide (0 ≤ i) && decide (i < (rs.length : Int))) = true) := Lib.hid (by simp [c1, c2])
      rw [HV.out]
      go_enter Try.func92, Try.ntmps92
      go_wp2_with fail
      go_ret
      exact ⟨rfl, rfl⟩
    · have HV : Hid ((decide (0 ≤ i) && decide (i < (rs.length : Int))) = false) := Lib.hid (by simp [c2])
      rw [HV.out]
      go_enter Try.func92, Try.ntmps92
      go_wp2_with fail
      go_ret
      exact ⟨rfl, rfl⟩
  · have HV : Hid ((decide (0 ≤ i) && decide (i < (rs.length : Int))) = false) := Lib.hid (by simp [c1])
    rw [HV.out]
    go_enter Try.func92, Try.ntmps92
    go_wp2_with fail
    go_ret
    exact ⟨rfl, rfl⟩
set_option maxHeartbeats 4000000 in
set_option maxRecDepth 100000 in
theorem rdropP (S : List MK) (B : Nat) (P : Nat → Prop) (w : World) (i : Int) (h : RefM P w B S) (hs : S.length ≤ 100000000) : Calls Try.prog 33 #[.pointer (some ⟨B, 0, none⟩), .int .i64 i] w (fun e w' => e = .returned (.bool (mHas S i)) ∧ RStep w B P (mDropS S i) w') := by
  have HH := Lib.hid (risP S B P w i h)
  by_cases c : mHas S i = true
  · have hc : 0 ≤ i ∧ i < S.length := by unfold mHas at c; simpa using c
    have HS : Hid (mDropS S i = S.eraseIdx i.toNat) := Lib.hid (if_pos c)
    rw [HS.out, c]
    rw [c] at HH
    obtain ⟨k, hk⟩ : ∃ k : Nat, k = i.toNat := ⟨_, rfl⟩
    rw [← hk]
    obtain rfl : i = (k : Int) := by omega
    obtain ⟨v, rs, rfl, hq⟩ := h
    rw [List.length_map] at hc hs
    obtain ⟨p, cap, rfl, hcap, hnil⟩ := hq.form
    have HQ := Lib.hid hq
    have h0 := hq.cell
    have hB := hq.lt
    have j0 : (0 : Int) ≤ (k : Int) := by omega
    have j1 : (k : Int) < (rs.length : Int) := by omega
    have hkl : k < rs.length := by omega
    obtain ⟨g, o, rfl⟩ : ∃ g o, p = some ⟨g, o, none⟩ := by
      obtain ⟨p', c', e, _, hc', _⟩ := hq.row
      injection e with e1 e2 e3
      obtain ⟨g, o, e', _⟩ := hc' 0 (by omega)
      exact ⟨g, o, by rw [e1, e']⟩
    have HTK : Hid (∀ W, Below w.heap.size w W → RowP P W (.slice (some ⟨g, o, none⟩) k cap) (rs.take k)) := Lib.hid fun W b => (HQ.out.below b).row.take (by omega)
    have HDR : Hid (∀ W, Below w.heap.size w W → RowP P W (.slice (some ⟨g, o + (k + 1) * 3, none⟩) (rs.length - (k + 1)) (cap - (k + 1))) (rs.drop (k + 1))) := Lib.hid fun W b => (HQ.out.below b).row.drop
    have HB0 : Hid (Below w.heap.size w (w.alloc (.cells #[] 63)).drew) := Lib.hid (((Below.refl _ w).alloc (Nat.le_refl _) _).trans (Below.refl _ _).drew)
    have HOW : Hid ((w.alloc (.cells #[] 63)).drew.ownsRow w.heap.size 63 3 (.slice (some ⟨w.heap.size, 0, none⟩) 0 0) ([] : List (MK × Value)).length (mkCells [])) := Lib.hid (own_empty (heap_alloc_new w _) (Nat.le_refl _))
    have HER : Hid ((rs.take k ++ rs.drop (k + 1)).map (·.1) = (rs.map (·.1)).eraseIdx k) := Lib.hid (by rw [List.eraseIdx_eq_take_drop_succ]; simp)
    have hkc : k ≤ cap := by omega
    have hw1 : IntKind.i64.wrap ((k : Int) + 1) = ((k + 1 : Nat) : Int) := by rw [IntWalk.i64_in _ (by omega)]; omega
    have hk1 : k + 1 ≤ rs.length := by omega
    have hz1 : (k : Int) + 1 ≤ (rs.length : Int) := by omega
    have hz0 : (0 : Int) ≤ (k : Int) + 1 := by omega
    have hs0 : w.heap.size ≤ (w.alloc (.cells #[] 63)).drew.heap.size := by simp
    clear hq c hk HS
    rcases Nat.lt_or_ge (k + 1) cap with hlc | hlc
    · have hne : cap ≠ k + 1 := by omega
      have HSM : Hid ((rs.take k).length + (rs.drop (k + 1)).length ≤ 4294967296) := Lib.hid (by rw [List.length_take, List.length_drop]; omega)
      have HSL : Hid (([] : List (MK × Value)).length + (rs.take k).length ≤ 4294967296) := Lib.hid (by rw [List.length_take, List.length_nil]; omega)
      go_enter Try.func33, Try.ntmps33
      go_wp2_with fail
      refine HH.out.mono ?_
      rintro e w1 ⟨rfl, rfl⟩
      go_wp2_with fail
      go_region_law (first
        | (refine step_append_row rfl (.tmp 10) (.tmp 16) rfl w.heap.size [] _ (by rfl) HOW.out P _ _ _ (rs.take k) (by rfl) (fun e => by cases e) (HTK.out _ HB0.out) HSL.out hs0 ?_; intro v1 w1 hr1 hg1; obtain ⟨pp1, ll1, cc1, rfl⟩ := own_slice hr1; obtain ⟨b1, c1, f1, s1⟩ := RefQ.grown HQ.out HB0.out HOW.out hg1; have HR1 := Lib.hid hr1; have HB1 := Lib.hid b1; clear hr1 hg1 b1)
        | (refine step_append_row rfl (.tmp 17) (.tmp 24) rfl w.heap.size (rs.take k) _ (by rfl) HR1.out P _ _ _ (rs.drop (k + 1)) (by rfl) (fun e => by cases e) (HDR.out _ HB1.out) HSM.out HB1.out.size ?_; intro v2 w2 hr2 hg2; obtain ⟨pp2, ll2, cc2, rfl⟩ := own_slice hr2; obtain ⟨b2, c2, f2, s2⟩ := RefQ.grown HQ.out HB1.out HR1.out hg2; have HR2 := Lib.hid hr2; have HB2 := Lib.hid b2; clear hr2 hg2 b2)
        | fail)
      all_goals
        go_wp2_with fail
        go_ret
        have h := RefQ.laid HQ.out HB2.out HR2.out (fun q hm => (HQ.out.below HB2.out).row.attrs q ((List.mem_append.1 hm).elim List.mem_of_mem_take List.mem_of_mem_drop))
        rw [HER.out] at h
        exact ⟨rfl, h⟩
    · obtain rfl : cap = k + 1 := by omega
      have HSL : Hid (([] : List (MK × Value)).length + (rs.take k).length ≤ 4294967296) := Lib.hid (by rw [List.length_take, List.length_nil]; omega)
      have HSN : Hid ((rs.take k).length + ([] : List (MK × Value)).length ≤ 4294967296) := Lib.hid (by rw [List.length_take, List.length_nil]; omega)
      have HER2 : Hid ((rs.take k ++ ([] : List (MK × Value))).map (·.1) = (rs.map (·.1)).eraseIdx k) := Lib.hid (by rw [← HER.out, show rs.drop (k + 1) = [] from List.drop_eq_nil_of_le (by omega)])
      have hz9 : (k : Int) ≤ (k : Int) + 1 := by omega
      go_enter Try.func33, Try.ntmps33
      go_wp2_with fail
      refine HH.out.mono ?_
      rintro e w1 ⟨rfl, rfl⟩
      go_wp2_with fail
      go_region_law (first
        | (refine step_append_row rfl (.tmp 10) (.tmp 16) rfl w.heap.size [] _ (by rfl) HOW.out P _ _ _ (rs.take k) (by rfl) (fun e => by cases e) (HTK.out _ HB0.out) HSL.out hs0 ?_; intro v1 w1 hr1 hg1; obtain ⟨pp1, ll1, cc1, rfl⟩ := own_slice hr1; obtain ⟨b1, c1, f1, s1⟩ := RefQ.grown HQ.out HB0.out HOW.out hg1; have HR1 := Lib.hid hr1; have HB1 := Lib.hid b1; clear hr1 hg1 b1)
        | (refine step_append_row rfl (.tmp 17) (.tmp 24) rfl w.heap.size (rs.take k) _ (by rfl) HR1.out P _ _ _ [] (by rfl) (fun e => by cases e) (RowP.empty P _ _ _) HSN.out HB1.out.size ?_; intro v2 w2 hr2 hg2; obtain ⟨pp2, ll2, cc2, rfl⟩ := own_slice hr2; obtain ⟨b2, c2, f2, s2⟩ := RefQ.grown HQ.out HB1.out HR1.out hg2; have HR2 := Lib.hid hr2; have HB2 := Lib.hid b2; clear hr2 hg2 b2)
        | fail)
      all_goals
        go_wp2_with fail
        go_ret
        have h := RefQ.laid HQ.out HB2.out HR2.out (fun q hm => (HQ.out.below HB2.out).row.attrs q (List.mem_of_mem_take (by simpa using hm)))
        rw [HER2.out] at h
        exact ⟨rfl, h⟩
  · have c' : mHas S i = false := by simpa using c
    have HS : Hid (mDropS S i = S) := Lib.hid (if_neg c)
    rw [HS.out, c']
    rw [c'] at HH
    clear c c'
    have HM := Lib.hid h
    clear h
    go_enter Try.func33, Try.ntmps33
    go_wp2_with fail
    refine HH.out.mono ?_
    rintro e w1 ⟨rfl, rfl⟩
    go_wp2_with fail
    go_ret
    exact ⟨rfl, RStep.same HM.out⟩
end Go.Proofs.Ytbadckkcjjfnoaa
