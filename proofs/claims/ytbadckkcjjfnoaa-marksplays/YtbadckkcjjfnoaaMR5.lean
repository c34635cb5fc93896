/-
  The walk of the reference's Push for marks. Any marks, not too many.
-/
import Derived.Test.YtbadckkcjjfnoaaMR4
namespace Go.Proofs.Ytbadckkcjjfnoaa
open Go.RowKit

theorem drew_add (w : World) (a b : Nat) : (w.drewN a).drewN b = w.drewN (a + b) := by simp [World.drewN, Nat.add_assoc]
/-- The end of a scan: at the last wall. -/
theorem mScan_rW {S : List MK} (h : Sign S) (x : MK) (i : Nat) (hi : i ≤ S.length) (f : Int) (n : Nat) : mScan S x (rW S i) f n = (f, n) := by
  rcases hr : rW S i with _ | k
  · rfl
  · have hk := rW_le S i
    have := rW_at S i (by omega)
    rw [hr, Nat.add_sub_cancel, sign_neg h (by omega)] at this
    rw [mScan, if_pos this]
theorem RefM.below {P : Nat → Prop} {w w' : World} {B : Nat} {S : List MK} (h : RefM P w B S) (hb : Below w.heap.size w w') : RefM P w' B S := by
  obtain ⟨v, rs, e, hq⟩ := h
  exact ⟨v, rs, e, hq.below hb⟩
/-- The last lines of Push: a new row of all, and the mark behind. -/
def REnd (P : Nat → Prop) (B : Nat) (S' : List MK) (w : World) (e : Ending) (w' : World) : Prop := e = .returned (.tuple #[]) ∧ RStep w B P S' w'
theorem RStep.trans {P : Nat → Prop} {w w1 w2 : World} {B : Nat} {S1 S2 : List MK} (h : RStep w B P S1 w1) (k : RStep w1 B (NewP P w w1) S2 w2) : RStep w B P S2 w2 := by
  obtain ⟨h1, h2⟩ := h
  obtain ⟨⟨v, rs, e, hq⟩, k2⟩ := k
  have z1 := h2.size
  have z2 := k2.size
  refine ⟨⟨v, rs, e, hq.lt, hq.cell, hq.free, hq.row.mono fun b q _ => ?_, fun q => hq.off ?_, hq.nil, hq.addr⟩, h2.trans (k2.mono fun b _ k => .inl k)⟩
  · rcases q with (q | q) | q
    · exact .inl q
    · exact .inr (by omega)
    · exact .inr (by omega)
  · rcases q with q | q
    · exact .inl (.inl q)
    · rcases Nat.lt_or_ge B w1.heap.size with c | c
      · exact .inl (.inr ⟨q.1, c⟩)
      · exact .inr ⟨c, q.2⟩
theorem RStep.from {P : Nat → Prop} {w W w' : World} {B : Nat} {S' : List MK} (h : RStep W B P S' w') (hb : Below w.heap.size w W) (hB : B < w.heap.size) : RStep w B P S' w' := by
  obtain ⟨⟨v, rs, e, hq⟩, h2⟩ := h
  have z := hb.size
  refine ⟨⟨v, rs, e, hq.lt, hq.cell, hq.free, hq.row.mono fun b q _ => q.imp id (fun q => by omega), fun q => hq.off ?_, hq.nil, hq.addr⟩, (Turns.of_below hb).trans (h2.mono fun b _ k => .inl k)⟩
  rcases q with q | q
  · exact .inl q
  · omega
/-- All that the last region of Push asks. -/
structure PEnd (P : Nat → Prop) (W2 : World) (B : Nat) (S2 : List MK) (x : MK) (NM : ByteArray) (pa : Option Addr) (ca : Nat) (p : Option Addr) (cap : Nat) (rs : List (MK × Value)) : Prop where
  fst : rs.map (·.1) = S2
  ref : RefQ P W2 B (.slice p rs.length cap) rs
  att : AttrsP P W2 (.slice pa x.attrs.length ca) x.attrs
  name : NM = ⟨x.name.toArray⟩
theorem PEnd.fin {P : Nat → Prop} {W2 w' : World} {B : Nat} {S2 : List MK} {x : MK} {NM : ByteArray} {pa : Option Addr} {ca : Nat} {p : Option Addr} {cap : Nat} {rs : List (MK × Value)} {v' : Value} (h : PEnd P W2 B S2 x NM pa ca p cap rs) (hb : Below W2.heap.size W2 w') (hr : w'.ownsRow W2.heap.size 63 3 v' ([] ++ rs ++ [(x, (Value.slice pa x.attrs.length ca))]).length (mkCells ([] ++ rs ++ [(x, (Value.slice pa x.attrs.length ca))]))) : RStep W2 B P (S2 ++ [x]) (w'.setCell ⟨B, 0, none⟩ v') := by
  have h2 := RefQ.laid h.ref hb hr (fun q hm => by
    rcases List.mem_append.1 hm with hm | hm
    · exact (h.ref.below hb).row.attrs q (by simpa using hm)
    · rw [List.mem_singleton.1 hm]
      exact h.att.kept (.of_below hb))
  rw [show ((([] ++ rs ++ [(x, (Value.slice pa x.attrs.length ca))] : List (MK × Value))).map (·.1)) = rs.map (·.1) ++ [x] by simp, h.fst] at h2
  exact h2
theorem PEnd.one {P : Nat → Prop} {W2 W : World} {B g : Nat} {S2 : List MK} {x : MK} {NM : ByteArray} {pa : Option Addr} {ca : Nat} {p : Option Addr} {cap : Nat} {rs : List (MK × Value)} (h : PEnd P W2 B S2 x NM pa ca p cap rs) (hb : Below W2.heap.size W2 W) (hx : W.heap[g]? = some (.cells #[.int .i64 x.node, .string NM, .slice pa x.attrs.length ca] 63 (0, 0))) : RowP (fun b => P b ∨ b = g) W (.slice (some ⟨g, 0, none⟩) 1 1) [(x, (Value.slice pa x.attrs.length ca))] :=
  RowP.one (x := x) (by rw [h.name] at hx; exact hx) (h.att.kept (.of_below hb))
/-- The three worlds in which the first append may come, and what stands there. -/
theorem three (W2 : World) (o : Obj) (T : TypeId) (cs : Array Value) (ho : o = .cells cs T) :
    (Below W2.heap.size W2 (W2.alloc (.cells #[] 63)).drew ∧ (W2.alloc (.cells #[] 63)).drew.ownsRow W2.heap.size 63 3 (.slice (some ⟨W2.heap.size, 0, none⟩) 0 0) ([] : List (MK × Value)).length (mkCells [])) ∧
    (Below W2.heap.size W2 ((W2.alloc (.cells #[] 63)).alloc o).drew ∧ ((W2.alloc (.cells #[] 63)).alloc o).drew.ownsRow W2.heap.size 63 3 (.slice (some ⟨W2.heap.size, 0, none⟩) 0 0) ([] : List (MK × Value)).length (mkCells []) ∧ ((W2.alloc (.cells #[] 63)).alloc o).drew.heap[W2.heap.size + 1]? = some (.cells cs T (0, 0))) ∧
    (Below W2.heap.size W2 ((W2.alloc o).alloc (.cells #[] 63)).drew ∧ ((W2.alloc o).alloc (.cells #[] 63)).drew.ownsRow W2.heap.size 63 3 (.slice (some ⟨W2.heap.size + 1, 0, none⟩) 0 0) ([] : List (MK × Value)).length (mkCells []) ∧ ((W2.alloc o).alloc (.cells #[] 63)).drew.heap[W2.heap.size]? = some (.cells cs T (0, 0))) := by
  subst ho
  have bE : Below W2.heap.size W2 (W2.alloc (.cells #[] 63)) := (Below.refl _ W2).alloc (Nat.le_refl _) _
  have bO : Below W2.heap.size W2 (W2.alloc (.cells cs T)) := (Below.refl _ W2).alloc (Nat.le_refl _) _
  have bEO : Below W2.heap.size W2 ((W2.alloc (.cells #[] 63)).alloc (.cells cs T)) := bE.alloc bE.size _
  have bOE : Below W2.heap.size W2 ((W2.alloc (.cells cs T)).alloc (.cells #[] 63)) := bO.alloc bO.size _
  have e1 := heap_alloc_new W2 (.cells #[] 63)
  have e2 : ((W2.alloc (.cells #[] 63)).alloc (.cells cs T)).heap[W2.heap.size]? = some (.cells #[] 63 (0, 0)) := by
    rw [((Below.refl _ (W2.alloc (.cells #[] 63))).alloc (Nat.le_refl _) (.cells cs T)).block W2.heap.size (by simp)]; exact e1
  have e3 : ((W2.alloc (.cells #[] 63)).alloc (.cells cs T)).heap[W2.heap.size + 1]? = some (.cells cs T (0, 0)) := by
    have := heap_alloc_new (W2.alloc (.cells #[] 63)) (.cells cs T)
    simpa using this
  have e4 : ((W2.alloc (.cells cs T)).alloc (.cells #[] 63)).heap[W2.heap.size + 1]? = some (.cells #[] 63 (0, 0)) := by
    have := heap_alloc_new (W2.alloc (.cells cs T)) (.cells #[] 63)
    simpa using this
  have e5 : ((W2.alloc (.cells cs T)).alloc (.cells #[] 63)).heap[W2.heap.size]? = some (.cells cs T (0, 0)) := by
    rw [((Below.refl _ (W2.alloc (.cells cs T))).alloc (Nat.le_refl _) (.cells #[] 63)).block W2.heap.size (by simp)]; exact heap_alloc_new W2 _
  exact ⟨⟨bE.drew, own_empty e1 (Nat.le_refl _)⟩, ⟨bEO.drew, own_empty e2 (Nat.le_refl _), e3⟩, ⟨bOE.drew, own_empty e4 (by omega), e5⟩⟩
/-- What stands in its block stands behind an append to another one's row. -/
theorem far_block {W W' : World} {r : Option Nat} {g : Nat} {o : Obj} (hg : W.grownBy W' r) (h : W.heap[g]? = some o) (hn : some g ≠ r) : W'.heap[g]? = some o := (hg.block g (heap_lt h) hn).trans h
set_option maxHeartbeats 4000000 in
set_option maxRecDepth 100000 in
theorem rpushP (S : List MK) (B : Nat) (P : Nat → Prop) (w : World) (x : MK) (pa : Option Addr) (ca : Nat) (h : RefM P w B S) (hs : S.length ≤ 100000000) (hsg : Sign S) (hf : ∀ y ∈ S, y.fits) (hx : x.fits) (ha : AttrsP P w (.slice pa x.attrs.length ca) x.attrs) :
    Calls Try.prog 39 #[.pointer (some ⟨B, 0, none⟩), markV x (.slice pa x.attrs.length ca)] w (REnd P B (mPush S x) w) := by
  unfold markV
  obtain ⟨NM, hNM⟩ : ∃ NM : ByteArray, NM = (⟨x.name.toArray⟩ : ByteArray) := ⟨_, rfl⟩
  rw [← hNM]
  obtain ⟨W1, hW1⟩ : ∃ W1, W1 = w.alloc (.cells #[.int .i64 x.node, .string NM, .slice pa x.attrs.length ca] 63) := ⟨_, rfl⟩
  have b1 : Below w.heap.size w W1 := by rw [hW1]; exact (Below.refl _ w).alloc (Nat.le_refl _) _
  have hx1 : W1.heap[w.heap.size]? = some (.cells #[.int .i64 x.node, .string NM, .slice pa x.attrs.length ca] 63 (0, 0)) := by rw [hW1]; exact heap_alloc_new w _
  have HNM := Lib.hid hNM
  have HW1 := Lib.hid hW1
  have HB1 := Lib.hid b1
  have HX1 := Lib.hid hx1
  have hxa := ha.kept (.of_below b1)
  have HXA := Lib.hid hxa
  have HX := Lib.hid hx
  have h1 := h.below b1
  have HM1 := Lib.hid h1
  have HWL := Lib.hid (fun q => rwallP S B P (W1.drewN q) (h1.below (below_drewN (Below.refl _ _) q)) (by omega))
  have HWLE := rW_le S S.length
  have HWI := Lib.hid (rW_in S S.length)
  have HSC := Lib.hid (fun f n => mScan_rW hsg x S.length (Nat.le_refl _) f n)
  have HMR : Hid (mRoom S x = if 3 ≤ (mScan S x S.length (-1) 0).2 then S.eraseIdx (mScan S x S.length (-1) 0).1.toNat else S) := Lib.hid rfl
  have HROOM : Hid (3 ≤ (mScan S x S.length (-1) 0).2 → 0 ≤ (mScan S x S.length (-1) 0).1 ∧ (mScan S x S.length (-1) 0).1 < S.length) := Lib.hid (mScan_room S x)
  obtain ⟨v, qs, eS, hq⟩ := id h1
  obtain ⟨p, cap, rfl, hr⟩ := hq.reads
  have c0 := hq.cell
  have s0 := hq.lt
  have h0 := (by obtain ⟨v', qs', e', hq'⟩ := id h; exact hq'.lt : B < w.heap.size)
  have hql : qs.length = S.length := by rw [← eS]; simp
  have HQL := Lib.hid hql
  have hs2 : qs.length ≤ 100000000 := by omega
  have HR := Lib.hid hr
  have HAT := Lib.hid hq.row.attrs
  have HFI : Hid (∀ j (hj : j < qs.length), qs[j].1.fits) := Lib.hid fun j hj => hf qs[j].1 (by rw [← eS]; exact List.mem_map_of_mem (List.getElem_mem hj))
  have HST : Hid (∀ j (hj : j < qs.length) (f : Int) (n : Nat), ¬ qs[j].1.node < 0 → mScan S x (j + 1) f n = if alikeM qs[j].1 x then mScan S x j j (n + 1) else mScan S x j f n) := Lib.hid fun j hj f n hn => by
    have e : S[j]'(by omega) = qs[j].1 := by subst eS; simp
    rw [mScan_step S x j f n (by omega), e, if_neg (by omega)]
  have HGD : Hid (∀ j (hj : j < qs.length), S.getD j mZero = qs[j].1) := Lib.hid fun j hj => by rw [← eS]; exact fst_getD hj
  have hw0 : w.cell? ⟨B, 0, none⟩ = some (.slice p qs.length cap) := by
    rw [← c0]
    exact (b1.cell (p := ⟨B, 0, none⟩) h0).symm
  clear h h1 hq eS hql hr hW1 hx1 b1 hNM ha hx hf hsg hxa
  obtain ⟨R, hR⟩ : ∃ R, R = mScan S x S.length (-1) 0 := ⟨_, rfl⟩
  rw [← hR] at HROOM HMR
  have HRR : Hid (R = mScan S x qs.length (-1) 0) := Lib.hid (by rw [hR, HQL.out])
  rw [← HQL.out] at HWL HWLE HWI HSC
  clear hR
  obtain ⟨Z, hZ⟩ : ∃ Z, Z = rW S qs.length := ⟨_, rfl⟩
  rw [← hZ] at HWL HWLE HWI HSC
  clear hZ
  go_enter Try.func39, Try.ntmps39
  go_wp2_with fail
  rw [← HW1.out]
  go_loopw [4, 5, 6] (fun fv nv i wr => ∃ (k : Nat) (f : Int) (n q : Nat), k ≤ qs.length ∧ Z ≤ k ∧ n + k ≤ qs.length ∧ fv = .int .i64 f ∧ nv = .int .i64 (n : Int) ∧ i = .int .i64 ((k : Int) - 1) ∧ R = mScan S x k f n ∧ wr = W1.drewN q) (fun _ _ i _ => (intOf i + 1).toNat)
  case atStart => exact ⟨qs.length, -1, 0, 0, Nat.le_refl _, HWLE, by omega, rfl, rfl, rfl, HRR.out, rfl⟩
  case round =>
    obtain ⟨k, f, n, q, hk, hzk, hnk, rfl, rfl, rfl, hsc, rfl⟩ := hrel
    have HSN := Lib.hid hsc
    clear hsc
    rcases Nat.lt_or_ge Z k with hlt | hge
    · obtain ⟨j, rfl⟩ : ∃ j, k = j + 1 := ⟨k - 1, by omega⟩
      rw [show (((j + 1 : Nat) : Int) - 1) = (j : Int) by omega]
      have hj : j < qs.length := by omega
      have hn := HWI.out j hj (by omega)
      rw [HGD.out j hj] at hn
      have HS2 := Lib.hid (HST.out j hj f n hn)
      obtain ⟨g, o, rfl, hg, n0, n1, n2⟩ := HR.out j hj
      have j0 : (0 : Int) ≤ (j : Int) := by omega
      have j1 : (j : Int) < (qs.length : Int) := by omega
      have j2 : (Z : Int) ≤ (j : Int) := by omega
      have x1 : W1.cell? ⟨w.heap.size, 1, none⟩ = some (.string NM) := (block_cell HX1.out 1).1
      have x2 : W1.cell? ⟨w.heap.size, 2, none⟩ = some (.slice pa x.attrs.length ca) := (block_cell HX1.out 2).1
      have xl := heap_lt HX1.out
      have HSA : Hid (∀ q', Calls Try.prog 95 #[qs[j].2, .slice pa x.attrs.length ca] (W1.drewN (q + q')) (fun e w' => e = .returned (.bool (sameV qs[j].1.attrs x.attrs)) ∧ ∃ m, w' = W1.drewN (q + m))) := Lib.hid fun q' => by
        have fa := HFI.out j hj
        have fb := HX.out
        have b0 : Below W1.heap.size W1 (W1.drewN (q + q')) := below_drewN (Below.refl _ _) _
        refine (rsame_in _ _ qs[j].1.attrs x.attrs _ (((HAT.out qs[j] (List.getElem_mem hj)).has fa.2).below b0) ((HXA.out.has fb.2).below b0) (Nat.le_trans fa.1 (by decide)) (Nat.le_trans fb.1 (by decide))).mono ?_
        rintro e w' ⟨rfl, m, rfl⟩
        exact ⟨rfl, q' + m, by rw [drew_add, Nat.add_assoc]⟩
      have HAL : Hid (alikeM qs[j].1 x = (decide (qs[j].1.name = x.name) && sameV qs[j].1.attrs x.attrs)) := Lib.hid (by unfold alikeM; congr 1; rw [Bool.eq_iff_iff, beq_iff_eq, decide_eq_true_iff])
      clear n0 hn
      by_cases e3 : qs[j].1.name = x.name
      · have q3 : ((⟨qs[j].1.name.toArray⟩ : ByteArray).toList == NM.toList) = true := by rw [HNM.out]; exact str_is e3
        cases e4 : sameV qs[j].1.attrs x.attrs
        · have HZ : Hid (R = mScan S x j f n) := Lib.hid (by rw [HSN.out, HS2.out, HAL.out, e4, if_neg (by simp)])
          rw [e4] at HSA
          clear HS2 HAL e3 e4
          generalize (⟨qs[j].1.name.toArray⟩ : ByteArray) = SA at *
          generalize qs[j].2 = VA at *
          go_wp2_with fail
          refine (HWL.out _).mono ?_
          rintro e w2 ⟨rfl, rfl⟩
          go_wp2_with fail
          go_quiet ((go_at_call 95; first | exact HSA.out _ | exact HSA.out 0))
          go_wp2_with fail
          exact ⟨⟨j, f, n, _, by omega, by omega, by omega, rfl, rfl, rfl, HZ.out, rfl⟩, by simp [intOf]⟩
        · have HZ : Hid (R = mScan S x j j (n + 1)) := Lib.hid (by rw [HSN.out, HS2.out, HAL.out, e4, if_pos (by simp [e3])])
          rw [e4] at HSA
          clear HS2 HAL e3 e4
          generalize (⟨qs[j].1.name.toArray⟩ : ByteArray) = SA at *
          generalize qs[j].2 = VA at *
          go_wp2_with fail
          refine (HWL.out _).mono ?_
          rintro e w2 ⟨rfl, rfl⟩
          go_wp2_with fail
          go_quiet ((go_at_call 95; first | exact HSA.out _ | exact HSA.out 0))
          go_wp2_with fail
          exact ⟨⟨j, j, n + 1, _, by omega, by omega, by omega, rfl, by go_num, rfl, HZ.out, rfl⟩, by simp [intOf]⟩
      · have q3 : ((⟨qs[j].1.name.toArray⟩ : ByteArray).toList == NM.toList) = false := by rw [HNM.out]; exact str_ne e3
        have HZ : Hid (R = mScan S x j f n) := Lib.hid (by rw [HSN.out, HS2.out, HAL.out, if_neg (by simp [e3])])
        clear HS2 HAL HSA e3
        generalize (⟨qs[j].1.name.toArray⟩ : ByteArray) = SA at *
        go_wp2_with fail
        refine (HWL.out _).mono ?_
        rintro e w2 ⟨rfl, rfl⟩
        go_wp2_with fail
        go_quiet (fail)
        go_wp2_with fail
        exact ⟨⟨j, f, n, _, by omega, by omega, by omega, rfl, rfl, rfl, HZ.out, rfl⟩, by simp [intOf]⟩
    · obtain rfl : k = Z := by omega
      have HZ : Hid (R = (f, n)) := Lib.hid (by rw [HSN.out, HSC.out])
      have j2 : ¬ (k : Int) ≤ (k : Int) - 1 := by omega
      go_wp2_with fail
      refine (HWL.out _).mono ?_
      rintro e w2 ⟨rfl, rfl⟩
      obtain ⟨W3, hW3⟩ : ∃ W3, W3 = W1.drewN q := ⟨_, rfl⟩
      rw [← hW3]
      have b3 : Below W1.heap.size W1 W3 := by rw [hW3]; exact below_drewN (Below.refl _ _) q
      have HB3 := Lib.hid b3
      have HM3 := Lib.hid (HM1.out.below b3)
      have hbx3 := (b3.block _ (heap_lt HX1.out)).trans HX1.out
      have HBX3 := Lib.hid hbx3
      have hzz := HB1.out.size
      have hz3 := b3.size
      clear hW3 b3 HWL
      rcases Nat.lt_or_ge n 3 with hn3 | hn3
      · have n3 : (n : Int) < 3 := by omega
        have hbx := HBX3.out
        have x0 := (block_cell hbx 0).1
        have x1 := (block_cell hbx 1).1
        have x2 := (block_cell hbx 2).1
        simp at x0 x1 x2
        have xl := heap_lt hbx
        have HRM : Hid (mPush S x = S ++ [x]) := Lib.hid (by unfold mPush; rw [HMR.out, if_neg (by rw [HZ.out]; omega)])
        have HST2 : Hid (∀ w', RStep W3 B P (S ++ [x]) w' → RStep w B P (mPush S x) w') := Lib.hid fun w' h => by
          rw [HRM.out]
          exact h.from (HB1.out.trans (HB3.out.mono HB1.out.size)) h0
        obtain ⟨v2, rs2, e2, hq2⟩ := HM3.out
        obtain ⟨p2, cap2, rfl, _, _⟩ := hq2.form
        have hrl : rs2.length ≤ 100000000 := by have := congrArg List.length e2; rw [List.length_map] at this; omega
        have hpe : PEnd P W3 B S x NM pa ca p2 cap2 rs2 := ⟨e2, hq2, HXA.out.kept (.of_below HB3.out), HNM.out⟩
        clear e2 hq2 hbx3
        have HPE := Lib.hid hpe
        have HT1 := Lib.hid (three W3 (.cells #[.int .i64 x.node, .string NM, .slice pa x.attrs.length ca] 63) 63 #[.int .i64 x.node, .string NM, .slice pa x.attrs.length ca] rfl)
        have hc2 := hpe.ref.cell
        have hs2 := hpe.ref.lt
        have HP2 : Hid (p2 = none → rs2.length = 0 ∧ cap2 = 0) := Lib.hid fun e => by subst e; have := hpe.ref.nil _ _ rfl; obtain ⟨_, _, e2, hl, _⟩ := hpe.ref.row; injection e2 with _ e2 e3; omega
        have HSL : Hid (([] : List (MK × Value)).length + rs2.length ≤ 4294967296) := Lib.hid (by rw [List.length_nil]; omega)
        have HSM : Hid (([] ++ rs2 : List (MK × Value)).length + [(x, (Value.slice pa x.attrs.length ca))].length ≤ 4294967296) := Lib.hid (by simp; omega)
        have hz1 : W3.heap.size ≤ (W3.alloc (.cells #[] 63)).drew.heap.size := by simp
        have hz2 : W3.heap.size ≤ ((W3.alloc (.cells #[] 63)).alloc (.cells #[.int .i64 x.node, .string NM, .slice pa x.attrs.length ca] 63)).drew.heap.size := by simp; omega
        have hz3 : W3.heap.size ≤ ((W3.alloc (.cells #[.int .i64 x.node, .string NM, .slice pa x.attrs.length ca] 63)).alloc (.cells #[] 63)).drew.heap.size := by simp; omega
        clear hpe
        go_wp2_with fail
        go_region_law (first
          | (refine step_append_row rfl (.tmp 52) (.tmp 56) rfl W3.heap.size [] _ (by rfl) HT1.out.1.2 P _ _ _ rs2 (by rfl) HP2.out (HPE.out.ref.below HT1.out.1.1).row HSL.out hz1 ?_; intro v1 w1 hr1 hg1; obtain ⟨pp1, ll1, cc1, rfl⟩ := own_slice hr1; obtain ⟨b1, c1, f1, s1⟩ := RefQ.grown HPE.out.ref HT1.out.1.1 HT1.out.1.2 hg1; have HR1 := Lib.hid hr1; have HB1 := Lib.hid b1; have g1 := far_block hg1 (HT1.out.1.1.block w.heap.size (by omega) |>.trans hbx) (by simp [Value.ownBlock]; omega); have x10 := (block_cell g1 0).1; have x11 := (block_cell g1 1).1; have x12 := (block_cell g1 2).1; have xl1 := heap_lt g1; simp at x10 x11 x12; clear hr1 hg1 b1 g1)
          | (refine step_append_row rfl (.tmp 52) (.tmp 56) rfl W3.heap.size [] _ (by rfl) HT1.out.2.1.2.1 P _ _ _ rs2 (by rfl) HP2.out (HPE.out.ref.below HT1.out.2.1.1).row HSL.out hz2 ?_; intro v1 w1 hr1 hg1; obtain ⟨pp1, ll1, cc1, rfl⟩ := own_slice hr1; obtain ⟨b1, c1, f1, s1⟩ := RefQ.grown HPE.out.ref HT1.out.2.1.1 HT1.out.2.1.2.1 hg1; have HR1 := Lib.hid hr1; have HB1 := Lib.hid b1; have HO1 := Lib.hid (far_block hg1 HT1.out.2.1.2.2 (by simp [Value.ownBlock])); clear hr1 hg1 b1)
          | (refine step_append_row rfl (.tmp 52) (.tmp 56) rfl W3.heap.size [] _ (by rfl) HT1.out.2.2.2.1 P _ _ _ rs2 (by rfl) HP2.out (HPE.out.ref.below HT1.out.2.2.1).row HSL.out hz3 ?_; intro v1 w1 hr1 hg1; obtain ⟨pp1, ll1, cc1, rfl⟩ := own_slice hr1; obtain ⟨b1, c1, f1, s1⟩ := RefQ.grown HPE.out.ref HT1.out.2.2.1 HT1.out.2.2.2.1 hg1; have HR1 := Lib.hid hr1; have HB1 := Lib.hid b1; have HO1 := Lib.hid (far_block hg1 HT1.out.2.2.2.2 (by simp [Value.ownBlock])); clear hr1 hg1 b1)
          | (refine step_append_row rfl (.tmp 57) (.tmp 59) rfl W3.heap.size ([] ++ rs2) _ (by rfl) (HR1.out.alloc _) (fun b => P b ∨ b = w1.heap.size) _ _ _ [(x, (Value.slice pa x.attrs.length ca))] (by rfl) (fun e => by cases e) (HPE.out.one (HB1.out.alloc HB1.out.size _) (heap_alloc_new w1 _)) HSM.out (HB1.out.alloc HB1.out.size _).size ?_; intro v2 w2 hr2 hg2; obtain ⟨pp2, ll2, cc2, rfl⟩ := own_slice hr2; obtain ⟨b2, c2, f2, s2⟩ := RefQ.grown HPE.out.ref (HB1.out.alloc HB1.out.size _) (HR1.out.alloc _) hg2; have HR2 := Lib.hid hr2; have HB2 := Lib.hid b2; clear hr2 hg2 b2)
          | (refine step_append_row rfl (.tmp 57) (.tmp 59) rfl W3.heap.size ([] ++ rs2) _ (by rfl) HR1.out (fun b => P b ∨ b = W3.heap.size + 1) _ _ _ [(x, (Value.slice pa x.attrs.length ca))] (by rfl) (fun e => by cases e) (HPE.out.one HB1.out HO1.out) HSM.out HB1.out.size ?_; intro v2 w2 hr2 hg2; obtain ⟨pp2, ll2, cc2, rfl⟩ := own_slice hr2; obtain ⟨b2, c2, f2, s2⟩ := RefQ.grown HPE.out.ref HB1.out HR1.out hg2; have HR2 := Lib.hid hr2; have HB2 := Lib.hid b2; clear hr2 hg2 b2)
          | (refine step_append_row rfl (.tmp 57) (.tmp 59) rfl W3.heap.size ([] ++ rs2) _ (by rfl) HR1.out (fun b => P b ∨ b = W3.heap.size) _ _ _ [(x, (Value.slice pa x.attrs.length ca))] (by rfl) (fun e => by cases e) (HPE.out.one HB1.out HO1.out) HSM.out HB1.out.size ?_; intro v2 w2 hr2 hg2; obtain ⟨pp2, ll2, cc2, rfl⟩ := own_slice hr2; obtain ⟨b2, c2, f2, s2⟩ := RefQ.grown HPE.out.ref HB1.out HR1.out hg2; have HR2 := Lib.hid hr2; have HB2 := Lib.hid b2; clear hr2 hg2 b2)
          | fail)
        all_goals
          go_wp2_with fail
          exact bodyPost_end (results_none rfl _ _ _) rfl ⟨rfl, HST2.out _ (HPE.out.fin HB2.out HR2.out)⟩
      · have n3 : (3 : Int) ≤ (n : Int) := by omega
        have hrm := HROOM.out (by rw [HZ.out]; exact hn3)
        rw [HZ.out] at hrm
        have hf0 : 0 ≤ f := hrm.1
        have hf1 : f < S.length := hrm.2
        have hmh : mHas S f = true := by unfold mHas; simp [hf0, hf1]
        have HREM := Lib.hid (rdropP S B P W3 f HM3.out hs)
        have HRM : Hid (mDropS S f = mRoom S x) := Lib.hid (by rw [HMR.out, if_pos (by rw [HZ.out]; exact hn3), HZ.out]; unfold mDropS; rw [if_pos hmh])
        rw [HRM.out, hmh] at HREM
        have hB3 : B < W3.heap.size := by omega
        clear hbx3 hrm hmh
        go_wp2_with fail
        refine HREM.out.mono ?_
        rintro e W4 ⟨rfl, hst⟩
        have HST := Lib.hid hst
        obtain ⟨⟨v2, rs2, e2, hq2⟩, t2⟩ := hst
        obtain ⟨p2, cap2, rfl, _, _⟩ := hq2.form
        have hbx := (t2.block _ (heap_lt HBX3.out) (by omega)).trans HBX3.out
        have x0 := (block_cell hbx 0).1
        have x1 := (block_cell hbx 1).1
        have x2 := (block_cell hbx 2).1
        simp at x0 x1 x2
        have xl := heap_lt hbx
        have hz4 := t2.size
        have hrl : rs2.length ≤ 100000000 := by
          have e3 := congrArg List.length e2
          rw [List.length_map, ← HRM.out] at e3
          have e4 : (mDropS S f).length ≤ S.length := by
            unfold mDropS
            split
            · exact List.length_eraseIdx_le _ _
            · exact Nat.le_refl _
          omega
        have HST2 : Hid (∀ w', RStep W4 B (NewP P W3 W4) (mRoom S x ++ [x]) w' → RStep w B P (mPush S x) w') := Lib.hid fun w' h => (HST.out.trans h).from (HB1.out.trans (HB3.out.mono HB1.out.size)) h0
        have hpe : PEnd (NewP P W3 W4) W4 B (mRoom S x) x NM pa ca p2 cap2 rs2 := by
          refine ⟨e2, hq2, ?_, HNM.out⟩
          obtain ⟨v9, rs9, _, hq9⟩ := HM3.out
          exact ((HXA.out.kept (.of_below HB3.out)).kept (t2.kept fun b _ k e => hq9.off (by rw [← e]; exact k))).mono fun b k _ => .inl k
        clear e2 hq2 t2
        have HPE := Lib.hid hpe
        have HT1 := Lib.hid (three W4 (.cells #[.int .i64 x.node, .string NM, .slice pa x.attrs.length ca] 63) 63 #[.int .i64 x.node, .string NM, .slice pa x.attrs.length ca] rfl)
        have hc2 := hpe.ref.cell
        have hs2 := hpe.ref.lt
        have HP2 : Hid (p2 = none → rs2.length = 0 ∧ cap2 = 0) := Lib.hid fun e => by subst e; have := hpe.ref.nil _ _ rfl; obtain ⟨_, _, e2, hl, _⟩ := hpe.ref.row; injection e2 with _ e2 e3; omega
        have HSL : Hid (([] : List (MK × Value)).length + rs2.length ≤ 4294967296) := Lib.hid (by rw [List.length_nil]; omega)
        have HSM : Hid (([] ++ rs2 : List (MK × Value)).length + [(x, (Value.slice pa x.attrs.length ca))].length ≤ 4294967296) := Lib.hid (by simp; omega)
        have hz1 : W4.heap.size ≤ (W4.alloc (.cells #[] 63)).drew.heap.size := by simp
        have hz2 : W4.heap.size ≤ ((W4.alloc (.cells #[] 63)).alloc (.cells #[.int .i64 x.node, .string NM, .slice pa x.attrs.length ca] 63)).drew.heap.size := by simp; omega
        have hz3 : W4.heap.size ≤ ((W4.alloc (.cells #[.int .i64 x.node, .string NM, .slice pa x.attrs.length ca] 63)).alloc (.cells #[] 63)).drew.heap.size := by simp; omega
        clear hpe
        go_wp2_with fail
        go_region_law (first
          | (refine step_append_row rfl (.tmp 52) (.tmp 56) rfl W4.heap.size [] _ (by rfl) HT1.out.1.2 (NewP P W3 W4) _ _ _ rs2 (by rfl) HP2.out (HPE.out.ref.below HT1.out.1.1).row HSL.out hz1 ?_; intro v1 w1 hr1 hg1; obtain ⟨pp1, ll1, cc1, rfl⟩ := own_slice hr1; obtain ⟨b1, c1, f1, s1⟩ := RefQ.grown HPE.out.ref HT1.out.1.1 HT1.out.1.2 hg1; have HR1 := Lib.hid hr1; have HB1 := Lib.hid b1; have g1 := far_block hg1 (HT1.out.1.1.block w.heap.size (by omega) |>.trans hbx) (by simp [Value.ownBlock]; omega); have x10 := (block_cell g1 0).1; have x11 := (block_cell g1 1).1; have x12 := (block_cell g1 2).1; have xl1 := heap_lt g1; simp at x10 x11 x12; clear hr1 hg1 b1 g1)
          | (refine step_append_row rfl (.tmp 52) (.tmp 56) rfl W4.heap.size [] _ (by rfl) HT1.out.2.1.2.1 (NewP P W3 W4) _ _ _ rs2 (by rfl) HP2.out (HPE.out.ref.below HT1.out.2.1.1).row HSL.out hz2 ?_; intro v1 w1 hr1 hg1; obtain ⟨pp1, ll1, cc1, rfl⟩ := own_slice hr1; obtain ⟨b1, c1, f1, s1⟩ := RefQ.grown HPE.out.ref HT1.out.2.1.1 HT1.out.2.1.2.1 hg1; have HR1 := Lib.hid hr1; have HB1 := Lib.hid b1; have HO1 := Lib.hid (far_block hg1 HT1.out.2.1.2.2 (by simp [Value.ownBlock])); clear hr1 hg1 b1)
          | (refine step_append_row rfl (.tmp 52) (.tmp 56) rfl W4.heap.size [] _ (by rfl) HT1.out.2.2.2.1 (NewP P W3 W4) _ _ _ rs2 (by rfl) HP2.out (HPE.out.ref.below HT1.out.2.2.1).row HSL.out hz3 ?_; intro v1 w1 hr1 hg1; obtain ⟨pp1, ll1, cc1, rfl⟩ := own_slice hr1; obtain ⟨b1, c1, f1, s1⟩ := RefQ.grown HPE.out.ref HT1.out.2.2.1 HT1.out.2.2.2.1 hg1; have HR1 := Lib.hid hr1; have HB1 := Lib.hid b1; have HO1 := Lib.hid (far_block hg1 HT1.out.2.2.2.2 (by simp [Value.ownBlock])); clear hr1 hg1 b1)
          | (refine step_append_row rfl (.tmp 57) (.tmp 59) rfl W4.heap.size ([] ++ rs2) _ (by rfl) (HR1.out.alloc _) (fun b => NewP P W3 W4 b ∨ b = w1.heap.size) _ _ _ [(x, (Value.slice pa x.attrs.length ca))] (by rfl) (fun e => by cases e) (HPE.out.one (HB1.out.alloc HB1.out.size _) (heap_alloc_new w1 _)) HSM.out (HB1.out.alloc HB1.out.size _).size ?_; intro v2 w2 hr2 hg2; obtain ⟨pp2, ll2, cc2, rfl⟩ := own_slice hr2; obtain ⟨b2, c2, f2, s2⟩ := RefQ.grown HPE.out.ref (HB1.out.alloc HB1.out.size _) (HR1.out.alloc _) hg2; have HR2 := Lib.hid hr2; have HB2 := Lib.hid b2; clear hr2 hg2 b2)
          | (refine step_append_row rfl (.tmp 57) (.tmp 59) rfl W4.heap.size ([] ++ rs2) _ (by rfl) HR1.out (fun b => NewP P W3 W4 b ∨ b = W4.heap.size + 1) _ _ _ [(x, (Value.slice pa x.attrs.length ca))] (by rfl) (fun e => by cases e) (HPE.out.one HB1.out HO1.out) HSM.out HB1.out.size ?_; intro v2 w2 hr2 hg2; obtain ⟨pp2, ll2, cc2, rfl⟩ := own_slice hr2; obtain ⟨b2, c2, f2, s2⟩ := RefQ.grown HPE.out.ref HB1.out HR1.out hg2; have HR2 := Lib.hid hr2; have HB2 := Lib.hid b2; clear hr2 hg2 b2)
          | (refine step_append_row rfl (.tmp 57) (.tmp 59) rfl W4.heap.size ([] ++ rs2) _ (by rfl) HR1.out (fun b => NewP P W3 W4 b ∨ b = W4.heap.size) _ _ _ [(x, (Value.slice pa x.attrs.length ca))] (by rfl) (fun e => by cases e) (HPE.out.one HB1.out HO1.out) HSM.out HB1.out.size ?_; intro v2 w2 hr2 hg2; obtain ⟨pp2, ll2, cc2, rfl⟩ := own_slice hr2; obtain ⟨b2, c2, f2, s2⟩ := RefQ.grown HPE.out.ref HB1.out HR1.out hg2; have HR2 := Lib.hid hr2; have HB2 := Lib.hid b2; clear hr2 hg2 b2)
          | fail)
        all_goals
          go_wp2_with fail
          exact bodyPost_end (results_none rfl _ _ _) rfl ⟨rfl, HST2.out _ (HPE.out.fin HB2.out HR2.out)⟩
end Go.Proofs.Ytbadckkcjjfnoaa
