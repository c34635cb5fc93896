/-
  The walks of the program's alike, Push. Any marks, not too many.
-/
import Derived.Test.YtbadckkcjjfnoaaMW6
import Derived.Test.YtbadckkcjjfnoaaMWB
import Derived.StillTailTactics
namespace Go.Proofs.Ytbadckkcjjfnoaa
open Go.RowKit

/-- A mark's name and attributes, in memory. -/
structure NameAt (w : World) (g o : Nat) (x : MK) (va : Value) : Prop where
  lt : g < w.heap.size
  name : w.cell? ⟨g, o + 1, none⟩ = some (.string ⟨x.name.toArray⟩)
  attrs : w.cell? ⟨g, o + 2, none⟩ = some va
  has : AttrsIn w va x.attrs
theorem NameAt.below {w w' : World} {g o : Nat} {x : MK} {va : Value} (h : NameAt w g o x va) (b : Below w.heap.size w w') : NameAt w' g o x va :=
  ⟨Nat.lt_of_lt_of_le h.lt b.size, (b.cell (p := ⟨g, o + 1, none⟩) h.lt).trans h.name, (b.cell (p := ⟨g, o + 2, none⟩) h.lt).trans h.attrs, h.has.below b⟩
set_option maxHeartbeats 1000000 in
set_option maxRecDepth 100000 in
theorem malikeP (x y : MK) (g o g2 o2 : Nat) (va vb : Value) (w : World) (h1 : NameAt w g o x va) (h2 : NameAt w g2 o2 y vb) (hN : x.attrs.length ≤ 30) : Calls Try.prog 94 #[.pointer (some ⟨g, o, none⟩), .pointer (some ⟨g2, o2, none⟩)] w (Brings (.bool (alikeM x y)) w) := by
  have hg := h1.lt
  have hg2 := h2.lt
  have d : Below w.heap.size w w.drew := (Below.refl _ _).drew
  have n1 := (h1.below d).name
  have a1 := (h1.below d).attrs
  have n2 := (h2.below d).name
  have a2 := (h2.below d).attrs
  have m1 := h1.name
  have m2 := h2.name
  have HS : Hid (∀ W, Below w.heap.size w W → Calls Try.prog 128 #[va, vb] W (Brings (.bool (sameV x.attrs y.attrs)) W)) := Lib.hid fun W b => msameP va vb x.attrs y.attrs W (h1.has.below b) (h2.has.below b) hN
  have HV : Hid (alikeM x y = (decide (x.name = y.name) && sameV x.attrs y.attrs)) := Lib.hid (by unfold alikeM; congr 1; rw [Bool.eq_iff_iff, beq_iff_eq, decide_eq_true_iff])
  rw [HV.out]
  clear h1 h2 d
  by_cases c : x.name = y.name
  · have q := str_is c
    have HD : Hid ((decide (x.name = y.name) && sameV x.attrs y.attrs) = sameV x.attrs y.attrs) := Lib.hid (by rw [decide_eq_true c, Bool.true_and])
    rw [HD.out]
    clear c
    generalize (⟨x.name.toArray⟩ : ByteArray) = A at *
    generalize (⟨y.name.toArray⟩ : ByteArray) = B at *
    go_enter Try.func94, Try.ntmps94
    go_wp2_with fail
    go_still_tail 18, (by kernel_rfl)
    have HW := Lib.hid (show Below w.heap.size w w.drew from (Below.refl _ _).drew)
    change wpList _ _ _ _ _ w.drew
    generalize w.drew = w2 at *
    go_wp2_with fail
    refine (HS.out _ HW.out).mono ?_
    rintro e w1 ⟨rfl, b2⟩
    have HB2 := Lib.hid (HW.out.trans (b2.mono HW.out.size))
    clear b2
    go_wp2_with fail
    go_ret
    exact ⟨rfl, HB2.out⟩
  · have q := str_ne c
    have HD : Hid ((decide (x.name = y.name) && sameV x.attrs y.attrs) = false) := Lib.hid (by rw [decide_eq_false c, Bool.false_and])
    rw [HD.out]
    clear c
    generalize (⟨x.name.toArray⟩ : ByteArray) = A at *
    generalize (⟨y.name.toArray⟩ : ByteArray) = B at *
    go_enter Try.func94, Try.ntmps94
    go_wp2_with fail
    go_quiet (fail)
    go_wp2_with fail
    go_ret
    exact ⟨rfl, below_drewN (Below.refl _ _) _⟩

theorem mIns_last (S : List MK) (x : MK) : mIns S S.length x = S ++ [x] := by simp [mIns]
theorem mScan_step (S : List MK) (x : MK) (j : Nat) (f : Int) (n : Nat) (h : j < S.length) : mScan S x (j + 1) f n = if S[j].node = -1 then (f, n) else if alikeM S[j] x then mScan S x j j (n + 1) else mScan S x j f n := by
  rw [mScan, getD_at h]
theorem MarkQ.named {M : Nat → Prop} {w : World} {B g n cap : Nat} {qs : List (MK × Value)} (h : MarkQ M w B (.slice (some ⟨g, 0, none⟩) n cap) qs) (hf : ∀ x ∈ qs.map (·.1), x.fits) (j : Nat) (hj : j < qs.length) : NameAt w g (j * 3) qs[j].1 qs[j].2 :=
  ⟨(h.row.lt g rfl).2, h.at j 1 hj (by omega), h.at j 2 hj (by omega), (h.attrs qs[j] (List.getElem_mem hj)).has (hf qs[j].1 (List.mem_map_of_mem (List.getElem_mem hj))).2⟩
/-- What is done behind the scan: room, and the mark last. -/
def PushOut (M : Nat → Prop) (S : List MK) (x : MK) (B : Nat) (w : World) (e : Ending) (w' : World) : Prop := e = .returned (.tuple #[]) ∧ MarksM (New M w) w' B (mPush S x) ∧ Turns M w w'
set_option maxHeartbeats 2000000 in
set_option maxRecDepth 100000 in
theorem mpushP (S : List MK) (B : Nat) (M P : Nat → Prop) (w : World) (x : MK) (pa : Option Addr) (ca : Nat) (h : MarksM M w B S) (hs : S.length ≤ 4294967296) (hf : ∀ y ∈ S, y.fits) (ha : AttrsP P w (.slice pa x.attrs.length ca) x.attrs) (hP : ∀ b, P b → ¬ M b) (hMw : ∀ b, M b → b < w.heap.size) (hx : x.fits) :
    Calls Try.prog 38 #[.pointer (some ⟨B, 0, none⟩), markV x (.slice pa x.attrs.length ca)] w (PushOut M S x B w) := by
  unfold markV
  obtain ⟨NM, hNM⟩ : ∃ NM : ByteArray, NM = (⟨x.name.toArray⟩ : ByteArray) := ⟨_, rfl⟩
  rw [← hNM]
  obtain ⟨W1, hW1⟩ : ∃ W1, W1 = w.alloc (.cells #[.int .i64 x.node, .string NM, .slice pa x.attrs.length ca] 63) := ⟨_, rfl⟩
  have b1 : Below w.heap.size w W1 := by rw [hW1]; exact (Below.refl _ w).alloc (Nat.le_refl _) _
  have hx1 : W1.heap[w.heap.size]? = some (.cells #[.int .i64 x.node, .string NM, .slice pa x.attrs.length ca] 63 (0, 0)) := by rw [hW1]; exact heap_alloc_new w _
  have hn2 : NameAt W1 w.heap.size 0 x (.slice pa x.attrs.length ca) := ⟨heap_lt hx1, by rw [hNM] at hx1; simp [World.cell?, hx1], by simp [World.cell?, hx1], (ha.kept (.of_below b1)).has hx.2⟩
  have HN2 := Lib.hid hn2
  have HX1 := Lib.hid hx1
  have HB1 := Lib.hid b1
  have HW1 := Lib.hid hW1
  have HNM := Lib.hid hNM
  have HA := Lib.hid ha
  have HP := Lib.hid hP
  have HX := Lib.hid hx
  have h1 := h.below b1
  have HM := Lib.hid h1
  have HROOM : Hid (3 ≤ (mScan S x S.length (-1) 0).2 → 0 ≤ (mScan S x S.length (-1) 0).1 ∧ (mScan S x S.length (-1) 0).1 < S.length) := Lib.hid (mScan_room S x)
  have HMR : Hid (mRoom S x = if 3 ≤ (mScan S x S.length (-1) 0).2 then S.eraseIdx (mScan S x S.length (-1) 0).1.toNat else S) := Lib.hid rfl
  obtain ⟨v, qs, eS, hq0⟩ := id h
  have hq := hq0.below b1
  obtain ⟨p, cap, rfl, hr⟩ := hq.reads
  have h0 := hq0.cell
  have hB := hq0.lt
  have c0 := hq.cell
  have s0 := hq.lt
  have hql : qs.length = S.length := by rw [← eS]; simp
  have HQL := Lib.hid hql
  have hs2 : qs.length ≤ 4294967296 := by omega
  have HR := Lib.hid hr
  have hnamed : ∀ j (hj : j < qs.length) g, p = some ⟨g, 0, none⟩ → NameAt W1 g (j * 3) qs[j].1 qs[j].2 := by
    intro j hj g hp
    subst hp
    exact hq.named (by rw [eS]; exact hf) j hj
  have HNA := Lib.hid hnamed
  have HFI : Hid (∀ j (hj : j < qs.length), qs[j].1.attrs.length ≤ 30) := Lib.hid fun j hj => (hf qs[j].1 (by rw [← eS]; exact List.mem_map_of_mem (List.getElem_mem hj))).1
  have HST : Hid (∀ j (hj : j < qs.length) (f : Int) (n : Nat), mScan S x (j + 1) f n = if qs[j].1.node = -1 then (f, n) else if alikeM qs[j].1 x then mScan S x j j (n + 1) else mScan S x j f n) := Lib.hid fun j hj f n => by
    rw [mScan_step S x j f n (by omega)]
    have : S[j]'(by omega) = qs[j].1 := by subst eS; simp
    rw [this]
  have HINS : Hid (∀ (W : World) (S' : List MK) (k : Nat), k = S'.length → MarksM M W B S' → Turns M w W → k ≤ 4294967296 → mRoom S x = S' → Calls Try.prog 87 #[.pointer (some ⟨B, 0, none⟩), .int .i64 (k : Int), .agg #[.int .i64 x.node, .string NM, .slice pa x.attrs.length ca]] W (PushOut M S x B w)) := by
    refine Lib.hid fun W S' k hk hm ht hl hr => ?_
    subst hk
    have := minsertP S' B M P W S'.length x pa ca hm (Nat.le_refl _) hl (ha.kept (ht.kept fun b _ q => hP b q)) hP (Nat.le_trans hx.1 (by decide))
    unfold markV at this
    rw [← hNM, mIns_last] at this
    refine this.mono ?_
    rintro e w' ⟨q1, q2, q3⟩
    refine ⟨q1, ?_, ht.trans (q3.mono fun b _ k => .inl k)⟩
    unfold mPush
    rw [hr]
    exact q2.mono fun b _ k => k.imp id (fun k => Nat.le_trans ht.size k)
  have HMW := Lib.hid hMw
  clear h h1 hq hq0 eS hql hr hnamed hW1 hx1 b1 hn2 hNM ha hP hx hf hMw
  obtain ⟨R, hR⟩ : ∃ R, R = mScan S x S.length (-1) 0 := ⟨_, rfl⟩
  rw [← hR] at HROOM HMR
  have HRR : Hid (R = mScan S x qs.length (-1) 0) := Lib.hid (by rw [hR, HQL.out])
  clear hR
  go_enter Try.func38, Try.ntmps38
  go_wp2_with fail
  rw [← HW1.out]
  go_loopw [4, 5, 6] (fun fv nv i wr => ∃ (k : Nat) (f : Int) (n : Nat), k ≤ qs.length ∧ n + k ≤ qs.length ∧ fv = .int .i64 f ∧ nv = .int .i64 (n : Int) ∧ i = .int .i64 ((k : Int) - 1) ∧ R = mScan S x k f n ∧ Below W1.heap.size W1 wr) (fun _ _ i _ => (intOf i + 1).toNat)
  case atStart => exact ⟨qs.length, -1, 0, Nat.le_refl _, by omega, rfl, rfl, rfl, HRR.out, Below.refl _ _⟩
  case round =>
    obtain ⟨k, f, n, hk, hnk, rfl, rfl, rfl, hsc, hbw⟩ := hrel
    have HSC := Lib.hid hsc
    have HBW := Lib.hid hbw
    have d0 := (hbw.cell (p := ⟨B, 0, none⟩) s0).trans c0
    have t0 := Nat.lt_of_lt_of_le s0 hbw.size
    clear hsc hbw
    rcases k with _ | j
    · rw [show (((0 : Nat) : Int) - 1) = -1 by omega]
      have HZ : Hid (R = (f, n)) := Lib.hid HSC.out
      have hbx := (HBW.out.block _ HN2.out.lt).trans HX1.out
      have HBX := Lib.hid hbx
      rcases Nat.lt_or_ge n 3 with hn3 | hn3
      · have n3 : (n : Int) < 3 := by omega
        have x0 := (block_cell hbx 0).1
        have x1 := (block_cell hbx 1).1
        have x2 := (block_cell hbx 2).1
        simp at x0 x1 x2
        have xl := heap_lt hbx
        have HRM : Hid (mRoom S x = S) := Lib.hid (by rw [HMR.out, if_neg (by rw [HZ.out]; omega)])
        clear hbx
        go_wp2_with fail
        go_still_tail 7, (by kernel_rfl)
        have HW := Lib.hid (show Below W1.heap.size W1 wr.drew from HBW.out.trans ((Below.refl _ wr).drew.mono HBW.out.size))
        change wpList _ _ _ _ _ wr.drew
        generalize wr.drew = w2 at *
        go_wp2_with fail
        refine (HINS.out w2 S _ HQL.out (HM.out.below HW.out) (Turns.of_below (HB1.out.trans (HW.out.mono HB1.out.size))) hs2 HRM.out).mono ?_
        rintro e w3 ⟨rfl, d3, t3⟩
        have HD3 := Lib.hid d3
        have HT3 := Lib.hid t3
        clear d3 t3
        go_wp2_with fail
        exact bodyPost_end (results_none rfl _ _ _) rfl ⟨rfl, HD3.out, HT3.out⟩
      · have n3 : (3 : Int) ≤ (n : Int) := by omega
        have hrm := HROOM.out (by rw [HZ.out]; exact hn3)
        rw [HZ.out] at hrm
        have hf0 : 0 ≤ f := hrm.1
        have hf1 : f < S.length := hrm.2
        have HREM := Lib.hid (mremoveP S B M wr f.toNat (HM.out.below HBW.out) (by omega) hs)
        rw [show ((f.toNat : Nat) : Int) = f by omega] at HREM
        have HRM : Hid (mRoom S x = S.eraseIdx f.toNat) := Lib.hid (by rw [HMR.out, if_pos (by rw [HZ.out]; exact hn3), HZ.out])
        clear hbx hrm
        go_wp2_with fail
        refine HREM.out.mono ?_
        rintro e w1 ⟨rfl, d1, t1⟩
        obtain ⟨v1, q1s, eq1, hq1⟩ := id d1
        obtain ⟨p1, cap1, rfl, _⟩ := hq1.reads
        have dc1 := hq1.cell
        have dl1 := hq1.lt
        have hb1 := (t1.block _ (heap_lt HBX.out) (fun q => absurd (HMW.out _ q) (by omega))).trans HBX.out
        have x0 := (block_cell hb1 0).1
        have x1 := (block_cell hb1 1).1
        have x2 := (block_cell hb1 2).1
        simp at x0 x1 x2
        have xl := heap_lt hb1
        have hlq : q1s.length ≤ 4294967296 := by
          have := congrArg List.length eq1
          rw [List.length_map, List.length_eraseIdx] at this
          split at this <;> omega
        have HLQ : Hid (q1s.length = (S.eraseIdx f.toNat).length) := Lib.hid (by rw [← eq1]; simp)
        have HD1 := Lib.hid d1
        have HT1 := Lib.hid ((Turns.of_below (M := M) (HB1.out.trans (HBW.out.mono HB1.out.size))).trans (t1.mono fun b _ k => .inl k))
        clear eq1 hq1 hb1 d1 t1
        go_wp2_with fail
        go_still_tail 7, (by kernel_rfl)
        have HW := Lib.hid (show Below w1.heap.size w1 w1.drew from (Below.refl _ _).drew)
        change wpList _ _ _ _ _ w1.drew
        generalize w1.drew = w2 at *
        go_wp2_with fail
        refine (HINS.out w2 _ _ HLQ.out (HD1.out.below HW.out) (HT1.out.trans (Turns.of_below HW.out)) hlq HRM.out).mono ?_
        rintro e w3 ⟨rfl, d3, t3⟩
        have HD3 := Lib.hid d3
        have HT3 := Lib.hid t3
        clear d3 t3
        go_wp2_with fail
        exact bodyPost_end (results_none rfl _ _ _) rfl ⟨rfl, HD3.out, HT3.out⟩
    · rw [show (((j + 1 : Nat) : Int) - 1) = (j : Int) by omega]
      have hj : j < qs.length := by omega
      obtain ⟨g, rfl, hg, n0, n1, n2⟩ := HR.out j hj
      have m0 := (HBW.out.cell (p := ⟨g, j * 3, none⟩) hg).trans n0
      have gs : g < wr.heap.size := Nat.lt_of_lt_of_le hg HBW.out.size
      have j0 : (0 : Int) ≤ (j : Int) := by omega
      have j1 : (j : Int) < (qs.length : Int) := by omega
      have HAL : Hid (∀ W, Below W1.heap.size W1 W → Calls Try.prog 94 #[.pointer (some ⟨g, j * 3, none⟩), .pointer (some ⟨w.heap.size, 0, none⟩)] W (Brings (.bool (alikeM qs[j].1 x)) W)) := Lib.hid fun W b => malikeP qs[j].1 x g (j * 3) w.heap.size 0 qs[j].2 _ W ((HNA.out j hj g rfl).below b) (HN2.out.below b) (HFI.out j hj)
      have HS2 : Hid (R = if qs[j].1.node = -1 then (f, n) else if alikeM qs[j].1 x then mScan S x j j (n + 1) else mScan S x j f n) := Lib.hid (by rw [HSC.out, HST.out j hj])
      clear n0 n1 n2
      by_cases e1 : qs[j].1.node = -1
      · have q1 : (qs[j].1.node != (-1 : Int)) = false := by rw [e1]; rfl
        have HZ : Hid (R = (f, n)) := Lib.hid (by rw [HS2.out, if_pos e1])
        clear e1 HS2 HSC HAL
        generalize qs[j].1.node = N at *
        have hbx := (HBW.out.block _ HN2.out.lt).trans HX1.out
        have HBX := Lib.hid hbx
        rcases Nat.lt_or_ge n 3 with hn3 | hn3
        · have n3 : (n : Int) < 3 := by omega
          have x0 := (block_cell hbx 0).1
          have x1 := (block_cell hbx 1).1
          have x2 := (block_cell hbx 2).1
          simp at x0 x1 x2
          have xl := heap_lt hbx
          have HRM : Hid (mRoom S x = S) := Lib.hid (by rw [HMR.out, if_neg (by rw [HZ.out]; omega)])
          clear hbx
          go_wp2_with fail
          go_still_tail 7, (by kernel_rfl)
          have HW := Lib.hid (show Below W1.heap.size W1 wr.drew from HBW.out.trans ((Below.refl _ wr).drew.mono HBW.out.size))
          change wpList _ _ _ _ _ wr.drew
          generalize wr.drew = w2 at *
          go_wp2_with fail
          refine (HINS.out w2 S _ HQL.out (HM.out.below HW.out) (Turns.of_below (HB1.out.trans (HW.out.mono HB1.out.size))) hs2 HRM.out).mono ?_
          rintro e w3 ⟨rfl, d3, t3⟩
          have HD3 := Lib.hid d3
          have HT3 := Lib.hid t3
          clear d3 t3
          go_wp2_with fail
          exact bodyPost_end (results_none rfl _ _ _) rfl ⟨rfl, HD3.out, HT3.out⟩
        · have n3 : (3 : Int) ≤ (n : Int) := by omega
          have hrm := HROOM.out (by rw [HZ.out]; exact hn3)
          rw [HZ.out] at hrm
          have hf0 : 0 ≤ f := hrm.1
          have hf1 : f < S.length := hrm.2
          have HREM := Lib.hid (mremoveP S B M wr f.toNat (HM.out.below HBW.out) (by omega) hs)
          rw [show ((f.toNat : Nat) : Int) = f by omega] at HREM
          have HRM : Hid (mRoom S x = S.eraseIdx f.toNat) := Lib.hid (by rw [HMR.out, if_pos (by rw [HZ.out]; exact hn3), HZ.out])
          clear hbx hrm
          go_wp2_with fail
          refine HREM.out.mono ?_
          rintro e w1 ⟨rfl, d1, t1⟩
          obtain ⟨v1, q1s, eq1, hq1⟩ := id d1
          obtain ⟨p1, cap1, rfl, _⟩ := hq1.reads
          have dc1 := hq1.cell
          have dl1 := hq1.lt
          have hb1 := (t1.block _ (heap_lt HBX.out) (fun q => absurd (HMW.out _ q) (by omega))).trans HBX.out
          have x0 := (block_cell hb1 0).1
          have x1 := (block_cell hb1 1).1
          have x2 := (block_cell hb1 2).1
          simp at x0 x1 x2
          have xl := heap_lt hb1
          have hlq : q1s.length ≤ 4294967296 := by
            have := congrArg List.length eq1
            rw [List.length_map, List.length_eraseIdx] at this
            split at this <;> omega
          have HLQ : Hid (q1s.length = (S.eraseIdx f.toNat).length) := Lib.hid (by rw [← eq1]; simp)
          have HD1 := Lib.hid d1
          have HT1 := Lib.hid ((Turns.of_below (M := M) (HB1.out.trans (HBW.out.mono HB1.out.size))).trans (t1.mono fun b _ k => .inl k))
          clear eq1 hq1 hb1 d1 t1
          go_wp2_with fail
          go_still_tail 7, (by kernel_rfl)
          have HW := Lib.hid (show Below w1.heap.size w1 w1.drew from (Below.refl _ _).drew)
          change wpList _ _ _ _ _ w1.drew
          generalize w1.drew = w2 at *
          go_wp2_with fail
          refine (HINS.out w2 _ _ HLQ.out (HD1.out.below HW.out) (HT1.out.trans (Turns.of_below HW.out)) hlq HRM.out).mono ?_
          rintro e w3 ⟨rfl, d3, t3⟩
          have HD3 := Lib.hid d3
          have HT3 := Lib.hid t3
          clear d3 t3
          go_wp2_with fail
          exact bodyPost_end (results_none rfl _ _ _) rfl ⟨rfl, HD3.out, HT3.out⟩
      · have q1 : (qs[j].1.node != (-1 : Int)) = true := by simpa using e1
        by_cases e2 : alikeM qs[j].1 x = true
        · have HZ : Hid (R = mScan S x j j (n + 1)) := Lib.hid (by rw [HS2.out, if_neg e1, if_pos e2])
          rw [e2] at HAL
          clear e1 e2 HS2 HSC
          generalize qs[j].1.node = N at *
          go_wp2_with fail
          refine (HAL.out _ HBW.out).mono ?_
          rintro e w1 ⟨rfl, b2⟩
          have HB2 := Lib.hid (HBW.out.trans (b2.mono HBW.out.size))
          clear b2
          go_wp2_with fail
          exact ⟨⟨j, j, n + 1, by omega, by omega, rfl, by go_num, rfl, HZ.out, HB2.out⟩, by simp [intOf]⟩
        · have HZ : Hid (R = mScan S x j f n) := Lib.hid (by rw [HS2.out, if_neg e1, if_neg e2])
          have e3 : alikeM qs[j].1 x = false := by simpa using e2
          rw [e3] at HAL
          clear e1 e2 e3 HS2 HSC
          generalize qs[j].1.node = N at *
          go_wp2_with fail
          refine (HAL.out _ HBW.out).mono ?_
          rintro e w1 ⟨rfl, b2⟩
          have HB2 := Lib.hid (HBW.out.trans (b2.mono HBW.out.size))
          clear b2
          go_wp2_with fail
          exact ⟨⟨j, f, n, by omega, by omega, rfl, rfl, rfl, HZ.out, HB2.out⟩, by simp [intOf]⟩
end Go.Proofs.Ytbadckkcjjfnoaa
