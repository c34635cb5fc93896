/-
  The walk of the law SiteScopes: true, and nothing old is changed. Any numbers.
-/
import Derived.Test.YtbadckkcjjfnoaaSRS9
namespace Go.Proofs.Ytbadckkcjjfnoaa
open Go.RowKit

theorem scanH_mono {R : List EL} {c : Int} {l l' : List (List UInt8)} (h : ∀ s ∈ l, s ∈ l') : ∀ i, scanH R c l i = true → scanH R c l' i = true
  | 0, k => by cases k
  | i + 1, k => by
    unfold scanH at k ⊢
    by_cases h1 : (R.getD (i + 1) default).is l' = true
    · rw [if_pos h1]
    · rw [if_neg h1]
      have h2 : ¬ (R.getD (i + 1) default).is l = true := fun q => h1 (by
        unfold EL.is at q ⊢
        rw [Bool.and_eq_true, List.any_eq_true] at q ⊢
        obtain ⟨q1, s, hs, q2⟩ := q
        exact ⟨q1, s, h s hs, q2⟩)
      rw [if_neg h2] at k
      split at k
      · cases k
      · rename_i hw
        rw [if_neg hw]
        exact scanH_mono h i k
theorem hasE_mono {R : List EL} {c : Int} {l l' : List (List UInt8)} (h : ∀ s ∈ l, s ∈ l') (k : hasE R c l = true) : hasE R c l' = true := by
  unfold hasE at k ⊢
  rw [Bool.and_eq_true] at k ⊢
  refine ⟨?_, scanH_mono h _ k.2⟩
  have k1 := k.1
  unfold anyN at k1 ⊢
  rw [List.any_eq_true] at k1 ⊢
  obtain ⟨s, hs, q⟩ := k1
  exact ⟨s, h s hs, q⟩
theorem scan_none {ks : List Nat} {c : Int} {l : List (List UInt8)} (hk : ∀ k ∈ ks, nm8 k ∉ l) : ∀ i, i ≤ ks.length → scanH (elsR ks) c l i = false
  | 0, _ => rfl
  | i + 1, hi => by
    unfold scanH
    have h1 : ¬ ((elsR ks).getD (i + 1) default).is l = true := by
      rw [elsR_at (by omega)]
      intro q
      unfold EL.is at q
      rw [Bool.and_eq_true, List.any_eq_true] at q
      obtain ⟨_, s, hs, q2⟩ := q
      rw [beq_iff_eq] at q2
      exact hk _ (List.getElem_mem _) (by show nm8 ks[i] ∈ l; rw [← show s = nm8 ks[i] from q2]; exact hs)
    rw [if_neg h1]
    split
    · rfl
    · exact scan_none hk i (by omega)
theorem hasE_none {ks : List Nat} {c : Int} {l : List (List UInt8)} (hk : ∀ k ∈ ks, nm8 k ∉ l) : hasE (elsR ks) c l = false := by
  unfold hasE
  rw [elsR_len, Nat.add_sub_cancel, scan_none hk _ (Nat.le_refl _), Bool.and_false]
theorem nm8_odd : ∀ k, k < 17 → nm8 k ∉ ([] : List (List UInt8)) ∧ nm8 k ∉ [([] : List UInt8)] ∧ nm8 k ∉ [([110, 111, 115, 117, 99, 104] : List UInt8)] := by decide
theorem strs_made {W : World} {X : Nat} {cs : Array Value} {t : TypeId} (l : List (List UInt8)) (h : W.heap[X]? = some (.cells cs t (0, 0))) (hc : cs.toList = l.map strV) : StrsAt W (.slice (some ⟨X, 0, none⟩) l.length l.length) l ∧ TextsAt W (.slice (some ⟨X, 0, none⟩) l.length l.length) l := by
  have key : ∀ j (hj : j < l.length), W.cell? ⟨X, j, none⟩ = some (.string ⟨l[j].toArray⟩) := by
    intro j hj
    rw [(block_cell6 h j).1, ← Array.getElem?_toList, hc, List.getElem?_map, List.getElem?_eq_getElem hj]
    rfl
  exact ⟨⟨_, _, rfl, fun j hj => ⟨X, 0, rfl, heap_lt h, by rw [Nat.zero_add]; exact key j hj⟩⟩, Or.inr ⟨X, l.length, rfl, heap_lt h, Nat.le_refl _, key⟩⟩
theorem SC.made {w1 w2 w3 w4 : World} {v : Value} {n B Z D : Nat} {M1 R1 : Nat → Prop} {t : TypeId} (hP : SiteB w1 w2 B [elemPN 1 [] []] [] [elRoot] false 1) (hR : RSite M1 (fun _ => False) R1 w3 Z D [rootCl] [0]) (hn : ∀ b, M1 b ∨ R1 b ∨ b = Z → w2.heap.size ≤ b) (b3 : Below w2.heap.size w2 w3) (hv : IntsIn w1 v n) (e4 : w4 = w3.alloc (.cells #[v, .int .i64 0] t)) : SC w1 w1 w4 v n w3.heap.size B Z [] [] := by
  have b4 : Below w3.heap.size w3 w4 := by rw [e4]; exact (Below.refl _ _).alloc (Nat.le_refl _) _
  have x4 : w4.heap[w3.heap.size]? = some (.cells #[v, .int .i64 0] t (0, 0)) := by rw [e4]; exact heap_alloc_new w3 _
  have hk := (hP.k.on b3).on b4
  have z2 := hP.below.size
  have z3 := b3.size
  have z4 := b4.size
  have hl := heap_lt x4
  obtain ⟨_, f1, f2, _, _, _⟩ := hR.doc.facts
  have c0 := (block_cell6 x4 0).1
  have c1 := (block_cell6 x4 1).1
  simp at c0 c1
  refine ⟨⟨_, M1, fun _ => False, R1, D, [elemPN 1 [] []], 1, [rootCl], hk, ⟨⟨hv, by omega, c0, ⟨0, Nat.zero_le _, c1⟩, (block_cell6 x4 1).2, hk.below⟩, fun k => by omega, hl⟩, hR.on b4, ?_, last_start, rfl, by simp, .start⟩, Nat.le_refl _, by omega, (fun k hk => by cases hk), by decide, by decide⟩
  intro b q
  have hb : b < w3.heap.size := by
    rcases q with q | q | q | q
    · exact f1 b q
    · exact q.elim
    · exact hR.rin b q
    · rw [q]; exact hR.zlt
  have hb2 : w2.heap.size ≤ b := by
    rcases q with q | q | q | q
    · exact hn b (.inl q)
    · exact q.elim
    · exact hn b (.inr (.inl q))
    · exact hn b (.inr (.inr q))
  exact ⟨fun k => by omega, by omega, by omega, by omega⟩
set_option maxHeartbeats 8000000 in
set_option maxRecDepth 100000 in
theorem siteScopes_walk (v : Value) (n : Nat) (ps : Int) (w : World) (hv : IntsIn w v n) (hp0 : -9223372036854775808 ≤ ps) (hp1 : ps ≤ 9223372036854775807) : Calls Try.prog 6 #[v, .int .i64 ps] w (Yes w) := by
  obtain ⟨pv, cv, rfl⟩ : ∃ p cap, v = .slice p n cap := by
    rcases hv with ⟨p, cap, hv, h0⟩ | ⟨g, off, cap, hv, _⟩
    · exact ⟨p, cap, by rw [hv, h0]⟩
    · exact ⟨_, cap, hv⟩
  have HV := Lib.hid hv
  clear hv
  go_enter Try.func6, Try.ntmps6
  go_wp2_with fail
  refine (known8_yes w).mono ?_
  rintro e w1 ⟨rfl, b1⟩
  have B1 := Lib.hid b1
  have HV1 := Lib.hid (HV.out.below b1)
  clear b1 HV
  go_wp2_with fail
  refine (bNew8 w1).mono ?_
  rintro e w2 ⟨B, rfl, h2⟩
  have HB2 := Lib.hid h2
  clear h2
  go_wp2_with fail
  refine (rnew8P w2).mono ?_
  rintro e w3 ⟨Z, D, M1, R1, rfl, h3, hn3, b3⟩
  have HMK : Hid (∀ w4 t, w4 = w3.alloc (.cells #[.slice pv n cv, .int .i64 0] t) → SC w1 w1 w4 (.slice pv n cv) n w3.heap.size B Z [] []) := Lib.hid fun w4 t e => SC.made HB2.out h3 hn3 b3 HV1.out e
  clear h3 hn3 b3 HB2 HV1
  go_wp2_with fail
  have HQ0 := Lib.hid (HMK.out _ 78 rfl)
  clear HMK
  generalize w3.alloc (.cells #[.slice pv n cv, .int .i64 0] 78) = w4 at *
  generalize w3.heap.size = A at *
  go_loopw [8] (fun iv wr => ∃ ks : List Nat, ks.length ≤ 20 ∧ iv = .int .i64 (ks.length : Int) ∧ SC w1 w1 wr (.slice pv n cv) n A B Z ks ks) (fun iv _ => 20 - (intOf iv).toNat)
  case atStart => exact ⟨[], by simp, rfl, HQ0.out⟩
  case round =>
    obtain ⟨ks, hl, rfl, hq⟩ := hrel
    have HQ := Lib.hid hq
    clear hq HQ0
    by_cases h20 : ks.length < 20
    · have k0 : (ks.length : Int) < 20 := by omega
      go_wp2_with fail
      refine (cMore HQ.out).mono ?_
      rintro e w5 ⟨b, rfl, h5⟩
      have HQ5 := Lib.hid h5
      clear h5 HQ
      cases b
      case true =>
        go_wp2_with fail
        refine (cNext HQ5.out 17 (by omega) (by omega)).mono ?_
        rintro e w6 ⟨r, hr, rfl, h6⟩
        have HQ6 := Lib.hid h6
        clear h6 HQ5
        go_wp2_with fail
        refine (rname8 r hr _).mono ?_
        rintro e w7 ⟨rfl, q7⟩
        have HQ7 := Lib.hid (HQ6.out.on q7)
        clear q7 HQ6
        obtain ⟨NM, hNM⟩ : ∃ NM : ByteArray, NM = ⟨(nm8 r).toArray⟩ := ⟨_, rfl⟩
        have HAP := Lib.hid (cAddP HQ7.out r hr h20)
        have HNR : Hid (∀ W, Calls Try.prog 49 #[.int .i64 (r : Int)] W (Brings (.string NM) W)) := Lib.hid fun W => by rw [hNM]; exact rname8 r hr W
        have HAR : Hid (∀ W, SC w1 w1 W (.slice pv n cv) n A B Z (ks ++ [r]) ks → Calls Try.prog 50 #[.pointer (some ⟨Z, 0, none⟩), .int .i64 1, .string NM, .slice none 0 0] W (fun e w' => ∃ z : Int, e = .returned (.int .i64 z) ∧ SC w1 w1 w' (.slice pv n cv) n A B Z (ks ++ [r]) (ks ++ [r]))) := Lib.hid fun W h => by rw [hNM]; exact cAddR h r h20
        rw [← hNM] at HAP ⊢
        clear hNM HQ7
        go_wp2_with fail
        refine HAP.out.mono ?_
        rintro e w8 ⟨z8, rfl, h8⟩
        have HQ8 := Lib.hid h8
        clear h8 HAP
        go_wp2_with fail
        refine (HNR.out _).mono ?_
        rintro e w9 ⟨rfl, q9⟩
        have HQ9 := Lib.hid (HQ8.out.on q9)
        clear q9 HQ8
        go_wp2_with fail
        refine (HAR.out _ HQ9.out).mono ?_
        rintro e w10 ⟨z10, rfl, h10⟩
        have HQ10 := Lib.hid h10
        clear h10 HAR HQ9
        go_wp2_with fail
        exact ⟨⟨ks ++ [r], by simp; omega, by simp, HQ10.out⟩, by simp [intOf]; omega⟩
      case false =>
        have HQ := HQ5
        clear HQ5 k0
        go_wp2_with fail
        refine (within8 ps 4 _ hp0 hp1 (by omega) (by omega)).mono ?_
        rintro e w9 ⟨rfl, rfl⟩
        have hcc := (within_lt ps 4 (by omega)).1
        generalize Within ps 4 = cw at *
        have EC := Lib.hid (show (1 : Int) + (cw : Int) = ((1 + cw : Nat) : Int) by omega)
        have HC5 := Lib.hid (show 1 + cw < 5 by omega)
        go_upto_block 2 with fail
        rw [EC.out]
        clear EC
        have hc5 := HC5.out
        clear HC5
        generalize 1 + cw = c at *
        clear hcc
        go_wp2_with fail
        go_loopw [11] (fun kv wq => ∃ k : Nat, k ≤ 17 ∧ kv = .int .i64 (k : Int) ∧ SC w1 w1 wq (.slice pv n cv) n A B Z ks ks) (fun kv _ => 17 - (intOf kv).toNat)
        case atStart => exact ⟨0, by omega, rfl, HQ.out⟩
        case round =>
          obtain ⟨k, hk17, rfl, hq⟩ := hrel
          have H0 := Lib.hid hq
          clear hq HQ
          by_cases hk : k < 17
          · have k0 : (k : Int) < 17 := by omega
            obtain ⟨NM, hNM⟩ : ∃ NM : ByteArray, NM = ⟨(nm8 k).toArray⟩ := ⟨_, rfl⟩
            have HNM := Lib.hid hNM
            have HL1 : Hid (hasE (elsR ks) (c : Int) [nm8 k] = true → hasE (elsR ks) (c : Int) [nm8 k, [112]] = true) := Lib.hid (hasE_mono (by simp))
            have HL2 : Hid (hasE (elsR ks) (c : Int) [[112]] = true → hasE (elsR ks) (c : Int) [nm8 k, [112]] = true) := Lib.hid (hasE_mono (by simp))
            have HN : Hid (∀ W, Calls Try.prog 49 #[.int .i64 (k : Int)] W (Brings (.string NM) W)) := Lib.hid fun W => by rw [hNM]; exact rname8 k hk W
            have hln := nm8_len k
            have HP1 : Hid (∀ W X, SC w1 w1 W (.slice pv n cv) n A B Z ks ks → W.heap[X]? = some (.cells #[.string NM] 9 (0, 0)) → Calls Try.prog 52 #[.pointer (some ⟨B, 0, none⟩), .int .i64 (c : Int), .slice (some ⟨X, 0, none⟩) 1 1] W (Brings (.bool (hasE (elsR ks) (c : Int) [nm8 k])) W)) := Lib.hid fun W X h x => cHasP h c _ [nm8 k] (strs_made [nm8 k] x (by rw [hNM]; rfl)).1 (by simp) (by intro s hs; simp at hs; subst hs; omega)
            have HR1 : Hid (∀ W X, SC w1 w1 W (.slice pv n cv) n A B Z ks ks → W.heap[X]? = some (.cells #[.string NM] 9 (0, 0)) → Calls Try.prog 53 #[.pointer (some ⟨Z, 0, none⟩), .int .i64 (c : Int), .slice (some ⟨X, 0, none⟩) 1 1] W (Brings (.bool (hasE (elsR ks) (c : Int) [nm8 k])) W)) := Lib.hid fun W X h x => cHasR h c hc5 _ [nm8 k] (strs_made [nm8 k] x (by rw [hNM]; rfl)).2 (by simp)
            have HP2 : Hid (∀ W X, SC w1 w1 W (.slice pv n cv) n A B Z ks ks → W.heap[X]? = some (.cells #[.string NM, .string ⟨#[112]⟩] 9 (0, 0)) → Calls Try.prog 52 #[.pointer (some ⟨B, 0, none⟩), .int .i64 (c : Int), .slice (some ⟨X, 0, none⟩) 2 2] W (Brings (.bool (hasE (elsR ks) (c : Int) [nm8 k, [112]])) W)) := Lib.hid fun W X h x => cHasP h c _ [nm8 k, [112]] (strs_made [nm8 k, [112]] x (by rw [hNM]; rfl)).1 (by simp) (by intro s hs; simp at hs; rcases hs with rfl | rfl; omega; simp)
            have HR2 : Hid (∀ W X, SC w1 w1 W (.slice pv n cv) n A B Z ks ks → W.heap[X]? = some (.cells #[.string NM, .string ⟨#[112]⟩] 9 (0, 0)) → Calls Try.prog 53 #[.pointer (some ⟨Z, 0, none⟩), .int .i64 (c : Int), .slice (some ⟨X, 0, none⟩) 2 2] W (Brings (.bool (hasE (elsR ks) (c : Int) [nm8 k, [112]])) W)) := Lib.hid fun W X h x => cHasR h c hc5 _ [nm8 k, [112]] (strs_made [nm8 k, [112]] x (by rw [hNM]; rfl)).2 (by simp)
            have HRp : Hid (∀ W X, SC w1 w1 W (.slice pv n cv) n A B Z ks ks → W.heap[X]? = some (.cells #[.string ⟨#[112]⟩] 9 (0, 0)) → Calls Try.prog 53 #[.pointer (some ⟨Z, 0, none⟩), .int .i64 (c : Int), .slice (some ⟨X, 0, none⟩) 1 1] W (Brings (.bool (hasE (elsR ks) (c : Int) [[112]])) W)) := Lib.hid fun W X h x => cHasR h c hc5 _ [[112]] (strs_made [[112]] x rfl).2 (by simp)
            have HAL : Hid (∀ (W : World) (o : Obj), SC w1 w1 W (.slice pv n cv) n A B Z ks ks → SC w1 w1 (W.alloc o) (.slice pv n cv) n A B Z ks ks) := Lib.hid fun W o h => h.on ((Below.refl _ _).alloc (Nat.le_refl _) _)
            generalize hasE (elsR ks) (c : Int) [nm8 k] = va at *
            generalize hasE (elsR ks) (c : Int) [nm8 k, [112]] = vb at *
            generalize hasE (elsR ks) (c : Int) [[112]] = vp at *
            clear hNM hln HNM
            go_wp2_with fail
            refine (HN.out _).mono ?_
            rintro e s1 ⟨rfl, q1⟩
            have G1 := Lib.hid (H0.out.on q1)
            clear q1 H0
            go_wp2_with fail
            refine (HP1.out _ _ (HAL.out _ _ G1.out) (heap_alloc_new _ _)).mono ?_
            rintro e s2 ⟨rfl, q2⟩
            have G2 := Lib.hid ((HAL.out _ _ G1.out).on q2)
            clear q2 G1
            go_wp2_with fail
            refine (HN.out _).mono ?_
            rintro e s3 ⟨rfl, q3⟩
            have G3 := Lib.hid (G2.out.on q3)
            clear q3 G2
            go_wp2_with fail
            refine (HR1.out _ _ (HAL.out _ _ G3.out) (heap_alloc_new _ _)).mono ?_
            rintro e s4 ⟨rfl, q4⟩
            have G4 := Lib.hid ((HAL.out _ _ G3.out).on q4)
            clear q4 G3
            have qa : (va != va) = false := by simp
            go_wp2_with fail
            refine (HN.out _).mono ?_
            rintro e s5 ⟨rfl, q5⟩
            have G5 := Lib.hid (G4.out.on q5)
            clear q5 G4
            go_wp2_with fail
            refine (HP2.out _ _ (HAL.out _ _ G5.out) (heap_alloc_new _ _)).mono ?_
            rintro e s6 ⟨rfl, q6⟩
            have G6 := Lib.hid ((HAL.out _ _ G5.out).on q6)
            clear q6 G5
            go_wp2_with fail
            refine (HN.out _).mono ?_
            rintro e s7 ⟨rfl, q7⟩
            have G7 := Lib.hid (G6.out.on q7)
            clear q7 G6
            go_wp2_with fail
            refine (HR1.out _ _ (HAL.out _ _ G7.out) (heap_alloc_new _ _)).mono ?_
            rintro e s8 ⟨rfl, q8⟩
            have G8 := Lib.hid ((HAL.out _ _ G7.out).on q8)
            clear q8 G7
            have HG := G8
            clear qa
            cases va
            case true =>
              have HB2 := Lib.hid (HL1.out rfl)
              obtain rfl : vb = true := HB2.out
              go_wp2_with fail
              exact ⟨⟨k + 1, by omega, by go_num, HG.out⟩, by simp [intOf]; omega⟩
            case false =>
              go_wp2_with fail
              refine (HRp.out _ _ (HAL.out _ _ HG.out) (heap_alloc_new _ _)).mono ?_
              rintro e t1 ⟨rfl, p1⟩
              have J1 := Lib.hid ((HAL.out _ _ HG.out).on p1)
              clear p1 HG G8
              cases vp
              case true =>
                have HB2 := Lib.hid (HL2.out rfl)
                obtain rfl : vb = true := HB2.out
                go_wp2_with fail
                exact ⟨⟨k + 1, by omega, by go_num, J1.out⟩, by simp [intOf]; omega⟩
              case false =>
                go_wp2_with fail
                refine (HN.out _).mono ?_
                rintro e t2 ⟨rfl, p2⟩
                have J2 := Lib.hid (J1.out.on p2)
                clear p2 J1
                go_wp2_with fail
                refine (HR2.out _ _ (HAL.out _ _ J2.out) (heap_alloc_new _ _)).mono ?_
                rintro e t3 ⟨rfl, p3⟩
                have J3 := Lib.hid ((HAL.out _ _ J2.out).on p3)
                clear p3 J2
                have qb : (vb != vb) = false := by simp
                go_wp2_with fail
                exact ⟨⟨k + 1, by omega, by go_num, J3.out⟩, by simp [intOf]; omega⟩
          · obtain rfl : k = 17 := by omega
            have k0 : ¬ ((17 : Nat) : Int) < 17 := by omega
            have HN1 : Hid (∀ W vl, SC w1 w1 W (.slice pv n cv) n A B Z ks ks → (vl = .slice none 0 0) → Calls Try.prog 52 #[.pointer (some ⟨B, 0, none⟩), .int .i64 (c : Int), vl] W (Brings (.bool false) W)) := Lib.hid fun W vl h e => by
              have := cHasP h c vl [] (by rw [e]; exact ⟨none, 0, rfl, fun j hj => absurd hj (by simp)⟩) (by simp) (by simp)
              rwa [hasE_none (fun k hk => (nm8_odd k (h.ks17 k hk)).1)] at this
            have HN2 : Hid (∀ W X, SC w1 w1 W (.slice pv n cv) n A B Z ks ks → W.heap[X]? = some (.cells #[.string ⟨#[]⟩] 9 (0, 0)) → Calls Try.prog 52 #[.pointer (some ⟨B, 0, none⟩), .int .i64 (c : Int), .slice (some ⟨X, 0, none⟩) 1 1] W (Brings (.bool false) W)) := Lib.hid fun W X h x => by
              have := cHasP h c _ [[]] (strs_made [[]] x rfl).1 (by simp) (by simp)
              rwa [hasE_none (fun k hk => (nm8_odd k (h.ks17 k hk)).2.1)] at this
            have HN3 : Hid (∀ W X, SC w1 w1 W (.slice pv n cv) n A B Z ks ks → W.heap[X]? = some (.cells #[.string ⟨#[110, 111, 115, 117, 99, 104]⟩] 9 (0, 0)) → Calls Try.prog 52 #[.pointer (some ⟨B, 0, none⟩), .int .i64 (c : Int), .slice (some ⟨X, 0, none⟩) 1 1] W (Brings (.bool false) W)) := Lib.hid fun W X h x => by
              have := cHasP h c _ [[110, 111, 115, 117, 99, 104]] (strs_made [[110, 111, 115, 117, 99, 104]] x rfl).1 (by simp) (by simp)
              rwa [hasE_none (fun k hk => (nm8_odd k (h.ks17 k hk)).2.2)] at this
            go_wp2_with fail
            refine (HN1.out _ _ H0.out rfl).mono ?_
            rintro e u1 ⟨rfl, q1⟩
            have G1 := Lib.hid (H0.out.on q1)
            clear q1 HN1 H0
            go_wp2_with fail
            refine (HN2.out _ _ (G1.out.on ((Below.refl _ _).alloc (Nat.le_refl _) _)) (heap_alloc_new u1 _)).mono ?_
            rintro e u2 ⟨rfl, q2⟩
            have G2 := Lib.hid ((G1.out.on ((Below.refl _ _).alloc (Nat.le_refl _) _)).on q2)
            clear q2 HN2 G1
            go_wp2_with fail
            refine (HN3.out _ _ (G2.out.on ((Below.refl _ _).alloc (Nat.le_refl _) _)) (heap_alloc_new u2 _)).mono ?_
            rintro e u3 ⟨rfl, q3⟩
            have G3 := Lib.hid ((G2.out.on ((Below.refl _ _).alloc (Nat.le_refl _) _)).on q3)
            clear q3 HN3 G2
            go_wp2_with fail
            go_ret
            exact ⟨rfl, B1.out.trans (G3.out.below.mono B1.out.size)⟩
    · have k0 : ¬ (ks.length : Int) < 20 := by omega
      go_wp2_with fail
      refine (within8 ps 4 _ hp0 hp1 (by omega) (by omega)).mono ?_
      rintro e w9 ⟨rfl, rfl⟩
      have hcc := (within_lt ps 4 (by omega)).1
      generalize Within ps 4 = cw at *
      have EC := Lib.hid (show (1 : Int) + (cw : Int) = ((1 + cw : Nat) : Int) by omega)
      have HC5 := Lib.hid (show 1 + cw < 5 by omega)
      go_upto_block 2 with fail
      rw [EC.out]
      clear EC
      have hc5 := HC5.out
      clear HC5
      generalize 1 + cw = c at *
      clear hcc
      go_wp2_with fail
      go_loopw [11] (fun kv wq => ∃ k : Nat, k ≤ 17 ∧ kv = .int .i64 (k : Int) ∧ SC w1 w1 wq (.slice pv n cv) n A B Z ks ks) (fun kv _ => 17 - (intOf kv).toNat)
      case atStart => exact ⟨0, by omega, rfl, HQ.out⟩
      case round =>
        obtain ⟨k, hk17, rfl, hq⟩ := hrel
        have H0 := Lib.hid hq
        clear hq HQ
        by_cases hk : k < 17
        · have k0 : (k : Int) < 17 := by omega
          obtain ⟨NM, hNM⟩ : ∃ NM : ByteArray, NM = ⟨(nm8 k).toArray⟩ := ⟨_, rfl⟩
          have HNM := Lib.hid hNM
          have HL1 : Hid (hasE (elsR ks) (c : Int) [nm8 k] = true → hasE (elsR ks) (c : Int) [nm8 k, [112]] = true) := Lib.hid (hasE_mono (by simp))
          have HL2 : Hid (hasE (elsR ks) (c : Int) [[112]] = true → hasE (elsR ks) (c : Int) [nm8 k, [112]] = true) := Lib.hid (hasE_mono (by simp))
          have HN : Hid (∀ W, Calls Try.prog 49 #[.int .i64 (k : Int)] W (Brings (.string NM) W)) := Lib.hid fun W => by rw [hNM]; exact rname8 k hk W
          have hln := nm8_len k
          have HP1 : Hid (∀ W X, SC w1 w1 W (.slice pv n cv) n A B Z ks ks → W.heap[X]? = some (.cells #[.string NM] 9 (0, 0)) → Calls Try.prog 52 #[.pointer (some ⟨B, 0, none⟩), .int .i64 (c : Int), .slice (some ⟨X, 0, none⟩) 1 1] W (Brings (.bool (hasE (elsR ks) (c : Int) [nm8 k])) W)) := Lib.hid fun W X h x => cHasP h c _ [nm8 k] (strs_made [nm8 k] x (by rw [hNM]; rfl)).1 (by simp) (by intro s hs; simp at hs; subst hs; omega)
          have HR1 : Hid (∀ W X, SC w1 w1 W (.slice pv n cv) n A B Z ks ks → W.heap[X]? = some (.cells #[.string NM] 9 (0, 0)) → Calls Try.prog 53 #[.pointer (some ⟨Z, 0, none⟩), .int .i64 (c : Int), .slice (some ⟨X, 0, none⟩) 1 1] W (Brings (.bool (hasE (elsR ks) (c : Int) [nm8 k])) W)) := Lib.hid fun W X h x => cHasR h c hc5 _ [nm8 k] (strs_made [nm8 k] x (by rw [hNM]; rfl)).2 (by simp)
          have HP2 : Hid (∀ W X, SC w1 w1 W (.slice pv n cv) n A B Z ks ks → W.heap[X]? = some (.cells #[.string NM, .string ⟨#[112]⟩] 9 (0, 0)) → Calls Try.prog 52 #[.pointer (some ⟨B, 0, none⟩), .int .i64 (c : Int), .slice (some ⟨X, 0, none⟩) 2 2] W (Brings (.bool (hasE (elsR ks) (c : Int) [nm8 k, [112]])) W)) := Lib.hid fun W X h x => cHasP h c _ [nm8 k, [112]] (strs_made [nm8 k, [112]] x (by rw [hNM]; rfl)).1 (by simp) (by intro s hs; simp at hs; rcases hs with rfl | rfl; omega; simp)
          have HR2 : Hid (∀ W X, SC w1 w1 W (.slice pv n cv) n A B Z ks ks → W.heap[X]? = some (.cells #[.string NM, .string ⟨#[112]⟩] 9 (0, 0)) → Calls Try.prog 53 #[.pointer (some ⟨Z, 0, none⟩), .int .i64 (c : Int), .slice (some ⟨X, 0, none⟩) 2 2] W (Brings (.bool (hasE (elsR ks) (c : Int) [nm8 k, [112]])) W)) := Lib.hid fun W X h x => cHasR h c hc5 _ [nm8 k, [112]] (strs_made [nm8 k, [112]] x (by rw [hNM]; rfl)).2 (by simp)
          have HRp : Hid (∀ W X, SC w1 w1 W (.slice pv n cv) n A B Z ks ks → W.heap[X]? = some (.cells #[.string ⟨#[112]⟩] 9 (0, 0)) → Calls Try.prog 53 #[.pointer (some ⟨Z, 0, none⟩), .int .i64 (c : Int), .slice (some ⟨X, 0, none⟩) 1 1] W (Brings (.bool (hasE (elsR ks) (c : Int) [[112]])) W)) := Lib.hid fun W X h x => cHasR h c hc5 _ [[112]] (strs_made [[112]] x rfl).2 (by simp)
          have HAL : Hid (∀ (W : World) (o : Obj), SC w1 w1 W (.slice pv n cv) n A B Z ks ks → SC w1 w1 (W.alloc o) (.slice pv n cv) n A B Z ks ks) := Lib.hid fun W o h => h.on ((Below.refl _ _).alloc (Nat.le_refl _) _)
          generalize hasE (elsR ks) (c : Int) [nm8 k] = va at *
          generalize hasE (elsR ks) (c : Int) [nm8 k, [112]] = vb at *
          generalize hasE (elsR ks) (c : Int) [[112]] = vp at *
          clear hNM hln HNM
          go_wp2_with fail
          refine (HN.out _).mono ?_
          rintro e s1 ⟨rfl, q1⟩
          have G1 := Lib.hid (H0.out.on q1)
          clear q1 H0
          go_wp2_with fail
          refine (HP1.out _ _ (HAL.out _ _ G1.out) (heap_alloc_new _ _)).mono ?_
          rintro e s2 ⟨rfl, q2⟩
          have G2 := Lib.hid ((HAL.out _ _ G1.out).on q2)
          clear q2 G1
          go_wp2_with fail
          refine (HN.out _).mono ?_
          rintro e s3 ⟨rfl, q3⟩
          have G3 := Lib.hid (G2.out.on q3)
          clear q3 G2
          go_wp2_with fail
          refine (HR1.out _ _ (HAL.out _ _ G3.out) (heap_alloc_new _ _)).mono ?_
          rintro e s4 ⟨rfl, q4⟩
          have G4 := Lib.hid ((HAL.out _ _ G3.out).on q4)
          clear q4 G3
          have qa : (va != va) = false := by simp
          go_wp2_with fail
          refine (HN.out _).mono ?_
          rintro e s5 ⟨rfl, q5⟩
          have G5 := Lib.hid (G4.out.on q5)
          clear q5 G4
          go_wp2_with fail
          refine (HP2.out _ _ (HAL.out _ _ G5.out) (heap_alloc_new _ _)).mono ?_
          rintro e s6 ⟨rfl, q6⟩
          have G6 := Lib.hid ((HAL.out _ _ G5.out).on q6)
          clear q6 G5
          go_wp2_with fail
          refine (HN.out _).mono ?_
          rintro e s7 ⟨rfl, q7⟩
          have G7 := Lib.hid (G6.out.on q7)
          clear q7 G6
          go_wp2_with fail
          refine (HR1.out _ _ (HAL.out _ _ G7.out) (heap_alloc_new _ _)).mono ?_
          rintro e s8 ⟨rfl, q8⟩
          have G8 := Lib.hid ((HAL.out _ _ G7.out).on q8)
          clear q8 G7
          have HG := G8
          clear qa
          cases va
          case true =>
            have HB2 := Lib.hid (HL1.out rfl)
            obtain rfl : vb = true := HB2.out
            go_wp2_with fail
            exact ⟨⟨k + 1, by omega, by go_num, HG.out⟩, by simp [intOf]; omega⟩
          case false =>
            go_wp2_with fail
            refine (HRp.out _ _ (HAL.out _ _ HG.out) (heap_alloc_new _ _)).mono ?_
            rintro e t1 ⟨rfl, p1⟩
            have J1 := Lib.hid ((HAL.out _ _ HG.out).on p1)
            clear p1 HG G8
            cases vp
            case true =>
              have HB2 := Lib.hid (HL2.out rfl)
              obtain rfl : vb = true := HB2.out
              go_wp2_with fail
              exact ⟨⟨k + 1, by omega, by go_num, J1.out⟩, by simp [intOf]; omega⟩
            case false =>
              go_wp2_with fail
              refine (HN.out _).mono ?_
              rintro e t2 ⟨rfl, p2⟩
              have J2 := Lib.hid (J1.out.on p2)
              clear p2 J1
              go_wp2_with fail
              refine (HR2.out _ _ (HAL.out _ _ J2.out) (heap_alloc_new _ _)).mono ?_
              rintro e t3 ⟨rfl, p3⟩
              have J3 := Lib.hid ((HAL.out _ _ J2.out).on p3)
              clear p3 J2
              have qb : (vb != vb) = false := by simp
              go_wp2_with fail
              exact ⟨⟨k + 1, by omega, by go_num, J3.out⟩, by simp [intOf]; omega⟩
        · obtain rfl : k = 17 := by omega
          have k0 : ¬ ((17 : Nat) : Int) < 17 := by omega
          have HN1 : Hid (∀ W vl, SC w1 w1 W (.slice pv n cv) n A B Z ks ks → (vl = .slice none 0 0) → Calls Try.prog 52 #[.pointer (some ⟨B, 0, none⟩), .int .i64 (c : Int), vl] W (Brings (.bool false) W)) := Lib.hid fun W vl h e => by
            have := cHasP h c vl [] (by rw [e]; exact ⟨none, 0, rfl, fun j hj => absurd hj (by simp)⟩) (by simp) (by simp)
            rwa [hasE_none (fun k hk => (nm8_odd k (h.ks17 k hk)).1)] at this
          have HN2 : Hid (∀ W X, SC w1 w1 W (.slice pv n cv) n A B Z ks ks → W.heap[X]? = some (.cells #[.string ⟨#[]⟩] 9 (0, 0)) → Calls Try.prog 52 #[.pointer (some ⟨B, 0, none⟩), .int .i64 (c : Int), .slice (some ⟨X, 0, none⟩) 1 1] W (Brings (.bool false) W)) := Lib.hid fun W X h x => by
            have := cHasP h c _ [[]] (strs_made [[]] x rfl).1 (by simp) (by simp)
            rwa [hasE_none (fun k hk => (nm8_odd k (h.ks17 k hk)).2.1)] at this
          have HN3 : Hid (∀ W X, SC w1 w1 W (.slice pv n cv) n A B Z ks ks → W.heap[X]? = some (.cells #[.string ⟨#[110, 111, 115, 117, 99, 104]⟩] 9 (0, 0)) → Calls Try.prog 52 #[.pointer (some ⟨B, 0, none⟩), .int .i64 (c : Int), .slice (some ⟨X, 0, none⟩) 1 1] W (Brings (.bool false) W)) := Lib.hid fun W X h x => by
            have := cHasP h c _ [[110, 111, 115, 117, 99, 104]] (strs_made [[110, 111, 115, 117, 99, 104]] x rfl).1 (by simp) (by simp)
            rwa [hasE_none (fun k hk => (nm8_odd k (h.ks17 k hk)).2.2)] at this
          go_wp2_with fail
          refine (HN1.out _ _ H0.out rfl).mono ?_
          rintro e u1 ⟨rfl, q1⟩
          have G1 := Lib.hid (H0.out.on q1)
          clear q1 HN1 H0
          go_wp2_with fail
          refine (HN2.out _ _ (G1.out.on ((Below.refl _ _).alloc (Nat.le_refl _) _)) (heap_alloc_new u1 _)).mono ?_
          rintro e u2 ⟨rfl, q2⟩
          have G2 := Lib.hid ((G1.out.on ((Below.refl _ _).alloc (Nat.le_refl _) _)).on q2)
          clear q2 HN2 G1
          go_wp2_with fail
          refine (HN3.out _ _ (G2.out.on ((Below.refl _ _).alloc (Nat.le_refl _) _)) (heap_alloc_new u2 _)).mono ?_
          rintro e u3 ⟨rfl, q3⟩
          have G3 := Lib.hid ((G2.out.on ((Below.refl _ _).alloc (Nat.le_refl _) _)).on q3)
          clear q3 HN3 G2
          go_wp2_with fail
          go_ret
          exact ⟨rfl, B1.out.trans (G3.out.below.mono B1.out.size)⟩
end Go.Proofs.Ytbadckkcjjfnoaa
