/-
  The walk of the reference's Put for nodes by numbers. Any nodes, not too many.
-/
import Derived.Test.YtkoijkdhmfnlbaaDRefD
namespace Go.Proofs.Ytkoijkdhmfnlbaa
open Go.RowKit

theorem add_plain6 (b o k : Nat) : (⟨b, o, none⟩ : Addr).add k = ⟨b, o + k, none⟩ := by unfold Addr.add; split <;> simp_all
/-- What Put answers and leaves. -/
def PutOut6 (S : List Cl) (w : World) (M P : Nat → Prop) (B : Nat) (n up ahead : Int) (e : Ending) (w' : World) : Prop :=
  ∃ b, (isN S n = true → isEl S up = true → (b = true ↔ Anc S up.toNat n.toNat)) ∧ e = .returned (.bool (putD S n up ahead b).2) ∧ RStep6 w M P B (putD S n up ahead b).1 w'
theorem putD_no {S : List Cl} {n up ahead : Int} {b : Bool} (h : (isN S n && isEl S up && !(n == 0) && (upAt S n.toNat).isNone && !b) = false) : putD S n up ahead b = (S, false) := by
  unfold putD
  rw [if_neg (by rw [h]; decide)]
theorem PutOut6.no {S : List Cl} {w : World} {M P : Nat → Prop} {B : Nat} {n up ahead : Int} {b : Bool} (hb : isN S n = true → isEl S up = true → (b = true ↔ Anc S up.toNat n.toNat)) (hp : putD S n up ahead b = (S, false)) (hs : RStep6 w M P B S w) : PutOut6 S w M P B n up ahead (.returned (.bool false)) w :=
  ⟨b, hb, by rw [hp], by rw [hp]; exact hs⟩
theorem PutOut6.yes {S S' : List Cl} {w w' : World} {M P : Nat → Prop} {B : Nat} {n up ahead : Int} {b : Bool} (hb : b = true ↔ Anc S up.toNat n.toNat) (hp : putD S n up ahead b = (S', true)) (hs : RStep6 w M P B S' w') : PutOut6 S w M P B n up ahead (.returned (.bool true)) w' :=
  ⟨b, fun _ _ => hb, by rw [hp], by rw [hp]; exact hs⟩
set_option maxHeartbeats 4000000 in
set_option maxRecDepth 100000 in
theorem rputP6 (S : List Cl) (B : Nat) (M P : Nat → Prop) (w : World) (n up ahead : Int) (h : RefD M P w B S) (hI : Inv S) (hrow : ∀ c ∈ S, c.row.length ≤ 100000) :
    Calls Try.prog 24 #[.pointer (some ⟨B, 0, none⟩), .int .i64 n, .int .i64 up, .int .i64 ahead] w (PutOut6 S w M P B n up ahead) := by
  have HS := Lib.hid (RStep6.same h)
  have HRD := Lib.hid h.rdoc
  have HI := Lib.hid (ris_any S B w n h.rdoc)
  have HEL := Lib.hid (relem_any S B w up h.rdoc)
  have HINV := Lib.hid hI
  have HROW := Lib.hid hrow
  clear hI hrow
  cases hn : isN S n
  · rw [hn] at HI
    have HP := Lib.hid (putD_no (S := S) (n := n) (up := up) (ahead := ahead) (b := false) (by rw [hn]; rfl))
    clear h
    go_enter Try.func24, Try.ntmps24
    go_wp2_with fail
    refine HI.out.mono ?_
    rintro e w1 ⟨rfl, rfl⟩
    go_wp2_with fail
    go_ret
    exact PutOut6.no (b := false) (fun k => by rw [hn] at k; cases k) HP.out HS.out
  · rw [hn] at HI
    cases he : isEl S up
    · rw [he] at HEL
      have HP := Lib.hid (putD_no (S := S) (n := n) (up := up) (ahead := ahead) (b := false) (by rw [he]; simp))
      clear h
      go_enter Try.func24, Try.ntmps24
      go_wp2_with fail
      refine HI.out.mono ?_
      rintro e w1 ⟨rfl, rfl⟩
      go_wp2_with fail
      refine HEL.out.mono ?_
      rintro e w1 ⟨rfl, rfl⟩
      go_wp2_with fail
      go_ret
      exact PutOut6.no (b := false) (fun _ k => by rw [he] at k; cases k) HP.out HS.out
    · rw [he] at HEL
      obtain ⟨n0, n1⟩ := (isN_iff S n).1 hn
      obtain ⟨nn, rfl⟩ : ∃ nn : Nat, n = (nn : Int) := ⟨n.toNat, by omega⟩
      have hup : isN S up = true := by unfold isEl at he; simp only [Bool.and_eq_true] at he; exact he.1
      obtain ⟨u0, u1⟩ := (isN_iff S up).1 hup
      obtain ⟨u, rfl⟩ : ∃ u : Nat, up = (u : Int) := ⟨up.toNat, by omega⟩
      have hnn : nn < S.length := by omega
      have hu : u < S.length := by omega
      have HBL := Lib.hid (rbelow_any S B w u nn HRD.out HINV.out hu)
      have HPL := Lib.hid (rplace_any S B w u ahead HRD.out hu (by have := HROW.out S[u] (List.getElem_mem hu); omega))
      obtain ⟨vN, vU, vR, qs, rv, hq⟩ := h
      obtain ⟨gN, cN, gU, cU, gR, cR, rfl, rfl, rfl⟩ := hq.forms
      have HQ := Lib.hid hq
      have hbk := hq.own.at_ (List.mem_singleton.2 rfl)
      have hB1 := (block_cell6 hbk 1).1
      have hB2 := (block_cell6 hbk 2).1
      simp at hB1 hB2
      have hBlt : B < w.heap.size := heap_lt hbk
      have hUlt := (hq.own.rU.lt gU rfl).2
      have hRlt := (hq.own.rR.lt gR rfl).2
      have hcU : w.cell? ⟨gU, nn, none⟩ = some (.int .i64 (upI S[nn].up)) := by
        rw [hq.own.rU.cellAt nn (by omega)]
        unfold upsV
        rw [List.getElem?_map, List.getElem?_eq_getElem hnn]
        rfl
      have HNE : Hid (gR ≠ B ∧ gR ≠ gU) := Lib.hid ⟨fun e => (hq.own.ex _ (List.mem_singleton.2 rfl)).2.2.2 (by rw [← e]; rfl), fun e => hq.own.nUR gU rfl (by rw [← e]; rfl)⟩
      have HFU := Lib.hid (hq.own.rU.frozenAt nn)
      have HFR := Lib.hid (hq.own.rR.frozenAt u)
      obtain ⟨rowv, hrv, hnum⟩ := hq.rows u hu
      have hcR : w.cell? ⟨gR, u, none⟩ = some rowv := by rw [hq.own.rR.cellAt u (by omega)]; exact hrv
      have HNU := Lib.hid hnum
      have hrl : S[u].row.length ≤ 100000 := HROW.out S[u] (List.getElem_mem hu)
      obtain ⟨L, hL⟩ : ∃ L, L = S[u].row := ⟨_, rfl⟩
      have HL := Lib.hid hL
      rw [← hL] at HNU hrl
      clear hq hbk hnum hrv hL n0 n1 u0 u1 hup
      by_cases h0 : nn = 0
      · have p0 : ((nn : Int) == 0) = true := by simp [h0]
        obtain ⟨b0, hb0⟩ : ∃ b0 : Bool, (b0 = true ↔ Anc S u nn) := by
          by_cases ha : Anc S u nn
          · exact ⟨true, by simp [ha]⟩
          · exact ⟨false, by simp [ha]⟩
        have HP := Lib.hid (putD_no (S := S) (n := (nn : Int)) (up := (u : Int)) (ahead := ahead) (b := b0) (by rw [p0]; simp))
        have HB0 := Lib.hid hb0
        have HP0 := Lib.hid p0
        clear p0 h0
        clear hb0 HBL HPL HFU HFR
        go_enter Try.func24, Try.ntmps24
        go_wp2_with fail
        refine HI.out.mono ?_
        rintro e w1 ⟨rfl, rfl⟩
        go_wp2_with fail
        refine HEL.out.mono ?_
        rintro e w1 ⟨rfl, rfl⟩
        have p0 := HP0.out
        go_wp2_with fail
        go_ret
        exact PutOut6.no (b := b0) (fun _ _ => HB0.out) HP.out HS.out
      · have p0 : ((nn : Int) == 0) = false := beq_eq_false_iff_ne.2 (by omega)
        clear h0
        cases hua : S[nn].up with
        | some k =>
          obtain ⟨b0, hb0⟩ : ∃ b0 : Bool, (b0 = true ↔ Anc S u nn) := by
            by_cases ha : Anc S u nn
            · exact ⟨true, by simp [ha]⟩
            · exact ⟨false, by simp [ha]⟩
          have HP := Lib.hid (putD_no (S := S) (n := (nn : Int)) (up := (u : Int)) (ahead := ahead) (b := b0) (by rw [show ((nn : Int)).toNat = nn from rfl, up_get hnn, hua]; simp))
          have HB0 := Lib.hid hb0
          rw [hua] at hcU
          have p1 : (0 : Int) ≤ (k : Int) := by omega
          have p2 : upI (some k) = (k : Int) := rfl
          rw [p2] at hcU
          clear hb0 HBL HPL HFU HFR
          go_enter Try.func24, Try.ntmps24
          go_wp2_with fail
          refine HI.out.mono ?_
          rintro e w1 ⟨rfl, rfl⟩
          go_wp2_with fail
          refine HEL.out.mono ?_
          rintro e w1 ⟨rfl, rfl⟩
          go_wp2_with fail
          go_ret
          exact PutOut6.no (b := b0) (fun _ _ => HB0.out) HP.out HS.out
        | none =>
          rw [hua] at hcU
          have p2 : upI none = -1 := rfl
          rw [p2] at hcU
          go_enter Try.func24, Try.ntmps24
          go_wp2_with fail
          refine HI.out.mono ?_
          rintro e w1 ⟨rfl, rfl⟩
          go_wp2_with fail
          refine HEL.out.mono ?_
          rintro e w1 ⟨rfl, rfl⟩
          go_wp2_with fail
          refine HBL.out.mono ?_
          rintro e w1 ⟨b, rfl, hb, rfl⟩
          have HB0 := Lib.hid hb
          clear hb
          cases b
          case true =>
            have HP := Lib.hid (putD_no (S := S) (n := (nn : Int)) (up := (u : Int)) (ahead := ahead) (b := true) (by simp))
            go_wp2_with fail
            go_ret
            exact PutOut6.no (b := true) (fun _ _ => by simpa using HB0.out) HP.out HS.out
          case false =>
            cases hsp : spot S u ahead with
            | none =>
              have HP : Hid (putD S (nn : Int) (u : Int) ahead false = (S, false)) := Lib.hid (by
                unfold putD
                split
                · rw [show ((u : Int)).toNat = u from rfl, hsp]
                · rfl)
              rw [hsp] at HPL
              have p3 : placeI none = -1 := rfl
              rw [p3] at HPL
              go_wp2_with fail
              refine HPL.out.mono ?_
              rintro e w1 ⟨rfl, rfl⟩
              go_wp2_with fail
              go_ret
              exact PutOut6.no (b := false) (fun _ _ => by simpa using HB0.out) HP.out HS.out
            | some k =>
              have HPD : Hid (putD S (nn : Int) (u : Int) ahead false = (link S nn u k, true)) := Lib.hid (by
                unfold putD
                rw [if_pos (by rw [hn, he, p0, show ((nn : Int)).toNat = nn from rfl, up_get hnn, hua]; rfl)]
                rw [show ((u : Int)).toNat = u from rfl, hsp]
                rfl)
              have hkl : k ≤ L.length := by
                rw [HL.out, ← row_get hu]
                unfold spot at hsp
                split at hsp
                · injection hsp with hsp; omega
                · obtain ⟨x, hx, _⟩ := place_at _ _ _ hsp
                  exact Nat.le_of_lt (lt_of_some hx)
              rw [hsp] at HPL
              have p3 : placeI (some k) = (k : Int) := rfl
              rw [p3] at HPL
              have p4 : (0 : Int) ≤ (k : Int) := by omega
              go_wp2_with fail
              refine HPL.out.mono ?_
              rintro e w1 ⟨rfl, rfl⟩
              clear HI HEL HBL HPL HRD HINV HS hsp
              obtain ⟨p, cap, rfl, hlc, hpc, hnm⟩ := HNU.out
              go_upto_region 6 with fail
              cases p with
              | none =>
                obtain rfl : cap = 0 := hpc rfl
                have hl0 : L = [] := List.eq_nil_of_length_eq_zero (by omega)
                subst hl0
                obtain rfl : k = 0 := by simpa using hkl
                refine rput6_regN (n := nn) (es := []) (fs := []) hBlt hRlt hB2 hcR HFR.out hu rfl rfl (fun W hb ad e j hj => by cases hj) (fun W hb ad e j hj => by cases hj) ?_
                intro y46 y47 y48 y49 y50 y51 y52 y53 y54 y55 y56 y57 y58 y59 y60 y61 y62 y63 y64 y65 y66 y67 y68 y69 y70 y71 y72 y73 y74 y75 p' c' w2 hx
                have hLL : (([] : List Nat).take 0 ++ [nn] ++ ([] : List Nat).drop 0).length = 1 := by simp
                have hx2 : RowX w w2 (.slice p' (([] : List Nat).take 0 ++ [nn] ++ ([] : List Nat).drop 0).length c') (([] : List Nat).take 0 ++ [nn] ++ ([] : List Nat).drop 0).length (intsV (([] : List Nat).take 0 ++ [nn] ++ ([] : List Nat).drop 0)) [] := by
                  rw [hLL, intsV_app, intsV_app]
                  simpa using hx
                have b1 : (w2.setCell ⟨gR, u, none⟩ (.slice p' (1) c')).cell? ⟨B, 1, none⟩ = some (.slice (some ⟨gU, 0, none⟩) S.length cU) := (World.cell?_setCell_other _ _ _ _ (by intro e; injection e with e; exact HNE.out.1 e)).trans ((hx.below.cell (p := ⟨B, 1, none⟩) hBlt).trans hB1)
                have c1 : (w2.setCell ⟨gR, u, none⟩ (.slice p' (1) c')).cell? ⟨gU, nn, none⟩ = some (.int .i64 (-1)) := (World.cell?_setCell_other _ _ _ _ (by intro e; injection e with e; exact HNE.out.2 e)).trans ((hx.below.cell (p := ⟨gU, nn, none⟩) hUlt).trans hcU)
                have f1 : (w2.setCell ⟨gR, u, none⟩ (.slice p' (1) c')).frozen? ⟨gU, nn, none⟩ = false := by
                  have e : (w2.setCell ⟨gR, u, none⟩ (.slice p' (1) c')).frozen? ⟨gU, nn, none⟩ = w2.frozen? ⟨gU, nn, none⟩ := by simp
                  rw [e, World.frozen?_of_block (w := w) (hx.below.block gU hUlt)]
                  exact HFU.out
                have HST := Lib.hid (HQ.out.linked (n := nn) (u := u) (i := 0) hu _ (by rw [← HL.out]) hx2)
                rw [hLL] at HST
                have q0 : (0 : Int) ≤ (nn : Int) := by omega
                have q1 : (nn : Int) < (S.length : Int) := by omega
                clear hx hx2 hLL
                go_wp2_with fail
                go_ret
                exact PutOut6.yes (b := false) (by simpa using HB0.out) HPD.out HST.out
              | some ad =>
                obtain ⟨g, o, s⟩ := ad
                obtain ⟨rfl, _, hglt, hcell⟩ := hnm g o s rfl
                have hE : ∀ W, Below w.heap.size w W → ∀ ad, (some ⟨g, o, none⟩ : Option Addr) = some ad → ∀ j (hj : j < (L.take k).length), W.cell? (ad.add j) = some (.int .i64 ((L.take k)[j] : Int)) := by
                  intro W hb ad e j hj
                  obtain rfl : (⟨g, o, none⟩ : Addr) = ad := Option.some.inj e
                  have hj2 : j < L.length := by rw [List.length_take] at hj; omega
                  rw [add_plain6, (hb.cell (p := ⟨g, o + j, none⟩) hglt), hcell j hj2]
                  simp
                by_cases hkc : k < cap
                · have hF : ∀ W, Below w.heap.size w W → ∀ ad, (some ⟨g, o + k, none⟩ : Option Addr) = some ad → ∀ j (hj : j < (L.drop k).length), W.cell? (ad.add j) = some (.int .i64 ((L.drop k)[j] : Int)) := by
                    intro W hb ad e j hj
                    obtain rfl : (⟨g, o + k, none⟩ : Addr) = ad := Option.some.inj e
                    have hj2 : k + j < L.length := by rw [List.length_drop] at hj; omega
                    rw [add_plain6, (hb.cell (p := ⟨g, o + k + j, none⟩) hglt), Nat.add_assoc, hcell (k + j) hj2]
                    simp
                  refine rput6_regA (n := nn) (es := L.take k) (fs := L.drop k) hBlt hRlt hB2 hcR HFR.out hu hkl hkc hrl (by rw [List.length_take]; omega) (by rw [List.length_drop]) hE hF ?_
                  intro y46 y47 y48 y49 y50 y51 y52 y53 y54 y55 y56 y57 y58 y59 y60 y61 y62 y63 y64 y65 y66 y67 y68 y69 y70 y71 y72 y73 y74 y75 p' c' w2 hx
                  have hLL : (L.take k ++ [nn] ++ L.drop k).length = k + 1 + (L.length - k) := by simp [List.length_take, List.length_drop]; omega
                  have hx2 : RowX w w2 (.slice p' (L.take k ++ [nn] ++ L.drop k).length c') (L.take k ++ [nn] ++ L.drop k).length (intsV (L.take k ++ [nn] ++ L.drop k)) [] := by
                    rw [hLL, intsV_app, intsV_app]
                    simpa only [List.nil_append] using hx
                  have b1 : (w2.setCell ⟨gR, u, none⟩ (.slice p' (k + 1 + (L.length - k)) c')).cell? ⟨B, 1, none⟩ = some (.slice (some ⟨gU, 0, none⟩) S.length cU) := (World.cell?_setCell_other _ _ _ _ (by intro e; injection e with e; exact HNE.out.1 e)).trans ((hx.below.cell (p := ⟨B, 1, none⟩) hBlt).trans hB1)
                  have c1 : (w2.setCell ⟨gR, u, none⟩ (.slice p' (k + 1 + (L.length - k)) c')).cell? ⟨gU, nn, none⟩ = some (.int .i64 (-1)) := (World.cell?_setCell_other _ _ _ _ (by intro e; injection e with e; exact HNE.out.2 e)).trans ((hx.below.cell (p := ⟨gU, nn, none⟩) hUlt).trans hcU)
                  have f1 : (w2.setCell ⟨gR, u, none⟩ (.slice p' (k + 1 + (L.length - k)) c')).frozen? ⟨gU, nn, none⟩ = false := by
                    have e : (w2.setCell ⟨gR, u, none⟩ (.slice p' (k + 1 + (L.length - k)) c')).frozen? ⟨gU, nn, none⟩ = w2.frozen? ⟨gU, nn, none⟩ := by simp
                    rw [e, World.frozen?_of_block (w := w) (hx.below.block gU hUlt)]
                    exact HFU.out
                  have HST := Lib.hid (HQ.out.linked (n := nn) (u := u) (i := k) hu _ (by rw [← HL.out]) hx2)
                  rw [hLL] at HST
                  have q0 : (0 : Int) ≤ (nn : Int) := by omega
                  have q1 : (nn : Int) < (S.length : Int) := by omega
                  clear hx hx2 hLL
                  go_wp2_with fail
                  go_ret
                  exact PutOut6.yes (b := false) (by simpa using HB0.out) HPD.out HST.out
                · have hk2 : k = cap := by omega
                  subst hk2
                  have hll : L.length = k := by omega
                  have hfs : L.drop k = [] := by rw [← hll]; exact List.drop_length
                  rw [hll] at hcR
                  refine rput6_regB (n := nn) (es := L.take k) (fs := []) hBlt hRlt hB2 hcR HFR.out hu (by omega) (by rw [List.length_take]; omega) rfl hE (fun W hb ad e j hj => by cases hj) ?_
                  intro y46 y47 y48 y49 y50 y51 y52 y53 y54 y55 y56 y57 y58 y59 y60 y61 y62 y63 y64 y65 y66 y67 y68 y69 y70 y71 y72 y73 y74 y75 p' c' w2 hx
                  have hLL : (L.take k ++ [nn] ++ L.drop k).length = k + 1 := by simp [List.length_take, List.length_drop]; omega
                  have hx2 : RowX w w2 (.slice p' (L.take k ++ [nn] ++ L.drop k).length c') (L.take k ++ [nn] ++ L.drop k).length (intsV (L.take k ++ [nn] ++ L.drop k)) [] := by
                    rw [hLL, intsV_app, intsV_app]
                    rw [hfs]; simpa only [List.nil_append] using hx
                  have b1 : (w2.setCell ⟨gR, u, none⟩ (.slice p' (k + 1) c')).cell? ⟨B, 1, none⟩ = some (.slice (some ⟨gU, 0, none⟩) S.length cU) := (World.cell?_setCell_other _ _ _ _ (by intro e; injection e with e; exact HNE.out.1 e)).trans ((hx.below.cell (p := ⟨B, 1, none⟩) hBlt).trans hB1)
                  have c1 : (w2.setCell ⟨gR, u, none⟩ (.slice p' (k + 1) c')).cell? ⟨gU, nn, none⟩ = some (.int .i64 (-1)) := (World.cell?_setCell_other _ _ _ _ (by intro e; injection e with e; exact HNE.out.2 e)).trans ((hx.below.cell (p := ⟨gU, nn, none⟩) hUlt).trans hcU)
                  have f1 : (w2.setCell ⟨gR, u, none⟩ (.slice p' (k + 1) c')).frozen? ⟨gU, nn, none⟩ = false := by
                    have e : (w2.setCell ⟨gR, u, none⟩ (.slice p' (k + 1) c')).frozen? ⟨gU, nn, none⟩ = w2.frozen? ⟨gU, nn, none⟩ := by simp
                    rw [e, World.frozen?_of_block (w := w) (hx.below.block gU hUlt)]
                    exact HFU.out
                  have HST := Lib.hid (HQ.out.linked (n := nn) (u := u) (i := k) hu _ (by rw [← HL.out]) hx2)
                  rw [hLL] at HST
                  have q0 : (0 : Int) ≤ (nn : Int) := by omega
                  have q1 : (nn : Int) < (S.length : Int) := by omega
                  clear hx hx2 hLL
                  go_wp2_with fail
                  go_ret
                  exact PutOut6.yes (b := false) (by simpa using HB0.out) HPD.out HST.out
end Go.Proofs.Ytkoijkdhmfnlbaa
