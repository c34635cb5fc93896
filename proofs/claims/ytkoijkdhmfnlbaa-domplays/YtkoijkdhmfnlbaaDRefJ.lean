/-
  The walk of the reference's Take for nodes by numbers. Any nodes, not too many.
-/
import Derived.Test.YtkoijkdhmfnlbaaDRefI
import Derived.Test.YtkoijkdhmfnlbaaDRefG
namespace Go.Proofs.Ytkoijkdhmfnlbaa
open Go.RowKit

/-- What Take answers and leaves. -/
def TakeOut6 (S : List Cl) (w : World) (M P : Nat → Prop) (B : Nat) (n : Int) (e : Ending) (w' : World) : Prop := e = .returned (.bool (takeD S n).2) ∧ RStep6 w M P B (takeD S n).1 w'
theorem TakeOut6.is {S S' : List Cl} {w w' : World} {M P : Nat → Prop} {B : Nat} {n : Int} {b : Bool} (h : takeD S n = (S', b)) (hs : RStep6 w M P B S' w') : TakeOut6 S w M P B n (.returned (.bool b)) w' := ⟨by rw [h], by rw [h]; exact hs⟩
theorem takeD_no {S : List Cl} {n : Int} (h : isN S n = false) : takeD S n = (S, false) := by
  unfold takeD
  rw [if_neg (by rw [h]; decide)]
theorem takeD_free {S : List Cl} {n : Nat} (hi : isN S (n : Int) = true) (h : upAt S n = none) : takeD S (n : Int) = (S, false) := by
  unfold takeD
  rw [if_pos hi, show ((n : Int)).toNat = n from rfl, h]
theorem takeD_yes {S : List Cl} {n u i : Nat} (hi : isN S (n : Int) = true) (h : upAt S n = some u) (hp : place (rowAt S u) (n : Int) = some i) : takeD S (n : Int) = (unlink S n u i, true) := by
  unfold takeD
  rw [if_pos hi, show ((n : Int)).toNat = n from rfl, h]
  simp only [hp]
set_option maxHeartbeats 4000000 in
set_option maxRecDepth 100000 in
theorem rtakeP6 (S : List Cl) (B : Nat) (M P : Nat → Prop) (w : World) (n : Int) (h : RefD M P w B S) (hI : Inv S) (hrow : ∀ c ∈ S, c.row.length ≤ 100000) :
    Calls Try.prog 20 #[.pointer (some ⟨B, 0, none⟩), .int .i64 n] w (TakeOut6 S w M P B n) := by
  have HS := Lib.hid (RStep6.same h)
  have HRD := Lib.hid h.rdoc
  have HI := Lib.hid (ris_any S B w n h.rdoc)
  cases hn : isN S n
  · rw [hn] at HI
    have HP := Lib.hid (takeD_no hn)
    clear h hI hrow
    go_enter Try.func20, Try.ntmps20
    go_wp2_with fail
    refine HI.out.mono ?_
    rintro e w1 ⟨rfl, rfl⟩
    go_wp2_with fail
    go_ret
    exact TakeOut6.is HP.out HS.out
  · rw [hn] at HI
    obtain ⟨n0, n1⟩ := (isN_iff S n).1 hn
    obtain ⟨nn, rfl⟩ : ∃ nn : Nat, n = (nn : Int) := ⟨n.toNat, by omega⟩
    have hnn : nn < S.length := by omega
    obtain ⟨vN, vU, vR, qs, rv, hq⟩ := h
    obtain ⟨gN, cN, gU, cU, gR, cR, rfl, rfl, rfl⟩ := hq.forms
    have HQ := Lib.hid hq
    have hbk := hq.own.at_ (List.mem_singleton.2 rfl)
    have hB1 := (block_cell6 hbk 1).1
    have hB2 := (block_cell6 hbk 2).1
    simp at hB1 hB2
    have hBlt : B < w.heap.size := heap_lt hbk
    have hUlt := (hq.own.rU.lt gU rfl).2
    have hRlt := (hq.own.rR.lt gR rfl).2
    have hcU : w.cell? ⟨gU, nn, none⟩ = some (.int .i64 (upI S[nn].up)) := by
      rw [hq.own.rU.cellAt nn (by omega)]
      unfold upsV
      rw [List.getElem?_map, List.getElem?_eq_getElem hnn]
      rfl
    have HNE : Hid (gR ≠ B ∧ gR ≠ gU) := Lib.hid ⟨fun e => (hq.own.ex _ (List.mem_singleton.2 rfl)).2.2.2 (by rw [← e]; rfl), fun e => hq.own.nUR gU rfl (by rw [← e]; rfl)⟩
    have HFU := Lib.hid (hq.own.rU.frozenAt nn)
    cases hua : S[nn].up with
    | none =>
      have HP := Lib.hid (takeD_free hn ((up_get hnn).trans hua))
      rw [hua] at hcU
      have p2 : upI none = -1 := rfl
      rw [p2] at hcU
      clear hq hbk hI hrow
      go_enter Try.func20, Try.ntmps20
      go_wp2_with fail
      refine HI.out.mono ?_
      rintro e w1 ⟨rfl, rfl⟩
      go_wp2_with fail
      go_ret
      exact TakeOut6.is HP.out HS.out
    | some u =>
      obtain ⟨hh, hi⟩ := hI
      obtain ⟨⟨e, he, hmem⟩, _⟩ := hi.upok _ _ _ (List.getElem?_eq_getElem hnn) hua
      have hu : u < S.length := lt_of_some he
      obtain rfl : S[u] = e := by rw [List.getElem?_eq_getElem hu] at he; exact Option.some.inj he
      obtain ⟨i, hpi⟩ := place_mem _ _ hmem
      have hil : i < S[u].row.length := by obtain ⟨x, hx, _⟩ := place_at _ _ _ hpi; exact lt_of_some hx
      have HPD := Lib.hid (takeD_yes (i := i) hn ((up_get hnn).trans hua) (by rw [row_get hu]; exact hpi))
      have hrl : S[u].row.length ≤ 100000 := hrow S[u] (List.getElem_mem hu)
      have HPL := Lib.hid (rplace_any S B w u (nn : Int) HRD.out hu (by omega))
      have hsp : spot S u (nn : Int) = some i := by
        unfold spot
        rw [if_neg (by omega), row_get hu]
        exact hpi
      rw [hsp] at HPL
      have p3 : placeI (some i) = (i : Int) := rfl
      rw [p3] at HPL
      have HFR := Lib.hid (hq.own.rR.frozenAt u)
      obtain ⟨rowv, hrv, hnum⟩ := hq.rows u hu
      have hcR : w.cell? ⟨gR, u, none⟩ = some rowv := by rw [hq.own.rR.cellAt u (by omega)]; exact hrv
      rw [hua] at hcU
      have p2 : upI (some u) = (u : Int) := rfl
      rw [p2] at hcU
      have HNU := Lib.hid hnum
      obtain ⟨L, hL⟩ : ∃ L, L = S[u].row := ⟨_, rfl⟩
      have HL := Lib.hid hL
      rw [← hL] at HNU hrl hil
      have u0 : (0 : Int) ≤ (u : Int) := by omega
      clear hq hbk hnum hrv hL hi hrow hpi hmem hsp he
      go_enter Try.func20, Try.ntmps20
      go_wp2_with fail
      refine HI.out.mono ?_
      rintro e w1 ⟨rfl, rfl⟩
      go_wp2_with fail
      refine HPL.out.mono ?_
      rintro e w1 ⟨rfl, rfl⟩
      clear HI HPL HRD HS
      obtain ⟨p, cap, rfl, hlc, hpc, hnm⟩ := HNU.out
      go_upto_region 5 with fail
      cases p with
      | none =>
        obtain rfl : cap = 0 := hpc rfl
        omega
      | some ad =>
        obtain ⟨g, o, s⟩ := ad
        obtain ⟨rfl, _, hglt, hcell⟩ := hnm g o s rfl
        have hE : ∀ W, Below w.heap.size w W → ∀ ad, (some ⟨g, o, none⟩ : Option Addr) = some ad → ∀ j (hj : j < (L.take i).length), W.cell? (ad.add j) = some (.int .i64 ((L.take i)[j] : Int)) := by
          intro W hb ad e j hj
          obtain rfl : (⟨g, o, none⟩ : Addr) = ad := Option.some.inj e
          have hj2 : j < L.length := by rw [List.length_take] at hj; omega
          rw [add_plain6, (hb.cell (p := ⟨g, o + j, none⟩) hglt), hcell j hj2]
          simp
        by_cases hkc : i + 1 < cap
        · have hF : ∀ W, Below w.heap.size w W → ∀ ad, (some ⟨g, o + (i + 1), none⟩ : Option Addr) = some ad → ∀ j (hj : j < (L.drop (i + 1)).length), W.cell? (ad.add j) = some (.int .i64 ((L.drop (i + 1))[j] : Int)) := by
            intro W hb ad e j hj
            obtain rfl : (⟨g, o + (i + 1), none⟩ : Addr) = ad := Option.some.inj e
            have hj2 : i + 1 + j < L.length := by rw [List.length_drop] at hj; omega
            rw [add_plain6, (hb.cell (p := ⟨g, o + (i + 1) + j, none⟩) hglt), Nat.add_assoc, hcell (i + 1 + j) hj2]
            simp
          refine rtake6_regA (k1 := i + 1) (es := L.take i) (fs := L.drop (i + 1)) hBlt hRlt hB2 hcR HFR.out hu rfl (by omega) hkc hlc hrl (by rw [List.length_take]; omega) (by rw [List.length_drop]) hE hF ?_
          intro y32 y33 y34 y35 y36 y37 y38 y39 y40 y41 y42 y43 y44 y45 y46 y47 y48 y49 y50 y51 y52 y53 y54 y55 y56 y57 y58 y59 p' c' w2 hx
          have hLL : (L.take i ++ L.drop (i + 1)).length = i + (L.length - (i + 1)) := by simp [List.length_take, List.length_drop]; omega
          have hx2 : RowX w w2 (.slice p' (L.take i ++ L.drop (i + 1)).length c') (L.take i ++ L.drop (i + 1)).length (intsV (L.take i ++ L.drop (i + 1))) [] := by
            rw [hLL, intsV_app]
            simpa only [List.nil_append] using hx
          have b1 : (w2.setCell ⟨gR, u, none⟩ (.slice p' (i + (L.length - (i + 1))) c')).cell? ⟨B, 1, none⟩ = some (.slice (some ⟨gU, 0, none⟩) S.length cU) := (World.cell?_setCell_other _ _ _ _ (by intro e; injection e with e; exact HNE.out.1 e)).trans ((hx.below.cell (p := ⟨B, 1, none⟩) hBlt).trans hB1)
          have c1 : (w2.setCell ⟨gR, u, none⟩ (.slice p' (i + (L.length - (i + 1))) c')).cell? ⟨gU, nn, none⟩ = some (.int .i64 (u : Int)) := (World.cell?_setCell_other _ _ _ _ (by intro e; injection e with e; exact HNE.out.2 e)).trans ((hx.below.cell (p := ⟨gU, nn, none⟩) hUlt).trans hcU)
          have f1 : (w2.setCell ⟨gR, u, none⟩ (.slice p' (i + (L.length - (i + 1))) c')).frozen? ⟨gU, nn, none⟩ = false := by
            have e : (w2.setCell ⟨gR, u, none⟩ (.slice p' (i + (L.length - (i + 1))) c')).frozen? ⟨gU, nn, none⟩ = w2.frozen? ⟨gU, nn, none⟩ := by simp
            rw [e, World.frozen?_of_block (w := w) (hx.below.block gU hUlt)]
            exact HFU.out
          have HST : Hid (RStep6 w M P B (unlink S nn u i) ((w2.setCell ⟨gR, u, none⟩ (.slice p' (L.take i ++ L.drop (i + 1)).length c')).setCell ⟨gU, nn, none⟩ (.int .i64 (-1)))) := Lib.hid (by
            obtain ⟨q1, t1⟩ := HQ.out.setRow hu _ hx2
            obtain ⟨q2, t2⟩ := q1.setUp nn none
            rw [unlink_sets (List.getElem?_eq_getElem hu), ← HL.out]
            exact .ofQ q2 (fun b hb k => NewP6.old hb k) (t1.trans (t2.mono fun _ _ k => .inl k)))
          rw [hLL] at HST
          clear hx hx2 hLL
          go_wp2_with fail
          go_ret
          exact TakeOut6.is HPD.out HST.out
        · have hk2 : cap = i + 1 := by omega
          subst hk2
          have hll : L.length = i + 1 := by omega
          have hfs : L.drop (i + 1) = [] := by rw [← hll]; exact List.drop_length
          rw [hll] at hcR
          refine rtake6_regB (k1 := i + 1) (es := L.take i) (fs := []) hBlt hRlt hB2 hcR HFR.out hu rfl (by omega) (by rw [List.length_take]; omega) rfl hE (fun W hb ad e j hj => by cases hj) ?_
          intro y32 y33 y34 y35 y36 y37 y38 y39 y40 y41 y42 y43 y44 y45 y46 y47 y48 y49 y50 y51 y52 y53 y54 y55 y56 y57 y58 y59 p' c' w2 hx
          have hLL : (L.take i ++ L.drop (i + 1)).length = i := by simp [List.length_take, List.length_drop]; omega
          have hx2 : RowX w w2 (.slice p' (L.take i ++ L.drop (i + 1)).length c') (L.take i ++ L.drop (i + 1)).length (intsV (L.take i ++ L.drop (i + 1))) [] := by
            rw [hLL, intsV_app]
            rw [hfs]; simpa only [List.nil_append, Nat.add_zero] using hx
          have b1 : (w2.setCell ⟨gR, u, none⟩ (.slice p' (i) c')).cell? ⟨B, 1, none⟩ = some (.slice (some ⟨gU, 0, none⟩) S.length cU) := (World.cell?_setCell_other _ _ _ _ (by intro e; injection e with e; exact HNE.out.1 e)).trans ((hx.below.cell (p := ⟨B, 1, none⟩) hBlt).trans hB1)
          have c1 : (w2.setCell ⟨gR, u, none⟩ (.slice p' (i) c')).cell? ⟨gU, nn, none⟩ = some (.int .i64 (u : Int)) := (World.cell?_setCell_other _ _ _ _ (by intro e; injection e with e; exact HNE.out.2 e)).trans ((hx.below.cell (p := ⟨gU, nn, none⟩) hUlt).trans hcU)
          have f1 : (w2.setCell ⟨gR, u, none⟩ (.slice p' (i) c')).frozen? ⟨gU, nn, none⟩ = false := by
            have e : (w2.setCell ⟨gR, u, none⟩ (.slice p' (i) c')).frozen? ⟨gU, nn, none⟩ = w2.frozen? ⟨gU, nn, none⟩ := by simp
            rw [e, World.frozen?_of_block (w := w) (hx.below.block gU hUlt)]
            exact HFU.out
          have HST : Hid (RStep6 w M P B (unlink S nn u i) ((w2.setCell ⟨gR, u, none⟩ (.slice p' (L.take i ++ L.drop (i + 1)).length c')).setCell ⟨gU, nn, none⟩ (.int .i64 (-1)))) := Lib.hid (by
            obtain ⟨q1, t1⟩ := HQ.out.setRow hu _ hx2
            obtain ⟨q2, t2⟩ := q1.setUp nn none
            rw [unlink_sets (List.getElem?_eq_getElem hu), ← HL.out]
            exact .ofQ q2 (fun b hb k => NewP6.old hb k) (t1.trans (t2.mono fun _ _ k => .inl k)))
          rw [hLL] at HST
          clear hx hx2 hLL
          go_wp2_with fail
          go_ret
          exact TakeOut6.is HPD.out HST.out
end Go.Proofs.Ytkoijkdhmfnlbaa
