/-
  Rows of marks beside Marks; the walk of the reference's Same for marks. Any rows, not too many.
-/
import Derived.Test.YtbadckkcjjfnoaaMWA
import Derived.StillTailTactics
namespace Go.Proofs.Ytbadckkcjjfnoaa
open Go.RowKit

/-- The slice v holds the marks qs, all of it in blocks of P. -/
def RowP (P : Nat → Prop) (w : World) (v : Value) (qs : List (MK × Value)) : Prop :=
  ∃ p cap, v = .slice p qs.length cap ∧ qs.length ≤ cap ∧ (∀ j (hj : j < qs.length), ∃ g o, p = some ⟨g, o, none⟩ ∧ P g ∧ g < w.heap.size ∧ w.cell? ⟨g, o + j * 3, none⟩ = some (.int .i64 qs[j].1.node) ∧ w.cell? ⟨g, o + j * 3 + 1, none⟩ = some (.string ⟨qs[j].1.name.toArray⟩) ∧ w.cell? ⟨g, o + j * 3 + 2, none⟩ = some qs[j].2) ∧ ∀ q ∈ qs, AttrsP P w q.2 q.1.attrs
theorem RowP.kept {P : Nat → Prop} {w w' : World} {v : Value} {qs : List (MK × Value)} (h : RowP P w v qs) (hk : Kept P w w') : RowP P w' v qs := by
  obtain ⟨p, cap, rfl, hl, h, ha⟩ := h
  refine ⟨p, cap, rfl, hl, fun j hj => ?_, fun q hq => (ha q hq).kept hk⟩
  obtain ⟨g, o, rfl, hp, hg, h0, h1, h2⟩ := h j hj
  exact ⟨g, o, rfl, hp, Nat.lt_of_lt_of_le hg hk.size, (hk.cell hp hg).trans h0, (hk.cell hp hg).trans h1, (hk.cell hp hg).trans h2⟩
theorem RowP.mono {P Q : Nat → Prop} {w : World} {v : Value} {qs : List (MK × Value)} (h : RowP P w v qs) (hq : ∀ b, P b → b < w.heap.size → Q b) : RowP Q w v qs := by
  obtain ⟨p, cap, rfl, hl, h, ha⟩ := h
  refine ⟨p, cap, rfl, hl, fun j hj => ?_, fun q hm => (ha q hm).mono hq⟩
  obtain ⟨g, o, rfl, hp, hg, h3⟩ := h j hj
  exact ⟨g, o, rfl, hq g hp hg, hg, h3⟩
theorem OutRow.row' {B0 : Nat} {w : World} {v : Value} {rs : List (MK × Value)} (h : OutRow B0 w v rs) : RowP (fun b => B0 ≤ b ∧ b < w.heap.size) w v rs := by
  have hr := h.row
  have ha : ∀ q ∈ rs, AttrsP (fun b => B0 ≤ b ∧ b < w.heap.size) w q.2 q.1.attrs := fun q hq => (h.attrs q hq).mono fun b k hb => ⟨k.1, hb⟩
  rcases hr.2 with ⟨e, h0⟩ | ⟨g, cap, _, e, hg0, hg, hc, _⟩
  · have : rs = [] := List.eq_nil_of_length_eq_zero h0
    subst this
    exact ⟨none, 0, e, Nat.le_refl _, fun j hj => absurd hj (by simp), ha⟩
  · subst e
    have hg1 := (hr.lt g rfl).2
    have key : ∀ j i (hj : j < rs.length), i < 3 → w.cell? ⟨g, 0 + j * 3 + i, none⟩ = (mkCell rs[j])[i]? := by
      intro j i hj hi
      rw [show 0 + j * 3 + i = j * 3 + i by omega, hr.cellAt (j * 3 + i) (by omega), mkCells_at rs j i hj hi]
    exact ⟨_, cap, rfl, hc, fun j hj => ⟨g, 0, rfl, ⟨hg0, hg1⟩, hg1, key j 0 hj (by omega), key j 1 hj (by omega), key j 2 hj (by omega)⟩, ha⟩
theorem fst_ne {xs ys : List (MK × Value)} {k : Nat} (ha : k < xs.length) (hb : k < ys.length) (h : xs[k].1 ≠ ys[k].1) : xs.map (·.1) ≠ ys.map (·.1) := by
  intro e
  apply h
  have := congrArg (fun l => l[k]?) e
  simpa [ha, hb] using this
theorem fst_eq {xs ys : List (MK × Value)} (hl : xs.length = ys.length) (h : ∀ j (h1 : j < xs.length) (h2 : j < ys.length), xs[j].1 = ys[j].1) : xs.map (·.1) = ys.map (·.1) := by
  refine List.ext_getElem (by simpa using hl) fun j h1 h2 => ?_
  simp only [List.getElem_map]
  exact h j (by simpa using h1) (by simpa using h2)
theorem eq_step {xs ys : List (MK × Value)} {k : Nat} (h : ∀ j (_ : j < k) (h1 : j < xs.length) (h2 : j < ys.length), xs[j].1 = ys[j].1) (ha : k < xs.length) (hb : k < ys.length) (e : xs[k].1 = ys[k].1) : ∀ j (_ : j < k + 1) (h1 : j < xs.length) (h2 : j < ys.length), xs[j].1 = ys[j].1 := by
  intro j hj h1 h2
  rcases Nat.lt_or_ge j k with q | q
  · exact h j q h1 h2
  · have : j = k := by omega
    subst this
    exact e
set_option maxHeartbeats 2000000 in
set_option maxRecDepth 100000 in
theorem rsameM (a b : Value) (xs ys : List (MK × Value)) (P Q : Nat → Prop) (w : World) (ha : RowP P w a xs) (hb : RowP Q w b ys) (hN : xs.length ≤ 4294967296) (hA : ∀ q ∈ xs, q.1.attrs.length ≤ 4294967296) : Calls Try.prog 96 #[a, b] w (Brings (.bool (decide (xs.map (·.1) = ys.map (·.1)))) w) := by
  obtain ⟨p, cap, rfl, _, hc, haa⟩ := ha
  obtain ⟨p2, cap2, rfl, _, hc2, hab⟩ := hb
  have HC := Lib.hid hc
  have HC2 := Lib.hid hc2
  have HAA := Lib.hid haa
  have HAB := Lib.hid hab
  have HAL := Lib.hid hA
  clear hc hc2 haa hab hA
  by_cases hl : xs.length = ys.length
  · have q0 : ((xs.length : Int) != (ys.length : Int)) = false := by simp [hl]
    have HL := Lib.hid hl
    have hl2 : xs.length ≤ ys.length := by omega
    clear hl
    go_enter Try.func96, Try.ntmps96
    go_wp2_with fail
    go_loopw [5] (fun i wr => ∃ (k : Nat), k ≤ xs.length ∧ i = .int .i64 k ∧ Below w.heap.size w wr ∧ ∀ j (_ : j < k) (h1 : j < xs.length) (h2 : j < ys.length), xs[j].1 = ys[j].1) (fun i _ => xs.length - (intOf i).toNat)
    case atStart => exact ⟨0, Nat.zero_le _, rfl, Below.refl _ _, fun j h => absurd h (by omega)⟩
    case round =>
      obtain ⟨k, hk, rfl, hbw, hall⟩ := hrel
      have HALL := Lib.hid hall
      have HBW := Lib.hid hbw
      clear hall hbw
      by_cases hlt : k < xs.length
      · have hlt2 : k < ys.length := by omega
        obtain ⟨g, o, rfl, _, hg, h0, h1, h2⟩ := HC.out k hlt
        obtain ⟨g2, o2, rfl, _, hg2, e0, e1, e2⟩ := HC2.out k hlt2
        have d : Below wr.heap.size wr wr.drew := (Below.refl _ _).drew
        have bd := HBW.out.trans (d.mono HBW.out.size)
        have HBD := Lib.hid bd
        have m0 := (bd.cell (p := ⟨g, o + k * 3, none⟩) hg).trans h0
        have m1 := (bd.cell (p := ⟨g, o + k * 3 + 1, none⟩) hg).trans h1
        have m2 := (bd.cell (p := ⟨g, o + k * 3 + 2, none⟩) hg).trans h2
        have n0 := (bd.cell (p := ⟨g2, o2 + k * 3, none⟩) hg2).trans e0
        have n1 := (bd.cell (p := ⟨g2, o2 + k * 3 + 1, none⟩) hg2).trans e1
        have n2 := (bd.cell (p := ⟨g2, o2 + k * 3 + 2, none⟩) hg2).trans e2
        have i0 := (HBW.out.cell (p := ⟨g, o + k * 3, none⟩) hg).trans h0
        have i1 := (HBW.out.cell (p := ⟨g, o + k * 3 + 1, none⟩) hg).trans h1
        have j0 := (HBW.out.cell (p := ⟨g2, o2 + k * 3, none⟩) hg2).trans e0
        have j1 := (HBW.out.cell (p := ⟨g2, o2 + k * 3 + 1, none⟩) hg2).trans e1
        have gs : g < wr.heap.size := Nat.lt_of_lt_of_le hg HBW.out.size
        have gs2 : g2 < wr.heap.size := Nat.lt_of_lt_of_le hg2 HBW.out.size
        have k0 : (0 : Int) ≤ (k : Int) := by omega
        have k1 : (k : Int) < (xs.length : Int) := by omega
        have k2 : (k : Int) < (ys.length : Int) := by omega
        have HAK : Hid (∀ W, Below w.heap.size w W → Calls Try.prog 125 #[xs[k].2, ys[k].2] W (Brings (.bool (decide (xs[k].1.attrs = ys[k].1.attrs))) W)) := Lib.hid fun W b => ralikeP _ _ _ _ P Q W ((HAA.out xs[k] (List.getElem_mem hlt)).kept (.of_below b)) ((HAB.out ys[k] (List.getElem_mem hlt2)).kept (.of_below b)) (HAL.out xs[k] (List.getElem_mem hlt))
        have HNE : Hid (xs[k].1 ≠ ys[k].1 → decide (xs.map (·.1) = ys.map (·.1)) = false) := Lib.hid fun e => decide_eq_false (fst_ne hlt hlt2 e)
        clear h0 h1 h2 e0 e1 e2 bd d
        by_cases c0 : xs[k].1.node = ys[k].1.node
        · have q1 : (xs[k].1.node != ys[k].1.node) = false := by simpa using c0
          by_cases c1 : xs[k].1.name = ys[k].1.name
          · have q2 := str_is c1
            by_cases c2 : xs[k].1.attrs = ys[k].1.attrs
            · have HE : Hid (∀ j (_ : j < k + 1) (h1 : j < xs.length) (h2 : j < ys.length), xs[j].1 = ys[j].1) := Lib.hid (eq_step HALL.out hlt hlt2 (by
                cases hx : xs[k].1
                cases hy : ys[k].1
                rw [hx, hy] at c0 c1 c2
                cases c0; cases c1; cases c2; rfl))
              rw [decide_eq_true c2] at HAK
              clear c0 c1 c2 HNE i0 i1 j0 j1
              generalize xs[k].1.node = NA at *
              generalize ys[k].1.node = NB at *
              generalize (⟨xs[k].1.name.toArray⟩ : ByteArray) = SA at *
              generalize (⟨ys[k].1.name.toArray⟩ : ByteArray) = SB at *
              generalize xs[k].2 = VA at *
              generalize ys[k].2 = VB at *
              go_wp2_with fail
              go_still_tail 35, (by kernel_rfl)
              change wpList _ _ _ _ _ wr.drew
              generalize wr.drew = w2 at *
              go_wp2_with fail
              refine (HAK.out w2 HBD.out).mono ?_
              rintro e w3 ⟨rfl, b3⟩
              have HB3 := Lib.hid (HBD.out.trans (b3.mono HBD.out.size))
              clear b3
              go_wp2_with fail
              exact ⟨⟨k + 1, by omega, by go_num, HB3.out, HE.out⟩, by simp [intOf]; omega⟩
            · have HZ := Lib.hid (HNE.out fun e => c2 (by rw [e]))
              rw [decide_eq_false c2] at HAK
              clear c0 c1 c2 HNE i0 i1 j0 j1
              generalize xs[k].1.node = NA at *
              generalize ys[k].1.node = NB at *
              generalize (⟨xs[k].1.name.toArray⟩ : ByteArray) = SA at *
              generalize (⟨ys[k].1.name.toArray⟩ : ByteArray) = SB at *
              generalize xs[k].2 = VA at *
              generalize ys[k].2 = VB at *
              go_wp2_with fail
              go_still_tail 35, (by kernel_rfl)
              change wpList _ _ _ _ _ wr.drew
              generalize wr.drew = w2 at *
              go_wp2_with fail
              refine (HAK.out w2 HBD.out).mono ?_
              rintro e w3 ⟨rfl, b3⟩
              have HB3 := Lib.hid (HBD.out.trans (b3.mono HBD.out.size))
              clear b3
              go_wp2_with fail
              go_ret
              exact ⟨by rw [HZ.out]; rfl, HB3.out⟩
          · have q2 := str_ne c1
            have HZ := Lib.hid (HNE.out fun e => c1 (by rw [e]))
            clear c0 c1 HNE HAK m0 m1 m2 n0 n1 n2
            generalize xs[k].1.node = NA at *
            generalize ys[k].1.node = NB at *
            generalize (⟨xs[k].1.name.toArray⟩ : ByteArray) = SA at *
            generalize (⟨ys[k].1.name.toArray⟩ : ByteArray) = SB at *
            go_wp2_with fail
            go_quiet (fail)
            go_wp2_with fail
            go_ret
            exact ⟨by rw [HZ.out]; rfl, below_drewN HBW.out _⟩
        · have q1 : (xs[k].1.node != ys[k].1.node) = true := by simpa using c0
          have HZ := Lib.hid (HNE.out fun e => c0 (by rw [e]))
          clear c0 HNE HAK m0 m1 m2 n0 n1 n2
          generalize xs[k].1.node = NA at *
          generalize ys[k].1.node = NB at *
          generalize (⟨xs[k].1.name.toArray⟩ : ByteArray) = SA at *
          generalize (⟨ys[k].1.name.toArray⟩ : ByteArray) = SB at *
          go_wp2_with fail
          go_quiet (fail)
          go_wp2_with fail
          go_ret
          exact ⟨by rw [HZ.out]; rfl, below_drewN HBW.out _⟩
      · have HE : Hid (xs.map (·.1) = ys.map (·.1)) := Lib.hid (fst_eq HL.out fun j h1 h2 => HALL.out j (by omega) h1 h2)
        go_wp2_with fail
        go_ret
        exact ⟨by rw [decide_eq_true HE.out]; rfl, HBW.out⟩
  · have q0 : ((xs.length : Int) != (ys.length : Int)) = true := by simp; omega
    have HE : Hid (xs.map (·.1) ≠ ys.map (·.1)) := Lib.hid (fun e => hl (by simpa using congrArg List.length e))
    clear hl
    go_enter Try.func96, Try.ntmps96
    go_wp2_with fail
    go_ret
    exact ⟨by rw [decide_eq_false HE.out]; rfl, Below.refl _ _⟩
end Go.Proofs.Ytbadckkcjjfnoaa
