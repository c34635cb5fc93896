/-
  The walk of the reference's Move for nodes by numbers. Any nodes, not too many.
-/
import Derived.Test.YtkoijkdhmfnlbaaDRefI
import Derived.Test.YtkoijkdhmfnlbaaDRefH
namespace Go.Proofs.Ytkoijkdhmfnlbaa
open Go.RowKit

def upsTo (S : List Cl) (t : Nat) (l : List Nat) : List Cl := l.foldl (fun S x => setUp S x (some t)) S
theorem upsTo_at (t : Nat) : ∀ (l : List Nat) (S : List Cl) (j : Nat) (hj : j < S.length), ∃ h : j < (upsTo S t l).length, (upsTo S t l)[j] = ⟨S[j].d, if j ∈ l then some t else S[j].up, S[j].row⟩
  | [], S, j, hj => ⟨hj, by simp [upsTo]⟩
  | x :: l, S, j, hj => by
    obtain ⟨h1, e1⟩ := setUp_at (n := x) (x := some t) hj
    obtain ⟨h2, e2⟩ := upsTo_at t l (setUp S x (some t)) j h1
    refine ⟨h2, e2.trans ?_⟩
    rw [e1]
    by_cases hx : x = j
    · subst hx; simp
    · have : ¬ j = x := fun e => hx e.symm
      simp [hx, this]
theorem upsTo_len (t : Nat) : ∀ (l : List Nat) (S : List Cl), (upsTo S t l).length = S.length
  | [], _ => rfl
  | x :: l, S => (upsTo_len t l (setUp S x (some t))).trans (setUp_len _ _ _)
theorem upsTo_next {S : List Cl} {t k : Nat} {l : List Nat} (hk : k < l.length) : upsTo S t (l.take (k + 1)) = setUp (upsTo S t (l.take k)) l[k] (some t) := by
  unfold upsTo
  rw [List.take_add_one, List.getElem?_eq_getElem hk, List.foldl_append]
  rfl
theorem shift_sets {S : List Cl} (hI : Inv S) {f t : Nat} (hf : f < S.length) (ht : t < S.length) : shift S f t S[f].row = setRow (setRow (upsTo S t S[f].row) t (S[t].row ++ S[f].row)) f [] := by
  apply List.ext_getElem
  · rw [shift_len, setRow_len, setRow_len, upsTo_len]
  · intro j h1 h2
    have hj : j < S.length := by rw [shift_len] at h1; exact h1
    have e0 := shift_get f t S[f].row (List.getElem?_eq_getElem hj)
    rw [List.getElem?_eq_getElem h1] at e0
    obtain ⟨k1, e1⟩ := upsTo_at t S[f].row S j hj
    obtain ⟨k2, e2⟩ := setRow_at (u := t) (L := S[t].row ++ S[f].row) k1
    obtain ⟨k3, e3⟩ := setRow_at (u := f) (L := ([] : List Nat)) k2
    rw [Option.some.inj e0, e3, e2, e1]
    obtain ⟨hh, hi⟩ := hI
    have hm : j ∈ S[f].row ↔ S[j].up = some f := by
      constructor
      · intro h
        obtain ⟨c, hc, hu⟩ := hi.rowok f _ j (List.getElem?_eq_getElem hf) h
        rw [List.getElem?_eq_getElem hj] at hc
        rw [Option.some.inj hc]
        exact hu
      · intro h
        obtain ⟨⟨e, he, hmem⟩, _⟩ := hi.upok j _ f (List.getElem?_eq_getElem hj) h
        rw [List.getElem?_eq_getElem hf] at he
        rw [Option.some.inj he]
        exact hmem
    by_cases h3 : S[j].up = some f
    · rw [if_pos h3, if_pos (hm.2 h3)]
      by_cases h4 : f = j
      · subst h4; simp
      · by_cases h5 : t = j
        · subst h5; simp [h4]
        · simp [h4, h5]
    · rw [if_neg h3, if_neg (fun k => h3 (hm.1 k))]
      by_cases h4 : f = j
      · subst h4; simp
      · by_cases h5 : t = j
        · subst h5; simp [h4]
        · simp [h4, h5]
theorem RefQ6.ptr {M P : Nat → Prop} {w : World} {B : Nat} {S : List Cl} {vN vU vR : Value} {qs : List (Nd × Value × Value)} {rv : List Value} (h : RefQ6 M P w B S vN vU vR qs rv) : w.cell? ⟨B, 1, none⟩ = some vU ∧ w.cell? ⟨B, 2, none⟩ = some vR ∧ B < w.heap.size := by
  have hbk := h.own.at_ (List.mem_singleton.2 rfl)
  have hB1 := (block_cell6 hbk 1).1
  have hB2 := (block_cell6 hbk 2).1
  simp at hB1 hB2
  exact ⟨hB1, hB2, heap_lt hbk⟩
theorem RefQ6.rowOf {M P : Nat → Prop} {w : World} {B gR cR l u : Nat} {S : List Cl} {vN vU v : Value} {qs : List (Nd × Value × Value)} {rv : List Value} (h : RefQ6 M P w B S vN vU (.slice (some ⟨gR, 0, none⟩) l cR) qs rv) (hu : u < S.length) (hv : rv[u]? = some v) : w.cell? ⟨gR, u, none⟩ = some v ∧ w.frozen? ⟨gR, u, none⟩ = false ∧ gR < w.heap.size ∧ NumsP P w v S[u].row := by
  have hr := h.own.rR
  have e0 : l = S.length := by
    rcases Joins.ownsRow_forms hr with ⟨k, _⟩ | ⟨g, c, e⟩
    · cases k
    · injection e
  subst e0
  obtain ⟨v', hv', hn⟩ := h.rows u hu
  rw [hv] at hv'
  cases hv'
  exact ⟨by rw [hr.cellAt u (by omega)]; exact hv, hr.frozenAt u, (hr.lt gR rfl).2, hn⟩
theorem RefQ6.upOf {M P : Nat → Prop} {w : World} {B gU cU l u : Nat} {S : List Cl} {vN vR : Value} {qs : List (Nd × Value × Value)} {rv : List Value} (h : RefQ6 M P w B S vN (.slice (some ⟨gU, 0, none⟩) l cU) vR qs rv) (hu : u < S.length) : w.cell? ⟨gU, u, none⟩ = some (.int .i64 (upI S[u].up)) ∧ w.frozen? ⟨gU, u, none⟩ = false := by
  have hr := h.own.rU
  have e0 : l = S.length := by
    rcases Joins.ownsRow_forms hr with ⟨k, _⟩ | ⟨g, c, e⟩
    · cases k
    · injection e
  subst e0
  refine ⟨?_, hr.frozenAt u⟩
  rw [hr.cellAt u (by omega)]
  unfold upsV
  rw [List.getElem?_map, List.getElem?_eq_getElem hu]
  rfl
theorem NumsP.elems {P : Nat → Prop} {w : World} {p : Option Addr} {c : Nat} {l : List Nat} (h : NumsP P w (.slice p l.length c) l) : ∀ W, Below w.heap.size w W → ∀ ad, p = some ad → ∀ j (hj : j < l.length), W.cell? (ad.add j) = some (.int .i64 (l[j] : Int)) := by
  obtain ⟨p', c', e, _, _, hn⟩ := h
  injection e with e _ _
  subst e
  intro W hb ad e j hj
  obtain ⟨g, o, s⟩ := ad
  obtain ⟨rfl, _, hg, hc⟩ := hn g o s e
  rw [add_plain6, hb.cell (p := ⟨g, o + j, none⟩) hg]
  exact hc j hj
theorem NumsP.nilOf {P : Nat → Prop} {w : World} {p : Option Addr} {c : Nat} {l : List Nat} (h : NumsP P w (.slice p l.length c) l) (e : p = none) : l.length = 0 ∧ c = 0 := by
  obtain ⟨p', c', e1, hl, hn, _⟩ := h
  injection e1 with e1 _ e2
  subst e1 e2
  have := hn e
  exact ⟨by omega, this⟩
theorem some_int6 {w : World} {a : Addr} {x : Int} (h : w.cell? a = some (.int .i64 x)) : ∃ u, w.cell? a = some (.int .i64 u) := ⟨x, h⟩
/-- What Move answers and leaves. -/
def MoveOut6 (S : List Cl) (w : World) (M P : Nat → Prop) (B : Nat) (f t : Int) (e : Ending) (w' : World) : Prop :=
  ∃ b, (isEl S f = true → isEl S t = true → (b = true ↔ Anc S t.toNat f.toNat)) ∧ e = .returned (.bool (moveD S f t b).2) ∧ RStep6 w M P B (moveD S f t b).1 w'
theorem moveD_no {S : List Cl} {f t : Int} {b : Bool} (h : (isEl S f && isEl S t && !(f == t) && !b) = false) : moveD S f t b = (S, false) := by
  unfold moveD
  rw [if_neg (by rw [h]; decide)]
theorem MoveOut6.no {S : List Cl} {w : World} {M P : Nat → Prop} {B : Nat} {f t : Int} {b : Bool} (hb : isEl S f = true → isEl S t = true → (b = true ↔ Anc S t.toNat f.toNat)) (hp : moveD S f t b = (S, false)) (hs : RStep6 w M P B S w) : MoveOut6 S w M P B f t (.returned (.bool false)) w :=
  ⟨b, hb, by rw [hp], by rw [hp]; exact hs⟩
theorem MoveOut6.yes {S S' : List Cl} {w w' : World} {M P : Nat → Prop} {B : Nat} {f t : Int} {b : Bool} (hb : b = true ↔ Anc S t.toNat f.toNat) (hp : moveD S f t b = (S', true)) (hs : RStep6 w M P B S' w') : MoveOut6 S w M P B f t (.returned (.bool true)) w' :=
  ⟨b, fun _ _ => hb, by rw [hp], by rw [hp]; exact hs⟩
set_option maxHeartbeats 4000000 in
set_option maxRecDepth 100000 in
theorem rmoveP6 (S : List Cl) (B : Nat) (M P : Nat → Prop) (w : World) (f t : Int) (h : RefD M P w B S) (hI : Inv S) (hrow : ∀ c ∈ S, c.row.length ≤ 100000) :
    Calls Try.prog 22 #[.pointer (some ⟨B, 0, none⟩), .int .i64 f, .int .i64 t] w (MoveOut6 S w M P B f t) := by
  have HS := Lib.hid (RStep6.same h)
  have HRD := Lib.hid h.rdoc
  have HEF := Lib.hid (relem_any S B w f h.rdoc)
  have HET := Lib.hid (relem_any S B w t h.rdoc)
  have HINV := Lib.hid hI
  have HROW := Lib.hid hrow
  clear hI hrow
  cases hf : isEl S f
  · rw [hf] at HEF
    have HP := Lib.hid (moveD_no (S := S) (f := f) (t := t) (b := false) (by rw [hf]; rfl))
    clear h
    go_enter Try.func22, Try.ntmps22
    go_wp2_with fail
    refine HEF.out.mono ?_
    rintro e w1 ⟨rfl, rfl⟩
    go_wp2_with fail
    go_ret
    exact MoveOut6.no (b := false) (fun k => by rw [hf] at k; cases k) HP.out HS.out
  · rw [hf] at HEF
    cases ht : isEl S t
    · rw [ht] at HET
      have HP := Lib.hid (moveD_no (S := S) (f := f) (t := t) (b := false) (by rw [ht]; simp))
      clear h
      go_enter Try.func22, Try.ntmps22
      go_wp2_with fail
      refine HEF.out.mono ?_
      rintro e w1 ⟨rfl, rfl⟩
      go_wp2_with fail
      refine HET.out.mono ?_
      rintro e w1 ⟨rfl, rfl⟩
      go_wp2_with fail
      go_ret
      exact MoveOut6.no (b := false) (fun _ k => by rw [ht] at k; cases k) HP.out HS.out
    · rw [ht] at HET
      have hf1 : isN S f = true := by unfold isEl at hf; simp only [Bool.and_eq_true] at hf; exact hf.1
      have ht1 : isN S t = true := by unfold isEl at ht; simp only [Bool.and_eq_true] at ht; exact ht.1
      obtain ⟨f0, f1⟩ := (isN_iff S f).1 hf1
      obtain ⟨ff, rfl⟩ : ∃ ff : Nat, f = (ff : Int) := ⟨f.toNat, by omega⟩
      obtain ⟨t0, t1⟩ := (isN_iff S t).1 ht1
      obtain ⟨tt, rfl⟩ : ∃ tt : Nat, t = (tt : Int) := ⟨t.toNat, by omega⟩
      have hff : ff < S.length := by omega
      have htt : tt < S.length := by omega
      clear hf1 ht1
      by_cases hne : ff = tt
      · subst hne
        have p0 : ((ff : Int) == (ff : Int)) = true := by simp
        obtain ⟨b0, hb0⟩ : ∃ b0 : Bool, (b0 = true ↔ Anc S ff ff) := by
          by_cases ha : Anc S ff ff
          · exact ⟨true, by simp [ha]⟩
          · exact ⟨false, by simp [ha]⟩
        have HB0 := Lib.hid hb0
        have HP := Lib.hid (moveD_no (S := S) (f := (ff : Int)) (t := (ff : Int)) (b := b0) (by rw [p0]; simp))
        have HP0 := Lib.hid p0
        clear p0 h hb0
        go_enter Try.func22, Try.ntmps22
        go_wp2_with fail
        refine HEF.out.mono ?_
        rintro e w1 ⟨rfl, rfl⟩
        go_wp2_with fail
        refine HET.out.mono ?_
        rintro e w1 ⟨rfl, rfl⟩
        have p0 := HP0.out
        go_wp2_with fail
        go_ret
        exact MoveOut6.no (b := b0) (fun _ _ => HB0.out) HP.out HS.out
      · have p0 : ((ff : Int) == (tt : Int)) = false := beq_eq_false_iff_ne.2 (by omega)
        have HBL := Lib.hid (rbelow_any S B w tt ff HRD.out HINV.out htt)
        have HNE := Lib.hid hne
        obtain ⟨vN, vU, vR, qs, rv, hq⟩ := h
        obtain ⟨gN, cN, gU, cU, gR, cR, rfl, rfl, rfl⟩ := hq.forms
        have HQ := Lib.hid hq
        have hrvlen := hq.rlen
        obtain ⟨vf, hvf⟩ : ∃ v, rv[ff]? = some v := ⟨_, List.getElem?_eq_getElem (by omega)⟩
        obtain ⟨vt, hvt⟩ : ∃ v, rv[tt]? = some v := ⟨_, List.getElem?_eq_getElem (by omega)⟩
        have HVF := Lib.hid hvf
        have HVT := Lib.hid hvt
        obtain ⟨_, _, hRlt, hnf⟩ := hq.rowOf hff hvf
        obtain ⟨_, _, _, hnt⟩ := hq.rowOf htt hvt
        obtain ⟨pf, kf, rfl, hkf, hpf, _⟩ := hnf
        obtain ⟨pt, kt, rfl, hkt, hpt, _⟩ := hnt
        clear hq hvf hvt hne
        go_enter Try.func22, Try.ntmps22
        go_wp2_with fail
        refine HEF.out.mono ?_
        rintro e w1 ⟨rfl, rfl⟩
        go_wp2_with fail
        refine HET.out.mono ?_
        rintro e w1 ⟨rfl, rfl⟩
        go_wp2_with fail
        refine HBL.out.mono ?_
        rintro e w1 ⟨b, rfl, hb, rfl⟩
        have HB0 := Lib.hid hb
        clear hb
        cases b
        case true =>
          have HP := Lib.hid (moveD_no (S := S) (f := (ff : Int)) (t := (tt : Int)) (b := true) (by simp))
          go_wp2_with fail
          go_ret
          exact MoveOut6.no (b := true) (fun _ _ => by simpa using HB0.out) HP.out HS.out
        case false =>
          have HPD : Hid (moveD S (ff : Int) (tt : Int) false = (shift S ff tt S[ff].row, true)) := Lib.hid (by
            unfold moveD
            rw [if_pos (by rw [hf, ht, p0]; rfl)]
            rw [show ((ff : Int)).toNat = ff from rfl, row_get hff]
            rfl)
          have HSH := Lib.hid (shift_sets HINV.out hff htt)
          have hrf : S[ff].row.length ≤ 100000 := HROW.out _ (List.getElem_mem hff)
          have hrt : S[tt].row.length ≤ 100000 := HROW.out _ (List.getElem_mem htt)
          have HIN : Hid (∀ k (hk : k < S[ff].row.length), S[ff].row[k] < S.length) := Lib.hid (fun k hk => by
            obtain ⟨hh, hi⟩ := HINV.out
            exact (hi.row_h (List.getElem?_eq_getElem hff) (List.getElem_mem hk)).1)
          obtain ⟨L, hL⟩ : ∃ L, L = S[ff].row := ⟨_, rfl⟩
          obtain ⟨L2, hL2⟩ : ∃ L2, L2 = S[tt].row := ⟨_, rfl⟩
          have HL := Lib.hid hL
          have HL2 := Lib.hid hL2
          rw [← hL] at hrf HPD HVF hkf
          rw [← hL2] at hrt HVT hkt
          have HIN2 : Hid (∀ k (hk : k < L.length), L[k] < S.length) := Lib.hid (by rw [HL.out]; exact HIN.out)
          rw [← hL, ← hL2] at HSH
          have u0 : (0 : Int) ≤ (ff : Int) := by omega
          have u1 : (ff : Int) < (S.length : Int) := by omega
          have v0 : (0 : Int) ≤ (tt : Int) := by omega
          have v1 : (tt : Int) < (S.length : Int) := by omega
          clear hL hL2 HIN HEF HET HBL HRD HS p0 hf ht
          go_wp2_with fail
          go_loopw [7] (fun i wr => ∃ k : Nat, k ≤ L.length ∧ i = .int .i64 (k : Int) ∧ RefQ6 M P wr B (upsTo S tt (L.take k)) (.slice (some ⟨gN, 0, none⟩) S.length cN) (.slice (some ⟨gU, 0, none⟩) S.length cU) (.slice (some ⟨gR, 0, none⟩) S.length cR) qs rv ∧ Turns M w wr) (fun i _ => L.length - (intOf i).toNat)
          case atStart => exact ⟨0, Nat.zero_le _, rfl, HQ.out, Turns.refl _ _⟩
          case round =>
            obtain ⟨k, hk, rfl, hq, htu⟩ := hrel
            have HQK := Lib.hid hq
            have HTU := Lib.hid htu
            have hlen := upsTo_len tt (L.take k) S
            obtain ⟨hB1, hB2, hBlt⟩ := hq.ptr
            obtain ⟨hcR, HFR, _, hnum⟩ := hq.rowOf (u := ff) (by rw [hlen]; exact hff) HVF.out
            obtain ⟨_, eff⟩ := upsTo_at tt (L.take k) S ff hff
            rw [eff, ← HL.out] at hnum
            by_cases hlt : k < L.length
            · obtain ⟨p9, cap9, e9, _, hpc, hnm⟩ := hnum
              injection e9 with e9 _ e10
              subst e9 e10
              cases pf with
              | none => exact absurd (hpc rfl) (by omega)
              | some ad =>
                obtain ⟨g, o, s⟩ := ad
                obtain ⟨rfl, _, hglt, hcell⟩ := hnm g o s rfl
                have hck := hcell k hlt
                have hin := HIN2.out k hlt
                obtain ⟨hcU0, hfU⟩ := hq.upOf (u := L[k]) (by rw [hlen]; exact hin)
                have HN := Lib.hid (hq.setUp L[k] (some tt))
                have hnx := upsTo_next (S := S) (t := tt) hlt
                rw [← hnx] at HN
                have k0 : (0 : Int) ≤ (k : Int) := by omega
                have k1 : (k : Int) < (L.length : Int) := by omega
                have x0 : (0 : Int) ≤ (L[k] : Int) := by omega
                have x1 : (L[k] : Int) < (S.length : Int) := by omega
                obtain ⟨uu, hcU⟩ := some_int6 hcU0
                clear hcU0 hq htu hcell hnm hnx hlen eff HFR hin
                generalize L[k] = x at *
                go_wp2_with fail
                refine ⟨⟨k + 1, by omega, by go_num, HN.out.1, HTU.out.trans (HN.out.2.mono fun _ _ q => .inl q)⟩, by simp [intOf]; omega⟩
            · obtain rfl : k = L.length := by omega
              clear hcR hnum eff hq hlen HFR
              rw [List.take_length] at HQK
              have hq := HQK.out
              have hlen := upsTo_len tt L S
              obtain ⟨hcR, _, _, hnum⟩ := hq.rowOf (u := ff) (by rw [hlen]; exact hff) HVF.out
              obtain ⟨_, eff⟩ := upsTo_at tt L S ff hff
              rw [eff, ← HL.out] at hnum
              obtain ⟨hcT, HFT, hRl, hnumT⟩ := hq.rowOf (u := tt) (by rw [hlen]; exact htt) HVT.out
              obtain ⟨_, ett⟩ := upsTo_at tt L S tt htt
              rw [ett, ← HL2.out] at hnumT
              have HE := Lib.hid hnumT.elems
              have HF := Lib.hid hnum.elems
              have HPE := Lib.hid hnumT.nilOf
              have HPF := Lib.hid hnum.nilOf
              clear hq hnum hnumT eff ett htu
              go_upto_region 8 with fail
              refine rmove6_reg (es := L2) (fs := L) hBlt hRl hB2 hcT hcR HFT htt hff hrt hrf HPE.out HPF.out rfl rfl HE.out HF.out ?_
              intro y59 y60 y61 y62 y63 y64 y65 y66 y67 y68 y69 y70 y71 y72 y73 y74 y75 y76 y77 y78 y79 y80 y81 p' c' w2 hx
              have hLL : (L2 ++ L).length = L2.length + L.length := by simp
              have hx2 : RowX wr w2 (.slice p' (L2 ++ L).length c') (L2 ++ L).length (intsV (L2 ++ L)) [] := by
                rw [hLL, intsV_app]
                simpa only [List.nil_append] using hx
              obtain ⟨q1, s1⟩ := HQK.out.setRow (by rw [hlen]; exact htt) _ hx2
              rw [hLL] at q1 s1
              obtain ⟨_, hC2, _⟩ := q1.ptr
              have hz2 : (rv.set tt (Value.slice p' (L2.length + L.length) c'))[ff]? = some (.slice pf L.length kf) := by rw [List.getElem?_set_ne (fun e => HNE.out e.symm)]; exact HVF.out
              obtain ⟨hcF, hfF, _, _⟩ := q1.rowOf (u := ff) (by rw [setRow_len, hlen]; exact hff) hz2
              have HST : Hid (RStep6 w M P B (shift S ff tt L) ((w2.setCell ⟨gR, tt, none⟩ (.slice p' (L2.length + L.length) c')).setCell ⟨gR, ff, none⟩ (.slice none 0 0))) := Lib.hid (by
                obtain ⟨q2, s2⟩ := q1.setRow (u := ff) (p' := none) (c' := 0) (by rw [setRow_len, hlen]; exact hff) [] (RowX.new (Below.refl _ _))
                rw [HSH.out]
                have hz := HTU.out.size
                refine .ofQ q2 (fun b hb k => ?_) ((HTU.out.trans (s1.mono fun _ _ k => .inl k)).trans (s2.mono fun _ _ k => .inl k))
                rcases k with k | k
                · exact NewP6.old (by omega) k
                · have := s1.size
                  omega)
              clear hx hx2 hLL q1 s1 hz2
              go_wp2_with fail
              go_ret
              exact MoveOut6.yes (by simpa using HB0.out) HPD.out HST.out
end Go.Proofs.Ytkoijkdhmfnlbaa
