/-
  The walks of the program's fosterSpot, Is (of the last one), Spot (of the last one). Any Site.
-/
import Derived.Test.YtbadckkcjjfnoaaSW5
namespace Go.Proofs.Ytbadckkcjjfnoaa
open Go.RowKit Go.Maps

variable {M : Nat → Prop} {w w' : World} {B : Nat} {a : SA} {S : List PN} {L : List MK} {R : List EL} {fO : Int → Bool} {fN : List UInt8 → Int} {fo : Bool}
def sTable : List UInt8 := [116, 97, 98, 108, 101]
def sTemplate : List UInt8 := [116, 101, 109, 112, 108, 97, 116, 101]
def sRows : List (List UInt8) := [[116, 97, 98, 108, 101], [116, 98, 111, 100, 121], [116, 102, 111, 111, 116], [116, 104, 101, 97, 100], [116, 114]]
/-- Where something goes that is meant for a part of a table, the places told. -/
def fosterT (S : List PN) (R : List EL) (tb tp : Nat) : Int × Int :=
  if tb < tp then ((R.getD tp default).n, -1)
  else if tb = 0 then (0, -1)
  else if pUp S (R.getD tb default).n ≠ -1 then (pUp S (R.getD tb default).n, (R.getD tb default).n)
  else ((R.getD (tb - 1) default).n, -1)
def fosterS (fN : List UInt8 → Int) (S : List PN) (R : List EL) : Int × Int := fosterT S R (lastS fN R [sTable]) (lastS fN R [sTemplate])
theorem lastS_lt {fN : List UInt8 → Int} {R : List EL} {l : List (List UInt8)} (h : 0 < R.length) : lastS fN R l < R.length := by
  unfold lastS
  split
  · have := scanL_le R l (R.length - 1); omega
  · exact h
def spotV (p : Int × Int) : Value := .tuple #[.int .i64 p.1, .int .i64 p.2]
set_option maxHeartbeats 2000000 in
set_option maxRecDepth 100000 in
theorem sfosterP (h : SiteQ M w B a S L R fO fN fo) (h0 : 0 < R.length) (hr : R.length ≤ 4294967296) : Calls Try.prog 150 #[.pointer (some ⟨B, 0, none⟩)] w (Brings (spotV (fosterS fN S R)) w) := by
  obtain ⟨g, cap, e⟩ := h.pos h0
  have hcap := h.cap_le e
  have HQ := Lib.hid h
  have HE := Lib.hid e
  have hB := h.lt
  have HL1 : Hid (∀ W v, Below w.heap.size w W → StrsAt W v [sTable] → Calls Try.prog 159 #[.pointer (some ⟨B, 0, none⟩), v] W (Brings (.int .i64 ((lastS fN R [sTable] : Nat) : Int)) W)) := Lib.hid fun W v hb hv => slastP (h.below hb) v [sTable] hv h0 hr (by decide) (by decide)
  have HL2 : Hid (∀ W v, Below w.heap.size w W → StrsAt W v [sTemplate] → Calls Try.prog 159 #[.pointer (some ⟨B, 0, none⟩), v] W (Brings (.int .i64 ((lastS fN R [sTemplate] : Nat) : Int)) W)) := Lib.hid fun W v hb hv => slastP (h.below hb) v [sTemplate] hv h0 hr (by decide) (by decide)
  have t1 := lastS_lt (fN := fN) (l := [sTable]) h0
  have t2 := lastS_lt (fN := fN) (l := [sTemplate]) h0
  have HF : Hid (fosterS fN S R = fosterT S R (lastS fN R [sTable]) (lastS fN R [sTemplate])) := Lib.hid rfl
  clear h e
  generalize lastS fN R [sTable] = tb at *
  generalize lastS fN R [sTemplate] = tp at *
  obtain ⟨r, hr'⟩ : ∃ r, r = fosterS fN S R := ⟨_, rfl⟩
  rw [← hr'] at HF ⊢
  clear hr'
  have HV1 : Hid (StrsAt (w.alloc (.cells #[.string ⟨#[116, 97, 98, 108, 101]⟩] 9)) (.slice (some ⟨w.heap.size, 0, none⟩) 1 1) [sTable]) := Lib.hid (StrsAt.made w [sTable] _ _ 1 1 rfl rfl)
  have HB1 : Hid (Below w.heap.size w (w.alloc (.cells #[.string ⟨#[116, 97, 98, 108, 101]⟩] 9))) := Lib.hid ((Below.refl _ w).alloc (Nat.le_refl _) _)
  go_enter Try.func150, Try.ntmps150
  go_wp2_with fail
  refine (HL1.out _ _ HB1.out HV1.out).mono ?_
  rintro e w2 ⟨rfl, hb2⟩
  have HB2 : Hid (Below w.heap.size w w2) := Lib.hid (HB1.out.trans (hb2.mono HB1.out.size))
  clear hb2 HV1 HB1
  go_wp2_with fail
  refine (HL2.out _ _ (HB2.out.alloc HB2.out.size _) (StrsAt.made w2 [sTemplate] _ _ 1 1 rfl rfl)).mono ?_
  rintro e w3 ⟨rfl, hb3⟩
  have HB3 : Hid (Below w.heap.size w w3) := Lib.hid ((HB2.out.alloc HB2.out.size _).trans (hb3.mono (by have := HB2.out.size; simp; omega)))
  clear hb3 HB2 HL1 HL2
  have h3 := HQ.out.below HB3.out
  have c0 := h3.c0
  have c2 := h3.c2
  rw [HE.out] at c2
  have hB3 := h3.lt
  have HR : Hid (∀ j (hj : j < R.length), ElAt w3 g (j * 3) R[j]) := Lib.hid fun j hj => h3.el HE.out j hj
  have HU : Hid (∀ W n, Below w3.heap.size w3 W → Calls Try.prog 67 #[.pointer (some ⟨a.D, 0, none⟩), .int .i64 n] W (Gives (.int .i64 (pUp S n)) W)) := Lib.hid fun W n hb => by
    obtain ⟨p, cap, hr⟩ := (h3.below hb).doc.reads
    exact dupP S a.D W p cap n hr
  clear h3
  by_cases k1 : tb < tp
  · have HZ : Hid (r = ((R.getD tp default).n, -1)) := Lib.hid (by rw [HF.out]; unfold fosterT; rw [if_pos k1])
    rw [elD t2] at HZ
    obtain ⟨hg, e0, -, -⟩ := HR.out tp t2
    clear HF HR HU c0
    generalize R[tp].n = N at *
    have q1 : (tb : Int) < (tp : Int) := by omega
    have j0 : (0 : Int) ≤ (tp : Int) := by omega
    have j1 : (tp : Int) < (R.length : Int) := by omega
    go_wp2_with fail
    exact bodyPost_ret (results_tmp2 rfl _ _ _) rfl ⟨by rw [HZ.out]; rfl, HB3.out⟩
  · by_cases k2 : tb = 0
    · have HZ : Hid (r = (0, -1)) := Lib.hid (by rw [HF.out]; unfold fosterT; rw [if_neg k1, if_pos k2])
      have q1 : ¬ (tb : Int) < (tp : Int) := by omega
      have q2 : ((tb : Int) == 0) = true := by simp [k2]
      clear HF HR HU c0 k2
      go_wp2_with fail
      exact bodyPost_ret (results_tmp2 rfl _ _ _) rfl ⟨by rw [HZ.out]; rfl, HB3.out⟩
    · have HST : Hid (r = if pUp S (R.getD tb default).n ≠ -1 then (pUp S (R.getD tb default).n, (R.getD tb default).n) else ((R.getD (tb - 1) default).n, -1)) := Lib.hid (by rw [HF.out]; unfold fosterT; rw [if_neg k1, if_neg k2])
      rw [elD t1, elD (show tb - 1 < R.length by omega)] at HST
      obtain ⟨hg, e0, -, -⟩ := HR.out tb t1
      obtain ⟨-, e9, -, -⟩ := HR.out (tb - 1) (by omega)
      have q1 : ¬ (tb : Int) < (tp : Int) := by omega
      have q2 : ((tb : Int) == 0) = false := by simp [k2]
      have j0 : (0 : Int) ≤ (tb : Int) := by omega
      have j1 : (tb : Int) < (R.length : Int) := by omega
      have j2 : (0 : Int) ≤ (tb : Int) - 1 := by omega
      have j3 : (tb : Int) - 1 < (R.length : Int) := by omega
      have jn : ((tb : Int) - 1).toNat = tb - 1 := by omega
      have HUN := Lib.hid (HU.out w3.drew R[tb].n ((Below.refl _ w3).drew))
      clear HF HR HU
      generalize R[tb].n = N at *
      generalize R[tb - 1].n = N9 at *
      go_wp2_with fail
      go_still_tail 12, (by kernel_rfl)
      go_wp2_with fail
      refine HUN.out.mono ?_
      rintro e w4 ⟨rfl, rfl⟩
      by_cases k3 : pUp S N = -1
      · have HZ : Hid (r = (N9, -1)) := Lib.hid (by rw [HST.out, if_neg (by simp [k3])])
        have q3 : (pUp S N != -1) = false := by simp [k3]
        clear HST k3
        generalize pUp S N = U at *
        go_wp2_with fail
        exact bodyPost_ret (results_tmp2 rfl _ _ _) rfl ⟨by rw [HZ.out]; rfl, HB3.out.drew⟩
      · have HZ : Hid (r = (pUp S N, N)) := Lib.hid (by rw [HST.out, if_pos k3])
        have q3 : (pUp S N != -1) = true := by simp [k3]
        clear HST k3
        generalize pUp S N = U at *
        have d2 : w3.drew.cell? ⟨B, 2, none⟩ = some (.slice (some ⟨g, 0, none⟩) R.length cap) := c2
        have de : w3.drew.cell? ⟨g, tb * 3, none⟩ = some (.int .i64 N) := e0
        have dB : B < w3.drew.heap.size := hB3
        have dg : g < w3.drew.heap.size := hg
        have HBD : Hid (Below w.heap.size w w3.drew) := Lib.hid HB3.out.drew
        clear HUN
        generalize w3.drew = w4 at *
        go_wp2_with fail
        go_still (by kernel_rfl)
        go_wp2_with fail
        exact bodyPost_ret (results_tmp2 rfl _ _ _) rfl ⟨by rw [HZ.out]; rfl, HBD.out.drew⟩
def lastE (R : List EL) : EL := R.getD (R.length - 1) default
set_option maxHeartbeats 1000000 in
set_option maxRecDepth 100000 in
theorem sisTopP (h : SiteQ M w B a S L R fO fN fo) (v : Value) (l : List (List UInt8)) (hv : StrsAt w v l) (h0 : 0 < R.length) (hr : R.length ≤ 4294967296) (hs : l.length ≤ 4294967296) : Calls Try.prog 149 #[.pointer (some ⟨B, 0, none⟩), .int .i64 (lastE R).n, v] w (Brings (.bool ((lastE R).is l)) w) := by
  obtain ⟨g, cap, e⟩ := h.pos h0
  have HT := Lib.hid (stopP h (R.length - 1) g cap (by omega) e hr)
  have HX := Lib.hid (h.el e (R.length - 1) (by omega))
  have HE : Hid (lastE R = R[R.length - 1]) := Lib.hid (elD (by omega))
  rw [HE.out]
  have HI : Hid (∀ W, Below w.heap.size w W → Calls Try.prog 114 #[.pointer (some ⟨g, (R.length - 1) * 3, none⟩), v] W (Gives (.bool (R[R.length - 1].is l)) W)) := Lib.hid fun W hb => eisP g _ _ v l W (HX.out.below hb) (hv.below hb) hs
  clear h e hv HE
  generalize R[R.length - 1] = x at *
  unfold TopOut at HT
  generalize (R.length - 1) * 3 = o at *
  go_enter Try.func149, Try.ntmps149
  go_wp2_with fail
  refine HT.out.mono ?_
  rintro e w2 ⟨rfl, hb⟩
  have HB := Lib.hid hb
  obtain ⟨hg, c0, _, _⟩ := HX.out.below hb
  have HII := Lib.hid (HI.out w2 hb)
  have q1 : (x.n == x.n) = true := by simp
  generalize x.is l = r at *
  generalize x.n = N at *
  clear hb
  go_wp2_with fail
  refine HII.out.mono ?_
  rintro e w3 ⟨rfl, rfl⟩
  go_wp2_with fail
  go_ret
  exact ⟨rfl, HB.out⟩
/-- Where something goes that is meant for the last one. -/
def spotS (fo : Bool) (fN : List UInt8 → Int) (S : List PN) (R : List EL) : Int × Int := if fo && (lastE R).is sRows then fosterS fN S R else ((lastE R).n, -1)
set_option maxHeartbeats 1000000 in
set_option maxRecDepth 100000 in
theorem sspotP (h : SiteQ M w B a S L R fO fN fo) (h0 : 0 < R.length) (hr : R.length ≤ 4294967296) : Calls Try.prog 134 #[.pointer (some ⟨B, 0, none⟩), .int .i64 (lastE R).n] w (Brings (spotV (spotS fo fN S R)) w) := by
  have hB := h.lt
  have c5 := h.c5
  have HQ := Lib.hid h
  have HF : Hid (∀ W, Below w.heap.size w W → Calls Try.prog 150 #[.pointer (some ⟨B, 0, none⟩)] W (Brings (spotV (fosterS fN S R)) W)) := Lib.hid fun W hb => sfosterP (h.below hb) h0 hr
  obtain ⟨r, hr'⟩ : ∃ r, r = spotS fo fN S R := ⟨_, rfl⟩
  rw [← hr']
  have HRR := Lib.hid hr'
  clear h hr'
  cases fo
  · have HZ : Hid (r = ((lastE R).n, -1)) := Lib.hid HRR.out
    clear HRR HF HQ
    generalize (lastE R).n = N at *
    go_enter Try.func134, Try.ntmps134
    go_wp2_with fail
    exact bodyPost_ret (results_tmp2 rfl _ _ _) rfl ⟨by rw [HZ.out]; rfl, Below.refl _ _⟩
  · have HV1 : Hid (StrsAt (w.alloc (.cells #[.string ⟨#[116, 97, 98, 108, 101]⟩, .string ⟨#[116, 98, 111, 100, 121]⟩, .string ⟨#[116, 102, 111, 111, 116]⟩, .string ⟨#[116, 104, 101, 97, 100]⟩, .string ⟨#[116, 114]⟩] 9)) (.slice (some ⟨w.heap.size, 0, none⟩) 5 5) sRows) := Lib.hid (StrsAt.made w sRows _ _ 5 5 rfl rfl)
    have HB1 : Hid (Below w.heap.size w (w.alloc (.cells #[.string ⟨#[116, 97, 98, 108, 101]⟩, .string ⟨#[116, 98, 111, 100, 121]⟩, .string ⟨#[116, 102, 111, 111, 116]⟩, .string ⟨#[116, 104, 101, 97, 100]⟩, .string ⟨#[116, 114]⟩] 9))) := Lib.hid ((Below.refl _ w).alloc (Nat.le_refl _) _)
    have HI := Lib.hid (sisTopP (HQ.out.below HB1.out) _ sRows HV1.out h0 hr (by decide))
    cases k : (lastE R).is sRows
    · have HZ : Hid (r = ((lastE R).n, -1)) := Lib.hid (by rw [HRR.out]; unfold spotS; rw [k]; rfl)
      rw [k] at HI
      clear HRR HF HQ HV1 k
      generalize (lastE R).n = N at *
      go_enter Try.func134, Try.ntmps134
      go_wp2_with fail
      refine HI.out.mono ?_
      rintro e w3 ⟨rfl, hb⟩
      have HB2 : Hid (Below w.heap.size w w3) := Lib.hid (HB1.out.trans (hb.mono HB1.out.size))
      clear hb
      go_wp2_with fail
      exact bodyPost_ret (results_tmp2 rfl _ _ _) rfl ⟨by rw [HZ.out]; rfl, HB2.out⟩
    · have HZ : Hid (r = fosterS fN S R) := Lib.hid (by rw [HRR.out]; unfold spotS; rw [k]; rfl)
      rw [k] at HI
      clear HRR HQ HV1 k
      generalize (lastE R).n = N at *
      go_enter Try.func134, Try.ntmps134
      go_wp2_with fail
      refine HI.out.mono ?_
      rintro e w3 ⟨rfl, hb⟩
      have HB2 : Hid (Below w.heap.size w w3) := Lib.hid (HB1.out.trans (hb.mono HB1.out.size))
      clear hb
      go_wp2_with fail
      refine (HF.out w3 HB2.out).mono ?_
      rintro e w4 ⟨rfl, hb⟩
      have HB3 : Hid (Below w.heap.size w w4) := Lib.hid (HB2.out.trans (hb.mono HB2.out.size))
      clear hb
      unfold spotV
      go_wp2_with fail
      exact bodyPost_ret (results_tmp2 rfl _ _ _) rfl ⟨by rw [HZ.out]; rfl, HB3.out⟩
end Go.Proofs.Ytbadckkcjjfnoaa
