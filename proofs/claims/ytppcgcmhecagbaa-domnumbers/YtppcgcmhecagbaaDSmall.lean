/-
  The walks of the laws' own in chapter 6: within, small, Small. Any nodes.
-/
import Derived.Test.YtppcgcmhecagbaaDMem
namespace Go.Proofs.Ytppcgcmhecagbaa
open Go.RowKit

/-- Attributes are no more, and their names no longer, than can be. -/
def attrsFit (l : List (List UInt8 × List UInt8)) : Prop := l.length ≤ maxLen ∧ ∀ a ∈ l, a.1.length ≤ maxLen
namespace Fo
/-- No row is longer than one can be. -/
def fits : Fo → Prop
  | nil => True
  | cons d k r => attrsFit d.attrs ∧ k.len ≤ maxLen ∧ k.fits ∧ r.fits
end Fo
/-- What small leaves: a number in block B; all else stands. -/
structure LeftAt (B : Nat) (L : Int) (w w' : World) : Prop where
  grown : w.grownBy w' (some B)
  cell : w'.cell? ⟨B, 0, none⟩ = some (.int .i64 L)
  free : w'.frozen? ⟨B, 0, none⟩ = false
/-- What small tells. -/
def SmallOut (B : Nat) (L : Int) (f : Fo) (w : World) (e : Ending) (w' : World) : Prop := ∃ (b : Bool) (L' : Int), e = .returned (.bool b) ∧ LeftAt B L' w w' ∧ (b = true → 0 ≤ L' ∧ L' + f.wt = L)
theorem grown_refl (w : World) (row : Option Nat) : w.grownBy w row := ⟨rfl, rfl, rfl, Nat.le_refl _, fun _ _ _ => rfl⟩
theorem grown_set (w : World) (B : Nat) (q : Nat) (u : Value) : w.grownBy ((w.drewN q).setCell ⟨B, 0, none⟩ u) (some B) :=
  ⟨rfl, rfl, rfl, by simp, fun b _ hne => by rw [Below.heap_setCell _ _ _ _ (fun e => hne (by rw [e]))]; rfl⟩

theorem cellB_lt {W : World} {g o : Nat} {v : Value} (h : W.cell? ⟨g, o, none⟩ = some v) : g < W.heap.size := by
  rcases Nat.lt_or_ge g W.heap.size with h' | h'
  · exact h'
  · unfold World.cell? at h
    rw [Array.getElem?_eq_none h'] at h
    cases h

set_option maxHeartbeats 1000000 in
set_option maxRecDepth 100000 in
theorem small_all : ∀ (n : Nat) (f : Fo) (P : Nat → Prop) (v : Value) (lev B : Nat) (L : Int) (w : World), f.wt < n → f.fits → f.len ≤ maxLen → lev ≤ 61 → 0 ≤ L → L ≤ 1000000 → NodesP P w v f → (∀ b, P b → b ≠ B) → w.cell? ⟨B, 0, none⟩ = some (.int .i64 L) → w.frozen? ⟨B, 0, none⟩ = false →
    Calls Try.prog 54 #[v, .int .i64 (lev : Int), .pointer (some ⟨B, 0, none⟩)] w (SmallOut B L f w)
  | 0, f, _, _, _, _, _, _, hn, _, _, _, _, _, _, _, _, _ => absurd hn (by omega)
  | n + 1, f, P, v, lev, B, L, w, hn, hfit, hlen, hlev, hL0, hL1, h, hP, hc, hfr => by
    have IH := Lib.hid (small_all n)
    obtain ⟨p, cap, rfl, ht⟩ := h
    have HT := Lib.hid ht
    have HPB := Lib.hid hP
    have HF := Lib.hid hfit
    have HL0 : Hid (LeftAt B L w w) := Lib.hid ⟨grown_refl _ _, hc, hfr⟩
    unfold maxLen at hlen
    clear ht hP hfit hc hfr
    go_enter Try.func54, Try.ntmps54
    go_wp2
    go_loopw [7] (fun i wr => ∃ (k : Nat) (r : Fo) (Lk : Int), k + r.len = f.len ∧ r.wt ≤ f.wt ∧ r.fits ∧ i = .int .i64 (k : Int) ∧ 0 ≤ Lk ∧ Lk + f.wt = L + r.wt ∧ NodesTail P wr p r k ∧ LeftAt B Lk w wr) (fun i _ => f.len - (intOf i).toNat)
    case atStart => exact ⟨0, f, L, by omega, Nat.le_refl _, HF.out, rfl, hL0, rfl, HT.out, HL0.out⟩
    case round =>
      obtain ⟨k, r, Lk, hk, hr, hrf, rfl, hLk0, hLk, hT, hLA⟩ := hrel
      have HLA := Lib.hid hLA
      have HRF := Lib.hid hrf
      clear hLA hrf HT HL0
      cases r with
      | nil =>
        have hk' : k = f.len := by simpa [Fo.len] using hk
        subst hk'
        simp only [Fo.wt] at hLk
        go_wp2
        go_ret
        exact ⟨true, Lk, rfl, HLA.out, fun _ => ⟨hLk0, by omega⟩⟩
      | cons d kd r' =>
        obtain ⟨g, o, va, vk, rfl, hPg, hg, h7, hva, hkd, htl'⟩ := hT.head
        have c3 := h7.c3
        have c6 := h7.c6
        have HKD := Lib.hid hkd
        have HTL := Lib.hid htl'
        obtain ⟨pa, ca, hva', _⟩ := hva
        obtain ⟨pk, ck, hvk, _⟩ := hkd
        subst hva' hvk
        obtain ⟨⟨hf1, _⟩, hf2, hf3, hf4⟩ := HRF.out
        have HF3 := Lib.hid hf3
        have HF4 := Lib.hid hf4
        have hne : g ≠ B := HPB.out g hPg
        have hc := HLA.out.cell
        have hfr := HLA.out.free
        simp only [Fo.wt, Fo.len] at hr hk hLk
        unfold maxLen at hf1
        have hkl : k < f.len := by omega
        have k0 : (0 : Int) ≤ (k : Int) := by omega
        have k1 : (k : Int) < (f.len : Int) := by omega
        clear hT h7 htl' hf3 hf4 HRF
        have x1 : IntKind.i64.wrap (Lk - 1) = Lk - 1 := IntWalk.i64_in _ (by omega)
        have x2 : IntKind.i64.wrap (Lk - 1 - (d.attrs.length : Int)) = Lk - 1 - (d.attrs.length : Int) := IntWalk.i64_in _ (by omega)
        obtain ⟨L1, hL1e⟩ : ∃ L1, L1 = Lk - 1 - (d.attrs.length : Int) := ⟨_, rfl⟩
        obtain ⟨W1, hW1⟩ : ∃ W1, W1 = (wr.setCell ⟨B, 0, none⟩ (.int .i64 L1)).drew := ⟨_, rfl⟩
        have hLA1 : LeftAt B L1 w W1 := by
          rw [hW1]
          refine ⟨?_, ?_, ?_⟩
          · have h1 : wr.grownBy (wr.setCell ⟨B, 0, none⟩ (.int .i64 L1)).drew (some B) := ⟨rfl, rfl, rfl, by simp, fun b _ hne => Below.heap_setCell _ _ _ _ (fun e => hne (by rw [e]))⟩
            exact HLA.out.grown.trans h1
          · have := World.cell?_setCell_same wr ⟨B, 0, none⟩ (.int .i64 L1) hc
            simpa using this
          · simpa using hfr
        have hB : B < wr.heap.size := cellB_lt hc
        have hK1 : Kept P wr W1 := by
          rw [hW1]
          exact ⟨by simp, fun b hb _ => Below.heap_setCell _ _ _ _ (HPB.out b hb)⟩
        have b6 : W1.cell? ⟨g, o + k * 7 + 6, none⟩ = some (.slice pk kd.len ck) := (hK1.cell hPg hg).trans c6
        have bc := hLA1.cell
        have HK1 := Lib.hid hK1
        have HLA1 := Lib.hid hLA1
        have HW1 := Lib.hid hW1
        have HCALL : Hid (0 ≤ L1 → lev ≤ 60 → Calls Try.prog 54 #[.slice pk kd.len ck, .int .i64 ((lev : Int) + 1), .pointer (some ⟨B, 0, none⟩)] W1 (SmallOut B L1 kd W1)) := by
          refine Lib.hid fun h1 h2 => ?_
          have := IH.out kd P (.slice pk kd.len ck) (lev + 1) B L1 W1 (by omega) HF3.out hf2 (by omega) h1 (by omega) (HKD.out.kept hK1) HPB.out hLA1.cell hLA1.free
          exact this
        clear hLA1 hK1 hB
        go_wp2_with fail
        go_region_with (fail)
        all_goals
          try simp only [x1, x2]
          rw [← hL1e, ← hW1]
          have hsz1 : g < W1.heap.size := Nat.lt_of_lt_of_le hg HK1.out.size
          clear hW1 x1 x2 c3 c6 hc hfr
          by_cases hneg : L1 < 0
          · clear hL1e
            go_wp2_with fail
            go_ret
            exact ⟨false, L1, rfl, HLA1.out, fun h => by cases h⟩
          · by_cases hlv : 60 < lev
            · have hlv' : (60 : Int) < (lev : Int) := by omega
              clear hL1e
              go_wp2_with fail
              go_ret
              exact ⟨false, L1, rfl, HLA1.out, fun h => by cases h⟩
            · have hlv' : ¬ (60 : Int) < (lev : Int) := by omega
              have HEQ := Lib.hid hL1e
              clear hL1e
              go_wp2_with fail
              refine (HCALL.out (by omega) (by omega)).mono ?_
              rintro e w2 ⟨b, L2, rfl, hLA2, hb2⟩
              have HLA2 : Hid (LeftAt B L2 w w2) := Lib.hid ⟨HLA1.out.grown.trans hLA2.grown, hLA2.cell, hLA2.free⟩
              have HT2 := Lib.hid ((HTL.out.kept HK1.out).kept (.of_grown hLA2.grown (fun b hb e => HPB.out b hb (by injection e))))
              have HB2 := Lib.hid hb2
              clear hLA2 hb2
              cases b
              · go_wp2_with fail
                go_ret
                exact ⟨false, L2, rfl, HLA2.out, fun h => by cases h⟩
              · obtain ⟨hL2, hL2e⟩ := HB2.out rfl
                go_wp2_with fail
                exact ⟨⟨k + 1, r', L2, by omega, by omega, HF4.out, by go_num, hL2, by have := HEQ.out; omega, HT2.out, HLA2.out⟩, by simp [intOf]; omega⟩
/-- What Small tells. -/
def SmallB (f : Fo) (w : World) (e : Ending) (w' : World) : Prop := ∃ b : Bool, e = .returned (.bool b) ∧ Below w.heap.size w w' ∧ (b = true → f.wt ≤ 300)
set_option maxHeartbeats 1000000 in
set_option maxRecDepth 100000 in
theorem smallP (f : Fo) (P : Nat → Prop) (v : Value) (w : World) (hfit : f.fits) (hlen : f.len ≤ maxLen) (h : NodesP P w v f) : Calls Try.prog 18 #[v] w (SmallB f w) := by
  have hN : NodesP (fun b => b < w.heap.size) (w.alloc (.cells #[.int .i64 300] 3)) v f := (h.mono (fun b _ hb => hb)).kept (.of_below ((Below.refl _ w).alloc (Nat.le_refl _) _))
  have hc : (w.alloc (.cells #[.int .i64 300] 3)).cell? ⟨w.heap.size, 0, none⟩ = some (.int .i64 300) := World.cell?_alloc_mark w #[.int .i64 300] 3 (0, 0) 0
  have hfr : (w.alloc (.cells #[.int .i64 300] 3)).frozen? ⟨w.heap.size, 0, none⟩ = false := by rw [World.frozen?_alloc_mark]; rfl
  have HS := Lib.hid (small_all _ f (fun b => b < w.heap.size) v 0 w.heap.size 300 _ (Nat.lt_succ_self _) hfit hlen (by omega) (by omega) (by omega) hN (fun b hb => by omega) hc hfr)
  obtain ⟨p, cap, rfl, ht⟩ := h
  clear ht hN hc hfr hfit hlen
  go_enter Try.func18, Try.ntmps18
  go_wp2_with fail
  refine HS.out.mono ?_
  rintro e w2 ⟨b, L, rfl, hL, hb⟩
  have hB : Below w.heap.size w w2 := by
    have h1 : Below w.heap.size w (w.alloc (.cells #[.int .i64 300] 3)) := (Below.refl _ w).alloc (Nat.le_refl _) _
    exact h1.grown hL.grown h1.size (fun k hk => by injection hk with hk; omega)
  have HB := Lib.hid hB
  have HBB := Lib.hid hb
  clear hL hB hb
  go_wp2_with fail
  go_ret
  exact ⟨b, rfl, HB.out, fun h => by have := HBB.out h; omega⟩
end Go.Proofs.Ytppcgcmhecagbaa
