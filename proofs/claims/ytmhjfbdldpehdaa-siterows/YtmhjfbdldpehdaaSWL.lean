/-
  The walk of the program's Open. Any Site.
-/
import Derived.Test.YtmhjfbdldpehdaaSWK
import Derived.Test.YtmhjfbdldpehdaaDPKids
namespace Go.Proofs.Ytmhjfbdldpehdaa
open Go.RowKit Go.Maps

variable {M : Nat → Prop} {w w' : World} {B : Nat} {a : SA} {S : List PN} {L : List MK} {R : List EL} {fO : Int → Bool} {fN : List UInt8 → Int} {fo : Bool} {T : Nat}
/-- The numbers of a row, the first k of them laid. -/
def numsTo (R : List EL) (k : Nat) : List Value := (R.take k).map (fun x => Value.int .i64 x.n) ++ List.replicate (R.length - k) (Value.int .i64 0)
theorem numsTo_length {k : Nat} (h : k ≤ R.length) : (numsTo R k).length = R.length := by simp [numsTo]; omega
theorem numsTo_set {k : Nat} (h : k < R.length) : (numsTo R k).set k (.int .i64 R[k].n) = numsTo R (k + 1) := by
  have e : R.length - k = (R.length - (k + 1)) + 1 := by omega
  have hl : (List.map (fun x : EL => Value.int .i64 x.n) (R.take k)).length = k := by simp; omega
  unfold numsTo
  rw [e, List.replicate_succ, List.set_append_right _ _ (by omega), hl, Nat.sub_self, List.set_cons_zero, List.take_succ_eq_append_getElem h, List.map_append, List.append_assoc]
  rfl
theorem numsTo_at {k : Nat} (h : k < R.length) : (numsTo R k)[k]? = some (.int .i64 0) := by
  have e : R.length - k = (R.length - (k + 1)) + 1 := by omega
  have hl : (List.map (fun x : EL => Value.int .i64 x.n) (R.take k)).length = k := by simp; omega
  unfold numsTo
  rw [e, List.replicate_succ, List.getElem?_append_right (by omega), hl, Nat.sub_self]
  rfl
def numsRow (R : List EL) (b g k : Nat) (w : World) : Prop := w.ownsRow b 3 1 (.slice (some ⟨g, 0, none⟩) R.length R.length) R.length (numsTo R k)
def NumsOut (R : List EL) (w : World) (e : Ending) (w' : World) : Prop :=
  e = .returned (.slice (some ⟨w.heap.size, 0, none⟩) R.length R.length) ∧ numsRow R w.heap.size w.heap.size R.length w' ∧ Below w.heap.size w w'
set_option maxHeartbeats 1000000 in
set_option maxRecDepth 100000 in
theorem sOpenRowP (h : SiteQ M w B a S L R fO fN fo) (h0 : 0 < R.length) (hr : R.length ≤ 4294967296) :
    Calls Try.prog 62 #[.pointer (some ⟨B, 0, none⟩)] w (NumsOut R w) := by
  obtain ⟨g, cap, e⟩ := h.pos h0
  have HQ := Lib.hid h
  have HE := Lib.hid e
  have c2 := h.c2
  rw [e] at c2
  have hB := h.lt
  clear h e
  obtain ⟨i0, hi0, hz0, hs0, hb0⟩ := info_int
  obtain ⟨w1, hmk, hown, hgr⟩ := run_make_full (P := Try.prog) w w.heap.size 32 3 i0 (.int .i64 0) 1 Try.underlying32 hi0 hz0 hs0 .i64 .i64 R.length (by rw [hb0]; omega) (by unfold maxLen; omega) (Nat.le_refl _)
  have HB1 : Hid (Below w.heap.size w w1) := Lib.hid ⟨hgr.os, hgr.tape, hgr.output, hgr.size, fun q hq => hgr.block q hq (by simp)⟩
  have HR1 : Hid (numsRow R w.heap.size w.heap.size 0 w1) := Lib.hid (by
    have e1 : (madeCells (Value.int IntKind.i64 0).cells (R.length * 1)).toList = numsTo R 0 := by
      rw [Nat.mul_one]
      exact toList_madeCells_one _ _
    rw [e1] at hown
    exact hown)
  clear hi0 hz0 hs0 hb0 hown hgr
  have d2 : w1.cell? ⟨B, 2, none⟩ = some (.slice (some ⟨g, 0, none⟩) R.length cap) := (HB1.out.cell hB).trans c2
  have hB1 : B < w1.heap.size := Nat.lt_of_lt_of_le hB HB1.out.size
  generalize hG : w.heap.size = G at *
  have HG := Lib.hid hG
  clear hG
  go_enter Try.func62, Try.ntmps62
  go_wp2_with fail
  go_loopw [16] (fun i wr => ∃ k : Nat, k ≤ R.length ∧ i = .int .i64 (k : Int) ∧ numsRow R G G k wr ∧ Below G w wr) (fun i _ => R.length - (intOf i).toNat)
  case atStart => exact ⟨0, Nat.zero_le _, rfl, HR1.out, HB1.out⟩
  case round =>
    obtain ⟨k, hk, rfl, hrow, hb⟩ := hrel
    have h' := HQ.out.below (by rw [HG.out]; exact hb)
    have c2 := h'.c2
    rw [HE.out] at c2
    have hB := h'.lt
    by_cases hlt : k < R.length
    · obtain ⟨y0, e0, _, _⟩ := h'.el HE.out k hlt
      have hcap := h'.cap_le HE.out
      have z0 := (hrow.cellAt k (by omega)).trans (numsTo_at hlt)
      have z1 := hrow.frozenAt k
      have zl := (hrow.lt G rfl).2
      have HR2 := Lib.hid ((hrow.stored k (.int .i64 R[k].n)).1)
      have HB2 := Lib.hid ((hrow.stored k (.int .i64 R[k].n)).2)
      have HBB := Lib.hid hb
      have j0 : (0 : Int) ≤ (k : Int) := by omega
      have j1 : (k : Int) < (R.length : Int) := by omega
      have HX := Lib.hid (numsTo_set hlt)
      clear h' hrow hb
      generalize R[k].n = X at *
      go_wp2_with fail
      refine ⟨⟨k + 1, by omega, by go_num, ?_, ?_⟩, by simp [intOf]; omega⟩
      · have := HR2.out
        rw [HX.out] at this
        exact this
      · exact HBB.out.setCell (by simp) _
    · have hkr : k = R.length := by omega
      subst hkr
      have HRR := Lib.hid hrow
      have HBB := Lib.hid hb
      clear h' hrow hb
      go_wp2_with fail
      go_ret
      exact ⟨by rw [HG.out]; rfl, by rw [HG.out]; exact HRR.out, by rw [HG.out]; exact HBB.out⟩
end Go.Proofs.Ytmhjfbdldpehdaa
