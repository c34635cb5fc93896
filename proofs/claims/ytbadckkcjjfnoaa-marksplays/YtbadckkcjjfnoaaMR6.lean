/-
  The walk of the reference's Clear for marks. Any marks, not too many.
-/
import Derived.Test.YtbadckkcjjfnoaaMR4
namespace Go.Proofs.Ytbadckkcjjfnoaa
open Go.RowKit

theorem rW_last {S : List MK} (h : Sign S) : ∀ i, i < S.length → rW S (i + 1) - 1 = mLast S i
  | 0, hi => by
    rw [rW, mLast]
    split
    · rfl
    · rfl
  | i + 1, hi => by
    rw [rW, mLast]
    by_cases c : (S.getD (i + 1) mZero).node < 0
    · rw [if_pos c, if_pos ((sign_neg h hi).1 c)]
      omega
    · rw [if_neg c, if_neg (fun e => c ((sign_neg h hi).2 e))]
      exact rW_last h i (by omega)
theorem rW_clear {S : List MK} (h : Sign S) : mClear S = S.take (rW S S.length - 1) := by
  unfold mClear
  rcases hl : S.length with _ | k
  · have : S = [] := List.eq_nil_of_length_eq_zero hl
    subst this
    rfl
  · rw [Nat.add_sub_cancel, rW_last h k (by omega)]
set_option maxHeartbeats 4000000 in
set_option maxRecDepth 100000 in
theorem rclearP (S : List MK) (B : Nat) (P : Nat → Prop) (w : World) (h : RefM P w B S) (hs : S.length ≤ 100000000) (hsg : Sign S) : Calls Try.prog 31 #[.pointer (some ⟨B, 0, none⟩)] w (fun e w' => e = .returned (.tuple #[]) ∧ RStep w B P (mClear S) w') := by
  have HM := Lib.hid h
  have HWL : Hid (∀ W, Below w.heap.size w W → Calls Try.prog 89 #[.pointer (some ⟨B, 0, none⟩)] W (Gives (.int .i64 ((rW S S.length : Nat) : Int)) W)) := Lib.hid fun W b => rwallP S B P W (by obtain ⟨v, rs, e, hq⟩ := h; exact ⟨v, rs, e, hq.below b⟩) (by omega)
  have HCL := Lib.hid (rW_clear hsg)
  have HWE := rW_le S S.length
  obtain ⟨v, rs, rfl, hq⟩ := h
  rw [List.length_map] at hs HWE
  obtain ⟨p, cap, rfl, hcap, hnil⟩ := hq.form
  have HQ := Lib.hid hq
  have h0 := hq.cell
  have hB := hq.lt
  obtain ⟨Z, hZ⟩ : ∃ Z, Z = rW (rs.map (·.1)) (rs.map (·.1)).length := ⟨_, rfl⟩
  rw [← hZ] at HWL HCL
  rw [List.length_map] at hZ
  rw [← hZ] at HWE
  have hmx : max ((Z : Int) - 1) 0 = ((Z - 1 : Nat) : Int) := by omega
  have hif : (if (Z : Int) - 1 < 0 then (0 : Int) else (Z : Int) - 1) = ((Z - 1 : Nat) : Int) := by split <;> omega
  have hwr : IntKind.i64.wrap ((Z : Int) - 1) = (Z : Int) - 1 := IntWalk.i64_in _ (by omega)
  have hzc : Z - 1 ≤ cap := by omega
  have hz0 : (0 : Int) ≤ ((Z - 1 : Nat) : Int) := by omega
  have hzi : ((Z - 1 : Nat) : Int) ≤ (cap : Int) := by omega
  have HTK : Hid (∀ W, Below w.heap.size w W → RowP P W (.slice p (Z - 1) cap) (rs.take (Z - 1))) := Lib.hid fun W b => by
    cases p with
    | none =>
      have := hnil rfl
      rw [show Z - 1 = 0 by omega]
      exact RowP.empty _ _ _ _
    | some ad =>
      obtain ⟨p', c', e, hl', hc', ha'⟩ := (hq.below b).row
      injection e with e1 e2 e3
      subst e1 e3
      refine ⟨_, _, by rw [List.length_take, Nat.min_eq_left (by omega)], by rw [List.length_take]; omega, fun j hj => ?_, fun q hq => ha' q (List.mem_of_mem_take hq)⟩
      have hj' : j < rs.length := by rw [List.length_take] at hj; omega
      rw [List.getElem_take]
      exact hc' j hj'
  have HP : Hid (p = none → Z - 1 = 0 ∧ cap = 0) := Lib.hid fun e => by have := hnil e; omega
  have HB0 : Hid (Below w.heap.size w (w.alloc (.cells #[] 63)).drew) := Lib.hid (((Below.refl _ w).alloc (Nat.le_refl _) _).trans (Below.refl _ _).drew)
  have HOW : Hid ((w.alloc (.cells #[] 63)).drew.ownsRow w.heap.size 63 3 (.slice (some ⟨w.heap.size, 0, none⟩) 0 0) ([] : List (MK × Value)).length (mkCells [])) := Lib.hid (own_empty (heap_alloc_new w _) (Nat.le_refl _))
  have hs0 : w.heap.size ≤ (w.alloc (.cells #[] 63)).drew.heap.size := by simp
  have HSL : Hid (([] : List (MK × Value)).length + (rs.take (Z - 1)).length ≤ 4294967296) := Lib.hid (by rw [List.length_take, List.length_nil]; omega)
  have HD0 := Lib.hid (show Below w.heap.size w w.drew from (Below.refl _ _).drew)
  clear hq hZ HWE hsg
  go_enter Try.func31, Try.ntmps31
  go_wp2_with fail
  go_region_law (first
    | (refine step_append_row rfl (.tmp 3) (.tmp 12) rfl w.heap.size [] _ (by rfl) HOW.out P _ _ _ (rs.take (Z - 1)) (by rfl) HP.out (HTK.out _ HB0.out) HSL.out hs0 ?_; intro v1 w1 hr1 hg1; obtain ⟨pp1, ll1, cc1, rfl⟩ := own_slice hr1; obtain ⟨b1, c1, f1, s1⟩ := RefQ.grown HQ.out HB0.out HOW.out hg1; have HR1 := Lib.hid hr1; have HB1 := Lib.hid b1; clear hr1 hg1 b1)
    | (go_simp; go_wp2_with (go_at_call 89; refine (HWL.out _ ?_).mono ?_; (first | exact HB0.out | exact HD0.out); rintro e w2 ⟨rfl, rfl⟩))
    | fail)
  all_goals
    go_wp2_with fail
    have h := RefQ.laid HQ.out HB1.out HR1.out (fun q hm => (HQ.out.below HB1.out).row.attrs q (List.mem_of_mem_take (by simpa using hm)))
    rw [show ((([] ++ rs.take (Z - 1) : List (MK × Value))).map (·.1)) = (rs.map (·.1)).take (Z - 1) by simp, ← HCL.out] at h
    exact bodyPost_end (results_none rfl _ _ _) rfl ⟨rfl, h⟩
end Go.Proofs.Ytbadckkcjjfnoaa
