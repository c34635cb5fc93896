/-
  The walks of the program's Put, Take. Any nodes, not too many.
-/
import Derived.Test.YtbadckkcjjfnoaaDPNote
namespace Go.Proofs.Ytbadckkcjjfnoaa
open Go.RowKit

/-- What a call does that turns links alone. -/
def Ties (M : Nat → Prop) (w : World) (B : Nat) (S : List PN) (v : Value) (e : Ending) (w' : World) : Prop := e = .returned v ∧ DocM M w' B S ∧ Turns M w w'
def pPut (S : List PN) (n up ahead : Int) (b : Bool) : List PN × Bool :=
  if pHas S n && !decide (n = 0) && decide ((pget S n).up = -1) && pPlace S up ahead && !b then (pLink S n up ahead, true) else (S, false)
def okPut (S : List PN) (f : Nat) (n up ahead : Int) (b : Bool) : Bool :=
  !(pHas S n && !decide (n = 0) && decide ((pget S n).up = -1) && pPlace S up ahead) || (decide (pWithin S f up n = some b) && (b || okLink S n up ahead))
set_option maxHeartbeats 1000000 in
set_option maxRecDepth 100000 in
theorem dput_1 (S : List PN) (B : Nat) (M : Nat → Prop) (w : World) (g cap : Nat) (n up ahead : Int) (b : Bool) (h : DocM M w B S) (hr : Reads w B S (some ⟨g, 0, none⟩) cap) (a1 : pHas S n = false) : Calls Try.prog 14 #[.pointer (some ⟨B, 0, none⟩), .int .i64 n, .int .i64 up, .int .i64 ahead] w (Ties M w B (pPut S n up ahead b).1 (.bool (pPut S n up ahead b).2)) := by
  have HH := Lib.hid (dhasP S B w _ cap n hr)
  rw [a1] at HH
  have he : pPut S n up ahead b = (S, false) := by unfold pPut; rw [a1]; rfl
  rw [he]
  have HD := Lib.hid h
  clear h hr
  go_enter Try.func14, Try.ntmps14
  go_wp2_with fail
  refine HH.out.mono ?_
  rintro e w1 ⟨rfl, rfl⟩
  go_wp2_with fail
  go_ret
  exact ⟨rfl, HD.out, Turns.refl _ _⟩
set_option maxHeartbeats 1000000 in
set_option maxRecDepth 100000 in
theorem dput_2 (S : List PN) (B : Nat) (M : Nat → Prop) (w : World) (g cap : Nat) (n up ahead : Int) (b : Bool) (h : DocM M w B S) (hr : Reads w B S (some ⟨g, 0, none⟩) cap) (a1 : pHas S n = true) (a2 : n = 0) : Calls Try.prog 14 #[.pointer (some ⟨B, 0, none⟩), .int .i64 n, .int .i64 up, .int .i64 ahead] w (Ties M w B (pPut S n up ahead b).1 (.bool (pPut S n up ahead b).2)) := by
  have HH := Lib.hid (dhasP S B w _ cap n hr)
  rw [a1] at HH
  have he : pPut S n up ahead b = (S, false) := by unfold pPut; rw [a1, decide_eq_true a2]; rfl
  rw [he]
  have HD := Lib.hid h
  have q2 : (n == 0) = true := beq_iff_eq.2 a2
  clear h hr a2 a1
  go_enter Try.func14, Try.ntmps14
  go_wp2_with fail
  refine HH.out.mono ?_
  rintro e w1 ⟨rfl, rfl⟩
  go_wp2_with fail
  go_ret
  exact ⟨rfl, HD.out, Turns.refl _ _⟩
set_option maxHeartbeats 1000000 in
set_option maxRecDepth 100000 in
theorem dput_3 (S : List PN) (B : Nat) (M : Nat → Prop) (w : World) (g cap : Nat) (n up ahead : Int) (b : Bool) (h : DocM M w B S) (hr : Reads w B S (some ⟨g, 0, none⟩) cap) (a1 : pHas S n = true) (a2 : ¬ n = 0) (a3 : ¬ (pget S n).up = -1) : Calls Try.prog 14 #[.pointer (some ⟨B, 0, none⟩), .int .i64 n, .int .i64 up, .int .i64 ahead] w (Ties M w B (pPut S n up ahead b).1 (.bool (pPut S n up ahead b).2)) := by
  have HH := Lib.hid (dhasP S B w _ cap n hr)
  rw [a1] at HH
  have he : pPut S n up ahead b = (S, false) := by unfold pPut; rw [a1, decide_eq_false a2, decide_eq_false a3]; rfl
  rw [he]
  have HD := Lib.hid h
  have q2 : (n == 0) = false := beq_eq_false_iff_ne.2 a2
  obtain ⟨j, rfl, hj⟩ := pHas_nat a1
  obtain ⟨_, va, vt, e, hg, hc⟩ := hr.node j hj
  injection e with e; injection e with e; subst e
  have h0 := hr.cell
  have c5 := hc.c5
  rw [pget_nat hj] at a3
  have j0 : (0 : Int) ≤ (j : Int) := by omega
  have j1 : (j : Int) < (S.length : Int) := by omega
  have q3 : (S[j].up != -1) = true := by simp [a3]
  clear h hr a2 a1 a3 hc he
  go_enter Try.func14, Try.ntmps14
  go_wp2_with fail
  refine HH.out.mono ?_
  rintro e w1 ⟨rfl, rfl⟩
  go_wp2_with fail
  go_ret
  exact ⟨rfl, HD.out, Turns.refl _ _⟩
set_option maxHeartbeats 1000000 in
set_option maxRecDepth 100000 in
theorem dput_4 (S : List PN) (B : Nat) (M : Nat → Prop) (w : World) (g cap : Nat) (n up ahead : Int) (b : Bool) (h : DocM M w B S) (hr : Reads w B S (some ⟨g, 0, none⟩) cap) (a1 : pHas S n = true) (a2 : ¬ n = 0) (a3 : (pget S n).up = -1) (a4 : pPlace S up ahead = false) : Calls Try.prog 14 #[.pointer (some ⟨B, 0, none⟩), .int .i64 n, .int .i64 up, .int .i64 ahead] w (Ties M w B (pPut S n up ahead b).1 (.bool (pPut S n up ahead b).2)) := by
  have HH := Lib.hid (dhasP S B w _ cap n hr)
  rw [a1] at HH
  have HP := Lib.hid (dplaceP S B w _ cap up ahead hr)
  rw [a4] at HP
  have he : pPut S n up ahead b = (S, false) := by unfold pPut; rw [a1, decide_eq_false a2, decide_eq_true a3, a4]; rfl
  rw [he]
  have HD := Lib.hid h
  have q2 : (n == 0) = false := beq_eq_false_iff_ne.2 a2
  obtain ⟨j, rfl, hj⟩ := pHas_nat a1
  obtain ⟨_, va, vt, e, hg, hc⟩ := hr.node j hj
  injection e with e; injection e with e; subst e
  have h0 := hr.cell
  have c5 := hc.c5
  rw [pget_nat hj] at a3
  have j0 : (0 : Int) ≤ (j : Int) := by omega
  have j1 : (j : Int) < (S.length : Int) := by omega
  have q3 : (S[j].up != -1) = false := by simp [a3]
  clear h hr a2 a1 a3 hc he
  go_enter Try.func14, Try.ntmps14
  go_wp2_with fail
  refine HH.out.mono ?_
  rintro e w1 ⟨rfl, rfl⟩
  go_wp2_with fail
  refine HP.out.mono ?_
  rintro e w1 ⟨rfl, rfl⟩
  go_wp2_with fail
  go_ret
  exact ⟨rfl, HD.out, Turns.refl _ _⟩
set_option maxHeartbeats 1000000 in
set_option maxRecDepth 100000 in
theorem dput_5 (S : List PN) (B : Nat) (M : Nat → Prop) (w : World) (g cap : Nat) (n up ahead : Int) (b : Bool) (h : DocM M w B S) (hr : Reads w B S (some ⟨g, 0, none⟩) cap) (f : Nat) (a1 : pHas S n = true) (a2 : ¬ n = 0) (a3 : (pget S n).up = -1) (a4 : pPlace S up ahead = true) (a5 : pWithin S f up n = some b) (a6 : b = true) : Calls Try.prog 14 #[.pointer (some ⟨B, 0, none⟩), .int .i64 n, .int .i64 up, .int .i64 ahead] w (Ties M w B (pPut S n up ahead b).1 (.bool (pPut S n up ahead b).2)) := by
  have HH := Lib.hid (dhasP S B w _ cap n hr)
  rw [a1] at HH
  have HP := Lib.hid (dplaceP S B w _ cap up ahead hr)
  rw [a4] at HP
  have HW := Lib.hid (dwithinP S B w _ cap f up n b hr a1 a5)
  rw [a6] at HW
  have he : pPut S n up ahead b = (S, false) := by unfold pPut; rw [a1, decide_eq_false a2, decide_eq_true a3, a4, a6]; rfl
  rw [he]
  have HD := Lib.hid h
  have q2 : (n == 0) = false := beq_eq_false_iff_ne.2 a2
  obtain ⟨j, rfl, hj⟩ := pHas_nat a1
  obtain ⟨_, va, vt, e, hg, hc⟩ := hr.node j hj
  injection e with e; injection e with e; subst e
  have h0 := hr.cell
  have c5 := hc.c5
  rw [pget_nat hj] at a3
  have j0 : (0 : Int) ≤ (j : Int) := by omega
  have j1 : (j : Int) < (S.length : Int) := by omega
  have q3 : (S[j].up != -1) = false := by simp [a3]
  clear h hr a2 a1 a3 hc he a5 a6
  go_enter Try.func14, Try.ntmps14
  go_wp2_with fail
  refine HH.out.mono ?_
  rintro e w1 ⟨rfl, rfl⟩
  go_wp2_with fail
  refine HP.out.mono ?_
  rintro e w1 ⟨rfl, rfl⟩
  go_wp2_with fail
  refine HW.out.mono ?_
  rintro e w1 ⟨rfl, rfl⟩
  go_wp2_with fail
  go_ret
  exact ⟨rfl, HD.out, Turns.refl _ _⟩
set_option maxHeartbeats 1000000 in
set_option maxRecDepth 100000 in
theorem dput_6 (S : List PN) (B : Nat) (M : Nat → Prop) (w : World) (g cap : Nat) (n up ahead : Int) (b : Bool) (h : DocM M w B S) (hr : Reads w B S (some ⟨g, 0, none⟩) cap) (f : Nat) (a1 : pHas S n = true) (a2 : ¬ n = 0) (a3 : (pget S n).up = -1) (a4 : pPlace S up ahead = true) (a5 : pWithin S f up n = some b) (a6 : b = false) (a7 : okLink S n up ahead = true) : Calls Try.prog 14 #[.pointer (some ⟨B, 0, none⟩), .int .i64 n, .int .i64 up, .int .i64 ahead] w (Ties M w B (pPut S n up ahead b).1 (.bool (pPut S n up ahead b).2)) := by
  have HH := Lib.hid (dhasP S B w _ cap n hr)
  rw [a1] at HH
  have HP := Lib.hid (dplaceP S B w _ cap up ahead hr)
  rw [a4] at HP
  have HW := Lib.hid (dwithinP S B w _ cap f up n b hr a1 a5)
  rw [a6] at HW
  have he : pPut S n up ahead b = (pLink S n up ahead, true) := by unfold pPut; rw [a1, decide_eq_false a2, decide_eq_true a3, a4, a6]; rfl
  rw [he]
  have HL := Lib.hid (dlinkP S B M w g cap n up ahead h hr a7)
  have q2 : (n == 0) = false := beq_eq_false_iff_ne.2 a2
  obtain ⟨j, rfl, hj⟩ := pHas_nat a1
  obtain ⟨_, va, vt, e, hg, hc⟩ := hr.node j hj
  injection e with e; injection e with e; subst e
  have h0 := hr.cell
  have c5 := hc.c5
  rw [pget_nat hj] at a3
  have j0 : (0 : Int) ≤ (j : Int) := by omega
  have j1 : (j : Int) < (S.length : Int) := by omega
  have q3 : (S[j].up != -1) = false := by simp [a3]
  clear h hr a2 a1 a3 hc he a5 a6 a7
  go_enter Try.func14, Try.ntmps14
  go_wp2_with fail
  refine HH.out.mono ?_
  rintro e w1 ⟨rfl, rfl⟩
  go_wp2_with fail
  refine HP.out.mono ?_
  rintro e w1 ⟨rfl, rfl⟩
  go_wp2_with fail
  refine HW.out.mono ?_
  rintro e w1 ⟨rfl, rfl⟩
  go_wp2_with fail
  refine HL.out.mono ?_
  rintro e w2 ⟨rfl, d2, _, t2⟩
  have HD := Lib.hid d2
  have HT := Lib.hid t2
  clear d2 t2
  go_wp2_with fail
  go_ret
  exact ⟨rfl, HD.out, HT.out⟩
theorem dputP (S : List PN) (B : Nat) (M : Nat → Prop) (w : World) (f : Nat) (n up ahead : Int) (b : Bool) (h : DocM M w B S) (h0 : 0 < S.length) (ho : okPut S f n up ahead b = true) : Calls Try.prog 14 #[.pointer (some ⟨B, 0, none⟩), .int .i64 n, .int .i64 up, .int .i64 ahead] w (Ties M w B (pPut S n up ahead b).1 (.bool (pPut S n up ahead b).2)) := by
  obtain ⟨g, cap, hr⟩ := h.reads_pos h0
  cases a1 : pHas S n
  · exact dput_1 S B M w g cap n up ahead b h hr a1
  by_cases a2 : n = 0
  · exact dput_2 S B M w g cap n up ahead b h hr a1 a2
  by_cases a3 : (pget S n).up = -1
  case neg => exact dput_3 S B M w g cap n up ahead b h hr a1 a2 a3
  cases a4 : pPlace S up ahead
  · exact dput_4 S B M w g cap n up ahead b h hr a1 a2 a3 a4
  unfold okPut at ho
  rw [a1, decide_eq_false a2, decide_eq_true a3, a4] at ho
  simp only [Bool.not_false, Bool.and_true, Bool.not_true, Bool.false_or, Bool.and_eq_true, decide_eq_true_eq, Bool.or_eq_true] at ho
  cases a6 : b
  · rw [a6] at ho
    exact dput_6 S B M w g cap n up ahead false h hr f a1 a2 a3 a4 ho.1 rfl (ho.2.resolve_left (by simp))
  · rw [a6] at ho
    exact dput_5 S B M w g cap n up ahead true h hr f a1 a2 a3 a4 ho.1 rfl
def pTake (S : List PN) (n : Int) : List PN × Bool := if pUp S n = -1 then (S, false) else (pUnlink S n, true)
set_option maxHeartbeats 1000000 in
set_option maxRecDepth 100000 in
theorem dtakeP (S : List PN) (B : Nat) (M : Nat → Prop) (w : World) (n : Int) (h : DocM M w B S) (h0 : 0 < S.length) (ho : pUp S n = -1 ∨ okUnlink S n = true) : Calls Try.prog 59 #[.pointer (some ⟨B, 0, none⟩), .int .i64 n] w (Ties M w B (pTake S n).1 (.bool (pTake S n).2)) := by
  obtain ⟨g, cap, hr⟩ := h.reads_pos h0
  have HU := Lib.hid (dupP S B w _ cap n hr)
  unfold pTake
  by_cases a : pUp S n = -1
  · rw [if_pos a]
    have HD := Lib.hid h
    have q1 : (pUp S n == -1) = true := beq_iff_eq.2 a
    clear h hr a ho
    generalize pUp S n = u at *
    go_enter Try.func59, Try.ntmps59
    go_wp2_with fail
    refine HU.out.mono ?_
    rintro e w1 ⟨rfl, rfl⟩
    go_wp2_with fail
    go_ret
    exact ⟨rfl, HD.out, Turns.refl _ _⟩
  · rw [if_neg a]
    have HL := Lib.hid (dunlinkP S B M w g cap n h hr (ho.resolve_left a))
    have q1 : (pUp S n == -1) = false := beq_eq_false_iff_ne.2 a
    clear h hr a ho
    generalize pUp S n = u at *
    go_enter Try.func59, Try.ntmps59
    go_wp2_with fail
    refine HU.out.mono ?_
    rintro e w1 ⟨rfl, rfl⟩
    go_wp2_with fail
    refine HL.out.mono ?_
    rintro e w2 ⟨rfl, d2, _, t2⟩
    have HD := Lib.hid d2
    have HT := Lib.hid t2
    clear d2 t2
    go_wp2_with fail
    go_ret
    exact ⟨rfl, HD.out, HT.out⟩
end Go.Proofs.Ytbadckkcjjfnoaa
