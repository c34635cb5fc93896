/-
  The walks of the program's Doc that only read: has, hasElem, hasPlace, kidBefore, Up, Size, within. Any nodes, not too many.
-/
import Derived.Test.YtbadckkcjjfnoaaDPMem
namespace Go.Proofs.Ytbadckkcjjfnoaa
open Go.RowKit

def pget (S : List PN) (n : Int) : PN := S.getD n.toNat default
def pHas (S : List PN) (n : Int) : Bool := decide (0 ≤ n) && decide (n < (S.length : Int))
def pElem (S : List PN) (n : Int) : Bool := pHas S n && decide ((pget S n).kind = 1)
def pPlace (S : List PN) (up ahead : Int) : Bool := pElem S up && (decide (ahead = -1) || (pHas S ahead && decide ((pget S ahead).up = up)))
def pBefore (S : List PN) (up ahead : Int) : Int := if ahead = -1 then (pget S up).last else (pget S ahead).before
def pUp (S : List PN) (n : Int) : Int := if pHas S n then (pget S n).up else -1
theorem pHas_iff (S : List PN) (n : Int) : pHas S n = true ↔ 0 ≤ n ∧ n < (S.length : Int) := by
  unfold pHas
  rw [Bool.and_eq_true, decide_eq_true_eq, decide_eq_true_eq]
theorem pHas_nat {S : List PN} {n : Int} (h : pHas S n = true) : ∃ j : Nat, n = (j : Int) ∧ j < S.length := by
  rw [pHas_iff] at h
  exact ⟨n.toNat, by omega, by omega⟩
theorem pget_nat {S : List PN} {j : Nat} (h : j < S.length) : pget S (j : Int) = S[j] := by
  unfold pget
  rw [Int.toNat_natCast, List.getD_eq_getElem?_getD, List.getElem?_eq_getElem h]
  rfl
theorem int_one (n : Int) : (n == 1) = decide (n = 1) := by rw [Bool.eq_iff_iff, beq_iff_eq, decide_eq_true_eq]
theorem int_eq (n m : Int) : (n == m) = decide (n = m) := by rw [Bool.eq_iff_iff, beq_iff_eq, decide_eq_true_eq]
/-- What can be read of a Doc. -/
structure Reads (w : World) (B : Nat) (S : List PN) (p : Option Addr) (cap : Nat) : Prop where
  lt : B < w.heap.size
  cell : w.cell? ⟨B, 0, none⟩ = some (.slice p S.length cap)
  at_ : ∀ j (hj : j < S.length), ∃ g va vt, p = some ⟨g, 0, none⟩ ∧ g < w.heap.size ∧ ∀ i, i < 10 → w.cell? ⟨g, j * 10 + i, none⟩ = (pnCell (S[j], va, vt))[i]?
  free : ∀ g o, p = some ⟨g, 0, none⟩ → w.frozen? ⟨g, o, none⟩ = false
theorem DocQ.reads {M : Nat → Prop} {w : World} {B : Nat} {v : Value} {qs : List (PN × Value × Value)} (h : DocQ M w B v qs) : ∃ p cap, v = .slice p qs.length cap ∧ Reads w B (qs.map (·.1)) p cap := by
  rcases h.form with ⟨rfl, rfl⟩ | ⟨g, cap, rfl⟩
  · exact ⟨none, 0, rfl, h.lt, h.cell, fun j hj => absurd hj (by simp), fun _ _ e => by cases e⟩
  · refine ⟨_, cap, rfl, h.lt, by rw [List.length_map]; exact h.cell, fun j hj => ?_, fun g' o e => by injection e with e; injection e with e; subst e; exact h.row.frozenAt o⟩
    have hj' : j < qs.length := by simpa using hj
    refine ⟨g, qs[j].2.1, qs[j].2.2, rfl, (h.row.lt g rfl).2, fun i hi => ?_⟩
    rw [h.at j i hj' hi, List.getElem_map]
theorem DocM.reads {M : Nat → Prop} {w : World} {B : Nat} {S : List PN} (h : DocM M w B S) : ∃ p cap, Reads w B S p cap := by
  obtain ⟨v, qs, rfl, h⟩ := h
  obtain ⟨p, cap, _, hr⟩ := h.reads
  exact ⟨p, cap, hr⟩
/-- The ten cells of a node. -/
structure Cells10 (w : World) (g o : Nat) (n : PN) (va vt : Value) : Prop where
  c0 : w.cell? ⟨g, o, none⟩ = some (.int .i64 n.kind)
  c1 : w.cell? ⟨g, o + 1, none⟩ = some (.int .i64 n.space)
  c2 : w.cell? ⟨g, o + 2, none⟩ = some (.string ⟨n.name.toArray⟩)
  c3 : w.cell? ⟨g, o + 3, none⟩ = some va
  c4 : w.cell? ⟨g, o + 4, none⟩ = some vt
  c5 : w.cell? ⟨g, o + 5, none⟩ = some (.int .i64 n.up)
  c6 : w.cell? ⟨g, o + 6, none⟩ = some (.int .i64 n.before)
  c7 : w.cell? ⟨g, o + 7, none⟩ = some (.int .i64 n.behind)
  c8 : w.cell? ⟨g, o + 8, none⟩ = some (.int .i64 n.first)
  c9 : w.cell? ⟨g, o + 9, none⟩ = some (.int .i64 n.last)
theorem Reads.node {w : World} {B : Nat} {S : List PN} {p : Option Addr} {cap : Nat} (h : Reads w B S p cap) (j : Nat) (hj : j < S.length) : ∃ g va vt, p = some ⟨g, 0, none⟩ ∧ g < w.heap.size ∧ Cells10 w g (j * 10) S[j] va vt := by
  obtain ⟨g, va, vt, e, hg, hc⟩ := h.at_ j hj
  exact ⟨g, va, vt, e, hg, hc 0 (by omega), hc 1 (by omega), hc 2 (by omega), hc 3 (by omega), hc 4 (by omega), hc 5 (by omega), hc 6 (by omega), hc 7 (by omega), hc 8 (by omega), hc 9 (by omega)⟩

set_option maxHeartbeats 1000000 in
set_option maxRecDepth 100000 in
theorem dhasP (S : List PN) (B : Nat) (w : World) (p : Option Addr) (cap : Nat) (n : Int) (h : Reads w B S p cap) : Calls Try.prog 74 #[.pointer (some ⟨B, 0, none⟩), .int .i64 n] w (Gives (.bool (pHas S n)) w) := by
  have h0 := h.cell
  by_cases a : 0 ≤ n
  · by_cases b : n < (S.length : Int)
    · have HE := Lib.hid ((pHas_iff S n).2 ⟨a, b⟩)
      go_enter Try.func74, Try.ntmps74
      go_wp2
      go_ret
      exact ⟨by rw [HE.out]; simp, rfl⟩
    · have HE : Hid (pHas S n = false) := Lib.hid (by rw [Bool.eq_false_iff]; exact fun h => b ((pHas_iff S n).1 h).2)
      go_enter Try.func74, Try.ntmps74
      go_wp2
      go_ret
      exact ⟨by rw [HE.out]; simp, rfl⟩
  · have HE : Hid (pHas S n = false) := Lib.hid (by rw [Bool.eq_false_iff]; exact fun h => a ((pHas_iff S n).1 h).1)
    go_enter Try.func74, Try.ntmps74
    go_wp2
    go_ret
    exact ⟨by rw [HE.out]; rfl, rfl⟩
set_option maxHeartbeats 1000000 in
set_option maxRecDepth 100000 in
theorem delemP (S : List PN) (B : Nat) (w : World) (p : Option Addr) (cap : Nat) (n : Int) (h : Reads w B S p cap) : Calls Try.prog 122 #[.pointer (some ⟨B, 0, none⟩), .int .i64 n] w (Gives (.bool (pElem S n)) w) := by
  have HI := Lib.hid (dhasP S B w p cap n h)
  have h0 := h.cell
  cases hn : pHas S n
  · have HE : Hid (pElem S n = false) := Lib.hid (by unfold pElem; rw [hn]; rfl)
    rw [hn] at HI
    go_enter Try.func122, Try.ntmps122
    go_wp2_with fail
    refine HI.out.mono ?_
    rintro e w1 ⟨rfl, rfl⟩
    go_wp2_with fail
    go_ret
    exact ⟨by rw [HE.out]; rfl, rfl⟩
  · have HE : Hid (pElem S n = decide ((pget S n).kind = 1)) := Lib.hid (by unfold pElem; rw [hn]; rfl)
    rw [hn] at HI
    obtain ⟨j, rfl, hj⟩ := pHas_nat hn
    rw [pget_nat hj] at HE
    obtain ⟨g, va, vt, rfl, hg, hc⟩ := h.node j hj
    have c0 := hc.c0
    have j0 : (0 : Int) ≤ (j : Int) := by omega
    have j1 : (j : Int) < (S.length : Int) := by omega
    clear hn h hc
    go_enter Try.func122, Try.ntmps122
    go_wp2_with fail
    refine HI.out.mono ?_
    rintro e w1 ⟨rfl, rfl⟩
    go_wp2_with fail
    go_ret
    exact ⟨by rw [HE.out, ← int_one]; rfl, rfl⟩
set_option maxHeartbeats 1000000 in
set_option maxRecDepth 100000 in
theorem dplaceP (S : List PN) (B : Nat) (w : World) (p : Option Addr) (cap : Nat) (up ahead : Int) (h : Reads w B S p cap) : Calls Try.prog 75 #[.pointer (some ⟨B, 0, none⟩), .int .i64 up, .int .i64 ahead] w (Gives (.bool (pPlace S up ahead)) w) := by
  have HI := Lib.hid (delemP S B w p cap up h)
  have HJ := Lib.hid (dhasP S B w p cap ahead h)
  have h0 := h.cell
  cases hn : pElem S up
  · have HE : Hid (pPlace S up ahead = false) := Lib.hid (by unfold pPlace; rw [hn]; rfl)
    rw [hn] at HI
    go_enter Try.func75, Try.ntmps75
    go_wp2_with fail
    refine HI.out.mono ?_
    rintro e w1 ⟨rfl, rfl⟩
    go_wp2_with fail
    go_ret
    exact ⟨by rw [HE.out]; rfl, rfl⟩
  · rw [hn] at HI
    by_cases a : ahead = -1
    · have HE : Hid (pPlace S up ahead = true) := Lib.hid (by unfold pPlace; rw [hn, decide_eq_true a]; rfl)
      have q1 : (ahead == -1) = true := beq_iff_eq.2 a
      clear a
      go_enter Try.func75, Try.ntmps75
      go_wp2_with fail
      refine HI.out.mono ?_
      rintro e w1 ⟨rfl, rfl⟩
      go_wp2_with fail
      go_ret
      exact ⟨by rw [HE.out]; rfl, rfl⟩
    · have q1 : (ahead == -1) = false := beq_eq_false_iff_ne.2 a
      cases hm : pHas S ahead
      · have HE : Hid (pPlace S up ahead = false) := Lib.hid (by unfold pPlace; rw [hn, decide_eq_false a, hm]; rfl)
        rw [hm] at HJ
        clear a
        go_enter Try.func75, Try.ntmps75
        go_wp2_with fail
        refine HI.out.mono ?_
        rintro e w1 ⟨rfl, rfl⟩
        go_wp2_with fail
        refine HJ.out.mono ?_
        rintro e w1 ⟨rfl, rfl⟩
        go_wp2_with fail
        go_ret
        exact ⟨by rw [HE.out]; rfl, rfl⟩
      · have HE : Hid (pPlace S up ahead = decide ((pget S ahead).up = up)) := Lib.hid (by unfold pPlace; rw [hn, decide_eq_false a, hm]; rfl)
        rw [hm] at HJ
        obtain ⟨j, rfl, hj⟩ := pHas_nat hm
        rw [pget_nat hj] at HE
        obtain ⟨g, va, vt, rfl, hg, hc⟩ := h.node j hj
        have c5 := hc.c5
        have j0 : (0 : Int) ≤ (j : Int) := by omega
        have j1 : (j : Int) < (S.length : Int) := by omega
        clear a hm h hc
        go_enter Try.func75, Try.ntmps75
        go_wp2_with fail
        refine HI.out.mono ?_
        rintro e w1 ⟨rfl, rfl⟩
        go_wp2_with fail
        refine HJ.out.mono ?_
        rintro e w1 ⟨rfl, rfl⟩
        go_wp2_with fail
        go_ret
        exact ⟨by rw [HE.out, ← int_eq]; rfl, rfl⟩
set_option maxHeartbeats 1000000 in
set_option maxRecDepth 100000 in
theorem dbeforeP (S : List PN) (B : Nat) (w : World) (p : Option Addr) (cap : Nat) (up ahead : Int) (h : Reads w B S p cap) (hu : pHas S up = true) (ha : ahead = -1 ∨ pHas S ahead = true) : Calls Try.prog 78 #[.pointer (some ⟨B, 0, none⟩), .int .i64 up, .int .i64 ahead] w (Gives (.int .i64 (pBefore S up ahead)) w) := by
  have h0 := h.cell
  by_cases a : ahead = -1
  · obtain ⟨j, rfl, hj⟩ := pHas_nat hu
    have HE : Hid (pBefore S (j : Int) ahead = S[j].last) := Lib.hid (by unfold pBefore; rw [if_pos a, pget_nat hj])
    have q1 : (ahead == -1) = true := beq_iff_eq.2 a
    obtain ⟨g, va, vt, rfl, hg, hc⟩ := h.node j hj
    have c9 := hc.c9
    have j0 : (0 : Int) ≤ (j : Int) := by omega
    have j1 : (j : Int) < (S.length : Int) := by omega
    clear a hu ha h hc
    go_enter Try.func78, Try.ntmps78
    go_wp2_with fail
    go_ret
    exact ⟨by rw [HE.out]; rfl, rfl⟩
  · obtain ⟨j, rfl, hj⟩ := pHas_nat (ha.resolve_left a)
    have HE : Hid (pBefore S up (j : Int) = S[j].before) := Lib.hid (by unfold pBefore; rw [if_neg a, pget_nat hj])
    have q1 : ((j : Int) == -1) = false := beq_eq_false_iff_ne.2 a
    obtain ⟨g, va, vt, rfl, hg, hc⟩ := h.node j hj
    have c6 := hc.c6
    have j0 : (0 : Int) ≤ (j : Int) := by omega
    have j1 : (j : Int) < (S.length : Int) := by omega
    clear a hu ha h hc
    go_enter Try.func78, Try.ntmps78
    go_wp2_with fail
    go_ret
    exact ⟨by rw [HE.out]; rfl, rfl⟩
set_option maxHeartbeats 1000000 in
set_option maxRecDepth 100000 in
theorem dupP (S : List PN) (B : Nat) (w : World) (p : Option Addr) (cap : Nat) (n : Int) (h : Reads w B S p cap) : Calls Try.prog 67 #[.pointer (some ⟨B, 0, none⟩), .int .i64 n] w (Gives (.int .i64 (pUp S n)) w) := by
  have HI := Lib.hid (dhasP S B w p cap n h)
  have h0 := h.cell
  cases hn : pHas S n
  · have HE : Hid (pUp S n = -1) := Lib.hid (by unfold pUp; rw [hn]; rfl)
    rw [hn] at HI
    go_enter Try.func67, Try.ntmps67
    go_wp2_with fail
    refine HI.out.mono ?_
    rintro e w1 ⟨rfl, rfl⟩
    go_wp2_with fail
    go_ret
    exact ⟨by rw [HE.out]; rfl, rfl⟩
  · have HE : Hid (pUp S n = (pget S n).up) := Lib.hid (by unfold pUp; rw [hn]; rfl)
    rw [hn] at HI
    obtain ⟨j, rfl, hj⟩ := pHas_nat hn
    rw [pget_nat hj] at HE
    obtain ⟨g, va, vt, rfl, hg, hc⟩ := h.node j hj
    have c5 := hc.c5
    have j0 : (0 : Int) ≤ (j : Int) := by omega
    have j1 : (j : Int) < (S.length : Int) := by omega
    clear hn h hc
    go_enter Try.func67, Try.ntmps67
    go_wp2_with fail
    refine HI.out.mono ?_
    rintro e w1 ⟨rfl, rfl⟩
    go_wp2_with fail
    go_ret
    exact ⟨by rw [HE.out]; rfl, rfl⟩
set_option maxHeartbeats 1000000 in
set_option maxRecDepth 100000 in
theorem dsizeP (S : List PN) (B : Nat) (w : World) (p : Option Addr) (cap : Nat) (h : Reads w B S p cap) : Calls Try.prog 54 #[.pointer (some ⟨B, 0, none⟩)] w (Gives (.int .i64 (S.length : Int)) w) := by
  have h0 := h.cell
  go_enter Try.func54, Try.ntmps54
  go_wp2_with fail
  go_ret
  exact ⟨rfl, rfl⟩
/-- Up from n, step by step: is top met? -/
def pClimb (S : List PN) : Nat → Int → Int → Option Bool
  | 0, _, _ => none
  | f + 1, n, top => if n = -1 ∨ n = top then some (decide (n = top)) else if pHas S n then pClimb S f (pget S n).up top else none
def pSteps (S : List PN) : Nat → Int → Int → Nat
  | 0, _, _ => 0
  | f + 1, n, top => if n = -1 ∨ n = top then 0 else 1 + pSteps S f (pget S n).up top
theorem pSteps_fuel {S : List PN} : ∀ (k f : Nat) (n top : Int) (b : Bool), k ≤ f → pClimb S k n top = some b → pSteps S f n top = pSteps S k n top
  | 0, _, _, _, _, _, h => by cases h
  | k + 1, 0, _, _, _, h, _ => by omega
  | k + 1, f + 1, n, top, b, hk, h => by
    unfold pClimb at h
    unfold pSteps
    split
    · rfl
    · rename_i c
      rw [if_neg c] at h
      cases hm : pHas S n
      · rw [hm] at h; cases h
      · rw [hm, if_pos rfl] at h
        rw [pSteps_fuel k f _ top b (by omega) h]
theorem pSteps_step {S : List PN} (f k : Nat) (n top : Int) (b : Bool) (hk : k < f) (c : ¬ (n = -1 ∨ n = top)) (h : pClimb S (k + 1) n top = some b) : pSteps S f (pget S n).up top < pSteps S f n top := by
  rw [pSteps_fuel (k + 1) f n top b hk h]
  unfold pClimb at h
  rw [if_neg c] at h
  cases hm : pHas S n
  · rw [hm] at h; cases h
  · rw [hm, if_pos rfl] at h
    rw [pSteps_fuel k f _ top b (by omega) h]
    show _ < pSteps S (k + 1) n top
    conv => rhs; unfold pSteps
    rw [if_neg c]
    omega
def pWithin (S : List PN) (f : Nat) (n top : Int) : Option Bool := if (pget S top).first = -1 then some (decide (n = top)) else pClimb S f n top
set_option maxHeartbeats 1000000 in
set_option maxRecDepth 100000 in
theorem dwithinP (S : List PN) (B : Nat) (w : World) (p : Option Addr) (cap : Nat) (f : Nat) (n top : Int) (b : Bool) (h : Reads w B S p cap) (ht : pHas S top = true) (hb : pWithin S f n top = some b) : Calls Try.prog 76 #[.pointer (some ⟨B, 0, none⟩), .int .i64 n, .int .i64 top] w (Gives (.bool b) w) := by
  have h0 := h.cell
  have HR := Lib.hid h
  obtain ⟨j, rfl, hj⟩ := pHas_nat ht
  obtain ⟨g, va, vt, rfl, hg, hc⟩ := h.node j hj
  have c8 := hc.c8
  have j0 : (0 : Int) ≤ (j : Int) := by omega
  have j1 : (j : Int) < (S.length : Int) := by omega
  unfold pWithin at hb
  rw [pget_nat hj] at hb
  clear h hc ht
  by_cases a : S[j].first = -1
  · rw [if_pos a] at hb
    have q1 : (S[j].first == -1) = true := beq_iff_eq.2 a
    have HE := Lib.hid (Option.some.inj hb)
    clear hb a
    go_enter Try.func76, Try.ntmps76
    go_wp2_with fail
    go_ret
    exact ⟨by rw [← HE.out, ← int_eq]; rfl, rfl⟩
  · rw [if_neg a] at hb
    have q1 : (S[j].first == -1) = false := beq_eq_false_iff_ne.2 a
    have HB := Lib.hid hb
    clear hb a
    go_enter Try.func76, Try.ntmps76
    go_wp2_with fail
    go_loopw [1] (fun i wr => ∃ (m : Int) (k : Nat), k ≤ f ∧ i = .int .i64 m ∧ wr = w ∧ pClimb S k m (j : Int) = some b) (fun i _ => pSteps S f (intOf i) (j : Int))
    case atStart => exact ⟨n, f, Nat.le_refl _, rfl, rfl, HB.out⟩
    case round =>
      obtain ⟨m, k, hk, rfl, rfl, hb⟩ := hrel
      cases k with
      | zero => cases hb
      | succ k =>
        by_cases c : m = -1 ∨ m = (j : Int)
        · have HE : Hid (decide (m = (j : Int)) = b) := Lib.hid (by unfold pClimb at hb; rw [if_pos c] at hb; exact Option.some.inj hb)
          clear hb
          by_cases c1 : m = -1
          · have q2 : (m != -1) = false := by simp [c1]
            clear c c1
            go_wp2_with fail
            go_ret
            exact ⟨by rw [← HE.out, ← int_eq]; rfl, rfl⟩
          · have q2 : (m != -1) = true := by simp [c1]
            have q3 : (m != (j : Int)) = false := by simp [c.resolve_left c1]
            clear c c1
            go_wp2_with fail
            go_ret
            exact ⟨by rw [← HE.out, ← int_eq]; rfl, rfl⟩
        · have c1 : m ≠ -1 := fun e => c (.inl e)
          have c2 : m ≠ (j : Int) := fun e => c (.inr e)
          have q2 : (m != -1) = true := by simp [c1]
          have q3 : (m != (j : Int)) = true := by simp [c2]
          have hb2 := hb
          unfold pClimb at hb2
          rw [if_neg c] at hb2
          cases hm : pHas S m
          · rw [hm] at hb2; cases hb2
          · rw [hm, if_pos rfl] at hb2
            have HS := Lib.hid (pSteps_step f k m (j : Int) b (by omega) c hb)
            have HB2 := Lib.hid hb2
            obtain ⟨x, rfl, hx⟩ := pHas_nat hm
            rw [pget_nat hx] at HS HB2
            obtain ⟨g2, va2, vt2, e2, hg2, hc2⟩ := HR.out.node x hx
            have e3 : g = g2 := by injection e2 with e2; injection e2
            subst e3
            have c5 := hc2.c5
            have x0 : (0 : Int) ≤ (x : Int) := by omega
            have x1 : (x : Int) < (S.length : Int) := by omega
            clear hb hb2 hm c c1 c2 hc2 e2
            go_wp2_with fail
            exact ⟨⟨_, k, by omega, rfl, trivial, HB2.out⟩, HS.out⟩
end Go.Proofs.Ytbadckkcjjfnoaa
