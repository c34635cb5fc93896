/-
  The walks of the program's Doc that write: meet, link, unlink. Any nodes, not too many.
-/
import Derived.Test.YtbadckkcjjfnoaaDPRead
namespace Go.Proofs.Ytbadckkcjjfnoaa
open Go.RowKit

/-- A link of a node is set. -/
theorem DocM.put {M : Nat → Prop} {w : World} {B g cap : Nat} {S : List PN} (h : DocM M w B S) (hr : Reads w B S (some ⟨g, 0, none⟩) cap) (j i : Nat) (u : Value) (p : PN) (hj : j < S.length) (hi : i < 10)
    (hc : ∀ x, pnCell (p, x) = (pnCell (S[j], x)).set i u) (ha : p.attrs = S[j].attrs) (ht : p.text = S[j].text) :
    DocM M (w.setCell ⟨g, j * 10 + i, none⟩ u) B (S.set j p) ∧ Reads (w.setCell ⟨g, j * 10 + i, none⟩ u) B (S.set j p) (some ⟨g, 0, none⟩) cap ∧ Turns M w (w.setCell ⟨g, j * 10 + i, none⟩ u) := by
  obtain ⟨v, qs, rfl, hq⟩ := h
  have hv := hq.cell.symm.trans hr.cell
  rw [List.length_map] at hv
  injection hv with hv
  subst hv
  have hj' : j < qs.length := by simpa using hj
  rw [List.getElem_map] at hc ha ht
  obtain ⟨h1, h2⟩ := hq.set j i u p hj' hi (hc _) ha ht
  have hm : (qs.map (·.1)).set j p = (qs.set j (p, qs[j].2)).map (·.1) := by rw [List.map_set]
  rw [hm]
  refine ⟨⟨_, _, rfl, h1⟩, ?_, h2⟩
  have h1' := h1
  rw [show qs.length = (qs.set j (p, qs[j].2)).length by simp] at h1'
  obtain ⟨p', cap', e, h3⟩ := h1'.reads
  injection e with e1 e2 e3
  subst e1 e3
  exact h3
/-- A field of a node is set. -/
def pset (S : List PN) (n : Int) (f : PN → PN) : List PN := S.modify n.toNat f
theorem pset_len (S : List PN) (n : Int) (f : PN → PN) : (pset S n f).length = S.length := by simp [pset]
theorem pset_nat {S : List PN} {j : Nat} (h : j < S.length) (f : PN → PN) : pset S (j : Int) f = S.set j (f S[j]) := by
  unfold pset
  rw [Int.toNat_natCast]
  apply List.ext_getElem
  · simp
  · intro k h1 h2
    rw [List.getElem_modify, List.getElem_set]
    split
    · rename_i e; subst e; rfl
    · rfl
theorem pset_has (S : List PN) (n : Int) (f : PN → PN) (m : Int) : pHas (pset S n f) m = pHas S m := by unfold pHas; rw [pset_len]
def pMeet1 (S : List PN) (up before behind : Int) : List PN := if before = -1 then pset S up (fun x => { x with first := behind }) else pset S before (fun x => { x with behind := behind })
def pMeet2 (S : List PN) (up before behind : Int) : List PN := if behind = -1 then pset S up (fun x => { x with last := before }) else pset S behind (fun x => { x with before := before })
def pMeet (S : List PN) (up before behind : Int) : List PN := pMeet2 (pMeet1 S up before behind) up before behind
def okMeet (S : List PN) (up before behind : Int) : Bool := (if before = -1 then pHas S up else pHas S before) && (if behind = -1 then pHas S up else pHas S behind)
/-- What a call does that writes, and makes nothing new. -/
def Sets (M : Nat → Prop) (w : World) (B : Nat) (S : List PN) (g cap : Nat) (v : Value) (e : Ending) (w' : World) : Prop := e = .returned v ∧ DocM M w' B S ∧ Reads w' B S (some ⟨g, 0, none⟩) cap ∧ Turns M w w'

set_option maxHeartbeats 1000000 in
set_option maxRecDepth 100000 in
theorem dmeetP (S : List PN) (B : Nat) (M : Nat → Prop) (w : World) (g cap : Nat) (up before behind : Int) (h : DocM M w B S) (hr : Reads w B S (some ⟨g, 0, none⟩) cap) (ho : okMeet S up before behind = true) :
    Calls Try.prog 126 #[.pointer (some ⟨B, 0, none⟩), .int .i64 up, .int .i64 before, .int .i64 behind] w (Sets M w B (pMeet S up before behind) g cap (.tuple #[])) := by
  unfold okMeet at ho
  rw [Bool.and_eq_true] at ho
  obtain ⟨ho1, ho2⟩ := ho
  have h0 := hr.cell
  unfold pMeet
  by_cases a : before = -1
  · rw [if_pos a] at ho1
    have q1 : (before == -1) = true := beq_iff_eq.2 a
    by_cases b : behind = -1
    · rw [if_pos b] at ho2
      have q2 : (behind == -1) = true := beq_iff_eq.2 b
      obtain ⟨j1, rfl, hj1⟩ := pHas_nat ho1
      have he1 : pMeet1 S (j1 : Int) before behind = (S).set j1 { (S)[j1] with first := behind } := by unfold pMeet1; rw [if_pos a, pset_nat hj1]
      obtain ⟨_, va1, vt1, e1, hg1, hc1⟩ := hr.node j1 hj1
      injection e1 with e1; injection e1 with e1; subst e1
      have c1 := hc1.c8
      have f1 := hr.free g (j1 * 10 + 8) rfl
      obtain ⟨D1, R1, T1⟩ := h.put hr j1 8 (.int .i64 behind) { (S)[j1] with first := behind } hj1 (by omega) (fun _ => rfl) rfl rfl
      rw [← he1] at D1 R1
      obtain ⟨w1, hw1⟩ : ∃ w1, w.setCell ⟨g, j1 * 10 + 8, none⟩ (.int .i64 behind) = w1 := ⟨_, rfl⟩
      rw [hw1] at D1 R1 T1
      have m1 : (0 : Int) ≤ (j1 : Int) := by omega
      have l1 : (j1 : Int) < ((S).length : Int) := by omega
      have h1 := R1.cell
      have hl1 : (pMeet1 S (j1 : Int) before behind).length = S.length := by rw [he1]; simp
      rw [hl1] at h1
      have hj2 : j1 < (pMeet1 S (j1 : Int) before behind).length := by rw [hl1]; exact hj1
      have he2 : pMeet2 (pMeet1 S (j1 : Int) before behind) (j1 : Int) before behind = (pMeet1 S (j1 : Int) before behind).set j1 { (pMeet1 S (j1 : Int) before behind)[j1] with last := before } := by unfold pMeet2; rw [if_pos b, pset_nat hj2]
      obtain ⟨_, va2, vt2, e2, hg2, hc2⟩ := R1.node j1 hj2
      injection e2 with e2; injection e2 with e2; subst e2
      have c2 := hc2.c9
      have f2 := R1.free g (j1 * 10 + 9) rfl
      obtain ⟨D2, R2, T2⟩ := D1.put R1 j1 9 (.int .i64 before) { (pMeet1 S (j1 : Int) before behind)[j1] with last := before } hj2 (by omega) (fun _ => rfl) rfl rfl
      rw [← he2] at D2 R2
      obtain ⟨w2, hw2⟩ : ∃ w2, w1.setCell ⟨g, j1 * 10 + 9, none⟩ (.int .i64 before) = w2 := ⟨_, rfl⟩
      rw [hw2] at D2 R2 T2
      have m2 : (0 : Int) ≤ (j1 : Int) := by omega
      have l2 : (j1 : Int) < ((pMeet1 S (j1 : Int) before behind).length : Int) := by omega
      rw [hl1] at l2
      have HD := Lib.hid D2
      have HR := Lib.hid R2
      have HT := Lib.hid (T1.trans (T2.mono (fun b _ k => .inl k)))
      clear h hr D1 D2 R1 R2 T1 T2 hc1 hc2 he1 he2 ho1 ho2 a b hl1
      go_enter Try.func126, Try.ntmps126
      go_wp2_with fail
      exact bodyPost_end (results_none rfl _ _ _) rfl ⟨rfl, HD.out, HR.out, HT.out⟩
    · rw [if_neg b] at ho2
      have q2 : (behind == -1) = false := beq_eq_false_iff_ne.2 b
      obtain ⟨j1, rfl, hj1⟩ := pHas_nat ho1
      have he1 : pMeet1 S (j1 : Int) before behind = (S).set j1 { (S)[j1] with first := behind } := by unfold pMeet1; rw [if_pos a, pset_nat hj1]
      obtain ⟨_, va1, vt1, e1, hg1, hc1⟩ := hr.node j1 hj1
      injection e1 with e1; injection e1 with e1; subst e1
      have c1 := hc1.c8
      have f1 := hr.free g (j1 * 10 + 8) rfl
      obtain ⟨D1, R1, T1⟩ := h.put hr j1 8 (.int .i64 behind) { (S)[j1] with first := behind } hj1 (by omega) (fun _ => rfl) rfl rfl
      rw [← he1] at D1 R1
      obtain ⟨w1, hw1⟩ : ∃ w1, w.setCell ⟨g, j1 * 10 + 8, none⟩ (.int .i64 behind) = w1 := ⟨_, rfl⟩
      rw [hw1] at D1 R1 T1
      have m1 : (0 : Int) ≤ (j1 : Int) := by omega
      have l1 : (j1 : Int) < ((S).length : Int) := by omega
      have h1 := R1.cell
      have hl1 : (pMeet1 S (j1 : Int) before behind).length = S.length := by rw [he1]; simp
      rw [hl1] at h1
      obtain ⟨j2, rfl, hj2⟩ := pHas_nat (show pHas (pMeet1 S (j1 : Int) before behind) behind = true by unfold pHas at ho2 ⊢; rw [hl1]; exact ho2)
      have he2 : pMeet2 (pMeet1 S (j1 : Int) before (j2 : Int)) (j1 : Int) before (j2 : Int) = (pMeet1 S (j1 : Int) before (j2 : Int)).set j2 { (pMeet1 S (j1 : Int) before (j2 : Int))[j2] with before := before } := by unfold pMeet2; rw [if_neg b, pset_nat hj2]
      obtain ⟨_, va2, vt2, e2, hg2, hc2⟩ := R1.node j2 hj2
      injection e2 with e2; injection e2 with e2; subst e2
      have c2 := hc2.c6
      have f2 := R1.free g (j2 * 10 + 6) rfl
      obtain ⟨D2, R2, T2⟩ := D1.put R1 j2 6 (.int .i64 before) { (pMeet1 S (j1 : Int) before (j2 : Int))[j2] with before := before } hj2 (by omega) (fun _ => rfl) rfl rfl
      rw [← he2] at D2 R2
      obtain ⟨w2, hw2⟩ : ∃ w2, w1.setCell ⟨g, j2 * 10 + 6, none⟩ (.int .i64 before) = w2 := ⟨_, rfl⟩
      rw [hw2] at D2 R2 T2
      have m2 : (0 : Int) ≤ (j2 : Int) := by omega
      have l2 : (j2 : Int) < ((pMeet1 S (j1 : Int) before (j2 : Int)).length : Int) := by omega
      rw [hl1] at l2
      have HD := Lib.hid D2
      have HR := Lib.hid R2
      have HT := Lib.hid (T1.trans (T2.mono (fun b _ k => .inl k)))
      clear h hr D1 D2 R1 R2 T1 T2 hc1 hc2 he1 he2 ho1 ho2 a b hl1
      go_enter Try.func126, Try.ntmps126
      go_wp2_with fail
      exact bodyPost_end (results_none rfl _ _ _) rfl ⟨rfl, HD.out, HR.out, HT.out⟩
  · rw [if_neg a] at ho1
    have q1 : (before == -1) = false := beq_eq_false_iff_ne.2 a
    by_cases b : behind = -1
    · rw [if_pos b] at ho2
      have q2 : (behind == -1) = true := beq_iff_eq.2 b
      obtain ⟨j1, rfl, hj1⟩ := pHas_nat ho1
      have he1 : pMeet1 S up (j1 : Int) behind = (S).set j1 { (S)[j1] with behind := behind } := by unfold pMeet1; rw [if_neg a, pset_nat hj1]
      obtain ⟨_, va1, vt1, e1, hg1, hc1⟩ := hr.node j1 hj1
      injection e1 with e1; injection e1 with e1; subst e1
      have c1 := hc1.c7
      have f1 := hr.free g (j1 * 10 + 7) rfl
      obtain ⟨D1, R1, T1⟩ := h.put hr j1 7 (.int .i64 behind) { (S)[j1] with behind := behind } hj1 (by omega) (fun _ => rfl) rfl rfl
      rw [← he1] at D1 R1
      obtain ⟨w1, hw1⟩ : ∃ w1, w.setCell ⟨g, j1 * 10 + 7, none⟩ (.int .i64 behind) = w1 := ⟨_, rfl⟩
      rw [hw1] at D1 R1 T1
      have m1 : (0 : Int) ≤ (j1 : Int) := by omega
      have l1 : (j1 : Int) < ((S).length : Int) := by omega
      have h1 := R1.cell
      have hl1 : (pMeet1 S up (j1 : Int) behind).length = S.length := by rw [he1]; simp
      rw [hl1] at h1
      obtain ⟨j2, rfl, hj2⟩ := pHas_nat (show pHas (pMeet1 S up (j1 : Int) behind) up = true by unfold pHas at ho2 ⊢; rw [hl1]; exact ho2)
      have he2 : pMeet2 (pMeet1 S (j2 : Int) (j1 : Int) behind) (j2 : Int) (j1 : Int) behind = (pMeet1 S (j2 : Int) (j1 : Int) behind).set j2 { (pMeet1 S (j2 : Int) (j1 : Int) behind)[j2] with last := (j1 : Int) } := by unfold pMeet2; rw [if_pos b, pset_nat hj2]
      obtain ⟨_, va2, vt2, e2, hg2, hc2⟩ := R1.node j2 hj2
      injection e2 with e2; injection e2 with e2; subst e2
      have c2 := hc2.c9
      have f2 := R1.free g (j2 * 10 + 9) rfl
      obtain ⟨D2, R2, T2⟩ := D1.put R1 j2 9 (.int .i64 (j1 : Int)) { (pMeet1 S (j2 : Int) (j1 : Int) behind)[j2] with last := (j1 : Int) } hj2 (by omega) (fun _ => rfl) rfl rfl
      rw [← he2] at D2 R2
      obtain ⟨w2, hw2⟩ : ∃ w2, w1.setCell ⟨g, j2 * 10 + 9, none⟩ (.int .i64 (j1 : Int)) = w2 := ⟨_, rfl⟩
      rw [hw2] at D2 R2 T2
      have m2 : (0 : Int) ≤ (j2 : Int) := by omega
      have l2 : (j2 : Int) < ((pMeet1 S (j2 : Int) (j1 : Int) behind).length : Int) := by omega
      rw [hl1] at l2
      have HD := Lib.hid D2
      have HR := Lib.hid R2
      have HT := Lib.hid (T1.trans (T2.mono (fun b _ k => .inl k)))
      clear h hr D1 D2 R1 R2 T1 T2 hc1 hc2 he1 he2 ho1 ho2 a b hl1
      go_enter Try.func126, Try.ntmps126
      go_wp2_with fail
      exact bodyPost_end (results_none rfl _ _ _) rfl ⟨rfl, HD.out, HR.out, HT.out⟩
    · rw [if_neg b] at ho2
      have q2 : (behind == -1) = false := beq_eq_false_iff_ne.2 b
      obtain ⟨j1, rfl, hj1⟩ := pHas_nat ho1
      have he1 : pMeet1 S up (j1 : Int) behind = (S).set j1 { (S)[j1] with behind := behind } := by unfold pMeet1; rw [if_neg a, pset_nat hj1]
      obtain ⟨_, va1, vt1, e1, hg1, hc1⟩ := hr.node j1 hj1
      injection e1 with e1; injection e1 with e1; subst e1
      have c1 := hc1.c7
      have f1 := hr.free g (j1 * 10 + 7) rfl
      obtain ⟨D1, R1, T1⟩ := h.put hr j1 7 (.int .i64 behind) { (S)[j1] with behind := behind } hj1 (by omega) (fun _ => rfl) rfl rfl
      rw [← he1] at D1 R1
      obtain ⟨w1, hw1⟩ : ∃ w1, w.setCell ⟨g, j1 * 10 + 7, none⟩ (.int .i64 behind) = w1 := ⟨_, rfl⟩
      rw [hw1] at D1 R1 T1
      have m1 : (0 : Int) ≤ (j1 : Int) := by omega
      have l1 : (j1 : Int) < ((S).length : Int) := by omega
      have h1 := R1.cell
      have hl1 : (pMeet1 S up (j1 : Int) behind).length = S.length := by rw [he1]; simp
      rw [hl1] at h1
      obtain ⟨j2, rfl, hj2⟩ := pHas_nat (show pHas (pMeet1 S up (j1 : Int) behind) behind = true by unfold pHas at ho2 ⊢; rw [hl1]; exact ho2)
      have he2 : pMeet2 (pMeet1 S up (j1 : Int) (j2 : Int)) up (j1 : Int) (j2 : Int) = (pMeet1 S up (j1 : Int) (j2 : Int)).set j2 { (pMeet1 S up (j1 : Int) (j2 : Int))[j2] with before := (j1 : Int) } := by unfold pMeet2; rw [if_neg b, pset_nat hj2]
      obtain ⟨_, va2, vt2, e2, hg2, hc2⟩ := R1.node j2 hj2
      injection e2 with e2; injection e2 with e2; subst e2
      have c2 := hc2.c6
      have f2 := R1.free g (j2 * 10 + 6) rfl
      obtain ⟨D2, R2, T2⟩ := D1.put R1 j2 6 (.int .i64 (j1 : Int)) { (pMeet1 S up (j1 : Int) (j2 : Int))[j2] with before := (j1 : Int) } hj2 (by omega) (fun _ => rfl) rfl rfl
      rw [← he2] at D2 R2
      obtain ⟨w2, hw2⟩ : ∃ w2, w1.setCell ⟨g, j2 * 10 + 6, none⟩ (.int .i64 (j1 : Int)) = w2 := ⟨_, rfl⟩
      rw [hw2] at D2 R2 T2
      have m2 : (0 : Int) ≤ (j2 : Int) := by omega
      have l2 : (j2 : Int) < ((pMeet1 S up (j1 : Int) (j2 : Int)).length : Int) := by omega
      rw [hl1] at l2
      have HD := Lib.hid D2
      have HR := Lib.hid R2
      have HT := Lib.hid (T1.trans (T2.mono (fun b _ k => .inl k)))
      clear h hr D1 D2 R1 R2 T1 T2 hc1 hc2 he1 he2 ho1 ho2 a b hl1
      go_enter Try.func126, Try.ntmps126
      go_wp2_with fail
      exact bodyPost_end (results_none rfl _ _ _) rfl ⟨rfl, HD.out, HR.out, HT.out⟩
end Go.Proofs.Ytbadckkcjjfnoaa
