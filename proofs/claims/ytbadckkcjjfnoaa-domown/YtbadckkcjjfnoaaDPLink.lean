/-
  The walks of the program's link, unlink. Any nodes, not too many.
-/
import Derived.Test.YtbadckkcjjfnoaaDPWrite
import Derived.Deep.RegionWith
import Derived.StillTailTactics
namespace Go.Proofs.Ytbadckkcjjfnoaa
open Go.RowKit

theorem pMeet_len (S : List PN) (up before behind : Int) : (pMeet S up before behind).length = S.length := by
  unfold pMeet pMeet2 pMeet1
  split <;> split <;> simp [pset_len]
theorem pMeet_has (S : List PN) (up before behind n : Int) : pHas (pMeet S up before behind) n = pHas S n := by unfold pHas; rw [pMeet_len]
theorem has_ne {S : List PN} {n : Int} (h : pHas S n = true) : n ≠ -1 := by
  obtain ⟨j, rfl, _⟩ := pHas_nat h
  omega
def pLink0 (S : List PN) (n up : Int) : List PN := pset S n (fun x => { x with up := up })
def pLink (S : List PN) (n up ahead : Int) : List PN := pMeet (pMeet (pLink0 S n up) up (pBefore (pLink0 S n up) up ahead) n) up n ahead
def okLink (S : List PN) (n up ahead : Int) : Bool := pHas S n && pHas S up && (decide (ahead = -1) || pHas S ahead) && (decide (pBefore (pLink0 S n up) up ahead = -1) || pHas S (pBefore (pLink0 S n up) up ahead))
theorem pLink_len (S : List PN) (n up ahead : Int) : (pLink S n up ahead).length = S.length := by unfold pLink pLink0; rw [pMeet_len, pMeet_len, pset_len]

set_option maxHeartbeats 1000000 in
set_option maxRecDepth 100000 in
theorem dlinkP (S : List PN) (B : Nat) (M : Nat → Prop) (w : World) (g cap : Nat) (n up ahead : Int) (h : DocM M w B S) (hr : Reads w B S (some ⟨g, 0, none⟩) cap) (ho : okLink S n up ahead = true) :
    Calls Try.prog 77 #[.pointer (some ⟨B, 0, none⟩), .int .i64 n, .int .i64 up, .int .i64 ahead] w (Sets M w B (pLink S n up ahead) g cap (.tuple #[])) := by
  unfold okLink at ho
  simp only [Bool.and_eq_true, Bool.or_eq_true, decide_eq_true_eq] at ho
  obtain ⟨⟨⟨on, ou⟩, oa⟩, ob⟩ := ho
  have h0 := hr.cell
  unfold pLink
  obtain ⟨j, rfl, hj⟩ := pHas_nat on
  have he : pLink0 S (j : Int) up = S.set j { S[j] with up := up } := by unfold pLink0; rw [pset_nat hj]
  obtain ⟨_, va, vt, e, hg, hc⟩ := hr.node j hj
  injection e with e; injection e with e; subst e
  have c5 := hc.c5
  have f5 := hr.free g (j * 10 + 5) rfl
  obtain ⟨D1, R1, T1⟩ := h.put hr j 5 (.int .i64 up) { S[j] with up := up } hj (by omega) (fun _ => rfl) rfl rfl
  rw [← he] at D1 R1
  have hl : (pLink0 S (j : Int) up).length = S.length := by rw [he]; simp
  have hh : ∀ m, pHas (pLink0 S (j : Int) up) m = pHas S m := fun m => by unfold pHas; rw [hl]
  obtain ⟨w1, hw1⟩ : ∃ w1, w.setCell ⟨g, j * 10 + 5, none⟩ (.int .i64 up) = w1 := ⟨_, rfl⟩
  rw [hw1] at D1 R1 T1
  have HB := Lib.hid (dbeforeP _ B w1 _ cap up ahead R1 (by rw [hh]; exact ou) (by rw [hh]; exact oa))
  have ok1 : okMeet (pLink0 S (j : Int) up) up (pBefore (pLink0 S (j : Int) up) up ahead) (j : Int) = true := by
    unfold okMeet
    rw [if_neg (has_ne on), hh, hh, hh, on, Bool.and_true]
    split
    · exact ou
    · rename_i q; exact ob.resolve_left q
  have HM1 := Lib.hid (dmeetP _ B M w1 g cap up _ (j : Int) D1 R1 ok1)
  have ok2 : okMeet (pMeet (pLink0 S (j : Int) up) up (pBefore (pLink0 S (j : Int) up) up ahead) (j : Int)) up (j : Int) ahead = true := by
    unfold okMeet
    simp only [pMeet_has, hh]
    rw [if_neg (has_ne on), on, Bool.true_and]
    split
    · exact ou
    · rename_i q; exact oa.resolve_left q
  have OK2 := Lib.hid ok2
  have HT1 := Lib.hid T1
  have j0 : (0 : Int) ≤ (j : Int) := by omega
  have j1 : (j : Int) < (S.length : Int) := by omega
  clear h hr D1 R1 T1 hc he ok1 ok2 on ou oa ob hl hh
  generalize pBefore (pLink0 S (j : Int) up) up ahead = bf at *
  go_enter Try.func77, Try.ntmps77
  go_wp2_with fail
  refine HB.out.mono ?_
  rintro e w2 ⟨rfl, rfl⟩
  go_wp2_with fail
  refine HM1.out.mono ?_
  rintro e w2 ⟨rfl, D2, R2, T2⟩
  have HM2 := Lib.hid (dmeetP _ B M w2 g cap up (j : Int) ahead D2 R2 OK2.out)
  have HT2 := Lib.hid (HT1.out.trans (T2.mono (fun b _ k => .inl k)))
  clear D2 R2 T2
  go_wp2_with fail
  refine HM2.out.mono ?_
  rintro e w3 ⟨rfl, D3, R3, T3⟩
  have HD := Lib.hid D3
  have HR := Lib.hid R3
  have HT := Lib.hid (HT2.out.trans (T3.mono (fun b _ k => .inl k)))
  clear D3 R3 T3
  go_wp2_with fail
  exact bodyPost_end (results_none rfl _ _ _) rfl ⟨rfl, HD.out, HR.out, HT.out⟩

def pCut (S : List PN) (n : Int) : List PN := pset S n (fun x => { x with up := -1, before := -1, behind := -1 })
def pUnlink (S : List PN) (n : Int) : List PN := pCut (pMeet S (pget S n).up (pget S n).before (pget S n).behind) n
def okUnlink (S : List PN) (n : Int) : Bool := pHas S n && okMeet S (pget S n).up (pget S n).before (pget S n).behind
theorem pUnlink_len (S : List PN) (n : Int) : (pUnlink S n).length = S.length := by unfold pUnlink pCut; rw [pset_len, pMeet_len]
theorem DocM.below {M : Nat → Prop} {w w' : World} {B : Nat} {S : List PN} (h : DocM M w B S) (hb : Below w.heap.size w w') : DocM M w' B S := by
  obtain ⟨v, qs, e, hq⟩ := h
  exact ⟨v, qs, e, hq.below hb⟩
theorem Reads.below {w w' : World} {B : Nat} {S : List PN} {p : Option Addr} {cap : Nat} (h : Reads w B S p cap) (hb : Below w.heap.size w w') (hp : ∀ g, p = some ⟨g, 0, none⟩ → g < w.heap.size) : Reads w' B S p cap := by
  refine ⟨Nat.lt_of_lt_of_le h.lt hb.size, (hb.cell (p := ⟨B, 0, none⟩) h.lt).trans h.cell, fun j hj => ?_, fun g o e => ?_⟩
  · obtain ⟨g, va, vt, e, hg, hc⟩ := h.at_ j hj
    exact ⟨g, va, vt, e, Nat.lt_of_lt_of_le hg hb.size, fun i hi => (hb.cell (p := ⟨g, j * 10 + i, none⟩) hg).trans (hc i hi)⟩
  · rw [World.frozen?_of_block (w := w) (hb.block g (hp g e))]
    exact h.free g o e
set_option maxHeartbeats 1000000 in
set_option maxRecDepth 100000 in
theorem dunlinkP (S : List PN) (B : Nat) (M : Nat → Prop) (w : World) (g cap : Nat) (n : Int) (h : DocM M w B S) (hr : Reads w B S (some ⟨g, 0, none⟩) cap) (ho : okUnlink S n = true) :
    Calls Try.prog 119 #[.pointer (some ⟨B, 0, none⟩), .int .i64 n] w (Sets M w B (pUnlink S n) g cap (.tuple #[])) := by
  unfold okUnlink at ho
  rw [Bool.and_eq_true] at ho
  obtain ⟨on, om⟩ := ho
  have h0 := hr.cell
  unfold pUnlink
  obtain ⟨j, rfl, hj⟩ := pHas_nat on
  rw [pget_nat hj] at om ⊢
  obtain ⟨_, va, vt, e, hg, hc⟩ := hr.node j hj
  injection e with e; injection e with e; subst e
  have c5 := hc.c5
  have c6 := hc.c6
  have c7 := hc.c7
  have HK : Hid (∀ W, Below w.heap.size w W → Calls Try.prog 126 #[.pointer (some ⟨B, 0, none⟩), .int .i64 S[j].up, .int .i64 S[j].before, .int .i64 S[j].behind] W (Sets M w B (pMeet S S[j].up S[j].before S[j].behind) g cap (.tuple #[]))) := by
    refine Lib.hid fun W b => (dmeetP S B M W g cap _ _ _ (h.below b) (hr.below b (fun g' e => by injection e with e; injection e with e; subst e; exact hg)) om).mono ?_
    rintro e w3 ⟨rfl, d3, r3, t3⟩
    exact ⟨rfl, d3, r3, (Turns.of_below b).trans (t3.mono fun b _ k => .inl k)⟩
  have j0 : (0 : Int) ≤ (j : Int) := by omega
  have j1 : (j : Int) < (S.length : Int) := by omega
  have hl := pMeet_len S S[j].up S[j].before S[j].behind
  clear h hr hc om on
  generalize pMeet S S[j].up S[j].before S[j].behind = S3 at *
  go_enter Try.func119, Try.ntmps119
  go_wp2_with fail
  go_still_tail 13, (by kernel_rfl)
  have HW := Lib.hid (show Below w.heap.size w w.drew from (Below.refl _ _).drew)
  change wpList _ _ _ _ _ w.drew
  generalize w.drew = w2 at *
  go_wp2_with fail
  refine (HK.out _ HW.out).mono ?_
  rintro e w3 ⟨rfl, D3, R3, T3⟩
  have hj3 : j < S3.length := by rw [hl]; exact hj
  have HE : Hid (pCut S3 (j : Int) = S3.set j { S3[j] with up := -1, before := -1, behind := -1 }) := Lib.hid (by unfold pCut; rw [pset_nat hj3])
  obtain ⟨_, va3, vt3, e3, hg3, hc3⟩ := R3.node j hj3
  injection e3 with e3; injection e3 with e3; subst e3
  have d3 := hc3.c5
  have f3 := R3.free g (j * 10 + 5) rfl
  obtain ⟨D4, R4, T4⟩ := D3.put R3 j 5 (.int .i64 (-1)) { (S3)[j] with up := -1 } hj3 (by omega) (fun _ => rfl) rfl rfl
  have hj4 : j < ((S3).set j { (S3)[j] with up := -1 }).length := by simpa using hj3
  obtain ⟨w4, hw4⟩ : ∃ w4, w3.setCell ⟨g, j * 10 + 5, none⟩ (.int .i64 (-1)) = w4 := ⟨_, rfl⟩
  rw [hw4] at D4 R4 T4
  obtain ⟨_, va4, vt4, e4, hg4, hc4⟩ := R4.node j hj4
  injection e4 with e4; injection e4 with e4; subst e4
  have d4 := hc4.c6
  have f4 := R4.free g (j * 10 + 6) rfl
  obtain ⟨D5, R5, T5⟩ := D4.put R4 j 6 (.int .i64 (-1)) { (S3.set j { S3[j] with up := -1 })[j] with before := -1 } hj4 (by omega) (fun _ => rfl) rfl rfl
  have hj5 : j < ((S3.set j { S3[j] with up := -1 }).set j { (S3.set j { S3[j] with up := -1 })[j] with before := -1 }).length := by simpa using hj4
  obtain ⟨w5, hw5⟩ : ∃ w5, w4.setCell ⟨g, j * 10 + 6, none⟩ (.int .i64 (-1)) = w5 := ⟨_, rfl⟩
  rw [hw5] at D5 R5 T5
  obtain ⟨_, va5, vt5, e5, hg5, hc5⟩ := R5.node j hj5
  injection e5 with e5; injection e5 with e5; subst e5
  have d5 := hc5.c7
  have f5 := R5.free g (j * 10 + 7) rfl
  obtain ⟨D6, R6, T6⟩ := D5.put R5 j 7 (.int .i64 (-1)) { ((S3.set j { S3[j] with up := -1 }).set j { (S3.set j { S3[j] with up := -1 })[j] with before := -1 })[j] with behind := -1 } hj5 (by omega) (fun _ => rfl) rfl rfl
  have hj6 : j < (((S3.set j { S3[j] with up := -1 }).set j { (S3.set j { S3[j] with up := -1 })[j] with before := -1 }).set j { ((S3.set j { S3[j] with up := -1 }).set j { (S3.set j { S3[j] with up := -1 })[j] with before := -1 })[j] with behind := -1 }).length := by simpa using hj5
  obtain ⟨w6, hw6⟩ : ∃ w6, w5.setCell ⟨g, j * 10 + 7, none⟩ (.int .i64 (-1)) = w6 := ⟨_, rfl⟩
  rw [hw6] at D6 R6 T6
  have HT := Lib.hid (T3.trans ((T4.trans ((T5.trans (T6.mono fun b _ k => .inl k)).mono fun b _ k => .inl k)).mono fun b _ k => .inl k))
  have HD := Lib.hid D6
  have HR := Lib.hid R6
  have j3 : (j : Int) < (S3.length : Int) := by omega
  clear D3 R3 T3 D4 R4 T4 D5 R5 T5 D6 R6 T6 hc3 hc4 hc5 h0 c5 c6 c7 HK hl
  go_wp2_with fail
  refine bodyPost_end (results_none rfl _ _ _) rfl ⟨rfl, ?_, ?_, HT.out⟩
  · rw [HE.out]
    simpa using HD.out
  · rw [HE.out]
    simpa using HR.out
end Go.Proofs.Ytbadckkcjjfnoaa
