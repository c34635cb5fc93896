/-
  The walks of the laws' own in chapter 3: within, the text of numbers. Any slice of numbers.
-/
import Derived.Test.YtgelgfgcdfnacaaDoorRHtml
namespace Go.Proofs.YtgelgfgcdfnacaaDoor
open Go.RowKit

set_option maxHeartbeats 1000000 in
theorem within3 (n : Int) (m : Nat) (w : World) (h0 : -9223372036854775808 ≤ n) (h1 : n ≤ 9223372036854775807) (hm1 : 1 ≤ m) (hm2 : m ≤ 2147483647) :
    Calls Tryd.prog 25 #[.int .i64 n, .int .i64 (m : Int)] w (Gives (.int .i64 ((Within n m : Nat) : Int)) w) := by
  have HW := Lib.hid (within_lt n m hm1).2
  by_cases hn : 0 ≤ n
  · have g1 := Int.emod_nonneg n (show (m : Int) ≠ 0 by omega)
    go_enter Tryd.func25, Tryd.ntmps25
    go_wp2
    go_ret
    exact ⟨ret_is HW.out.symm, rfl⟩
  · obtain ⟨g1, g2, g3, g4⟩ := tmod_facts n m (by omega) hm1
    have G3 := Lib.hid g3
    have G4 := Lib.hid g4
    clear g3 g4
    by_cases hz : n.tmod m < 0
    · go_enter Tryd.func25, Tryd.ntmps25
      go_wp2
      go_ret
      exact ⟨ret_is ((G3.out hz).trans HW.out.symm), rfl⟩
    · go_enter Tryd.func25, Tryd.ntmps25
      go_wp2
      go_ret
      exact ⟨ret_is ((G4.out hz).trans HW.out.symm), rfl⟩


set_option maxHeartbeats 1000000 in
set_option maxRecDepth 100000 in
theorem next_none (B a n cap m : Nat) (p : Option Addr) (w : World) (h0 : w.cell? ⟨B, 0, none⟩ = some (.slice p n cap)) (h1 : w.cell? ⟨B, 1, none⟩ = some (.int .i64 (a : Int))) (ha : n ≤ a) :
    Calls Tryd.prog 29 #[.pointer (some ⟨B, 0, none⟩), .int .i64 (m : Int)] w fun e w' => e = .returned (.int .i64 0) ∧ ∃ q, w' = w.drewN q := by
  have a1 : (n : Int) ≤ (a : Int) := by omega
  go_enter Tryd.func29, Tryd.ntmps29
  go_wp2
  go_quiet (fail)
  go_wp2
  go_ret
  exact ⟨rfl, _, rfl⟩

/-- A tape in memory: block B holds the row of numbers and a place in it; it is newer than w, and the numbers came in with w. -/
structure TapeAt (w : World) (v : Value) (n B : Nat) (W : World) : Prop where
  ints : IntsIn w v n
  new : w.heap.size ≤ B
  row : W.cell? ⟨B, 0, none⟩ = some v
  at_ : ∃ a : Nat, a ≤ n ∧ W.cell? ⟨B, 1, none⟩ = some (.int .i64 (a : Int))
  free : W.frozen? ⟨B, 1, none⟩ = false
  below : Below w.heap.size w W
theorem TapeAt.on {w : World} {v : Value} {n B : Nat} {W W' : World} (h : TapeAt w v n B W) (hb : Below W.heap.size W W') (hB : B < W.heap.size) : TapeAt w v n B W' := by
  obtain ⟨a, ha, hc⟩ := h.at_
  exact ⟨h.ints, h.new, (hb.cell (p := ⟨B, 0, none⟩) hB).trans h.row, ⟨a, ha, (hb.cell (p := ⟨B, 1, none⟩) hB).trans hc⟩, (hb.frozen (p := ⟨B, 1, none⟩) hB).trans h.free, h.below.trans (hb.mono h.below.size)⟩
theorem TapeAt.drewN {w : World} {v : Value} {n B : Nat} {W : World} (h : TapeAt w v n B W) (q : Nat) : TapeAt w v n B (W.drewN q) := by
  obtain ⟨a, ha, hc⟩ := h.at_
  exact ⟨h.ints, h.new, by simpa using h.row, ⟨a, ha, by simpa using hc⟩, by simpa using h.free, below_drewN h.below q⟩
theorem TapeAt.made (w : World) (v : Value) (n : Nat) (t : TypeId) (h : IntsIn w v n) : TapeAt w v n w.heap.size (w.alloc (.cells #[v, .int .i64 0] t)) := by
  have c0 : ∀ j, (w.alloc (.cells #[v, .int .i64 0] t)).cell? ⟨w.heap.size, j, none⟩ = (#[v, .int .i64 0] : Array Value)[j]? := fun j => World.cell?_alloc_mark w _ t (0, 0) j
  exact ⟨h, Nat.le_refl _, by rw [c0]; rfl, ⟨0, Nat.zero_le _, by rw [c0]; rfl⟩, by rw [World.frozen?_alloc_mark]; rfl, (Below.refl _ w).alloc (Nat.le_refl _) _⟩
/-- What Next leaves: the place in the tape may be another; all else stands. -/
def Stepped (B : Nat) (W W' : World) : Prop := ∃ q1 q2 : Nat, W' = W.drewN q1 ∨ ∃ u, W' = ((W.drewN q1).setCell ⟨B, 1, none⟩ u).drewN q2
theorem Stepped.cell {B : Nat} {W W' : World} (h : Stepped B W W') (g o : Nat) (hne : g ≠ B ∨ o ≠ 1) : W'.cell? ⟨g, o, none⟩ = W.cell? ⟨g, o, none⟩ := by
  obtain ⟨q1, q2, rfl | ⟨u, rfl⟩⟩ := h
  · simp
  · rw [World.cell?_drewN, World.cell?_setCell_other _ _ _ _ (by simp; omega), World.cell?_drewN]
theorem Stepped.frozen {B : Nat} {W W' : World} (h : Stepped B W W') (g o : Nat) : W'.frozen? ⟨g, o, none⟩ = W.frozen? ⟨g, o, none⟩ := by
  obtain ⟨q1, q2, rfl | ⟨u, rfl⟩⟩ := h
  · simp
  · rw [World.frozen?_drewN, World.frozen?_setCell, World.frozen?_drewN]
theorem Stepped.size {B : Nat} {W W' : World} (h : Stepped B W W') : W'.heap.size = W.heap.size := by
  obtain ⟨q1, q2, rfl | ⟨u, rfl⟩⟩ := h
  · simp
  · simp
theorem Stepped.below {B n : Nat} {w W W' : World} (h : Stepped B W W') (hb : Below n w W) (hB : n ≤ B) : Below n w W' := by
  obtain ⟨q1, q2, rfl | ⟨u, rfl⟩⟩ := h
  · exact below_drewN hb q1
  · exact below_drewN ((below_drewN hb q1).setCell hB _) q2
/-- What Next tells: a number below m; the tape stands. -/
def NextT (w : World) (v : Value) (n B m : Nat) (W : World) (e : Ending) (W' : World) : Prop := ∃ r : Nat, r < m ∧ e = .returned (.int .i64 (r : Int)) ∧ Stepped B W W' ∧ TapeAt w v n B W'
theorem tape_next (w : World) (v : Value) (n B m : Nat) (W : World) (h : TapeAt w v n B W) (hm1 : 1 ≤ m) (hm2 : m ≤ 2147483647) :
    Calls Tryd.prog 29 #[.pointer (some ⟨B, 0, none⟩), .int .i64 (m : Int)] W (NextT w v n B m W) := by
  obtain ⟨a, ha, hc⟩ := h.at_
  have hnew := h.new
  by_cases hlt : a < n
  · rcases h.ints with ⟨p, cap, hv, h0⟩ | ⟨g, off, cap, hv, hg, hn, hz⟩
    · omega
    · obtain ⟨z, hz1, hz2, hz3⟩ := hz a hlt
      refine (next_any B a n cap g off m z W (by rw [h.row, hv]) hc h.free hlt hn (by omega) ((h.below.cell (p := ⟨g, off + a, none⟩) hg).trans hz1) hz2 hz3 hm1 hm2).mono ?_
      rintro e w' ⟨r, q1, q2, hr, rfl, rfl⟩
      have hS : Stepped B W (((W.drewN q1).setCell ⟨B, 1, none⟩ (.int .i64 ((a : Int) + 1))).drewN q2) := ⟨q1, q2, Or.inr ⟨_, rfl⟩⟩
      refine ⟨r, hr, rfl, hS, h.ints, h.new, ?_, ⟨a + 1, hlt, ?_⟩, ?_, hS.below h.below h.new⟩
      · rw [hS.cell B 0 (Or.inr (by omega))]; exact h.row
      · rw [World.cell?_drewN, World.cell?_setCell_same _ _ _ (by rw [World.cell?_drewN]; exact hc)]
        rw [show ((a + 1 : Nat) : Int) = (a : Int) + 1 by omega]
      · rw [hS.frozen]; exact h.free
  · have hv : ∃ p cap, v = .slice p n cap := by
      rcases h.ints with ⟨p, cap, hv, h0⟩ | ⟨g, off, cap, hv, _⟩
      · exact ⟨p, cap, by rw [hv, h0]⟩
      · exact ⟨_, cap, hv⟩
    obtain ⟨p, cap, hv⟩ := hv
    refine (next_none B a n cap m p W (by rw [h.row, hv]) hc (by omega)).mono ?_
    rintro e w' ⟨rfl, q, rfl⟩
    exact ⟨0, by omega, rfl, ⟨q, 0, Or.inl rfl⟩, h.drewN q⟩
/-- .. and More: whichever; the tape stands. -/
theorem tape_more (w : World) (v : Value) (n B : Nat) (W : World) (h : TapeAt w v n B W) :
    Calls Tryd.prog 28 #[.pointer (some ⟨B, 0, none⟩)] W fun e W' => ∃ b q, e = .returned (.bool b) ∧ W' = W.drewN q := by
  obtain ⟨a, ha, hc⟩ := h.at_
  have hv : ∃ p cap, v = .slice p n cap := by
    rcases h.ints with ⟨p, cap, hv, h0⟩ | ⟨g, off, cap, hv, _⟩
    · exact ⟨p, cap, by rw [hv, h0]⟩
    · exact ⟨_, cap, hv⟩
  obtain ⟨p, cap, hv⟩ := hv
  refine (more_any B a n cap p W _ (by rw [h.row, hv]) hc rfl).mono ?_
  rintro e w' ⟨rfl, q, rfl⟩
  exact ⟨_, q, rfl, rfl⟩

namespace Plain
def tpieces : List (List UInt8) := [[32], [9], [10], [47], [62], [61], [34], [39], [97], [66], [104, 114, 101, 102], [99, 108, 97, 115, 115], [120, 45, 121], [0], [60], [38, 108, 116, 59], [38, 97, 109, 112], [38, 99, 111, 112, 121, 61], [49], [12], [195, 169], [47, 62], [32, 97, 61, 98], [32, 99, 61, 39, 100, 39], [32, 101, 61, 34, 102, 38, 103, 116, 59, 34], [32, 103, 32, 61, 32, 104], [32, 97, 61, 122], [32, 61, 105], [32, 106, 61], [96], [97, 61, 34, 38, 35, 49, 51, 59, 34]]
def theads : List (List UInt8) := [[60, 97], [60, 47, 97], [60, 68, 73, 86], [60, 112, 32], [60, 47, 112, 10], [60, 98, 0, 99], [60, 105, 109, 103], [60, 120, 47], [60, 49], [60, 47], [60], [60, 47, 49]]
theorem tpieces_ok : ∀ j, j < 31 → (tpieces.getD j []).length ≤ 10 := by decide
theorem theads_ok : ∀ j, j < 12 → 1 ≤ (theads.getD j []).length ∧ (theads.getD j []).length ≤ 4 := by decide
end Plain
def tpieceCells : Array Value := (Plain.tpieces.map strV).toArray
theorem tpiece_at (j : Nat) (h : j < 31) : tpieceCells[j]? = some (.string ⟨(Plain.tpieces.getD j []).toArray⟩) := by
  have hl : Plain.tpieces.length = 31 := rfl
  unfold tpieceCells
  rw [List.getElem?_toArray, List.getElem?_map, List.getElem?_eq_getElem (by omega), List.getD_eq_getElem?_getD, List.getElem?_eq_getElem (by omega)]
  rfl
def theadCells : Array Value := (Plain.theads.map strV).toArray
theorem thead_at (j : Nat) (h : j < 12) : theadCells[j]? = some (.string ⟨(Plain.theads.getD j []).toArray⟩) := by
  have hl : Plain.theads.length = 12 := rfl
  unfold theadCells
  rw [List.getElem?_toArray, List.getElem?_map, List.getElem?_eq_getElem (by omega), List.getD_eq_getElem?_getD, List.getElem?_eq_getElem (by omega)]
  rfl
/-- What the loop of the law's text keeps. -/
structure TextAt (w : World) (v : Value) (n i : Nat) (acc : List UInt8) (wr : World) : Prop where
  len0 : 1 ≤ acc.length
  len : acc.length ≤ 4 + 10 * i
  tape : TapeAt w v n w.heap.size wr
  piece : ∀ j, j < 31 → wr.cell? ⟨w.heap.size + 1, j, none⟩ = some (.string ⟨(Plain.tpieces.getD j []).toArray⟩)
/-- What Html tells: a text, not empty, not long. -/
def Html3Out (w : World) (e : Ending) (w' : World) : Prop := ∃ h : List UInt8, e = .returned (.string ⟨h.toArray⟩) ∧ 1 ≤ h.length ∧ h.length ≤ 400 ∧ Below w.heap.size w w'

set_option maxHeartbeats 2000000 in
set_option maxRecDepth 100000 in
theorem html3_any (v : Value) (n : Nat) (w : World) (hv : IntsIn w v n) : Calls Tryd.prog 31 #[v] w (Html3Out w) := by
  obtain ⟨p, cap, hvv⟩ : ∃ p cap, v = .slice p n cap := by
    rcases hv with ⟨p, cap, rfl, rfl⟩ | ⟨g, off, cap, rfl, _⟩
    · exact ⟨p, cap, rfl⟩
    · exact ⟨_, cap, rfl⟩
  subst hvv
  have HV := Lib.hid hv
  clear hv
  go_enter Tryd.func31, Tryd.ntmps31
  have hT : TapeAt w (.slice p n cap) n w.heap.size (((w.alloc (.cells #[.slice p n cap, .int .i64 0] 54)).alloc (.cells tpieceCells 9)).alloc (.cells theadCells 9)) :=
    ((TapeAt.made w _ n _ HV.out).on ((Below.refl _ _).alloc (Nat.le_refl _) _) (by simp)).on ((Below.refl _ _).alloc (Nat.le_refl _) _) (by simp; omega)
  have hP : ∀ j, j < 31 → (((w.alloc (.cells #[.slice p n cap, .int .i64 0] 54)).alloc (.cells tpieceCells 9)).alloc (.cells theadCells 9)).cell? ⟨w.heap.size + 1, j, none⟩ = some (.string ⟨(Plain.tpieces.getD j []).toArray⟩) := by
    intro j hj
    have h := World.cell?_alloc_mark (w.alloc (.cells #[.slice p n cap, .int .i64 0] 54)) tpieceCells 9 (0, 0) j
    rw [show (w.alloc (.cells #[.slice p n cap, .int .i64 0] 54)).heap.size = w.heap.size + 1 by simp] at h
    rw [World.cell?_alloc_lt _ _ _ (by simp), h, tpiece_at j hj]
  have hH : ∀ j, j < 12 → (((w.alloc (.cells #[.slice p n cap, .int .i64 0] 54)).alloc (.cells tpieceCells 9)).alloc (.cells theadCells 9)).cell? ⟨w.heap.size + 1 + 1, j, none⟩ = some (.string ⟨(Plain.theads.getD j []).toArray⟩) := by
    intro j hj
    have h := World.cell?_alloc_mark ((w.alloc (.cells #[.slice p n cap, .int .i64 0] 54)).alloc (.cells tpieceCells 9)) theadCells 9 (0, 0) j
    rw [show ((w.alloc (.cells #[.slice p n cap, .int .i64 0] 54)).alloc (.cells tpieceCells 9)).heap.size = w.heap.size + 1 + 1 by simp] at h
    rw [h, thead_at j hj]
  have HT := Lib.hid hT
  have HP := Lib.hid hP
  have HH := Lib.hid hH
  clear hT hP hH
  go_wp2_with fail
  refine (tape_next w _ n w.heap.size 12 _ HT.out (by omega) (by omega)).mono ?_
  rintro e W1 ⟨r, hr, rfl, hS, hT1⟩
  have HP1 : Hid (∀ j, j < 31 → W1.cell? ⟨w.heap.size + 1, j, none⟩ = some (.string ⟨(Plain.tpieces.getD j []).toArray⟩)) := Lib.hid fun j hj => (hS.cell _ _ (Or.inl (by omega))).trans (HP.out j hj)
  have hc := (hS.cell (w.heap.size + 1 + 1) r (Or.inl (by omega))).trans (HH.out r hr)
  have HT1 := Lib.hid hT1
  have hl := Plain.theads_ok r hr
  have r0 : (0 : Int) ≤ (r : Int) := by omega
  have r1 : (r : Int) < 12 := by omega
  have hsz : (⟨(Plain.theads.getD r []).toArray⟩ : ByteArray).size ≤ 4 := by show (Plain.theads.getD r []).toArray.size ≤ _; rw [List.size_toArray]; exact hl.2
  clear hS hT1 HT HP HH
  generalize Plain.theads.getD r [] = A0 at *
  go_wp2_with fail
  go_loopw [5, 6] (fun o x wr => ∃ (i : Nat) (acc : List UInt8), i ≤ 30 ∧ x = .int .i64 (i : Int) ∧ o = .string ⟨acc.toArray⟩ ∧ TextAt w (.slice p n cap) n i acc wr) (fun _ x _ => 30 - (intOf x).toNat)
  case atStart => exact ⟨0, A0, by omega, rfl, rfl, hl.1, by omega, HT1.out, HP1.out⟩
  case round =>
    obtain ⟨i, acc, hi, rfl, rfl, hX⟩ := hrel
    have hal := hX.len
    have hsa : (⟨acc.toArray⟩ : ByteArray).size ≤ 400 := by show acc.toArray.size ≤ _; simp; omega
    have HX := Lib.hid hX
    clear hX
    by_cases h30 : i < 30
    · go_wp2_with fail
      refine (tape_more w _ n w.heap.size wr HX.out.tape).mono ?_
      rintro e w1 ⟨bm, m1, rfl, rfl⟩
      cases bm
      · have HB := Lib.hid (below_drewN HX.out.tape.below m1)
        go_wp2
        go_ret
        exact ⟨acc, rfl, HX.out.len0, by omega, HB.out⟩
      · go_wp2_with fail
        refine (tape_next w _ n w.heap.size 31 _ (HX.out.tape.drewN m1) (by omega) (by omega)).mono ?_
        rintro e w2 ⟨q, hq, rfl, hS, hT2⟩
        have HP2 : Hid (∀ j, j < 31 → w2.cell? ⟨w.heap.size + 1, j, none⟩ = some (.string ⟨(Plain.tpieces.getD j []).toArray⟩)) := Lib.hid fun j hj => (hS.cell _ _ (Or.inl (by omega))).trans ((World.cell?_drewN ..).trans (HX.out.piece j hj))
        have hpc := HP2.out q hq
        have hp2 := Plain.tpieces_ok q hq
        have hsp : (⟨(Plain.tpieces.getD q []).toArray⟩ : ByteArray).size ≤ 10 := by show (Plain.tpieces.getD q []).toArray.size ≤ _; rw [List.size_toArray]; exact hp2
        have HT2 := Lib.hid hT2
        have r0 : (0 : Int) ≤ (q : Int) := by omega
        have r1 : (q : Int) < 31 := by omega
        have hl0 := HX.out.len0
        clear hS hT2 HX
        generalize Plain.tpieces.getD q [] = P at *
        go_wp2
        exact ⟨⟨i + 1, acc ++ P, by omega, by go_num, congrArg Value.string (str_app acc P), by rw [List.length_append]; omega, by rw [List.length_append]; omega, HT2.out, HP2.out⟩, by simp [intOf]; omega⟩
    · go_wp2
      go_ret
      exact ⟨acc, rfl, HX.out.len0, by omega, HX.out.tape.below⟩
end Go.Proofs.YtgelgfgcdfnacaaDoor
