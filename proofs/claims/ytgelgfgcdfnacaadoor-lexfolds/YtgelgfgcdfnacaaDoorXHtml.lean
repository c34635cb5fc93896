/-
  The walks of the laws' own in chapter 4: within, last, the text of numbers. Any slice of numbers.
-/
import Derived.Test.YtgelgfgcdfnacaaDoorUHtml
import Derived.Deep.RegionWith
namespace Go.Proofs.YtgelgfgcdfnacaaDoor
open Go.RowKit

set_option maxHeartbeats 1000000 in
theorem within4 (n : Int) (m : Nat) (w : World) (h0 : -9223372036854775808 ≤ n) (h1 : n ≤ 9223372036854775807) (hm1 : 1 ≤ m) (hm2 : m ≤ 2147483647) :
    Calls Tryd.prog 15 #[.int .i64 n, .int .i64 (m : Int)] w (Gives (.int .i64 ((Within n m : Nat) : Int)) w) := by
  have HW := Lib.hid (within_lt n m hm1).2
  by_cases hn : 0 ≤ n
  · have g1 := Int.emod_nonneg n (show (m : Int) ≠ 0 by omega)
    go_enter Tryd.func15, Tryd.ntmps15
    go_wp2
    go_ret
    exact ⟨ret_is HW.out.symm, rfl⟩
  · obtain ⟨g1, g2, g3, g4⟩ := tmod_facts n m (by omega) hm1
    have G3 := Lib.hid g3
    have G4 := Lib.hid g4
    clear g3 g4
    by_cases hz : n.tmod m < 0
    · go_enter Tryd.func15, Tryd.ntmps15
      go_wp2
      go_ret
      exact ⟨ret_is ((G3.out hz).trans HW.out.symm), rfl⟩
    · go_enter Tryd.func15, Tryd.ntmps15
      go_wp2
      go_ret
      exact ⟨ret_is ((G4.out hz).trans HW.out.symm), rfl⟩

namespace Plain
def lpieces : List (List UInt8) := [[60], [60, 47], [62], [60, 33, 45, 45], [45, 45, 62], [45, 45, 33, 62], [45, 62], [45], [60, 33, 45, 45, 62], [60, 33, 45, 45, 45, 62], [60, 33, 91, 67, 68, 65, 84, 65, 91], [93, 93, 62], [93], [60, 33, 100, 111, 99, 116, 121, 112, 101, 32, 104, 116, 109, 108, 62], [60, 33, 68, 79, 67, 84, 89, 80, 69], [60, 33, 120], [60, 63, 112, 104, 112, 32], [60, 47, 62], [60, 47, 32, 97, 62], [60, 47, 112, 62], [60, 112, 62], [60, 98, 32, 97, 61, 49, 62], [60, 47, 116, 105, 116, 108, 101, 62], [60, 47, 84, 73, 84, 76, 69, 32], [60, 47, 116, 105, 116, 108, 101, 47], [60, 47, 116, 105, 116, 108, 101, 120, 62], [60, 47, 115, 116, 121, 108, 101, 62], [60, 47, 115, 99, 114, 105, 112, 116, 10, 62], [60, 116, 105, 116, 108, 101, 62], [38, 108, 116, 59], [38, 97, 109, 112], [0], [116, 101, 120, 116], [32], [10], [97, 60, 98], [60, 49], [61, 34, 120, 34], [39], [60, 98, 114, 47, 62], [38], [93, 93, 38, 103, 116, 59]]
theorem lpieces_ok : ∀ j, j < 42 → (lpieces.getD j []).length ≤ 20 := by decide
def lasts : List (List UInt8) := [[116, 105, 116, 108, 101], [115, 116, 121, 108, 101], [115, 99, 114, 105, 112, 116], [112], [84, 105, 116, 108, 101], [], [116, 101, 120, 116, 97, 114, 101, 97], [49], [116]]
theorem lasts_ok : ∀ j, j < 9 → (lasts.getD j []).length ≤ 20 := by decide
end Plain
def lpieceCells : Array Value := (Plain.lpieces.map strV).toArray
theorem lpiece_at (j : Nat) (h : j < 42) : lpieceCells[j]? = some (.string ⟨(Plain.lpieces.getD j []).toArray⟩) := by
  have hl : Plain.lpieces.length = 42 := rfl
  unfold lpieceCells
  rw [List.getElem?_toArray, List.getElem?_map, List.getElem?_eq_getElem (by omega), List.getD_eq_getElem?_getD, List.getElem?_eq_getElem (by omega)]
  rfl
def lastCells : Array Value := (Plain.lasts.map strV).toArray
theorem last_at (j : Nat) (h : j < 9) : lastCells[j]? = some (.string ⟨(Plain.lasts.getD j []).toArray⟩) := by
  have hl : Plain.lasts.length = 9 := rfl
  unfold lastCells
  rw [List.getElem?_toArray, List.getElem?_map, List.getElem?_eq_getElem (by omega), List.getD_eq_getElem?_getD, List.getElem?_eq_getElem (by omega)]
  rfl

/-- What last tells: one of nine. -/
def LastOut (k : Int) (w : World) (e : Ending) (w' : World) : Prop := e = .returned (.string ⟨(Plain.lasts.getD (Within k 9) []).toArray⟩) ∧ Below w.heap.size w w'
set_option maxHeartbeats 1000000 in
set_option maxRecDepth 100000 in
theorem last4 (k : Int) (w : World) (h0 : -9223372036854775808 ≤ k) (h1 : k ≤ 9223372036854775807) : Calls Tryd.prog 16 #[.int .i64 k] w (LastOut k w) := by
  have HW := fun W => Lib.hid (within4 k 9 W h0 h1 (by omega) (by omega))
  have hr := (within_lt k 9 (by omega)).1
  unfold LastOut
  generalize Within k 9 = r at *
  have hc : ∀ j, j < 9 → (w.alloc (.cells lastCells 9)).cell? ⟨w.heap.size, j, none⟩ = some (.string ⟨(Plain.lasts.getD j []).toArray⟩) := by
    intro j hj
    exact (World.cell?_alloc_mark w lastCells 9 (0, 0) j).trans (last_at j hj)
  have hcr := hc r hr
  clear hc
  go_enter Tryd.func16, Tryd.ntmps16
  go_wp2_with fail
  have HB : Below w.heap.size w (w.alloc (.cells lastCells 9)) := (Below.refl _ w).alloc (Nat.le_refl _) _
  refine (HW (w.alloc (.cells lastCells 9))).out.mono ?_
  rintro e w1 ⟨rfl, rfl⟩
  have hlt : w.heap.size < (w.alloc (.cells lastCells 9)).heap.size := by simp
  generalize w.alloc (.cells lastCells 9) = W1 at *
  obtain ⟨X, hX⟩ : ∃ X : ByteArray, (⟨(Plain.lasts.getD r []).toArray⟩ : ByteArray) = X := ⟨_, rfl⟩
  rw [hX] at hcr
  have HXX := Lib.hid hX
  clear hX
  have r0 : (0 : Int) ≤ (r : Int) := by omega
  have r1 : (r : Int) < 9 := by omega
  go_wp2_with fail
  go_ret
  exact ⟨by rw [HXX.out]; rfl, HB⟩

/-- What the loop of the law's text keeps. -/
structure LexAt (w : World) (v : Value) (n i : Nat) (acc : List UInt8) (wr : World) : Prop where
  len : acc.length ≤ 1000 * i
  tape : TapeAt w v n w.heap.size wr
  piece : ∀ j, j < 42 → wr.cell? ⟨w.heap.size + 1, j, none⟩ = some (.string ⟨(Plain.lpieces.getD j []).toArray⟩)
  big : w.heap.size + 1 < wr.heap.size
theorem LexAt.on {w : World} {v : Value} {n i : Nat} {acc : List UInt8} {W W' : World} (h : LexAt w v n i acc W) (hb : Below W.heap.size W W') : LexAt w v n i acc W' :=
  ⟨h.len, h.tape.on hb (by have := h.big; omega), fun j hj => (hb.cell (p := ⟨w.heap.size + 1, j, none⟩) h.big).trans (h.piece j hj), Nat.lt_of_lt_of_le h.big hb.size⟩
theorem LexAt.drewN {w : World} {v : Value} {n i : Nat} {acc : List UInt8} {W : World} (h : LexAt w v n i acc W) (q : Nat) : LexAt w v n i acc (W.drewN q) :=
  ⟨h.len, h.tape.drewN q, fun j hj => (World.cell?_drewN ..).trans (h.piece j hj), by simpa using h.big⟩
theorem LexAt.step {w : World} {v : Value} {n i : Nat} {acc : List UInt8} {W W' : World} (h : LexAt w v n i acc W) (hS : Stepped w.heap.size W W') (hT : TapeAt w v n w.heap.size W') : LexAt w v n i acc W' :=
  ⟨h.len, hT, fun j hj => (hS.cell _ _ (Or.inl (by omega))).trans (h.piece j hj), by rw [hS.size]; exact h.big⟩
theorem LexAt.add {w : World} {v : Value} {n i : Nat} {acc x : List UInt8} {W : World} (h : LexAt w v n i acc W) (hx : x.length ≤ 1000) : LexAt w v n (i + 1) (acc ++ x) W :=
  ⟨by rw [List.length_append]; have := h.len; omega, h.tape, h.piece, h.big⟩
theorem IntsIn.made (W : World) (zs : List Int) (t : TypeId) (hz : ∀ z ∈ zs, -9223372036854775808 ≤ z ∧ z ≤ 9223372036854775807) (hl : zs.length ≤ 1000) : IntsIn (W.alloc (.cells (zs.map fun z => Value.int .i64 z).toArray t)) (.slice (some ⟨W.heap.size, 0, none⟩) zs.length zs.length) zs.length := by
  refine Or.inr ⟨W.heap.size, 0, zs.length, rfl, by simp, by unfold maxLen; omega, fun j hj => ⟨zs[j], ?_, hz _ (List.getElem_mem hj)⟩⟩
  refine (World.cell?_alloc_mark W _ t (0, 0) (0 + j)).trans ?_
  rw [Nat.zero_add, List.getElem?_toArray, List.getElem?_map, List.getElem?_eq_getElem hj]
  rfl
/-- What Html tells: a text, not long. -/
def Html4Out (w : World) (e : Ending) (w' : World) : Prop := ∃ h : List UInt8, e = .returned (.string ⟨h.toArray⟩) ∧ h.length ≤ 40000 ∧ Below w.heap.size w w'

set_option maxHeartbeats 4000000 in
set_option maxRecDepth 100000 in
theorem html4_any (v : Value) (n : Nat) (w : World) (hv : IntsIn w v n) : Calls Tryd.prog 13 #[v] w (Html4Out w) := by
  obtain ⟨p, cap, hvv⟩ : ∃ p cap, v = .slice p n cap := by
    rcases hv with ⟨p, cap, rfl, rfl⟩ | ⟨g, off, cap, rfl, _⟩
    · exact ⟨p, cap, rfl⟩
    · exact ⟨_, cap, rfl⟩
  subst hvv
  have HV := Lib.hid hv
  clear hv
  have hT : TapeAt w (.slice p n cap) n w.heap.size ((w.alloc (.cells #[.slice p n cap, .int .i64 0] 54)).alloc (.cells lpieceCells 9)) :=
    (TapeAt.made w _ n _ HV.out).on ((Below.refl _ _).alloc (Nat.le_refl _) _) (by simp)
  have hP : ∀ j, j < 42 → ((w.alloc (.cells #[.slice p n cap, .int .i64 0] 54)).alloc (.cells lpieceCells 9)).cell? ⟨w.heap.size + 1, j, none⟩ = some (.string ⟨(Plain.lpieces.getD j []).toArray⟩) := by
    intro j hj
    have h := World.cell?_alloc_mark (w.alloc (.cells #[.slice p n cap, .int .i64 0] 54)) lpieceCells 9 (0, 0) j
    rw [show (w.alloc (.cells #[.slice p n cap, .int .i64 0] 54)).heap.size = w.heap.size + 1 by simp] at h
    rw [h, lpiece_at j hj]
  have HX0 : Hid (LexAt w (.slice p n cap) n 0 [] ((w.alloc (.cells #[.slice p n cap, .int .i64 0] 54)).alloc (.cells lpieceCells 9))) := Lib.hid ⟨by simp, hT, hP, by simp⟩
  clear hT hP
  go_enter Tryd.func13, Tryd.ntmps13
  go_wp2_with fail
  go_loopw [5, 6] (fun o x wr => ∃ (i : Nat) (acc : List UInt8), i ≤ 40 ∧ x = .int .i64 (i : Int) ∧ o = .string ⟨acc.toArray⟩ ∧ LexAt w (.slice p n cap) n i acc wr) (fun _ x _ => 40 - (intOf x).toNat)
  case atStart => exact ⟨0, [], by omega, rfl, rfl, HX0.out⟩
  case round =>
    obtain ⟨i, acc, hi, rfl, rfl, hX⟩ := hrel
    have hal := hX.len
    have hsa : (⟨acc.toArray⟩ : ByteArray).size ≤ 40000 := by show acc.toArray.size ≤ _; simp; omega
    have HX := Lib.hid hX
    clear hX HX0
    by_cases h40 : i < 40
    · go_wp2_with fail
      refine (tape_more w _ n w.heap.size wr HX.out.tape).mono ?_
      rintro e w1 ⟨bm, m1, rfl, rfl⟩
      cases bm
      · have HB := Lib.hid (below_drewN HX.out.tape.below m1)
        go_wp2
        go_ret
        exact ⟨acc, rfl, by omega, HB.out⟩
      · have HX1 := Lib.hid (HX.out.drewN m1)
        generalize wr.drewN m1 = W1 at *
        clear HX
        go_wp2_with fail
        refine (tape_next w _ n w.heap.size 46 _ HX1.out.tape (by omega) (by omega)).mono ?_
        rintro e W2 ⟨q, hq, rfl, hS, hT2⟩
        have HX2 := Lib.hid (HX1.out.step hS hT2)
        clear hS hT2 HX1
        have r0 : (0 : Int) ≤ (q : Int) := by omega
        by_cases hq1 : q < 42
        · have hpc := HX2.out.piece q hq1
          have hp2 := Plain.lpieces_ok q hq1
          have hsp : (⟨(Plain.lpieces.getD q []).toArray⟩ : ByteArray).size ≤ 20 := by show (Plain.lpieces.getD q []).toArray.size ≤ _; rw [List.size_toArray]; exact hp2
          have r1 : (q : Int) < 42 := by omega
          have hbg := HX2.out.big
          generalize Plain.lpieces.getD q [] = P at *
          go_wp2
          exact ⟨⟨i + 1, acc ++ P, by omega, by go_num, congrArg Value.string (str_app acc P), HX2.out.add (by omega)⟩, by simp [intOf]; omega⟩
        · have r1 : ¬ (q : Int) < 42 := by omega
          by_cases hq2 : q = 42
          · have q2 : ((q : Int) == 42) = true := by simp [hq2]
            go_wp2_with fail
            refine (tape_next w _ n w.heap.size 60 _ HX2.out.tape (by omega) (by omega)).mono ?_
            rintro e Y0 ⟨y0, hy0, rfl, hS, hT2⟩
            have HY0 := Lib.hid (HX2.out.step hS hT2)
            clear hS hT2 HX2
            go_wp2_with fail
            refine (tape_next w _ n w.heap.size 60 _ HY0.out.tape (by omega) (by omega)).mono ?_
            rintro e Y1 ⟨y1, hy1, rfl, hS, hT2⟩
            have HY1 := Lib.hid (HY0.out.step hS hT2)
            clear hS hT2 HY0
            go_wp2_with fail
            have hI := IntsIn.made Y1 [(y0 : Int), (y1 : Int)] 3 (by simp; omega) (by simp)
            have HI : Hid (IntsIn (Y1.alloc (.cells #[.int .i64 (y0 : Int), .int .i64 (y1 : Int)] 3)) (.slice (some ⟨Y1.heap.size, 0, none⟩) 2 2) 2) := Lib.hid hI
            have HZ := Lib.hid (HY1.out.on ((Below.refl _ Y1).alloc (Nat.le_refl _) (.cells #[.int .i64 (y0 : Int), .int .i64 (y1 : Int)] 3)))
            clear hI HY1
            generalize Y1.alloc (.cells #[.int .i64 (y0 : Int), .int .i64 (y1 : Int)] 3) = Z at *
            refine (html_any _ 2 Z HI.out).mono ?_
            rintro e Z2 ⟨x, rfl, _, hxl, b2⟩
            have HZ2 := Lib.hid (HZ.out.on b2)
            clear HZ b2 HI
            have hxs : (⟨x.toArray⟩ : ByteArray).size ≤ 1000 := by show x.toArray.size ≤ _; simp; omega
            go_wp2_with fail
            exact ⟨⟨i + 1, acc ++ x, by omega, by go_num, congrArg Value.string (str_app acc x), HZ2.out.add (by omega)⟩, by simp [intOf]; omega⟩
          · have q2 : ((q : Int) == 42) = false := beq_eq_false_iff_ne.2 (by omega)
            go_wp2_with fail
            refine (tape_next w _ n w.heap.size 12 _ HX2.out.tape (by omega) (by omega)).mono ?_
            rintro e Y0 ⟨y0, hy0, rfl, hS, hT2⟩
            have HY0 := Lib.hid (HX2.out.step hS hT2)
            clear hS hT2 HX2
            go_wp2_with fail
            refine (tape_next w _ n w.heap.size 40 _ HY0.out.tape (by omega) (by omega)).mono ?_
            rintro e Y1 ⟨y1, hy1, rfl, hS, hT2⟩
            have HY1 := Lib.hid (HY0.out.step hS hT2)
            clear hS hT2 HY0
            go_wp2_with fail
            refine (tape_next w _ n w.heap.size 40 _ HY1.out.tape (by omega) (by omega)).mono ?_
            rintro e Y2 ⟨y2, hy2, rfl, hS, hT2⟩
            have HY2 := Lib.hid (HY1.out.step hS hT2)
            clear hS hT2 HY1
            go_wp2_with fail
            have hI := IntsIn.made Y2 [(y0 : Int), (y1 : Int), (y2 : Int), 4] 3 (by simp; omega) (by simp)
            have HI : Hid (IntsIn (Y2.alloc (.cells #[.int .i64 (y0 : Int), .int .i64 (y1 : Int), .int .i64 (y2 : Int), .int .i64 4] 3)) (.slice (some ⟨Y2.heap.size, 0, none⟩) 4 4) 4) := Lib.hid hI
            have HZ := Lib.hid (HY2.out.on ((Below.refl _ Y2).alloc (Nat.le_refl _) (.cells #[.int .i64 (y0 : Int), .int .i64 (y1 : Int), .int .i64 (y2 : Int), .int .i64 4] 3)))
            clear hI HY2
            generalize Y2.alloc (.cells #[.int .i64 (y0 : Int), .int .i64 (y1 : Int), .int .i64 (y2 : Int), .int .i64 4] 3) = Z at *
            refine (html3_any _ 4 Z HI.out).mono ?_
            rintro e Z2 ⟨x, rfl, _, hxl, b2⟩
            have HZ2 := Lib.hid (HZ.out.on b2)
            clear HZ b2 HI
            have hxs : (⟨x.toArray⟩ : ByteArray).size ≤ 1000 := by show x.toArray.size ≤ _; simp; omega
            go_wp2_with fail
            exact ⟨⟨i + 1, acc ++ x, by omega, by go_num, congrArg Value.string (str_app acc x), HZ2.out.add (by omega)⟩, by simp [intOf]; omega⟩
    · go_wp2
      go_ret
      exact ⟨acc, rfl, by omega, HX.out.tape.below⟩
end Go.Proofs.YtgelgfgcdfnacaaDoor
