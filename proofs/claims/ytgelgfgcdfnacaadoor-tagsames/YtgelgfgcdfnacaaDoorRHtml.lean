/-
  The walks of the laws' own: within, the tape, the text of numbers. Any slice of numbers.
-/
import Derived.Test.YtgelgfgcdfnacaaDoorRExp
namespace Go.Proofs.YtgelgfgcdfnacaaDoor
open Go.RowKit

/-- What within tells: a number from 0 to m - 1. -/
def Within (n : Int) (m : Nat) : Nat := (n % (m : Int)).toNat
theorem within_lt (n : Int) (m : Nat) (h : 1 ≤ m) : Within n m < m ∧ ((Within n m : Nat) : Int) = n % (m : Int) := by
  unfold Within
  have g1 := Int.emod_nonneg n (show (m : Int) ≠ 0 by omega)
  have g2 := Int.emod_lt_of_pos n (show (0 : Int) < (m : Int) by omega)
  omega
theorem tmod_facts (n : Int) (m : Nat) (hn : n < 0) (hm : 1 ≤ m) : -(m : Int) < n.tmod m ∧ n.tmod m ≤ 0 ∧ (n.tmod m < 0 → n.tmod m + m = n % (m : Int)) ∧ (¬ n.tmod m < 0 → n.tmod m = n % (m : Int)) := by
  have g1 := Int.emod_nonneg n (show (m : Int) ≠ 0 by omega)
  have g2 := Int.emod_lt_of_pos n (show (0 : Int) < (m : Int) by omega)
  have e1 := Int.emod_add_mul_ediv n (m : Int)
  have e2 := Int.tmod_add_mul_tdiv n (m : Int)
  obtain ⟨a, rfl⟩ : ∃ a : Int, n = -a := ⟨-n, by omega⟩
  rw [Int.neg_tmod, Int.tmod_eq_emod_of_nonneg (by omega)] at *
  have k1 := Int.emod_nonneg a (show (m : Int) ≠ 0 by omega)
  have k2 := Int.emod_lt_of_pos a (show (0 : Int) < (m : Int) by omega)
  have hmod : (-a) % (m : Int) = if a % (m : Int) = 0 then 0 else (m : Int) - a % (m : Int) := by
    split
    · rename_i h
      exact Int.emod_eq_zero_of_dvd (Int.dvd_neg.2 (Int.dvd_of_emod_eq_zero h))
    · rename_i h
      have : (-a) % (m : Int) = ((m : Int) - a % (m : Int)) % (m : Int) := by
        have h3 : -a = (m : Int) - a % (m : Int) + (m : Int) * (-(a / (m : Int)) - 1) := by
          have := Int.emod_add_mul_ediv a (m : Int)
          rw [Int.mul_sub, Int.mul_neg]
          omega
        rw [h3, Int.add_mul_emod_self_left]
      rw [this, Int.emod_eq_of_lt (by omega) (by omega)]
  refine ⟨by omega, by omega, fun h => ?_, fun h => ?_⟩
  · rw [hmod, if_neg (by omega)]; omega
  · rw [hmod, if_pos (by omega)]; omega

set_option maxHeartbeats 1000000 in
theorem within1 (n : Int) (m : Nat) (w : World) (h0 : -9223372036854775808 ≤ n) (h1 : n ≤ 9223372036854775807) (hm1 : 1 ≤ m) (hm2 : m ≤ 2147483647) :
    Calls Tryd.prog 42 #[.int .i64 n, .int .i64 (m : Int)] w (Gives (.int .i64 ((Within n m : Nat) : Int)) w) := by
  have HW := Lib.hid (within_lt n m hm1).2
  by_cases hn : 0 ≤ n
  · have g1 := Int.emod_nonneg n (show (m : Int) ≠ 0 by omega)
    go_enter Tryd.func42, Tryd.ntmps42
    go_wp2
    go_ret
    exact ⟨ret_is HW.out.symm, rfl⟩
  · obtain ⟨g1, g2, g3, g4⟩ := tmod_facts n m (by omega) hm1
    have G3 := Lib.hid g3
    have G4 := Lib.hid g4
    clear g3 g4
    by_cases hz : n.tmod m < 0
    · go_enter Tryd.func42, Tryd.ntmps42
      go_wp2
      go_ret
      exact ⟨ret_is ((G3.out hz).trans HW.out.symm), rfl⟩
    · go_enter Tryd.func42, Tryd.ntmps42
      go_wp2
      go_ret
      exact ⟨ret_is ((G4.out hz).trans HW.out.symm), rfl⟩

namespace Plain
/-- The pieces that the law's text is made of; the texts that another law asks, and what is to come of each. -/
def pieces : List (List UInt8) := [[38], [38, 97, 109, 112, 59], [38, 97, 109, 112], [38, 108, 116, 59], [38, 108, 116], [38, 103, 116, 59, 120], [38, 113, 117, 111, 116], [38, 110, 98, 115, 112, 59], [38, 110, 98, 115, 112], [38, 110, 111, 116], [38, 110, 111, 116, 105, 110, 59], [38, 110, 111, 116, 105, 110], [38, 110, 111, 116, 105], [38, 35], [38, 35, 54], [38, 35, 54, 53, 59], [38, 35, 120, 52], [38, 35, 88, 52, 101, 49, 54, 59], [38, 35, 48, 59], [38, 35, 120, 49, 49, 48, 48, 48, 48, 59], [38, 35, 57, 57, 57, 57, 57, 57, 57, 57, 57, 57, 57, 57, 57, 57, 57, 57, 57, 57, 57, 57, 59], [38, 35, 120, 100, 56, 48, 48, 59], [38, 35, 49, 50, 56, 59], [38, 35, 120, 57, 102], [38, 35, 49, 51, 59], [38, 115, 117, 112, 49], [38, 115, 117, 112, 59], [38, 115, 117, 112], [38, 116, 105, 109, 101, 115], [38, 116, 105, 109, 101, 115, 98, 59], [38, 116, 105, 109, 101, 115, 61], [38, 98, 110, 101, 59], [38, 110, 118, 108, 116, 59], [38, 104, 101, 108, 108, 105, 112, 59], [38, 104, 101, 108, 108, 105, 112], [38, 65, 77, 80, 59], [38, 97, 112, 111, 115, 59], [38, 84, 97, 98, 59], [38, 99, 111, 112, 121, 49], [38, 112, 97, 114, 97, 61], [38, 35, 120, 59], [97], [61], [59], [32], [49], [0], [195, 169], [38, 114, 101, 103, 59, 38], [38, 115, 104, 121], [38, 101, 117, 114, 111, 59], [38, 99, 111, 108, 111, 110, 59]]
def kins : List (List UInt8) := [[38, 110, 111, 116, 105, 110, 59], [38, 110, 111, 116, 105, 116], [38, 35, 120, 52, 49, 59, 38, 35, 54, 54], [38, 35, 49, 53, 48, 59], [38, 97, 109, 112, 97, 109, 112, 59], [38, 108, 116, 59, 38, 108, 116, 38], [38, 115, 117, 112, 49, 59], [38, 98, 110, 101, 59], [38, 104, 101, 108, 108, 105, 112], [38, 35, 49, 51, 59], [38, 35, 120, 103], [38]]
def kouts : List (List UInt8) := [[226, 136, 137], [194, 172, 105, 116], [65, 66], [226, 128, 147], [38, 97, 109, 112, 59], [60, 60, 38], [194, 185], [61, 226, 131, 165], [38, 104, 101, 108, 108, 105, 112], [13], [38, 35, 120, 103], [38]]
theorem pieces_ok : ∀ j, j < 52 → whole (pieces.getD j []) = true ∧ (pieces.getD j []).length ≤ 25 := by decide
theorem kins_ok : ∀ j, j < 12 → expand (kins.getD j []) false = kouts.getD j [] ∧ (kins.getD j []).length ≤ 25 := by decide
end Plain

/-- A slice of numbers that came in. -/
def IntsIn (w : World) (v : Value) (n : Nat) : Prop :=
  (∃ p cap, v = .slice p 0 cap ∧ n = 0) ∨
  ∃ g off cap, v = .slice (some ⟨g, off, none⟩) n cap ∧ g < w.heap.size ∧ n ≤ maxLen ∧ ∀ j, j < n → ∃ z : Int, w.cell? ⟨g, off + j, none⟩ = some (.int .i64 z) ∧ -9223372036854775808 ≤ z ∧ z ≤ 9223372036854775807
theorem IntsIn.below {w w' : World} {v : Value} {n : Nat} (h : IntsIn w v n) (hb : Below w.heap.size w w') : IntsIn w' v n := by
  rcases h with h | ⟨g, off, cap, rfl, hlt, hn, hc⟩
  · exact Or.inl h
  · refine Or.inr ⟨g, off, cap, rfl, Nat.lt_of_lt_of_le hlt hb.size, hn, fun j hj => ?_⟩
    obtain ⟨z, h1, h2⟩ := hc j hj
    exact ⟨z, (hb.cell (p := ⟨g, off + j, none⟩) hlt).trans h1, h2⟩

set_option maxHeartbeats 1000000 in
set_option maxRecDepth 100000 in
theorem more_any (B a n cap : Nat) (p : Option Addr) (w : World) (b : Bool) (h0 : w.cell? ⟨B, 0, none⟩ = some (.slice p n cap)) (h1 : w.cell? ⟨B, 1, none⟩ = some (.int .i64 (a : Int))) (hb : decide (a < n) = b) :
    Calls Tryd.prog 28 #[.pointer (some ⟨B, 0, none⟩)] w fun e w' => e = .returned (.bool b) ∧ ∃ m, w' = w.drewN m := by
  have HB := Lib.hid hb
  clear hb
  go_enter Tryd.func28, Tryd.ntmps28
  go_wp2
  go_quiet (fail)
  go_wp2
  go_ret
  exact ⟨by simp; exact HB.out, _, rfl⟩

theorem quiet_gives0 {f : FuncId} {args : Array Value} {v : Value} (h : ∀ W, Hid (Calls Tryd.prog f args W (Gives v W))) (w : World) (n : Nat) : Calls Tryd.prog f args (w.drewN n) fun e w'' => e = .returned v ∧ ∃ m, w'' = w.drewN m :=
  (h (w.drewN n)).out.mono fun _ _ hh => ⟨hh.1, n, hh.2.symm⟩
/-- What Next tells: a number below m; the tape stands one further. -/
def NextOut (B a m : Nat) (w : World) (e : Ending) (w' : World) : Prop := ∃ r q1 q2 : Nat, r < m ∧ e = .returned (.int .i64 (r : Int)) ∧ w' = ((w.drewN q1).setCell ⟨B, 1, none⟩ (.int .i64 ((a : Int) + 1))).drewN q2
set_option maxHeartbeats 1000000 in
set_option maxRecDepth 100000 in
theorem next_any (B a n cap g off m : Nat) (z : Int) (w : World) (h0 : w.cell? ⟨B, 0, none⟩ = some (.slice (some ⟨g, off, none⟩) n cap)) (h1 : w.cell? ⟨B, 1, none⟩ = some (.int .i64 (a : Int))) (hf : w.frozen? ⟨B, 1, none⟩ = false)
    (ha : a < n) (hn : n ≤ maxLen) (hg : g ≠ B) (hz : w.cell? ⟨g, off + a, none⟩ = some (.int .i64 z)) (hz0 : -9223372036854775808 ≤ z) (hz1 : z ≤ 9223372036854775807) (hm1 : 1 ≤ m) (hm2 : m ≤ 2147483647) :
    Calls Tryd.prog 29 #[.pointer (some ⟨B, 0, none⟩), .int .i64 (m : Int)] w (NextOut B a m w) := by
  unfold maxLen at hn
  have a0 : (0 : Int) ≤ (a : Int) := by omega
  have a1 : (a : Int) < (n : Int) := by omega
  have HWI := fun W => Lib.hid (within1 z m W hz0 hz1 hm1 hm2)
  have HLT := Lib.hid (within_lt z m hm1).1
  generalize Within z m = r at *
  go_enter Tryd.func29, Tryd.ntmps29
  go_wp2
  go_quiet (fail)
  go_wp2
  have e1 : (a : Int) + 1 - 1 = (a : Int) := by omega
  have e2 : IntKind.i64.wrap (a : Int) = (a : Int) := IntWalk.i64_in _ (by omega)
  go_quiet ((go_at_call 42; first | exact quiet_gives HWI _ _ _ | exact quiet_gives0 HWI _ _))
  go_wp2
  go_ret
  exact ⟨r, _, _, HLT.out, rfl, rfl⟩

def pieceCells : Array Value := (Plain.pieces.map strV).toArray
theorem piece_at (j : Nat) (h : j < 52) : pieceCells[j]? = some (.string ⟨(Plain.pieces.getD j []).toArray⟩) := by
  have hl : Plain.pieces.length = 52 := rfl
  unfold pieceCells
  rw [List.getElem?_toArray, List.getElem?_map, List.getElem?_eq_getElem (by omega), List.getD_eq_getElem?_getD, List.getElem?_eq_getElem (by omega)]
  rfl

/-- What the loop of the law's text keeps. -/
structure HtmlAt (w : World) (v : Value) (i : Nat) (acc : List UInt8) (wr : World) : Prop where
  whole : Plain.whole acc = true
  len : acc.length ≤ 25 * i
  tape : wr.cell? ⟨w.heap.size, 0, none⟩ = some v
  at_ : wr.cell? ⟨w.heap.size, 1, none⟩ = some (.int .i64 (i : Int))
  free : wr.frozen? ⟨w.heap.size, 1, none⟩ = false
  piece : ∀ j, j < 52 → wr.cell? ⟨w.heap.size + 1, j, none⟩ = some (.string ⟨(Plain.pieces.getD j []).toArray⟩)
  below : Below w.heap.size w wr
theorem HtmlAt.drewN {w : World} {v : Value} {i : Nat} {acc : List UInt8} {wr : World} (h : HtmlAt w v i acc wr) (q : Nat) : HtmlAt w v i acc (wr.drewN q) :=
  ⟨h.whole, h.len, by simpa using h.tape, by simpa using h.at_, by simpa using h.free, fun j hj => by simpa using h.piece j hj, below_drewN h.below q⟩
theorem HtmlAt.start (w : World) (v : Value) (t : TypeId) : HtmlAt w v 0 [] ((w.alloc (.cells #[v, .int .i64 0] t)).alloc (.cells pieceCells 9)) := by
  have c0 : ∀ j, (w.alloc (.cells #[v, .int .i64 0] t)).cell? ⟨w.heap.size, j, none⟩ = (#[v, .int .i64 0] : Array Value)[j]? := fun j => World.cell?_alloc_mark w _ t (0, 0) j
  have f0 : (w.alloc (.cells #[v, .int .i64 0] t)).frozen? ⟨w.heap.size, 1, none⟩ = false := by rw [World.frozen?_alloc_mark]; rfl
  refine ⟨rfl, by simp, ?_, ?_, ?_, fun j hj => ?_, ((Below.refl _ w).alloc (Nat.le_refl _) _).alloc (by simp) _⟩
  · rw [World.cell?_alloc_lt _ _ _ (by simp), c0]; rfl
  · rw [World.cell?_alloc_lt _ _ _ (by simp), c0]; rfl
  · have b : Below (w.heap.size + 1) (w.alloc (.cells #[v, .int .i64 0] t)) ((w.alloc (.cells #[v, .int .i64 0] t)).alloc (.cells pieceCells 9)) := (Below.refl _ _).alloc (by simp) _
    rw [b.frozen (p := ⟨w.heap.size, 1, none⟩) (by simp)]
    exact f0
  · have := World.cell?_alloc_mark (w.alloc (.cells #[v, .int .i64 0] t)) pieceCells 9 (0, 0) j
    rw [show (w.alloc (.cells #[v, .int .i64 0] t)).heap.size = w.heap.size + 1 by simp] at this
    rw [this, piece_at j hj]
theorem HtmlAt.step {w : World} {v : Value} {i : Nat} {acc : List UInt8} {wr : World} (h : HtmlAt w v i acc wr) (r q1 q2 : Nat) (hr : r < 52) : HtmlAt w v (i + 1) (acc ++ Plain.pieces.getD r []) (((wr.drewN q1).setCell ⟨w.heap.size, 1, none⟩ (.int .i64 ((i : Int) + 1))).drewN q2) := by
  refine HtmlAt.drewN ?_ q2
  have h' := h.drewN q1
  generalize wr.drewN q1 = W at *
  obtain ⟨p1, p2⟩ := Plain.pieces_ok r hr
  refine ⟨by rw [Plain.whole_app _ _ h'.whole]; exact p1, by have := h'.len; rw [List.length_append]; omega, ?_, ?_, ?_, fun j hj => ?_, h'.below.setCell (Nat.le_refl _) _⟩
  · rw [World.cell?_setCell_other _ _ _ _ (by simp)]; exact h'.tape
  · rw [World.cell?_setCell_same _ _ _ h'.at_]; rfl
  · rw [World.frozen?_setCell]; exact h'.free
  · rw [World.cell?_setCell_other _ _ _ _ (by simp)]; exact h'.piece j hj

/-- What Html tells: a text of whole signs, not long. -/
def HtmlOut (w : World) (e : Ending) (w' : World) : Prop := ∃ h : List UInt8, e = .returned (.string ⟨h.toArray⟩) ∧ Plain.whole h = true ∧ h.length ≤ 1000 ∧ Below w.heap.size w w'

set_option maxHeartbeats 2000000 in
set_option maxRecDepth 100000 in
theorem html_any (v : Value) (n : Nat) (w : World) (hv : IntsIn w v n) : Calls Tryd.prog 30 #[v] w (HtmlOut w) := by
  obtain ⟨p, cap, hvv⟩ : ∃ p cap, v = .slice p n cap := by
    rcases hv with ⟨p, cap, rfl, rfl⟩ | ⟨g, off, cap, rfl, _⟩
    · exact ⟨p, cap, rfl⟩
    · exact ⟨_, cap, rfl⟩
  have hnum : ∀ i, i < n → ∃ g off, p = some ⟨g, off, none⟩ ∧ g < w.heap.size ∧ n ≤ maxLen ∧ ∃ z : Int, w.cell? ⟨g, off + i, none⟩ = some (.int .i64 z) ∧ -9223372036854775808 ≤ z ∧ z ≤ 9223372036854775807 := by
    intro i hi
    rcases hv with ⟨_, _, _, h0⟩ | ⟨g, off, cap', hv2, hg, hn, hc⟩
    · omega
    · rw [hvv] at hv2
      have e := (Value.slice.inj hv2).1
      exact ⟨g, off, e, hg, hn, hc i hi⟩
  have HNUM := Lib.hid hnum
  clear hnum hv
  subst hvv
  go_enter Tryd.func30, Tryd.ntmps30
  go_wp2
  go_loopw [5, 6] (fun o x wr => ∃ (i : Nat) (acc : List UInt8), i ≤ 40 ∧ x = .int .i64 (i : Int) ∧ o = .string ⟨acc.toArray⟩ ∧ HtmlAt w (.slice p n cap) i acc wr) (fun _ x _ => 40 - (intOf x).toNat)
  case atStart => exact ⟨0, [], by omega, rfl, rfl, HtmlAt.start w _ _⟩
  case round =>
    obtain ⟨i, acc, hi, rfl, rfl, hH⟩ := hrel
    have hal := hH.len
    have hsa : (⟨acc.toArray⟩ : ByteArray).size ≤ 1000 := by show acc.toArray.size ≤ _; simp; omega
    have HH := Lib.hid hH
    clear hH
    by_cases h40 : i < 40
    · by_cases hin : i < n
      · have HM := Lib.hid (more_any w.heap.size i n cap p wr true HH.out.tape HH.out.at_ (decide_eq_true hin))
        obtain ⟨g, off, rfl, hg, hn, z, hz, hz0, hz1⟩ := HNUM.out i hin
        have hHz : ∀ q, Hid (Calls Tryd.prog 29 #[.pointer (some ⟨w.heap.size, 0, none⟩), .int .i64 ((52 : Nat) : Int)] (wr.drewN q) (NextOut w.heap.size i 52 (wr.drewN q))) := fun q =>
          Lib.hid (next_any w.heap.size i n cap g off 52 z (wr.drewN q) (HH.out.drewN q).tape (HH.out.drewN q).at_ (HH.out.drewN q).free hin hn (by omega) (((HH.out.drewN q).below.cell (p := ⟨g, off + i, none⟩) hg).trans hz) hz0 hz1 (by omega) (by omega))
        clear hz
        go_wp2_with fail
        refine HM.out.mono ?_
        rintro e w1 ⟨rfl, m1, rfl⟩
        go_wp2_with fail
        refine (hHz m1).out.mono ?_
        rintro e w2 ⟨r, q1, q2, hr, rfl, rfl⟩
        have HS := Lib.hid ((HH.out.drewN m1).step r q1 q2 hr)
        have hpc := (HH.out.drewN m1).step r q1 q2 hr |>.piece r hr
        have r0 : (0 : Int) ≤ (r : Int) := by omega
        have r1 : (r : Int) < 52 := by omega
        have hp2 := (Plain.pieces_ok r hr).2
        have hsp : (⟨(Plain.pieces.getD r []).toArray⟩ : ByteArray).size ≤ 25 := by show (Plain.pieces.getD r []).toArray.size ≤ _; rw [List.size_toArray]; exact hp2
        generalize (((wr.drewN m1).drewN q1).setCell ⟨w.heap.size, 1, none⟩ (.int .i64 ((i : Int) + 1))).drewN q2 = W at *
        generalize Plain.pieces.getD r [] = P at *
        clear HM hHz HH
        go_wp2
        exact ⟨⟨i + 1, acc ++ P, by omega, by go_num, congrArg Value.string (str_app acc P), HS.out⟩, by simp [intOf]; omega⟩
      · have HM := Lib.hid (more_any w.heap.size i n cap p wr false HH.out.tape HH.out.at_ (decide_eq_false hin))
        go_wp2_with fail
        refine HM.out.mono ?_
        rintro e w1 ⟨rfl, m1, rfl⟩
        have HS := Lib.hid (HH.out.drewN m1)
        go_wp2
        go_ret
        exact ⟨acc, rfl, HS.out.whole, by omega, HS.out.below⟩
    · go_wp2
      go_ret
      exact ⟨acc, rfl, HH.out.whole, by omega, HH.out.below⟩
end Go.Proofs.YtgelgfgcdfnacaaDoor
