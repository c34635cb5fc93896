/-
  The walk of the law MarksFirst: true, and nothing old is changed. Any three numbers.
-/
import Derived.Test.YtppcgcmhecagbabMWF
namespace Go.Proofs.Ytppcgcmhecagbab
open Go.RowKit

def fA (rk i : Nat) : MK := ⟨10 + (i : Int), nm7 rk, [([97], [49]), ([98], [50])]⟩
def fO (rj m : Nat) : MK := ⟨100 + (m : Int), nm7 rj, [([110], [UInt8.ofNat (97 + m)])]⟩
def fL (rk : Nat) : MK := ⟨13, nm7 rk, [([98], [50]), ([97], [49])]⟩
def fIn (rk rj i : Nat) (S0 : List MK × Nat) : Nat → List MK × Nat
  | 0 => (mPush S0.1 (fA rk i), S0.2)
  | q + 1 => (mPush (fIn rk rj i S0 q).1 (fO rj (fIn rk rj i S0 q).2), (fIn rk rj i S0 q).2 + 1)
def fR (n rk rj : Nat) : Nat → List MK × Nat
  | 0 => ([], 0)
  | i + 1 => fIn rk rj i (fR n rk rj i) n
def fN (n rk rj : Nat) : List MK := mPush (fR n rk rj 3).1 (fL rk)
def fOk (n rk rj : Nat) : Bool :=
  ((List.range 3).all fun i => decide ((fR n rk rj i).1.length ≤ 20) && (List.range (n + 1)).all fun q => decide ((fIn rk rj i (fR n rk rj i) q).1.length ≤ 20) && (decide (q = n) || decide ((fIn rk rj i (fR n rk rj i) q).2 < 9))) &&
    ((fR n rk rj 3).1.length == 3 + 3 * n) && ((fN n rk rj).length == 3 + 3 * n) && ((fN n rk rj).take (2 + 3 * n) == (fR n rk rj 3).1.drop 1) && (((fN n rk rj).getD (2 + 3 * n) mZero).node == 13) && (mOfA (fN n rk rj) 10 0 == -1) && decide (0 ≤ mOfA (fN n rk rj) 11 0)
theorem f_all : ((List.range 4).all fun n => (List.range 5).all fun rk => (List.range 5).all fun rj => fOk n rk rj) = true := by decide +kernel
structure FFacts (n rk rj : Nat) : Prop where
  f0 : ∀ i, i < 3 → (fR n rk rj i).1.length ≤ 20
  f1 : ∀ i, i < 3 → ∀ q, q ≤ n → (fIn rk rj i (fR n rk rj i) q).1.length ≤ 20
  f2 : ∀ i, i < 3 → ∀ q, q < n → (fIn rk rj i (fR n rk rj i) q).2 < 9
  f3 : (fR n rk rj 3).1.length = 3 + 3 * n
  f4 : (fN n rk rj).length = 3 + 3 * n
  f5 : (fN n rk rj).take (2 + 3 * n) = (fR n rk rj 3).1.drop 1
  f6 : ((fN n rk rj).getD (2 + 3 * n) mZero).node = 13
  f7 : mOfA (fN n rk rj) 10 0 = -1
  f8 : 0 ≤ mOfA (fN n rk rj) 11 0
theorem f_facts (n rk rj : Nat) (hn : n < 4) (hk : rk < 5) (hj : rj < 5) : FFacts n rk rj := by
  have h := List.all_eq_true.1 f_all n (List.mem_range.2 hn)
  have h := List.all_eq_true.1 h rk (List.mem_range.2 hk)
  have h := List.all_eq_true.1 h rj (List.mem_range.2 hj)
  simp only [fOk, Bool.and_eq_true, Bool.or_eq_true, beq_iff_eq, decide_eq_true_eq, List.all_eq_true, List.mem_range] at h
  obtain ⟨⟨⟨⟨⟨⟨a1, a3⟩, a4⟩, a5⟩, a6⟩, a7⟩, a8⟩ := h
  exact ⟨fun i hi => (a1 i hi).1, fun i hi q hq => ((a1 i hi).2 q (by omega)).1, fun i hi q hq => (((a1 i hi).2 q (by omega)).2).resolve_left (by omega), a3, a4, a5, a6, a7, a8⟩
theorem fA_fits (rk i : Nat) : (fA rk i).fits := ⟨(by show (2 : Nat) ≤ 30; decide), fun a ha => by
  have : a = ([97], [49]) ∨ a = ([98], [50]) := by simpa [fA] using ha
  rcases this with rfl | rfl <;> exact ⟨by decide, by decide⟩⟩
theorem fL_fits (rk : Nat) : (fL rk).fits := ⟨(by show (2 : Nat) ≤ 30; decide), fun a ha => by
  have : a = ([98], [50]) ∨ a = ([97], [49]) := by simpa [fL] using ha
  rcases this with rfl | rfl <;> exact ⟨by decide, by decide⟩⟩
theorem fO_fits (rj m : Nat) : (fO rj m).fits := ⟨(by show (1 : Nat) ≤ 30; decide), fun a ha => by
  have : a = ([110], [UInt8.ofNat (97 + m)]) := by simpa [fO] using ha
  subst this
  exact ⟨by show (1 : Nat) ≤ maxLen; decide, by show (1 : Nat) ≤ maxLen; decide⟩⟩
/-- Attributes in a new block, beside the marks. -/
theorem attrs_new {w0 W : World} {M : Nat → Prop} {B : Nat} {S : List MK} (h : MarkB w0 W M B S) (l : List (List UInt8 × List UInt8)) (cs : Array Value) (hc : cs.toList = atCells l) (c : Nat) : AttrsK (W.alloc (.cells cs 55)) M (.slice (some ⟨W.heap.size, 0, none⟩) l.length c) l :=
  ⟨fun b => b = W.heap.size, AttrsP.block (heap_alloc_new W _) hc rfl, fun b e => ⟨by rw [e]; simp, fun k => by have := (h.inn b k).2; omega⟩⟩
theorem RowP.take {P : Nat → Prop} {w : World} {g o n c k : Nat} {rs : List (MK × Value)} (h : RowP P w (.slice (some ⟨g, o, none⟩) n c) rs) (hk : k ≤ rs.length) : RowP P w (.slice (some ⟨g, o, none⟩) k c) (rs.take k) := by
  obtain ⟨p, cap, e, hl, hc, ha⟩ := h
  injection e with e1 e2 e3
  subst e1 e3
  refine ⟨_, c, by rw [List.length_take, Nat.min_eq_left hk], by rw [List.length_take]; omega, fun j hj => ?_, fun q hq => ha q (List.mem_of_mem_take hq)⟩
  have hj' : j < rs.length := by rw [List.length_take] at hj; omega
  rw [List.getElem_take]
  exact hc j hj'
theorem RowP.drop1 {P : Nat → Prop} {w : World} {g o n c : Nat} {rs : List (MK × Value)} (h : RowP P w (.slice (some ⟨g, o, none⟩) n c) rs) : RowP P w (.slice (some ⟨g, o + 3, none⟩) (n - 1) (c - 1)) (rs.drop 1) := by
  obtain ⟨p, cap, e, hl, hc, ha⟩ := h
  injection e with e1 e2 e3
  subst e1 e3
  refine ⟨_, c - 1, by rw [List.length_drop, e2], by rw [List.length_drop]; omega, fun j hj => ?_, fun q hq => ha q (List.mem_of_mem_drop hq)⟩
  have hj' : 1 + j < rs.length := by rw [List.length_drop] at hj; omega
  obtain ⟨g', o', e', hp, hg, h0, h1, h2⟩ := hc (1 + j) hj'
  rw [List.getElem_drop]
  injection e' with e'
  injection e' with e4 e5
  subst e4 e5
  refine ⟨g, o + 3, rfl, hp, hg, ?_, ?_, ?_⟩
  · rw [show o + 3 + j * 3 = o + (1 + j) * 3 by omega]; exact h0
  · rw [show o + 3 + j * 3 = o + (1 + j) * 3 by omega]; exact h1
  · rw [show o + 3 + j * 3 = o + (1 + j) * 3 by omega]; exact h2
set_option maxHeartbeats 8000000 in
set_option maxRecDepth 100000 in
theorem marksFirst_walk (k j b : Int) (w : World) (h0 : -9223372036854775808 ≤ k) (h1 : k ≤ 9223372036854775807) (h2 : -9223372036854775808 ≤ j) (h3 : j ≤ 9223372036854775807) (h4 : -9223372036854775808 ≤ b) (h5 : b ≤ 9223372036854775807) : Calls Try.prog 6 #[.int .i64 k, .int .i64 j, .int .i64 b] w (Yes w) := by
  have HW : Hid (∀ W, Calls Try.prog 15 #[.int .i64 b, .int .i64 4] W (Gives (.int .i64 ((Within b 4 : Nat) : Int)) W)) := Lib.hid fun W => within7 b 4 W h4 h5 (by omega) (by omega)
  have hn := (within_lt b 4 (by omega)).1
  generalize Within b 4 = n at *
  have HNK : Hid (∀ W, Calls Try.prog 13 #[.int .i64 k] W (TellsN (nm7 (Within k 5)) W)) := Lib.hid fun W => name7 k W h0 h1
  have hk5 := (within_lt k 5 (by omega)).1
  generalize Within k 5 = rk at *
  have HNJ0 : Hid (∀ W, Calls Try.prog 13 #[.int .i64 j] W (TellsN (nm7 (Within j 5)) W)) := Lib.hid fun W => name7 j W h2 h3
  have hj5 := (within_lt j 5 (by omega)).1
  generalize Within j 5 = rj at *
  have HF := Lib.hid (f_facts n rk rj hn hk5 hj5)
  obtain ⟨NK, hNK⟩ : ∃ NK : ByteArray, NK = (⟨(nm7 rk).toArray⟩ : ByteArray) := ⟨_, rfl⟩
  obtain ⟨NJ, hNJ⟩ : ∃ NJ : ByteArray, NJ = (⟨(nm7 rj).toArray⟩ : ByteArray) := ⟨_, rfl⟩
  unfold TellsN at HNK HNJ0
  rw [← hNK] at HNK
  rw [← hNJ] at HNJ0
  have HNKK := Lib.hid hNK
  have HNJ := Lib.hid hNJ
  clear h0 h1 h2 h3 h4 h5 hNK hNJ hk5 hj5
  go_enter Try.func6, Try.ntmps6
  go_wp2_with fail
  refine (known7_yes w).mono ?_
  rintro e w1 ⟨rfl, b1⟩
  have B1 := Lib.hid b1
  clear b1
  go_wp2_with fail
  refine (mkB_new w1).mono ?_
  rintro e w2 ⟨M, B, rfl, h2⟩
  have H2 := Lib.hid h2
  clear h2
  go_wp2_with fail
  refine (HW.out _).mono ?_
  rintro e w3 ⟨rfl, rfl⟩
  go_wp2_with fail
  go_loopw [9, 10] (fun nv iv wr => ∃ (i : Nat) (M' : Nat → Prop), i ≤ 3 ∧ iv = .int .i64 (i : Int) ∧ nv = .int .i64 (((fR n rk rj i).2 : Nat) : Int) ∧ MarkB w1 wr M' B (fR n rk rj i).1) (fun _ iv _ => 3 - (intOf iv).toNat)
  case atStart => exact ⟨0, M, by omega, rfl, rfl, H2.out⟩
  case round =>
    obtain ⟨i, M', hi, rfl, rfl, hm⟩ := hrel
    have HM := Lib.hid hm
    clear hm
    by_cases hlt : i < 3
    · have hf0 := HF.out.f0 i hlt
      obtain ⟨P0, hP0⟩ : ∃ P0, P0 = fR n rk rj i := ⟨_, rfl⟩
      rw [← hP0] at HM hf0 ⊢
      have HP0 := Lib.hid hP0
      clear hP0
      go_wp2_with fail
      refine (HNK.out _).mono ?_
      rintro e w3 ⟨rfl, b3⟩
      have H3 := Lib.hid (HM.out.on b3)
      clear b3 HM
      obtain ⟨W3, hW3⟩ : ∃ W3, W3 = w3.alloc (.cells #[.string ⟨#[97]⟩, .string ⟨#[49]⟩, .string ⟨#[98]⟩, .string ⟨#[50]⟩] 55) := ⟨_, rfl⟩
      have HPA : Hid (Calls Try.prog 27 #[.pointer (some ⟨B, 0, none⟩), .agg #[.int .i64 (10 + (i : Int)), .string NK, .slice (some ⟨w3.heap.size, 0, none⟩) 2 2]] W3 (fun e w' => e = .returned (.tuple #[]) ∧ Stepd w1 W3 M' B (mPush P0.1 (fA rk i)) w')) := by
        refine Lib.hid ?_
        have hk := attrs_new H3.out (fA rk i).attrs #[.string ⟨#[97]⟩, .string ⟨#[49]⟩, .string ⟨#[98]⟩, .string ⟨#[50]⟩] rfl 2
        have hb := H3.out.on ((Below.refl _ w3).alloc (Nat.le_refl _) (.cells #[.string ⟨#[97]⟩, .string ⟨#[49]⟩, .string ⟨#[98]⟩, .string ⟨#[50]⟩] 55))
        rw [hW3, HNKK.out]
        exact mkB_push hb (fA rk i) (some ⟨w3.heap.size, 0, none⟩) 2 (by omega) hk (fA_fits _ _)
      have HW3 := Lib.hid hW3
      clear hW3 H3
      go_wp2_with fail
      rw [← HW3.out]
      refine HPA.out.mono ?_
      rintro e w5 ⟨rfl, M5, h5, _, _⟩
      have H5 := Lib.hid h5
      clear h5 HPA
      go_wp2_with fail
      go_loopw [9, 11] (fun nv qv wr => ∃ (q : Nat) (M5 : Nat → Prop), q ≤ n ∧ qv = .int .i64 (q : Int) ∧ nv = .int .i64 (((fIn rk rj i P0 q).2 : Nat) : Int) ∧ MarkB w1 wr M5 B (fIn rk rj i P0 q).1) (fun _ qv _ => n - (intOf qv).toNat)
      case atStart => exact ⟨0, M5, by omega, rfl, rfl, H5.out⟩
      case round =>
        obtain ⟨q, M5, hq, rfl, rfl, hm⟩ := hrel
        have HM := Lib.hid hm
        clear hm
        by_cases hql : q < n
        · have hf2 := HF.out.f2 i hlt q hql
          have hf1 := HF.out.f1 i hlt q (by omega)
          rw [← HP0.out] at hf2 hf1
          have HFQ : Hid ((fIn rk rj i P0 (q + 1)).2 = (fIn rk rj i P0 q).2 + 1) := Lib.hid rfl
          have HFQ1 : Hid ((fIn rk rj i P0 (q + 1)).1 = mPush (fIn rk rj i P0 q).1 (fO rj (fIn rk rj i P0 q).2)) := Lib.hid rfl
          generalize (fIn rk rj i P0 q).2 = m at *
          generalize (fIn rk rj i P0 q).1 = SI at *
          go_wp2_with fail
          refine (HNJ0.out _).mono ?_
          rintro e w4 ⟨rfl, b4⟩
          have HM4 := Lib.hid (HM.out.on b4)
          clear b4 HM
          have hcase : m = 0 ∨ m = 1 ∨ m = 2 ∨ m = 3 ∨ m = 4 ∨ m = 5 ∨ m = 6 ∨ m = 7 ∨ m = 8 := by omega
          clear hf2
          rcases hcase with rfl | rfl | rfl | rfl | rfl | rfl | rfl | rfl | rfl
          · rw [show ((0 : Nat) : Int) = 0 from rfl] at *
            obtain ⟨W4, hW4⟩ : ∃ W4, W4 = w4.alloc (.cells #[.string ⟨#[110]⟩, .string (Utf8.encode 97)] 55) := ⟨_, rfl⟩
            have HPU : Hid (Calls Try.prog 27 #[.pointer (some ⟨B, 0, none⟩), .agg #[.int .i64 100, .string NJ, .slice (some ⟨w4.heap.size, 0, none⟩) 1 1]] W4 (fun e w' => e = .returned (.tuple #[]) ∧ Stepd w1 W4 M5 B (mPush SI (fO rj 0)) w')) := by
              refine Lib.hid ?_
              have hk := attrs_new HM4.out (fO rj 0).attrs #[.string ⟨#[110]⟩, .string ⟨#[97]⟩] rfl 1
              have hb := HM4.out.on ((Below.refl _ w4).alloc (Nat.le_refl _) (.cells #[.string ⟨#[110]⟩, .string ⟨#[97]⟩] 55))
              rw [show Utf8.encode 97 = ⟨#[97]⟩ by kernel_rfl] at hW4
              rw [hW4, HNJ.out]
              exact mkB_push hb (fO rj 0) (some ⟨w4.heap.size, 0, none⟩) 1 (by omega) hk (fO_fits _ _)
            have HW4 := Lib.hid hW4
            clear hW4 HM4
            go_wp2_with fail
            rw [← HW4.out]
            refine HPU.out.mono ?_
            rintro e w5 ⟨rfl, M6, h6, _, _⟩
            have H6 := Lib.hid h6
            clear h6
            go_wp2_with fail
            exact ⟨⟨q + 1, M6, by omega, by go_num, by rw [HFQ.out]; rfl, by rw [HFQ1.out]; exact H6.out⟩, by simp [intOf]; omega⟩
          · rw [show ((1 : Nat) : Int) = 1 from rfl] at *
            obtain ⟨W4, hW4⟩ : ∃ W4, W4 = w4.alloc (.cells #[.string ⟨#[110]⟩, .string (Utf8.encode 98)] 55) := ⟨_, rfl⟩
            have HPU : Hid (Calls Try.prog 27 #[.pointer (some ⟨B, 0, none⟩), .agg #[.int .i64 101, .string NJ, .slice (some ⟨w4.heap.size, 0, none⟩) 1 1]] W4 (fun e w' => e = .returned (.tuple #[]) ∧ Stepd w1 W4 M5 B (mPush SI (fO rj 1)) w')) := by
              refine Lib.hid ?_
              have hk := attrs_new HM4.out (fO rj 1).attrs #[.string ⟨#[110]⟩, .string ⟨#[98]⟩] rfl 1
              have hb := HM4.out.on ((Below.refl _ w4).alloc (Nat.le_refl _) (.cells #[.string ⟨#[110]⟩, .string ⟨#[98]⟩] 55))
              rw [show Utf8.encode 98 = ⟨#[98]⟩ by kernel_rfl] at hW4
              rw [hW4, HNJ.out]
              exact mkB_push hb (fO rj 1) (some ⟨w4.heap.size, 0, none⟩) 1 (by omega) hk (fO_fits _ _)
            have HW4 := Lib.hid hW4
            clear hW4 HM4
            go_wp2_with fail
            rw [← HW4.out]
            refine HPU.out.mono ?_
            rintro e w5 ⟨rfl, M6, h6, _, _⟩
            have H6 := Lib.hid h6
            clear h6
            go_wp2_with fail
            exact ⟨⟨q + 1, M6, by omega, by go_num, by rw [HFQ.out]; rfl, by rw [HFQ1.out]; exact H6.out⟩, by simp [intOf]; omega⟩
          · rw [show ((2 : Nat) : Int) = 2 from rfl] at *
            obtain ⟨W4, hW4⟩ : ∃ W4, W4 = w4.alloc (.cells #[.string ⟨#[110]⟩, .string (Utf8.encode 99)] 55) := ⟨_, rfl⟩
            have HPU : Hid (Calls Try.prog 27 #[.pointer (some ⟨B, 0, none⟩), .agg #[.int .i64 102, .string NJ, .slice (some ⟨w4.heap.size, 0, none⟩) 1 1]] W4 (fun e w' => e = .returned (.tuple #[]) ∧ Stepd w1 W4 M5 B (mPush SI (fO rj 2)) w')) := by
              refine Lib.hid ?_
              have hk := attrs_new HM4.out (fO rj 2).attrs #[.string ⟨#[110]⟩, .string ⟨#[99]⟩] rfl 1
              have hb := HM4.out.on ((Below.refl _ w4).alloc (Nat.le_refl _) (.cells #[.string ⟨#[110]⟩, .string ⟨#[99]⟩] 55))
              rw [show Utf8.encode 99 = ⟨#[99]⟩ by kernel_rfl] at hW4
              rw [hW4, HNJ.out]
              exact mkB_push hb (fO rj 2) (some ⟨w4.heap.size, 0, none⟩) 1 (by omega) hk (fO_fits _ _)
            have HW4 := Lib.hid hW4
            clear hW4 HM4
            go_wp2_with fail
            rw [← HW4.out]
            refine HPU.out.mono ?_
            rintro e w5 ⟨rfl, M6, h6, _, _⟩
            have H6 := Lib.hid h6
            clear h6
            go_wp2_with fail
            exact ⟨⟨q + 1, M6, by omega, by go_num, by rw [HFQ.out]; rfl, by rw [HFQ1.out]; exact H6.out⟩, by simp [intOf]; omega⟩
          · rw [show ((3 : Nat) : Int) = 3 from rfl] at *
            obtain ⟨W4, hW4⟩ : ∃ W4, W4 = w4.alloc (.cells #[.string ⟨#[110]⟩, .string (Utf8.encode 100)] 55) := ⟨_, rfl⟩
            have HPU : Hid (Calls Try.prog 27 #[.pointer (some ⟨B, 0, none⟩), .agg #[.int .i64 103, .string NJ, .slice (some ⟨w4.heap.size, 0, none⟩) 1 1]] W4 (fun e w' => e = .returned (.tuple #[]) ∧ Stepd w1 W4 M5 B (mPush SI (fO rj 3)) w')) := by
              refine Lib.hid ?_
              have hk := attrs_new HM4.out (fO rj 3).attrs #[.string ⟨#[110]⟩, .string ⟨#[100]⟩] rfl 1
              have hb := HM4.out.on ((Below.refl _ w4).alloc (Nat.le_refl _) (.cells #[.string ⟨#[110]⟩, .string ⟨#[100]⟩] 55))
              rw [show Utf8.encode 100 = ⟨#[100]⟩ by kernel_rfl] at hW4
              rw [hW4, HNJ.out]
              exact mkB_push hb (fO rj 3) (some ⟨w4.heap.size, 0, none⟩) 1 (by omega) hk (fO_fits _ _)
            have HW4 := Lib.hid hW4
            clear hW4 HM4
            go_wp2_with fail
            rw [← HW4.out]
            refine HPU.out.mono ?_
            rintro e w5 ⟨rfl, M6, h6, _, _⟩
            have H6 := Lib.hid h6
            clear h6
            go_wp2_with fail
            exact ⟨⟨q + 1, M6, by omega, by go_num, by rw [HFQ.out]; rfl, by rw [HFQ1.out]; exact H6.out⟩, by simp [intOf]; omega⟩
          · rw [show ((4 : Nat) : Int) = 4 from rfl] at *
            obtain ⟨W4, hW4⟩ : ∃ W4, W4 = w4.alloc (.cells #[.string ⟨#[110]⟩, .string (Utf8.encode 101)] 55) := ⟨_, rfl⟩
            have HPU : Hid (Calls Try.prog 27 #[.pointer (some ⟨B, 0, none⟩), .agg #[.int .i64 104, .string NJ, .slice (some ⟨w4.heap.size, 0, none⟩) 1 1]] W4 (fun e w' => e = .returned (.tuple #[]) ∧ Stepd w1 W4 M5 B (mPush SI (fO rj 4)) w')) := by
              refine Lib.hid ?_
              have hk := attrs_new HM4.out (fO rj 4).attrs #[.string ⟨#[110]⟩, .string ⟨#[101]⟩] rfl 1
              have hb := HM4.out.on ((Below.refl _ w4).alloc (Nat.le_refl _) (.cells #[.string ⟨#[110]⟩, .string ⟨#[101]⟩] 55))
              rw [show Utf8.encode 101 = ⟨#[101]⟩ by kernel_rfl] at hW4
              rw [hW4, HNJ.out]
              exact mkB_push hb (fO rj 4) (some ⟨w4.heap.size, 0, none⟩) 1 (by omega) hk (fO_fits _ _)
            have HW4 := Lib.hid hW4
            clear hW4 HM4
            go_wp2_with fail
            rw [← HW4.out]
            refine HPU.out.mono ?_
            rintro e w5 ⟨rfl, M6, h6, _, _⟩
            have H6 := Lib.hid h6
            clear h6
            go_wp2_with fail
            exact ⟨⟨q + 1, M6, by omega, by go_num, by rw [HFQ.out]; rfl, by rw [HFQ1.out]; exact H6.out⟩, by simp [intOf]; omega⟩
          · rw [show ((5 : Nat) : Int) = 5 from rfl] at *
            obtain ⟨W4, hW4⟩ : ∃ W4, W4 = w4.alloc (.cells #[.string ⟨#[110]⟩, .string (Utf8.encode 102)] 55) := ⟨_, rfl⟩
            have HPU : Hid (Calls Try.prog 27 #[.pointer (some ⟨B, 0, none⟩), .agg #[.int .i64 105, .string NJ, .slice (some ⟨w4.heap.size, 0, none⟩) 1 1]] W4 (fun e w' => e = .returned (.tuple #[]) ∧ Stepd w1 W4 M5 B (mPush SI (fO rj 5)) w')) := by
              refine Lib.hid ?_
              have hk := attrs_new HM4.out (fO rj 5).attrs #[.string ⟨#[110]⟩, .string ⟨#[102]⟩] rfl 1
              have hb := HM4.out.on ((Below.refl _ w4).alloc (Nat.le_refl _) (.cells #[.string ⟨#[110]⟩, .string ⟨#[102]⟩] 55))
              rw [show Utf8.encode 102 = ⟨#[102]⟩ by kernel_rfl] at hW4
              rw [hW4, HNJ.out]
              exact mkB_push hb (fO rj 5) (some ⟨w4.heap.size, 0, none⟩) 1 (by omega) hk (fO_fits _ _)
            have HW4 := Lib.hid hW4
            clear hW4 HM4
            go_wp2_with fail
            rw [← HW4.out]
            refine HPU.out.mono ?_
            rintro e w5 ⟨rfl, M6, h6, _, _⟩
            have H6 := Lib.hid h6
            clear h6
            go_wp2_with fail
            exact ⟨⟨q + 1, M6, by omega, by go_num, by rw [HFQ.out]; rfl, by rw [HFQ1.out]; exact H6.out⟩, by simp [intOf]; omega⟩
          · rw [show ((6 : Nat) : Int) = 6 from rfl] at *
            obtain ⟨W4, hW4⟩ : ∃ W4, W4 = w4.alloc (.cells #[.string ⟨#[110]⟩, .string (Utf8.encode 103)] 55) := ⟨_, rfl⟩
            have HPU : Hid (Calls Try.prog 27 #[.pointer (some ⟨B, 0, none⟩), .agg #[.int .i64 106, .string NJ, .slice (some ⟨w4.heap.size, 0, none⟩) 1 1]] W4 (fun e w' => e = .returned (.tuple #[]) ∧ Stepd w1 W4 M5 B (mPush SI (fO rj 6)) w')) := by
              refine Lib.hid ?_
              have hk := attrs_new HM4.out (fO rj 6).attrs #[.string ⟨#[110]⟩, .string ⟨#[103]⟩] rfl 1
              have hb := HM4.out.on ((Below.refl _ w4).alloc (Nat.le_refl _) (.cells #[.string ⟨#[110]⟩, .string ⟨#[103]⟩] 55))
              rw [show Utf8.encode 103 = ⟨#[103]⟩ by kernel_rfl] at hW4
              rw [hW4, HNJ.out]
              exact mkB_push hb (fO rj 6) (some ⟨w4.heap.size, 0, none⟩) 1 (by omega) hk (fO_fits _ _)
            have HW4 := Lib.hid hW4
            clear hW4 HM4
            go_wp2_with fail
            rw [← HW4.out]
            refine HPU.out.mono ?_
            rintro e w5 ⟨rfl, M6, h6, _, _⟩
            have H6 := Lib.hid h6
            clear h6
            go_wp2_with fail
            exact ⟨⟨q + 1, M6, by omega, by go_num, by rw [HFQ.out]; rfl, by rw [HFQ1.out]; exact H6.out⟩, by simp [intOf]; omega⟩
          · rw [show ((7 : Nat) : Int) = 7 from rfl] at *
            obtain ⟨W4, hW4⟩ : ∃ W4, W4 = w4.alloc (.cells #[.string ⟨#[110]⟩, .string (Utf8.encode 104)] 55) := ⟨_, rfl⟩
            have HPU : Hid (Calls Try.prog 27 #[.pointer (some ⟨B, 0, none⟩), .agg #[.int .i64 107, .string NJ, .slice (some ⟨w4.heap.size, 0, none⟩) 1 1]] W4 (fun e w' => e = .returned (.tuple #[]) ∧ Stepd w1 W4 M5 B (mPush SI (fO rj 7)) w')) := by
              refine Lib.hid ?_
              have hk := attrs_new HM4.out (fO rj 7).attrs #[.string ⟨#[110]⟩, .string ⟨#[104]⟩] rfl 1
              have hb := HM4.out.on ((Below.refl _ w4).alloc (Nat.le_refl _) (.cells #[.string ⟨#[110]⟩, .string ⟨#[104]⟩] 55))
              rw [show Utf8.encode 104 = ⟨#[104]⟩ by kernel_rfl] at hW4
              rw [hW4, HNJ.out]
              exact mkB_push hb (fO rj 7) (some ⟨w4.heap.size, 0, none⟩) 1 (by omega) hk (fO_fits _ _)
            have HW4 := Lib.hid hW4
            clear hW4 HM4
            go_wp2_with fail
            rw [← HW4.out]
            refine HPU.out.mono ?_
            rintro e w5 ⟨rfl, M6, h6, _, _⟩
            have H6 := Lib.hid h6
            clear h6
            go_wp2_with fail
            exact ⟨⟨q + 1, M6, by omega, by go_num, by rw [HFQ.out]; rfl, by rw [HFQ1.out]; exact H6.out⟩, by simp [intOf]; omega⟩
          · rw [show ((8 : Nat) : Int) = 8 from rfl] at *
            obtain ⟨W4, hW4⟩ : ∃ W4, W4 = w4.alloc (.cells #[.string ⟨#[110]⟩, .string (Utf8.encode 105)] 55) := ⟨_, rfl⟩
            have HPU : Hid (Calls Try.prog 27 #[.pointer (some ⟨B, 0, none⟩), .agg #[.int .i64 108, .string NJ, .slice (some ⟨w4.heap.size, 0, none⟩) 1 1]] W4 (fun e w' => e = .returned (.tuple #[]) ∧ Stepd w1 W4 M5 B (mPush SI (fO rj 8)) w')) := by
              refine Lib.hid ?_
              have hk := attrs_new HM4.out (fO rj 8).attrs #[.string ⟨#[110]⟩, .string ⟨#[105]⟩] rfl 1
              have hb := HM4.out.on ((Below.refl _ w4).alloc (Nat.le_refl _) (.cells #[.string ⟨#[110]⟩, .string ⟨#[105]⟩] 55))
              rw [show Utf8.encode 105 = ⟨#[105]⟩ by kernel_rfl] at hW4
              rw [hW4, HNJ.out]
              exact mkB_push hb (fO rj 8) (some ⟨w4.heap.size, 0, none⟩) 1 (by omega) hk (fO_fits _ _)
            have HW4 := Lib.hid hW4
            clear hW4 HM4
            go_wp2_with fail
            rw [← HW4.out]
            refine HPU.out.mono ?_
            rintro e w5 ⟨rfl, M6, h6, _, _⟩
            have H6 := Lib.hid h6
            clear h6
            go_wp2_with fail
            exact ⟨⟨q + 1, M6, by omega, by go_num, by rw [HFQ.out]; rfl, by rw [HFQ1.out]; exact H6.out⟩, by simp [intOf]; omega⟩
        · obtain rfl : q = n := by omega
          go_wp2_with fail
          exact ⟨⟨i + 1, M5, by omega, by go_num, by rw [HP0.out]; rfl, by rw [HP0.out] at HM; exact HM.out⟩, by simp [intOf]; omega⟩
    · obtain rfl : i = 3 := by omega
      go_wp2_with fail
      have HS3 := Lib.hid (show (fR n rk rj 3).1.length ≤ 20 by rw [HF.out.f3]; omega)
      refine (mkB_all HM.out (by have := HS3.out; omega)).mono ?_
      rintro e w4 ⟨v4, rs, rfl, hm4, _, _, h4, hk4⟩
      have HM4 := Lib.hid hm4
      have H4 := Lib.hid h4
      have HK4 := Lib.hid hk4
      obtain ⟨P4, ⟨p4, c4, rfl, hlc4, hcc4, haa4⟩, hp4⟩ := hk4
      clear hm4 h4 hcc4 haa4 hp4 HM
      go_wp2_with fail
      refine (HNK.out _).mono ?_
      rintro e w5 ⟨rfl, b5⟩
      have H5 := Lib.hid (H4.out.on b5)
      have HK5 := Lib.hid (HK4.out.on b5)
      clear b5 H4 HK4
      obtain ⟨W5, hW5⟩ : ∃ W5, W5 = w5.alloc (.cells #[.string ⟨#[98]⟩, .string ⟨#[50]⟩, .string ⟨#[97]⟩, .string ⟨#[49]⟩] 55) := ⟨_, rfl⟩
      have HPL : Hid (Calls Try.prog 27 #[.pointer (some ⟨B, 0, none⟩), .agg #[.int .i64 13, .string NK, .slice (some ⟨w5.heap.size, 0, none⟩) 2 2]] W5 (fun e w' => e = .returned (.tuple #[]) ∧ Stepd w1 W5 M' B (fN n rk rj) w')) := by
        refine Lib.hid ?_
        have hk := attrs_new H5.out (fL rk).attrs #[.string ⟨#[98]⟩, .string ⟨#[50]⟩, .string ⟨#[97]⟩, .string ⟨#[49]⟩] rfl 2
        have hb := H5.out.on ((Below.refl _ w5).alloc (Nat.le_refl _) (.cells #[.string ⟨#[98]⟩, .string ⟨#[50]⟩, .string ⟨#[97]⟩, .string ⟨#[49]⟩] 55))
        rw [hW5, HNKK.out]
        exact mkB_push hb (fL rk) (some ⟨w5.heap.size, 0, none⟩) 2 (by have := HS3.out; omega) hk (fL_fits _)
      have HK6 := Lib.hid (HK5.out.on ((Below.refl _ w5).alloc (Nat.le_refl _) (.cells #[.string ⟨#[98]⟩, .string ⟨#[50]⟩, .string ⟨#[97]⟩, .string ⟨#[49]⟩] 55)))
      rw [← hW5] at HK6
      have HW5 := Lib.hid hW5
      clear hW5 H5 HK5
      go_wp2_with fail
      rw [← HW5.out]
      refine HPL.out.mono ?_
      rintro e w7 ⟨rfl, M7, h7, s7, t7⟩
      have H7 := Lib.hid h7
      have HK7 := Lib.hid (HK6.out.turns s7 t7)
      clear h7 s7 t7 HPL HK6
      go_wp2_with fail
      refine (mkB_all H7.out (by rw [HF.out.f4]; omega)).mono ?_
      rintro e w8 ⟨v8, r8, rfl, hm8, hr8, hb8, h8, _⟩
      have HM8 := Lib.hid hm8
      have H8 := Lib.hid h8
      have HR8 := Lib.hid hr8
      obtain ⟨P, hrw, hpw⟩ := HK7.out.on hb8
      have HRW := Lib.hid hrw
      obtain ⟨KZ, hK⟩ : ∃ KZ, KZ = 2 + 3 * n := ⟨_, rfl⟩
      have hl4 : rs.length = KZ + 1 := by have := congrArg List.length HM4.out; rw [List.length_map, HF.out.f3] at this; omega
      have hl8 : r8.length = KZ + 1 := by have := congrArg List.length hm8; rw [List.length_map, HF.out.f4] at this; omega
      obtain ⟨p8, c8, rfl, hlc8, hcc8, _⟩ := id hr8
      obtain ⟨p4', c4', e4, hlc, hcc4, _⟩ := hrw
      injection e4 with e41 e42 e43
      subst e41 e43
      obtain ⟨g4, o4, rfl, xp4, hg4, xx4⟩ := hcc4 0 (by omega)
      obtain ⟨g8, o8, rfl, xp8, hg8, x0, xx8⟩ := hcc8 KZ (by omega)
      have x13 : w8.cell? ⟨g8, o8 + KZ * 3, none⟩ = some (.int .i64 13) := by
        rw [x0]
        have : (r8[KZ]'(by omega)).1.node = 13 := by
          have h := HF.out.f6
          rw [← hm8, ← hK, getD_at (by rw [List.length_map]; omega)] at h
          simpa using h
        rw [this]
      have HSM : Hid (∀ W, Below w8.heap.size w8 W → Calls Try.prog 37 #[.slice (some ⟨g8, o8, none⟩) KZ c8, .slice (some ⟨g4, o4 + 3, none⟩) KZ (c4 - 1)] W (Brings (.bool true) W)) := by
        refine Lib.hid fun W hb => ?_
        have ra := (HR8.out.take (k := KZ) (by omega)).kept (.of_below hb)
        have rb := HRW.out.drop1.kept (.of_below hb)
        rw [show rs.length - 1 = KZ by omega] at rb
        have hs := rsameM _ _ _ _ _ _ W ra rb (by rw [List.length_take]; omega) (fun q hq => Nat.le_trans (H8.out.fit q.1 (by rw [← HM8.out]; exact List.mem_map_of_mem (List.mem_of_mem_take hq))).1 (by decide))
        rw [decide_eq_true (by rw [List.map_take, List.map_drop, HM8.out, HM4.out, hK]; exact HF.out.f5)] at hs
        exact hs
      have q1 : (((KZ + 1 : Nat) : Int) != 3 + 3 * (n : Int)) = false := by rw [bne_eq_false_iff_eq]; omega
      have q3 : ((KZ : Int) + 1 != 3 + 3 * (n : Int)) = false := by rw [bne_eq_false_iff_eq]; omega
      have k0 : (0 : Int) ≤ (KZ : Int) := by omega
      have k1 : IntKind.i64.wrap (KZ : Int) = (KZ : Int) := IntWalk.i64_in _ (by omega)
      have k2 : IntKind.i64.wrap ((KZ : Int) + 1 - 1) = (KZ : Int) := by rw [IntWalk.i64_in _ (by omega)]; omega
      have k3 : (KZ : Int) < (KZ : Int) + 1 := by omega
      have k4 : (1 : Int) ≤ (KZ : Int) + 1 := by omega
      have HO10 : Hid (∀ W, Below w8.heap.size w8 W → Calls Try.prog 30 #[.pointer (some ⟨B, 0, none⟩), .int .i64 10] W (Gives (.int .i64 (-1)) W)) := Lib.hid fun W hb => by
        have := mkB_of (H8.out.on hb) 10 (by rw [HF.out.f4]; omega)
        rw [HF.out.f7] at this
        exact this
      have HO11 : Hid (∀ W, Below w8.heap.size w8 W → Calls Try.prog 30 #[.pointer (some ⟨B, 0, none⟩), .int .i64 11] W (Gives (.int .i64 (mOfA (fN n rk rj) 11 0)) W)) := Lib.hid fun W hb => mkB_of (H8.out.on hb) 11 (by rw [HF.out.f4]; omega)
      have h11 := HF.out.f8
      have hc4 : KZ + 1 ≤ c4 := by omega
      have hc8 : KZ ≤ c8 := by omega
      have hc5 : c4 ≠ 1 := by omega
      have hc6 : (KZ : Int) ≤ (c8 : Int) := by omega
      have HBE := Lib.hid (B1.out.trans (H8.out.below.mono B1.out.size))
      generalize mOfA (fN n rk rj) 11 0 = K11 at *
      clear hm8 hr8 hb8 h8 hlc8 hcc8 hcc4 x0 HR8 HRW HK7 hpw hlc H7 H8 HM8 HM4 hlc4
      rw [hl4, hl8]
      have HK := Lib.hid hK
      clear xx4 xx8 xp4 xp8 hl4 hl8 e42 hK
      go_wp2_with fail
      refine wp_region_held_drew (S := (fun w' => w'.cell? ⟨g8, o8 + KZ * 3, none⟩ = some (.int .i64 13) ∧ Below w8.heap.size w8 w')) (by kernel_rfl) (by exact ⟨((Below.refl _ w8).drew.cell (p := ⟨g8, o8 + KZ * 3, none⟩) hg8).trans x13, (Below.refl _ _).drew⟩) (fun hHeld => ?_)
      refine wpAnyH_take (i := 0) (oi := { dst := some 80, op := Op.move (Operand.tmp 13), type := 47, pos := "more.go:35", after := #[], guard := none }) (v := ?_) rfl (by kernel_rfl) (by kernel_rfl) (by kernel_rfl) (fun _ _ _ h => h) (Or.inl ⟨by rfl, ?_⟩) (by assumption) ?_
      rotate_left
      focus (intro w hSw; (try dsimp only at hSw); go_simp; (try with_reducible rfl))
      try simp only [Act.put, List.setIfInBounds_toArray, List.set_cons_zero, List.set_cons_succ]
      refine wpAnyH_take (i := 1) (oi := { dst := some 81, op := Op.move (Operand.tmp 13), type := 47, pos := "more.go:35", after := #[], guard := none }) (v := ?_) rfl (by kernel_rfl) (by kernel_rfl) (by kernel_rfl) (fun _ _ _ h => h) (Or.inl ⟨by rfl, ?_⟩) (by assumption) ?_
      rotate_left
      focus (intro w hSw; (try dsimp only at hSw); go_simp; (try with_reducible rfl))
      try simp only [Act.put, List.setIfInBounds_toArray, List.set_cons_zero, List.set_cons_succ]
      refine wpAnyH_take (i := 2) (oi := { dst := some 82, op := Op.call { callee := Callee.builtin Builtin.len, args := #[Operand.tmp 81], argTypes := #[ 47 ] }, type := 3, pos := "more.go:35", after := #[{ on := 1, ground := Ground.data }], guard := none }) (v := ?_) rfl (by kernel_rfl) (by kernel_rfl) (by kernel_rfl) (fun _ _ _ h => h) (Or.inl ⟨by rfl, ?_⟩) (by assumption) ?_
      rotate_left
      focus (intro w hSw; (try dsimp only at hSw); go_simp; (try with_reducible rfl))
      try simp only [Act.put, List.setIfInBounds_toArray, List.set_cons_zero, List.set_cons_succ]
      refine wpAnyH_take (i := 3) (oi := { dst := some 83, op := Op.binOp BinOp.sub 3 (Operand.tmp 82) (Operand.const (Value.int IntKind.i64 1)) 3, type := 3, pos := "more.go:35", after := #[{ on := 2, ground := Ground.data }], guard := none }) (v := ?_) rfl (by kernel_rfl) (by kernel_rfl) (by kernel_rfl) (fun _ _ _ h => h) (Or.inl ⟨by rfl, ?_⟩) (by assumption) ?_
      rotate_left
      focus (intro w hSw; (try dsimp only at hSw); go_simp; (try with_reducible rfl))
      try simp only [Act.put, List.setIfInBounds_toArray, List.set_cons_zero, List.set_cons_succ]
      refine wpAnyH_take (i := 4) (oi := { dst := some 84, op := Op.slice 47 (Operand.tmp 80) none (some (Operand.tmp 83)) none, type := 47, pos := "more.go:35", after := #[{ on := 0, ground := Ground.data }, { on := 3, ground := Ground.data }], guard := none }) (v := ?_) rfl (by kernel_rfl) (by kernel_rfl) (by kernel_rfl) (fun _ _ _ h => h) (Or.inl ⟨by rfl, ?_⟩) (by assumption) ?_
      rotate_left
      focus (intro w hSw; (try dsimp only at hSw); go_simp; (try with_reducible rfl))
      try simp only [Act.put, List.setIfInBounds_toArray, List.set_cons_zero, List.set_cons_succ]
      refine wpAnyH_take (i := 5) (oi := { dst := some 85, op := Op.move (Operand.tmp 12), type := 47, pos := "more.go:35", after := #[], guard := none }) (v := ?_) rfl (by kernel_rfl) (by kernel_rfl) (by kernel_rfl) (fun _ _ _ h => h) (Or.inl ⟨by rfl, ?_⟩) (by assumption) ?_
      rotate_left
      focus (intro w hSw; (try dsimp only at hSw); go_simp; (try with_reducible rfl))
      try simp only [Act.put, List.setIfInBounds_toArray, List.set_cons_zero, List.set_cons_succ]
      refine wpAnyH_take (i := 6) (oi := { dst := some 86, op := Op.slice 47 (Operand.tmp 85) (some (Operand.const (Value.int IntKind.i64 1))) none none, type := 47, pos := "more.go:35", after := #[{ on := 5, ground := Ground.data }], guard := none }) (v := ?_) rfl (by kernel_rfl) (by kernel_rfl) (by kernel_rfl) (fun _ _ _ h => h) (Or.inl ⟨by rfl, ?_⟩) (by assumption) ?_
      rotate_left
      focus (intro w hSw; (try dsimp only at hSw); go_simp; (try with_reducible rfl))
      try simp only [Act.put, List.setIfInBounds_toArray, List.set_cons_zero, List.set_cons_succ]
      refine wpAnyH_ready (rs := [7]) (by kernel_rfl) (by simp) ?_
      refine AllReadyH.cons (o := { dst := some 87, op := Op.call { callee := Callee.value (Operand.func 37), args := #[Operand.tmp 84, Operand.tmp 86], argTypes := #[ 47, 47 ] }, type := 4, pos := "more.go:35", after := #[{ on := 4, ground := Ground.data }, { on := 6, ground := Ground.data }], guard := none }) rfl (fun K hK => ?_) AllReadyH.nil
      go_simp
      refine (HSM.out _ hHeld.2).mono ?_; rintro e w12 ⟨rfl, b12⟩; have hb12 := hHeld.2.trans (b12.mono hHeld.2.size)
      go_wp2_with fail
      refine hK.out _ _ (by exact ⟨(hb12.cell (p := ⟨g8, o8 + KZ * 3, none⟩) hg8).trans x13, hb12⟩) (fun hHeld => ?_)
      clear hK K
      try simp only [Act.put, List.setIfInBounds_toArray, List.set_cons_zero, List.set_cons_succ]
      refine wpAnyH_take (i := 8) (oi := { dst := some 88, op := Op.move (Operand.tmp 87), type := 4, pos := "more.go:35", after := #[{ on := 7, ground := Ground.data }, { on := 7, ground := Ground.chain }], guard := none }) (v := ?_) rfl (by kernel_rfl) (by kernel_rfl) (by kernel_rfl) (fun _ _ _ h => h) (Or.inl ⟨by rfl, ?_⟩) (by assumption) ?_
      rotate_left
      focus (intro w hSw; (try dsimp only at hSw); go_simp; (try with_reducible rfl))
      try simp only [Act.put, List.setIfInBounds_toArray, List.set_cons_zero, List.set_cons_succ]
      refine wpAnyH_take (i := 9) (oi := { dst := some 89, op := Op.move (Operand.tmp 13), type := 47, pos := "more.go:35", after := #[{ on := 8, ground := Ground.guard }], guard := some (8, true) }) (v := ?_) rfl (by kernel_rfl) (by kernel_rfl) (by kernel_rfl) (fun _ _ _ h => h) (Or.inl ⟨by rfl, ?_⟩) (by assumption) ?_
      rotate_left
      focus (intro w hSw; (try dsimp only at hSw); go_simp; (try with_reducible rfl))
      try simp only [Act.put, List.setIfInBounds_toArray, List.set_cons_zero, List.set_cons_succ]
      refine wpAnyH_take (i := 10) (oi := { dst := some 90, op := Op.move (Operand.tmp 13), type := 47, pos := "more.go:35", after := #[{ on := 8, ground := Ground.guard }], guard := some (8, true) }) (v := ?_) rfl (by kernel_rfl) (by kernel_rfl) (by kernel_rfl) (fun _ _ _ h => h) (Or.inl ⟨by rfl, ?_⟩) (by assumption) ?_
      rotate_left
      focus (intro w hSw; (try dsimp only at hSw); go_simp; (try with_reducible rfl))
      try simp only [Act.put, List.setIfInBounds_toArray, List.set_cons_zero, List.set_cons_succ]
      refine wpAnyH_take (i := 11) (oi := { dst := some 91, op := Op.call { callee := Callee.builtin Builtin.len, args := #[Operand.tmp 90], argTypes := #[ 47 ] }, type := 3, pos := "more.go:35", after := #[{ on := 10, ground := Ground.data }, { on := 8, ground := Ground.guard }], guard := some (8, true) }) (v := ?_) rfl (by kernel_rfl) (by kernel_rfl) (by kernel_rfl) (fun _ _ _ h => h) (Or.inl ⟨by rfl, ?_⟩) (by assumption) ?_
      rotate_left
      focus (intro w hSw; (try dsimp only at hSw); go_simp; (try with_reducible rfl))
      try simp only [Act.put, List.setIfInBounds_toArray, List.set_cons_zero, List.set_cons_succ]
      refine wpAnyH_take (i := 12) (oi := { dst := some 92, op := Op.binOp BinOp.sub 3 (Operand.tmp 91) (Operand.const (Value.int IntKind.i64 1)) 3, type := 3, pos := "more.go:35", after := #[{ on := 11, ground := Ground.data }, { on := 8, ground := Ground.guard }], guard := some (8, true) }) (v := ?_) rfl (by kernel_rfl) (by kernel_rfl) (by kernel_rfl) (fun _ _ _ h => h) (Or.inl ⟨by rfl, ?_⟩) (by assumption) ?_
      rotate_left
      focus (intro w hSw; (try dsimp only at hSw); go_simp; (try with_reducible rfl))
      try simp only [Act.put, List.setIfInBounds_toArray, List.set_cons_zero, List.set_cons_succ]
      refine wpAnyH_take (i := 13) (oi := { dst := some 93, op := Op.indexAddr 47 (Operand.tmp 89) (Operand.tmp 92), type := 0, pos := "more.go:35", after := #[{ on := 9, ground := Ground.data }, { on := 12, ground := Ground.data }, { on := 8, ground := Ground.guard }], guard := some (8, true) }) (v := ?_) rfl (by kernel_rfl) (by kernel_rfl) (by kernel_rfl) (fun _ _ _ h => h) (Or.inl ⟨by rfl, ?_⟩) (by assumption) ?_
      rotate_left
      focus (intro w hSw; (try dsimp only at hSw); go_simp; (try with_reducible rfl))
      try simp only [Act.put, List.setIfInBounds_toArray, List.set_cons_zero, List.set_cons_succ]
      refine wpAnyH_take (i := 14) (oi := { dst := some 94, op := Op.fieldAddr 34 (Operand.tmp 93) 0, type := 0, pos := "more.go:35", after := #[{ on := 13, ground := Ground.data }, { on := 8, ground := Ground.guard }], guard := some (8, true) }) (v := ?_) rfl (by kernel_rfl) (by kernel_rfl) (by kernel_rfl) (fun _ _ _ h => h) (Or.inl ⟨by rfl, ?_⟩) (by assumption) ?_
      rotate_left
      focus (intro w hSw; (try dsimp only at hSw); go_simp; (try with_reducible rfl))
      try simp only [Act.put, List.setIfInBounds_toArray, List.set_cons_zero, List.set_cons_succ]
      refine wpAnyH_take (i := 15) (oi := { dst := some 95, op := Op.load 3 (Operand.tmp 94), type := 3, pos := "more.go:35", after := #[{ on := 14, ground := Ground.data }, { on := 8, ground := Ground.guard }], guard := some (8, true) }) (v := ?_) rfl (by kernel_rfl) (by kernel_rfl) (by kernel_rfl) (fun _ _ _ h => h) (Or.inl ⟨by rfl, ?_⟩) (by assumption) ?_
      rotate_left
      focus (intro w hSw; (try dsimp only at hSw); go_simp; (try with_reducible rfl))
      try simp only [Act.put, List.setIfInBounds_toArray, List.set_cons_zero, List.set_cons_succ]
      refine wpAnyH_take (i := 16) (oi := { dst := some 96, op := Op.binOp BinOp.eql 3 (Operand.tmp 95) (Operand.const (Value.int IntKind.i64 13)) 3, type := 4, pos := "more.go:35", after := #[{ on := 15, ground := Ground.data }, { on := 8, ground := Ground.guard }], guard := some (8, true) }) (v := ?_) rfl (by kernel_rfl) (by kernel_rfl) (by kernel_rfl) (fun _ _ _ h => h) (Or.inl ⟨by rfl, ?_⟩) (by assumption) ?_
      rotate_left
      focus (intro w hSw; (try dsimp only at hSw); go_simp; (try with_reducible rfl))
      try simp only [Act.put, List.setIfInBounds_toArray, List.set_cons_zero, List.set_cons_succ]
      refine wpAnyH_take (i := 17) (oi := { dst := some 97, op := Op.pick (Operand.tmp 88) (Operand.tmp 96) (Operand.const (Value.bool false)), type := 4, pos := "more.go:35", after := #[{ on := 8, ground := Ground.data }, { on := 16, ground := Ground.data }], guard := none }) (v := ?_) rfl (by kernel_rfl) (by kernel_rfl) (by kernel_rfl) (fun _ _ _ h => h) (Or.inl ⟨by rfl, ?_⟩) (by assumption) ?_
      rotate_left
      focus (intro w hSw; (try dsimp only at hSw); go_simp; (try with_reducible rfl))
      try simp only [Act.put, List.setIfInBounds_toArray, List.set_cons_zero, List.set_cons_succ]
      refine wpAnyH_take (i := 18) (oi := { dst := some 98, op := Op.move (Operand.tmp 97), type := 4, pos := "more.go:35", after := #[{ on := 17, ground := Ground.data }, { on := 8, ground := Ground.chain }], guard := none }) (v := ?_) rfl (by kernel_rfl) (by kernel_rfl) (by kernel_rfl) (fun _ _ _ h => h) (Or.inl ⟨by rfl, ?_⟩) (by assumption) ?_
      rotate_left
      focus (intro w hSw; (try dsimp only at hSw); go_simp; (try with_reducible rfl))
      try simp only [Act.put, List.setIfInBounds_toArray, List.set_cons_zero, List.set_cons_succ]
      refine wpAnyH_take (i := 19) (oi := { dst := some 99, op := Op.move (Operand.tmp 7), type := 24, pos := "more.go:35", after := #[{ on := 18, ground := Ground.guard }], guard := some (18, true) }) (v := ?_) rfl (by kernel_rfl) (by kernel_rfl) (by kernel_rfl) (fun _ _ _ h => h) (Or.inl ⟨by rfl, ?_⟩) (by assumption) ?_
      rotate_left
      focus (intro w hSw; (try dsimp only at hSw); go_simp; (try with_reducible rfl))
      try simp only [Act.put, List.setIfInBounds_toArray, List.set_cons_zero, List.set_cons_succ]
      refine wpAnyH_ready (rs := [20]) (by kernel_rfl) (by simp) ?_
      refine AllReadyH.cons (o := { dst := some 100, op := Op.call { callee := Callee.value (Operand.func 30), args := #[Operand.tmp 99, Operand.const (Value.int IntKind.i64 10)], argTypes := #[ 24, 3 ] }, type := 3, pos := "more.go:35", after := #[{ on := 19, ground := Ground.data }, { on := 18, ground := Ground.chain }, { on := 18, ground := Ground.guard }], guard := some (18, true) }) rfl (fun K hK => ?_) AllReadyH.nil
      go_simp
      refine (HO10.out _ hHeld.2).mono ?_; rintro e w13 ⟨rfl, rfl⟩
      go_wp2_with fail
      refine hK.out _ _ (by exact hHeld) (fun hHeld => ?_)
      clear hK K
      try simp only [Act.put, List.setIfInBounds_toArray, List.set_cons_zero, List.set_cons_succ]
      refine wpAnyH_take (i := 21) (oi := { dst := some 101, op := Op.binOp BinOp.eql 3 (Operand.tmp 100) (Operand.const (Value.int IntKind.i64 (-1))) 3, type := 4, pos := "more.go:35", after := #[{ on := 20, ground := Ground.data }, { on := 18, ground := Ground.guard }], guard := some (18, true) }) (v := ?_) rfl (by kernel_rfl) (by kernel_rfl) (by kernel_rfl) (fun _ _ _ h => h) (Or.inl ⟨by rfl, ?_⟩) (by assumption) ?_
      rotate_left
      focus (intro w hSw; (try dsimp only at hSw); go_simp; (try with_reducible rfl))
      try simp only [Act.put, List.setIfInBounds_toArray, List.set_cons_zero, List.set_cons_succ]
      refine wpAnyH_take (i := 22) (oi := { dst := some 102, op := Op.pick (Operand.tmp 98) (Operand.tmp 101) (Operand.const (Value.bool false)), type := 4, pos := "more.go:35", after := #[{ on := 18, ground := Ground.data }, { on := 21, ground := Ground.data }], guard := none }) (v := ?_) rfl (by kernel_rfl) (by kernel_rfl) (by kernel_rfl) (fun _ _ _ h => h) (Or.inl ⟨by rfl, ?_⟩) (by assumption) ?_
      rotate_left
      focus (intro w hSw; (try dsimp only at hSw); go_simp; (try with_reducible rfl))
      try simp only [Act.put, List.setIfInBounds_toArray, List.set_cons_zero, List.set_cons_succ]
      refine wpAnyH_take (i := 23) (oi := { dst := some 103, op := Op.move (Operand.tmp 102), type := 4, pos := "more.go:35", after := #[{ on := 22, ground := Ground.data }, { on := 20, ground := Ground.chain }], guard := none }) (v := ?_) rfl (by kernel_rfl) (by kernel_rfl) (by kernel_rfl) (fun _ _ _ h => h) (Or.inl ⟨by rfl, ?_⟩) (by assumption) ?_
      rotate_left
      focus (intro w hSw; (try dsimp only at hSw); go_simp; (try with_reducible rfl))
      try simp only [Act.put, List.setIfInBounds_toArray, List.set_cons_zero, List.set_cons_succ]
      refine wpAnyH_take (i := 24) (oi := { dst := some 104, op := Op.move (Operand.tmp 7), type := 24, pos := "more.go:35", after := #[{ on := 23, ground := Ground.guard }], guard := some (23, true) }) (v := ?_) rfl (by kernel_rfl) (by kernel_rfl) (by kernel_rfl) (fun _ _ _ h => h) (Or.inl ⟨by rfl, ?_⟩) (by assumption) ?_
      rotate_left
      focus (intro w hSw; (try dsimp only at hSw); go_simp; (try with_reducible rfl))
      try simp only [Act.put, List.setIfInBounds_toArray, List.set_cons_zero, List.set_cons_succ]
      refine wpAnyH_ready (rs := [25]) (by kernel_rfl) (by simp) ?_
      refine AllReadyH.cons (o := { dst := some 105, op := Op.call { callee := Callee.value (Operand.func 30), args := #[Operand.tmp 104, Operand.const (Value.int IntKind.i64 11)], argTypes := #[ 24, 3 ] }, type := 3, pos := "more.go:35", after := #[{ on := 24, ground := Ground.data }, { on := 23, ground := Ground.chain }, { on := 23, ground := Ground.guard }], guard := some (23, true) }) rfl (fun K hK => ?_) AllReadyH.nil
      go_simp
      refine (HO11.out _ hHeld.2).mono ?_; rintro e w14 ⟨rfl, rfl⟩
      go_wp2_with fail
      refine hK.out _ _ (by exact hHeld) (fun hHeld => ?_)
      clear hK K
      try simp only [Act.put, List.setIfInBounds_toArray, List.set_cons_zero, List.set_cons_succ]
      refine wpAnyH_take (i := 26) (oi := { dst := some 106, op := Op.binOp BinOp.geq 3 (Operand.tmp 105) (Operand.const (Value.int IntKind.i64 0)) 3, type := 4, pos := "more.go:35", after := #[{ on := 25, ground := Ground.data }, { on := 23, ground := Ground.guard }], guard := some (23, true) }) (v := ?_) rfl (by kernel_rfl) (by kernel_rfl) (by kernel_rfl) (fun _ _ _ h => h) (Or.inl ⟨by rfl, ?_⟩) (by assumption) ?_
      rotate_left
      focus (intro w hSw; (try dsimp only at hSw); go_simp; (try with_reducible rfl))
      try simp only [Act.put, List.setIfInBounds_toArray, List.set_cons_zero, List.set_cons_succ]
      refine wpAnyH_take (i := 27) (oi := { dst := some 107, op := Op.pick (Operand.tmp 103) (Operand.tmp 106) (Operand.const (Value.bool false)), type := 4, pos := "more.go:35", after := #[{ on := 23, ground := Ground.data }, { on := 26, ground := Ground.data }], guard := none }) (v := ?_) rfl (by kernel_rfl) (by kernel_rfl) (by kernel_rfl) (fun _ _ _ h => h) (Or.inl ⟨by rfl, ?_⟩) (by assumption) ?_
      rotate_left
      focus (intro w hSw; (try dsimp only at hSw); go_simp; (try with_reducible rfl))
      try simp only [Act.put, List.setIfInBounds_toArray, List.set_cons_zero, List.set_cons_succ]
      refine wpAnyH_take (i := 28) (oi := { dst := some 6, op := Op.assign (Operand.tmp 107), type := 4, pos := "more.go:35", after := #[{ on := 27, ground := Ground.data }, { on := 25, ground := Ground.chain }, { on := 0, ground := Ground.phase }, { on := 1, ground := Ground.phase }, { on := 2, ground := Ground.phase }, { on := 3, ground := Ground.phase }, { on := 4, ground := Ground.phase }, { on := 5, ground := Ground.phase }, { on := 6, ground := Ground.phase }, { on := 7, ground := Ground.phase }, { on := 8, ground := Ground.phase }, { on := 9, ground := Ground.phase }, { on := 10, ground := Ground.phase }, { on := 11, ground := Ground.phase }, { on := 12, ground := Ground.phase }, { on := 13, ground := Ground.phase }, { on := 14, ground := Ground.phase }, { on := 15, ground := Ground.phase }, { on := 16, ground := Ground.phase }, { on := 17, ground := Ground.phase }, { on := 18, ground := Ground.phase }, { on := 19, ground := Ground.phase }, { on := 20, ground := Ground.phase }, { on := 21, ground := Ground.phase }, { on := 22, ground := Ground.phase }, { on := 23, ground := Ground.phase }, { on := 24, ground := Ground.phase }, { on := 25, ground := Ground.phase }, { on := 26, ground := Ground.phase }, { on := 27, ground := Ground.phase }], guard := none }) (v := ?_) rfl (by kernel_rfl) (by kernel_rfl) (by kernel_rfl) (fun _ _ _ h => h) (Or.inl ⟨by rfl, ?_⟩) (by assumption) ?_
      rotate_left
      focus (intro w hSw; (try dsimp only at hSw); go_simp; (try with_reducible rfl))
      try simp only [Act.put, List.setIfInBounds_toArray, List.set_cons_zero, List.set_cons_succ]
      refine wpAnyH_done (by kernel_rfl) ?_ _
      have HE := Lib.hid (HBE.out.trans (hHeld.2.mono HBE.out.size))
      clear hHeld
      go_wp2_with fail
      go_ret
      exact ⟨rfl, HE.out⟩
end Go.Proofs.Ytppcgcmhecagbab
