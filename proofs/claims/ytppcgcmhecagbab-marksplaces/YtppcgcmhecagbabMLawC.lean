/-
  The walk of the law MarksPlaces: true, and nothing old is changed. Any three numbers.
-/
import Derived.Test.YtppcgcmhecagbabMWF
namespace Go.Proofs.Ytppcgcmhecagbab
open Go.RowKit

def plS : Nat → List MK
  | 0 => []
  | k + 1 => mPush (plS k) ⟨(k : Int), [UInt8.ofNat (97 + k)], []⟩
theorem plS_len : ∀ k, (plS k).length ≤ k
  | 0 => Nat.le_refl _
  | k + 1 => Nat.le_trans (mPush_len _ _) (by have := plS_len k; omega)
def plX (r : Nat) : MK := ⟨50, nm7 r, []⟩
def pl1 (c p r : Nat) : List MK := mPutS (plS c) p (plX r)
def pl3 (c p r : Nat) : List MK := mSetS (plS c) p (plX r)
def pl4 (c p r : Nat) : List MK := mPutS (pl3 c p r) c (plX r)
def plOk (c p r : Nat) : Bool :=
  (mPutB (plS c) p) && (mOfA (pl1 c p r) 50 0 == (p : Int)) && ((pl1 c p r).length == c + 1) && (mHas (pl1 c p r) p) && (mDropS (pl1 c p r) p == plS c) && (mHas (plS c) p) &&
    (mOfA (pl3 c p r) 50 0 == (p : Int)) && (mOfA (pl3 c p r) p 0 == -1) && ((pl3 c p r).length == c) && (mPutB (pl3 c p r) c) && (!mPutB (pl4 c p r) ((c : Int) + 2)) && (!mPutB (pl4 c p r) (-1)) && (!mHas (pl4 c p r) ((c : Int) + 1)) && ((pl4 c p r).length == c + 1)
theorem pl_all : ((List.range 10).all fun c => (List.range c).all fun p => (List.range 5).all fun r => plOk c p r) = true := by decide +kernel
structure PlFacts (c p r : Nat) : Prop where
  f1 : mPutB (plS c) p = true
  f2 : mOfA (pl1 c p r) 50 0 = (p : Int)
  f3 : (pl1 c p r).length = c + 1
  f4 : mHas (pl1 c p r) p = true
  f5 : mDropS (pl1 c p r) p = plS c
  f6 : mHas (plS c) p = true
  f7 : mOfA (pl3 c p r) 50 0 = (p : Int)
  f8 : mOfA (pl3 c p r) p 0 = -1
  f9 : (pl3 c p r).length = c
  g1 : mPutB (pl3 c p r) c = true
  g2 : mPutB (pl4 c p r) ((c : Int) + 2) = false
  g3 : mPutB (pl4 c p r) (-1) = false
  g4 : mHas (pl4 c p r) ((c : Int) + 1) = false
  g5 : (pl4 c p r).length = c + 1
theorem pl_facts (c p r : Nat) (hc : c < 10) (hp : p < c) (hr : r < 5) : PlFacts c p r := by
  have h := List.all_eq_true.1 pl_all c (List.mem_range.2 hc)
  have h := List.all_eq_true.1 h p (List.mem_range.2 hp)
  have h := List.all_eq_true.1 h r (List.mem_range.2 hr)
  simp only [plOk, Bool.and_eq_true, beq_iff_eq, Bool.not_eq_true'] at h
  obtain ⟨⟨⟨⟨⟨⟨⟨⟨⟨⟨⟨⟨⟨a1, a2⟩, a3⟩, a4⟩, a5⟩, a6⟩, a7⟩, a8⟩, a9⟩, b1⟩, b2⟩, b3⟩, b4⟩, b5⟩ := h
  exact ⟨a1, a2, a3, a4, a5, a6, a7, a8, a9, b1, b2, b3, b4, b5⟩

/-- The marks, a block beside them, a row beside them. -/
structure PlQ (w0 W : World) (M : Nat → Prop) (B : Nat) (S : List MK) (X : Nat) (cs : Array Value) (T : TypeId) (v : Value) (rs : List (MK × Value)) : Prop where
  mq : MarkB w0 W M B S
  xb : W.heap[X]? = some (.cells cs T (0, 0))
  xm : ¬ M X
  row : RowK W M v rs
theorem PlQ.step {w0 W w' : World} {M : Nat → Prop} {B : Nat} {S S' : List MK} {X : Nat} {cs : Array Value} {T : TypeId} {v : Value} {rs : List (MK × Value)} (h : PlQ w0 W M B S X cs T v rs) (hs : Stepd w0 W M B S' w') : ∃ M', PlQ w0 w' M' B S' X cs T v rs := by
  obtain ⟨M', h1, h2, h3⟩ := hs
  have hl := heap_lt h.xb
  exact ⟨M', h1, (h3.block X hl h.xm).trans h.xb, fun k => h.xm (h2 X hl k), h.row.turns h2 h3⟩
theorem PlQ.on {w0 W w' : World} {M : Nat → Prop} {B : Nat} {S : List MK} {X : Nat} {cs : Array Value} {T : TypeId} {v : Value} {rs : List (MK × Value)} (h : PlQ w0 W M B S X cs T v rs) (hb : Below W.heap.size W w') : PlQ w0 w' M B S X cs T v rs :=
  ⟨h.mq.on hb, (hb.block X (heap_lt h.xb)).trans h.xb, h.xm, h.row.on hb⟩
theorem mkB_put {w0 W : World} {M : Nat → Prop} {B : Nat} {S : List MK} (h : MarkB w0 W M B S) (i : Int) (x : MK) (pa : Option Addr) (ca : Nat) (hs : S.length ≤ 4294967296) (ha : AttrsK W M (.slice pa x.attrs.length ca) x.attrs) (hx : x.fits) :
    Calls Try.prog 25 #[.pointer (some ⟨B, 0, none⟩), .int .i64 i, markV x (.slice pa x.attrs.length ca)] W (fun e w' => e = .returned (.bool (mPutB S i)) ∧ Stepd w0 W M B (mPutS S i x) w') := by
  obtain ⟨P, ha, hp⟩ := ha
  refine (mputP S B M P W i x pa ca h.marks hs ha (fun b k => (hp b k).2) (Nat.le_trans hx.1 (by decide))).mono ?_
  rintro e w' ⟨rfl, q2, q3⟩
  refine ⟨rfl, h.step q2 q3 fun y hy => ?_⟩
  unfold mPutS at hy
  split at hy
  · unfold mIns at hy
    rcases List.mem_append.1 hy with hy | hy
    · exact h.fit y (List.mem_of_mem_take hy)
    · rcases List.mem_cons.1 hy with rfl | hy
      · exact hx
      · exact h.fit y (List.mem_of_mem_drop hy)
  · exact h.fit y hy
theorem mkB_set {w0 W : World} {M : Nat → Prop} {B : Nat} {S : List MK} (h : MarkB w0 W M B S) (i : Int) (x : MK) (pa : Option Addr) (ca : Nat) (hs : S.length ≤ 4294967296) (ha : AttrsK W M (.slice pa x.attrs.length ca) x.attrs) (hx : x.fits) :
    Calls Try.prog 23 #[.pointer (some ⟨B, 0, none⟩), .int .i64 i, markV x (.slice pa x.attrs.length ca)] W (fun e w' => e = .returned (.bool (mHas S i)) ∧ Stepd w0 W M B (mSetS S i x) w') := by
  obtain ⟨P, ha, hp⟩ := ha
  refine (msetP S B M P W i x pa ca h.marks hs ha (Nat.le_trans hx.1 (by decide))).mono ?_
  rintro e w' ⟨rfl, q2, q3⟩
  refine ⟨rfl, h.step q2 q3 fun y hy => ?_⟩
  unfold mSetS at hy
  split at hy
  · rcases List.mem_or_eq_of_mem_set hy with hy | rfl
    · exact h.fit y hy
    · exact hx
  · exact h.fit y hy

set_option maxHeartbeats 4000000 in
set_option maxRecDepth 100000 in
theorem marksPlaces_walk (n a k : Int) (w : World) (h0 : -9223372036854775808 ≤ n) (h1 : n ≤ 9223372036854775807) (h2 : -9223372036854775808 ≤ a) (h3 : a ≤ 9223372036854775807) (h4 : -9223372036854775808 ≤ k) (h5 : k ≤ 9223372036854775807) : Calls Try.prog 8 #[.int .i64 n, .int .i64 a, .int .i64 k] w (Yes w) := by
  have HK := Lib.hid (known7_yes w)
  have HW : Hid (∀ W, Calls Try.prog 15 #[.int .i64 n, .int .i64 9] W (Gives (.int .i64 ((Within n 9 : Nat) : Int)) W)) := Lib.hid fun W => within7 n 9 W h0 h1 (by omega) (by omega)
  have hr := (within_lt n 9 (by omega)).1
  generalize Within n 9 = c0 at *
  have HW2 : Hid (∀ W, Calls Try.prog 15 #[.int .i64 a, .int .i64 (1 + (c0 : Int))] W (Gives (.int .i64 ((Within a (1 + c0) : Nat) : Int)) W)) := Lib.hid fun W => by
    have := within7 a (1 + c0) W h2 h3 (by omega) (by omega)
    rw [show ((1 + c0 : Nat) : Int) = 1 + (c0 : Int) by omega] at this
    exact this
  have hp := (within_lt a (1 + c0) (by omega)).1
  generalize Within a (1 + c0) = p at *
  have HNM : Hid (∀ W, Calls Try.prog 13 #[.int .i64 k] W (TellsN (nm7 (Within k 5)) W)) := Lib.hid fun W => name7 k W h4 h5
  have hrr := (within_lt k 5 (by omega)).1
  generalize Within k 5 = r at *
  have HF := Lib.hid (pl_facts (1 + c0) p r (by omega) hp hrr)
  obtain ⟨NM, hNM⟩ : ∃ NM : ByteArray, NM = (⟨(nm7 r).toArray⟩ : ByteArray) := ⟨_, rfl⟩
  have HNN := Lib.hid hNM
  unfold TellsN at HNM
  rw [← hNM] at HNM
  clear h0 h1 h2 h3 h4 h5 hNM hrr
  go_enter Try.func8, Try.ntmps8
  go_wp2_with fail
  refine HK.out.mono ?_
  rintro e w1 ⟨rfl, b1⟩
  have B1 := Lib.hid b1
  clear b1
  go_wp2_with fail
  refine (mkB_new w1).mono ?_
  rintro e w2 ⟨M, B, rfl, h2⟩
  have H2 := Lib.hid h2
  clear h2
  go_wp2_with fail
  refine (HW.out _).mono ?_
  rintro e w3 ⟨rfl, rfl⟩
  go_wp2_with fail
  go_loopw [9] (fun jv wr => ∃ (j : Nat) (M' : Nat → Prop), j ≤ 1 + c0 ∧ jv = .int .i64 (j : Int) ∧ MarkB w1 wr M' B (plS j)) (fun jv _ => 1 + c0 - (intOf jv).toNat)
  case atStart => exact ⟨0, M, by omega, rfl, H2.out⟩
  case round =>
    obtain ⟨j, M', hj, rfl, hm⟩ := hrel
    have HM := Lib.hid hm
    clear hm
    by_cases hlt : j < 1 + c0
    · have hcase : j = 0 ∨ j = 1 ∨ j = 2 ∨ j = 3 ∨ j = 4 ∨ j = 5 ∨ j = 6 ∨ j = 7 ∨ j = 8 := by omega
      rcases hcase with rfl | rfl | rfl | rfl | rfl | rfl | rfl | rfl | rfl
      · rw [show ((0 : Nat) : Int) = 0 from rfl]
        have q : (0 : Int) < 1 + (c0 : Int) := by omega
        have HC : Hid (Calls Try.prog 27 #[.pointer (some ⟨B, 0, none⟩), .agg #[.int .i64 0, .string (Utf8.encode 97), .slice none 0 0]] wr (fun e w' => e = .returned (.tuple #[]) ∧ Stepd w1 wr M' B (plS 1) w')) := by
          refine Lib.hid ?_
          rw [show Utf8.encode 97 = ⟨#[97]⟩ by kernel_rfl]
          exact mkB_push HM.out ⟨0, [97], []⟩ none 0 (by have := plS_len 0; omega) (AttrsK.nil _ _) (fits_of rfl)
        clear hj hlt
        go_wp2_with fail
        refine HC.out.mono ?_
        rintro e w5 ⟨rfl, M5, h5, _, _⟩
        have H5 := Lib.hid h5
        clear h5
        go_wp2_with fail
        exact ⟨⟨1, M5, by omega, rfl, H5.out⟩, by first | (simp [intOf]; done) | (simp [intOf]; omega)⟩
      · rw [show ((1 : Nat) : Int) = 1 from rfl]
        have q : (1 : Int) < 1 + (c0 : Int) := by omega
        have HC : Hid (Calls Try.prog 27 #[.pointer (some ⟨B, 0, none⟩), .agg #[.int .i64 1, .string (Utf8.encode 98), .slice none 0 0]] wr (fun e w' => e = .returned (.tuple #[]) ∧ Stepd w1 wr M' B (plS 2) w')) := by
          refine Lib.hid ?_
          rw [show Utf8.encode 98 = ⟨#[98]⟩ by kernel_rfl]
          exact mkB_push HM.out ⟨1, [98], []⟩ none 0 (by have := plS_len 1; omega) (AttrsK.nil _ _) (fits_of rfl)
        clear hj hlt
        go_wp2_with fail
        refine HC.out.mono ?_
        rintro e w5 ⟨rfl, M5, h5, _, _⟩
        have H5 := Lib.hid h5
        clear h5
        go_wp2_with fail
        exact ⟨⟨2, M5, by omega, rfl, H5.out⟩, by first | (simp [intOf]; done) | (simp [intOf]; omega)⟩
      · rw [show ((2 : Nat) : Int) = 2 from rfl]
        have q : (2 : Int) < 1 + (c0 : Int) := by omega
        have HC : Hid (Calls Try.prog 27 #[.pointer (some ⟨B, 0, none⟩), .agg #[.int .i64 2, .string (Utf8.encode 99), .slice none 0 0]] wr (fun e w' => e = .returned (.tuple #[]) ∧ Stepd w1 wr M' B (plS 3) w')) := by
          refine Lib.hid ?_
          rw [show Utf8.encode 99 = ⟨#[99]⟩ by kernel_rfl]
          exact mkB_push HM.out ⟨2, [99], []⟩ none 0 (by have := plS_len 2; omega) (AttrsK.nil _ _) (fits_of rfl)
        clear hj hlt
        go_wp2_with fail
        refine HC.out.mono ?_
        rintro e w5 ⟨rfl, M5, h5, _, _⟩
        have H5 := Lib.hid h5
        clear h5
        go_wp2_with fail
        exact ⟨⟨3, M5, by omega, rfl, H5.out⟩, by first | (simp [intOf]; done) | (simp [intOf]; omega)⟩
      · rw [show ((3 : Nat) : Int) = 3 from rfl]
        have q : (3 : Int) < 1 + (c0 : Int) := by omega
        have HC : Hid (Calls Try.prog 27 #[.pointer (some ⟨B, 0, none⟩), .agg #[.int .i64 3, .string (Utf8.encode 100), .slice none 0 0]] wr (fun e w' => e = .returned (.tuple #[]) ∧ Stepd w1 wr M' B (plS 4) w')) := by
          refine Lib.hid ?_
          rw [show Utf8.encode 100 = ⟨#[100]⟩ by kernel_rfl]
          exact mkB_push HM.out ⟨3, [100], []⟩ none 0 (by have := plS_len 3; omega) (AttrsK.nil _ _) (fits_of rfl)
        clear hj hlt
        go_wp2_with fail
        refine HC.out.mono ?_
        rintro e w5 ⟨rfl, M5, h5, _, _⟩
        have H5 := Lib.hid h5
        clear h5
        go_wp2_with fail
        exact ⟨⟨4, M5, by omega, rfl, H5.out⟩, by first | (simp [intOf]; done) | (simp [intOf]; omega)⟩
      · rw [show ((4 : Nat) : Int) = 4 from rfl]
        have q : (4 : Int) < 1 + (c0 : Int) := by omega
        have HC : Hid (Calls Try.prog 27 #[.pointer (some ⟨B, 0, none⟩), .agg #[.int .i64 4, .string (Utf8.encode 101), .slice none 0 0]] wr (fun e w' => e = .returned (.tuple #[]) ∧ Stepd w1 wr M' B (plS 5) w')) := by
          refine Lib.hid ?_
          rw [show Utf8.encode 101 = ⟨#[101]⟩ by kernel_rfl]
          exact mkB_push HM.out ⟨4, [101], []⟩ none 0 (by have := plS_len 4; omega) (AttrsK.nil _ _) (fits_of rfl)
        clear hj hlt
        go_wp2_with fail
        refine HC.out.mono ?_
        rintro e w5 ⟨rfl, M5, h5, _, _⟩
        have H5 := Lib.hid h5
        clear h5
        go_wp2_with fail
        exact ⟨⟨5, M5, by omega, rfl, H5.out⟩, by first | (simp [intOf]; done) | (simp [intOf]; omega)⟩
      · rw [show ((5 : Nat) : Int) = 5 from rfl]
        have q : (5 : Int) < 1 + (c0 : Int) := by omega
        have HC : Hid (Calls Try.prog 27 #[.pointer (some ⟨B, 0, none⟩), .agg #[.int .i64 5, .string (Utf8.encode 102), .slice none 0 0]] wr (fun e w' => e = .returned (.tuple #[]) ∧ Stepd w1 wr M' B (plS 6) w')) := by
          refine Lib.hid ?_
          rw [show Utf8.encode 102 = ⟨#[102]⟩ by kernel_rfl]
          exact mkB_push HM.out ⟨5, [102], []⟩ none 0 (by have := plS_len 5; omega) (AttrsK.nil _ _) (fits_of rfl)
        clear hj hlt
        go_wp2_with fail
        refine HC.out.mono ?_
        rintro e w5 ⟨rfl, M5, h5, _, _⟩
        have H5 := Lib.hid h5
        clear h5
        go_wp2_with fail
        exact ⟨⟨6, M5, by omega, rfl, H5.out⟩, by first | (simp [intOf]; done) | (simp [intOf]; omega)⟩
      · rw [show ((6 : Nat) : Int) = 6 from rfl]
        have q : (6 : Int) < 1 + (c0 : Int) := by omega
        have HC : Hid (Calls Try.prog 27 #[.pointer (some ⟨B, 0, none⟩), .agg #[.int .i64 6, .string (Utf8.encode 103), .slice none 0 0]] wr (fun e w' => e = .returned (.tuple #[]) ∧ Stepd w1 wr M' B (plS 7) w')) := by
          refine Lib.hid ?_
          rw [show Utf8.encode 103 = ⟨#[103]⟩ by kernel_rfl]
          exact mkB_push HM.out ⟨6, [103], []⟩ none 0 (by have := plS_len 6; omega) (AttrsK.nil _ _) (fits_of rfl)
        clear hj hlt
        go_wp2_with fail
        refine HC.out.mono ?_
        rintro e w5 ⟨rfl, M5, h5, _, _⟩
        have H5 := Lib.hid h5
        clear h5
        go_wp2_with fail
        exact ⟨⟨7, M5, by omega, rfl, H5.out⟩, by first | (simp [intOf]; done) | (simp [intOf]; omega)⟩
      · rw [show ((7 : Nat) : Int) = 7 from rfl]
        have q : (7 : Int) < 1 + (c0 : Int) := by omega
        have HC : Hid (Calls Try.prog 27 #[.pointer (some ⟨B, 0, none⟩), .agg #[.int .i64 7, .string (Utf8.encode 104), .slice none 0 0]] wr (fun e w' => e = .returned (.tuple #[]) ∧ Stepd w1 wr M' B (plS 8) w')) := by
          refine Lib.hid ?_
          rw [show Utf8.encode 104 = ⟨#[104]⟩ by kernel_rfl]
          exact mkB_push HM.out ⟨7, [104], []⟩ none 0 (by have := plS_len 7; omega) (AttrsK.nil _ _) (fits_of rfl)
        clear hj hlt
        go_wp2_with fail
        refine HC.out.mono ?_
        rintro e w5 ⟨rfl, M5, h5, _, _⟩
        have H5 := Lib.hid h5
        clear h5
        go_wp2_with fail
        exact ⟨⟨8, M5, by omega, rfl, H5.out⟩, by first | (simp [intOf]; done) | (simp [intOf]; omega)⟩
      · rw [show ((8 : Nat) : Int) = 8 from rfl]
        have q : (8 : Int) < 1 + (c0 : Int) := by omega
        have HC : Hid (Calls Try.prog 27 #[.pointer (some ⟨B, 0, none⟩), .agg #[.int .i64 8, .string (Utf8.encode 105), .slice none 0 0]] wr (fun e w' => e = .returned (.tuple #[]) ∧ Stepd w1 wr M' B (plS 9) w')) := by
          refine Lib.hid ?_
          rw [show Utf8.encode 105 = ⟨#[105]⟩ by kernel_rfl]
          exact mkB_push HM.out ⟨8, [105], []⟩ none 0 (by have := plS_len 8; omega) (AttrsK.nil _ _) (fits_of rfl)
        clear hj hlt
        go_wp2_with fail
        refine HC.out.mono ?_
        rintro e w5 ⟨rfl, M5, h5, _, _⟩
        have H5 := Lib.hid h5
        clear h5
        go_wp2_with fail
        exact ⟨⟨9, M5, by omega, rfl, H5.out⟩, by first | (simp [intOf]; done) | (simp [intOf]; omega)⟩
    · obtain rfl : j = 1 + c0 := by omega
      have q : ¬ ((1 + c0 : Nat) : Int) < 1 + (c0 : Int) := by omega
      clear hj hlt
      go_wp2_with fail
      refine (HW2.out _).mono ?_
      rintro e w3 ⟨rfl, rfl⟩
      go_wp2_with fail
      refine (mkB_all HM.out (by have := plS_len (1 + c0); omega)).mono ?_
      rintro e w4 ⟨v4, rs, rfl, hm4, hr4, hb4, h4, hk4⟩
      have H4 := Lib.hid h4
      have HK4 := Lib.hid hk4
      have HM4 := Lib.hid hm4
      clear h4 hk4 hm4 hr4 hb4
      go_wp2_with fail
      refine (HNM.out _).mono ?_
      rintro e w5 ⟨rfl, b5⟩
      have H5 := Lib.hid (H4.out.on b5)
      have HK5 := Lib.hid (HK4.out.on b5)
      clear b5 H4 HK4
      go_wp2_with fail
      have bX : Below w5.heap.size w5 (w5.alloc (.cells #[.int .i64 50, .string NM, .slice none 0 0] 34)) := (Below.refl _ _).alloc (Nat.le_refl _) _
      have HQ0 : Hid (PlQ w1 (w5.alloc (.cells #[.int .i64 50, .string NM, .slice none 0 0] 34)) M' B (plS (1 + c0)) w5.heap.size #[.int .i64 50, .string NM, .slice none 0 0] 34 v4 rs) := Lib.hid ⟨H5.out.on bX, heap_alloc_new w5 _, fun k => absurd (H5.out.inn _ k).2 (by omega), HK5.out.on bX⟩
      clear bX H5 HK5
      generalize w5.alloc (.cells #[.int .i64 50, .string NM, .slice none 0 0] 34) = W6 at *
      generalize w5.heap.size = X at *
      have HC : Hid (Calls Try.prog 25 #[.pointer (some ⟨B, 0, none⟩), .int .i64 (p : Int), .agg #[.int .i64 50, .string NM, .slice none 0 0]] W6 (fun e w' => e = .returned (.bool true) ∧ Stepd w1 W6 M' B (pl1 (1 + c0) p r) w')) := by
        refine Lib.hid ?_
        have h := mkB_put HQ0.out.mq (p : Int) (plX r) none 0 (by have := plS_len (1 + c0); omega) (AttrsK.nil _ _) (fits_of rfl)
        have e0 : markV (plX r) (.slice none (plX r).attrs.length 0) = .agg #[.int .i64 50, .string NM, .slice none 0 0] := by rw [HNN.out]; rfl
        rw [e0] at h
        rw [HF.out.f1] at h
        exact h
      have y0 : W6.cell? ⟨X, 0, none⟩ = some (.int .i64 50) := (block_cell HQ0.out.xb 0).1
      have y1 : W6.cell? ⟨X, 1, none⟩ = some (.string NM) := (block_cell HQ0.out.xb 1).1
      have y2 : W6.cell? ⟨X, 2, none⟩ = some (.slice none 0 0) := (block_cell HQ0.out.xb 2).1
      have yl := heap_lt HQ0.out.xb
      go_wp2_with fail
      refine HC.out.mono ?_
      rintro e W1q ⟨rfl, h1⟩
      obtain ⟨M1q, h1⟩ := HQ0.out.step h1
      have HQ1 := Lib.hid h1
      clear h1 y0 y1 y2 yl HC
      have HC : Hid (Calls Try.prog 30 #[.pointer (some ⟨B, 0, none⟩), .int .i64 50] W1q (Gives (.int .i64 (p : Int)) W1q)) := by
        refine Lib.hid ?_
        have h := mkB_of HQ1.out.mq 50 (by have := HF.out.f3; omega)
        rw [HF.out.f2] at h
        exact h
      have y0 : W1q.cell? ⟨X, 0, none⟩ = some (.int .i64 50) := (block_cell HQ1.out.xb 0).1
      have y1 : W1q.cell? ⟨X, 1, none⟩ = some (.string NM) := (block_cell HQ1.out.xb 1).1
      have y2 : W1q.cell? ⟨X, 2, none⟩ = some (.slice none 0 0) := (block_cell HQ1.out.xb 2).1
      have yl := heap_lt HQ1.out.xb
      go_wp2_with fail
      refine HC.out.mono ?_
      rintro e w7 ⟨rfl, rfl⟩
      clear y0 y1 y2 yl HC
      have HC : Hid (Calls Try.prog 39 #[.pointer (some ⟨B, 0, none⟩)] W1q (Gives (.int .i64 (1 + (c0 : Int) + 1)) W1q)) := by
        refine Lib.hid ?_
        have h := mkB_len HQ1.out.mq
        rw [HF.out.f3, show ((1 + c0 + 1 : Nat) : Int) = 1 + (c0 : Int) + 1 by omega] at h
        exact h
      have y0 : W1q.cell? ⟨X, 0, none⟩ = some (.int .i64 50) := (block_cell HQ1.out.xb 0).1
      have y1 : W1q.cell? ⟨X, 1, none⟩ = some (.string NM) := (block_cell HQ1.out.xb 1).1
      have y2 : W1q.cell? ⟨X, 2, none⟩ = some (.slice none 0 0) := (block_cell HQ1.out.xb 2).1
      have yl := heap_lt HQ1.out.xb
      go_wp2_with fail
      refine HC.out.mono ?_
      rintro e w7 ⟨rfl, rfl⟩
      clear y0 y1 y2 yl HC
      have HC : Hid (Calls Try.prog 21 #[.pointer (some ⟨B, 0, none⟩), .int .i64 (p : Int)] W1q (fun e w' => e = .returned (.bool true) ∧ Stepd w1 W1q M1q B (plS (1 + c0)) w')) := by
        refine Lib.hid ?_
        have h := mkB_drop HQ1.out.mq (p : Int) (by have := HF.out.f3; omega)
        rw [HF.out.f4, HF.out.f5] at h
        exact h
      have y0 : W1q.cell? ⟨X, 0, none⟩ = some (.int .i64 50) := (block_cell HQ1.out.xb 0).1
      have y1 : W1q.cell? ⟨X, 1, none⟩ = some (.string NM) := (block_cell HQ1.out.xb 1).1
      have y2 : W1q.cell? ⟨X, 2, none⟩ = some (.slice none 0 0) := (block_cell HQ1.out.xb 2).1
      have yl := heap_lt HQ1.out.xb
      go_wp2_with fail
      refine HC.out.mono ?_
      rintro e W2q ⟨rfl, h2⟩
      obtain ⟨M2q, h2⟩ := HQ1.out.step h2
      have HQ2 := Lib.hid h2
      clear h2 y0 y1 y2 yl HC
      have y0 : W2q.cell? ⟨X, 0, none⟩ = some (.int .i64 50) := (block_cell HQ2.out.xb 0).1
      have y1 : W2q.cell? ⟨X, 1, none⟩ = some (.string NM) := (block_cell HQ2.out.xb 1).1
      have y2 : W2q.cell? ⟨X, 2, none⟩ = some (.slice none 0 0) := (block_cell HQ2.out.xb 2).1
      have yl := heap_lt HQ2.out.xb
      go_wp2_with fail
      refine (mkB_all HQ2.out.mq (by have := plS_len (1 + c0); omega)).mono ?_
      rintro e w7 ⟨v7, rs7, rfl, hm7, hr7, hb7, h7, _⟩
      have HQ3 := Lib.hid (HQ2.out.on hb7)
      obtain ⟨P, hrp, _⟩ := HQ3.out.row
      have HSM := Lib.hid (rsameM v7 v4 rs7 rs _ P w7 hr7 hrp (by have := congrArg List.length hm7; rw [List.length_map] at this; have := plS_len (1 + c0); omega) (fun q hq => Nat.le_trans (HQ2.out.mq.fit q.1 (by rw [← hm7]; exact List.mem_map_of_mem hq)).1 (by decide)))
      rw [decide_eq_true (hm7.trans HM4.out.symm)] at HSM
      clear hm7 hr7 hb7 h7 hrp y0 y1 y2 yl
      go_wp2_with fail
      refine HSM.out.mono ?_
      rintro e W4q ⟨rfl, b8⟩
      have HQ4 := Lib.hid (HQ3.out.on b8)
      clear b8 HSM
      have HC : Hid (Calls Try.prog 23 #[.pointer (some ⟨B, 0, none⟩), .int .i64 (p : Int), .agg #[.int .i64 50, .string NM, .slice none 0 0]] W4q (fun e w' => e = .returned (.bool true) ∧ Stepd w1 W4q M2q B (pl3 (1 + c0) p r) w')) := by
        refine Lib.hid ?_
        have h := mkB_set HQ4.out.mq (p : Int) (plX r) none 0 (by have := plS_len (1 + c0); omega) (AttrsK.nil _ _) (fits_of rfl)
        have e0 : markV (plX r) (.slice none (plX r).attrs.length 0) = .agg #[.int .i64 50, .string NM, .slice none 0 0] := by rw [HNN.out]; rfl
        rw [e0] at h
        rw [HF.out.f6] at h
        exact h
      have y0 : W4q.cell? ⟨X, 0, none⟩ = some (.int .i64 50) := (block_cell HQ4.out.xb 0).1
      have y1 : W4q.cell? ⟨X, 1, none⟩ = some (.string NM) := (block_cell HQ4.out.xb 1).1
      have y2 : W4q.cell? ⟨X, 2, none⟩ = some (.slice none 0 0) := (block_cell HQ4.out.xb 2).1
      have yl := heap_lt HQ4.out.xb
      go_wp2_with fail
      refine HC.out.mono ?_
      rintro e W5q ⟨rfl, h5⟩
      obtain ⟨M5q, h5⟩ := HQ4.out.step h5
      have HQ5 := Lib.hid h5
      clear h5 y0 y1 y2 yl HC
      have HC : Hid (Calls Try.prog 30 #[.pointer (some ⟨B, 0, none⟩), .int .i64 50] W5q (Gives (.int .i64 (p : Int)) W5q)) := by
        refine Lib.hid ?_
        have h := mkB_of HQ5.out.mq 50 (by have := HF.out.f9; omega)
        rw [HF.out.f7] at h
        exact h
      have y0 : W5q.cell? ⟨X, 0, none⟩ = some (.int .i64 50) := (block_cell HQ5.out.xb 0).1
      have y1 : W5q.cell? ⟨X, 1, none⟩ = some (.string NM) := (block_cell HQ5.out.xb 1).1
      have y2 : W5q.cell? ⟨X, 2, none⟩ = some (.slice none 0 0) := (block_cell HQ5.out.xb 2).1
      have yl := heap_lt HQ5.out.xb
      go_wp2_with fail
      refine HC.out.mono ?_
      rintro e w7 ⟨rfl, rfl⟩
      clear y0 y1 y2 yl HC
      have HC : Hid (Calls Try.prog 30 #[.pointer (some ⟨B, 0, none⟩), .int .i64 (p : Int)] W5q (Gives (.int .i64 (-1)) W5q)) := by
        refine Lib.hid ?_
        have h := mkB_of HQ5.out.mq (p : Int) (by have := HF.out.f9; omega)
        rw [HF.out.f8] at h
        exact h
      have y0 : W5q.cell? ⟨X, 0, none⟩ = some (.int .i64 50) := (block_cell HQ5.out.xb 0).1
      have y1 : W5q.cell? ⟨X, 1, none⟩ = some (.string NM) := (block_cell HQ5.out.xb 1).1
      have y2 : W5q.cell? ⟨X, 2, none⟩ = some (.slice none 0 0) := (block_cell HQ5.out.xb 2).1
      have yl := heap_lt HQ5.out.xb
      go_wp2_with fail
      refine HC.out.mono ?_
      rintro e w7 ⟨rfl, rfl⟩
      clear y0 y1 y2 yl HC
      have HC : Hid (Calls Try.prog 39 #[.pointer (some ⟨B, 0, none⟩)] W5q (Gives (.int .i64 (1 + (c0 : Int))) W5q)) := by
        refine Lib.hid ?_
        have h := mkB_len HQ5.out.mq
        rw [HF.out.f9, show ((1 + c0 : Nat) : Int) = 1 + (c0 : Int) by omega] at h
        exact h
      have y0 : W5q.cell? ⟨X, 0, none⟩ = some (.int .i64 50) := (block_cell HQ5.out.xb 0).1
      have y1 : W5q.cell? ⟨X, 1, none⟩ = some (.string NM) := (block_cell HQ5.out.xb 1).1
      have y2 : W5q.cell? ⟨X, 2, none⟩ = some (.slice none 0 0) := (block_cell HQ5.out.xb 2).1
      have yl := heap_lt HQ5.out.xb
      go_wp2_with fail
      refine HC.out.mono ?_
      rintro e w7 ⟨rfl, rfl⟩
      clear y0 y1 y2 yl HC
      have HC : Hid (Calls Try.prog 25 #[.pointer (some ⟨B, 0, none⟩), .int .i64 (1 + (c0 : Int)), .agg #[.int .i64 50, .string NM, .slice none 0 0]] W5q (fun e w' => e = .returned (.bool true) ∧ Stepd w1 W5q M5q B (pl4 (1 + c0) p r) w')) := by
        refine Lib.hid ?_
        have h := mkB_put HQ5.out.mq (1 + (c0 : Int)) (plX r) none 0 (by have := HF.out.f9; omega) (AttrsK.nil _ _) (fits_of rfl)
        have e0 : markV (plX r) (.slice none (plX r).attrs.length 0) = .agg #[.int .i64 50, .string NM, .slice none 0 0] := by rw [HNN.out]; rfl
        rw [e0] at h
        rw [show (1 + (c0 : Int)) = ((1 + c0 : Nat) : Int) by omega, HF.out.g1] at h
        rw [show (1 + (c0 : Int)) = ((1 + c0 : Nat) : Int) by omega]
        exact h
      have y0 : W5q.cell? ⟨X, 0, none⟩ = some (.int .i64 50) := (block_cell HQ5.out.xb 0).1
      have y1 : W5q.cell? ⟨X, 1, none⟩ = some (.string NM) := (block_cell HQ5.out.xb 1).1
      have y2 : W5q.cell? ⟨X, 2, none⟩ = some (.slice none 0 0) := (block_cell HQ5.out.xb 2).1
      have yl := heap_lt HQ5.out.xb
      go_wp2_with fail
      refine HC.out.mono ?_
      rintro e W6q ⟨rfl, h6⟩
      obtain ⟨M6q, h6⟩ := HQ5.out.step h6
      have HQ6 := Lib.hid h6
      clear h6 y0 y1 y2 yl HC
      have HC : Hid (Calls Try.prog 25 #[.pointer (some ⟨B, 0, none⟩), .int .i64 (1 + (c0 : Int) + 2), .agg #[.int .i64 50, .string NM, .slice none 0 0]] W6q (fun e w' => e = .returned (.bool false) ∧ Stepd w1 W6q M6q B (pl4 (1 + c0) p r) w')) := by
        refine Lib.hid ?_
        have h := mkB_put HQ6.out.mq (1 + (c0 : Int) + 2) (plX r) none 0 (by have := HF.out.g5; omega) (AttrsK.nil _ _) (fits_of rfl)
        have e0 : markV (plX r) (.slice none (plX r).attrs.length 0) = .agg #[.int .i64 50, .string NM, .slice none 0 0] := by rw [HNN.out]; rfl
        rw [e0] at h
        rw [show (1 + (c0 : Int) + 2) = ((1 + c0 : Nat) : Int) + 2 by omega] at h ⊢
        unfold mPutS at h
        rw [HF.out.g2] at h
        exact h
      have y0 : W6q.cell? ⟨X, 0, none⟩ = some (.int .i64 50) := (block_cell HQ6.out.xb 0).1
      have y1 : W6q.cell? ⟨X, 1, none⟩ = some (.string NM) := (block_cell HQ6.out.xb 1).1
      have y2 : W6q.cell? ⟨X, 2, none⟩ = some (.slice none 0 0) := (block_cell HQ6.out.xb 2).1
      have yl := heap_lt HQ6.out.xb
      go_wp2_with fail
      refine HC.out.mono ?_
      rintro e W7q ⟨rfl, h7⟩
      obtain ⟨M7q, h7⟩ := HQ6.out.step h7
      have HQ7 := Lib.hid h7
      clear h7 y0 y1 y2 yl HC
      have HC : Hid (Calls Try.prog 25 #[.pointer (some ⟨B, 0, none⟩), .int .i64 (-1), .agg #[.int .i64 50, .string NM, .slice none 0 0]] W7q (fun e w' => e = .returned (.bool false) ∧ Stepd w1 W7q M7q B (pl4 (1 + c0) p r) w')) := by
        refine Lib.hid ?_
        have h := mkB_put HQ7.out.mq (-1) (plX r) none 0 (by have := HF.out.g5; omega) (AttrsK.nil _ _) (fits_of rfl)
        have e0 : markV (plX r) (.slice none (plX r).attrs.length 0) = .agg #[.int .i64 50, .string NM, .slice none 0 0] := by rw [HNN.out]; rfl
        rw [e0] at h
        unfold mPutS at h
        rw [HF.out.g3] at h
        exact h
      have y0 : W7q.cell? ⟨X, 0, none⟩ = some (.int .i64 50) := (block_cell HQ7.out.xb 0).1
      have y1 : W7q.cell? ⟨X, 1, none⟩ = some (.string NM) := (block_cell HQ7.out.xb 1).1
      have y2 : W7q.cell? ⟨X, 2, none⟩ = some (.slice none 0 0) := (block_cell HQ7.out.xb 2).1
      have yl := heap_lt HQ7.out.xb
      go_wp2_with fail
      refine HC.out.mono ?_
      rintro e W8q ⟨rfl, h8⟩
      obtain ⟨M8q, h8⟩ := HQ7.out.step h8
      have HQ8 := Lib.hid h8
      clear h8 y0 y1 y2 yl HC
      have HC : Hid (Calls Try.prog 23 #[.pointer (some ⟨B, 0, none⟩), .int .i64 (1 + (c0 : Int) + 1), .agg #[.int .i64 50, .string NM, .slice none 0 0]] W8q (fun e w' => e = .returned (.bool false) ∧ Stepd w1 W8q M8q B (pl4 (1 + c0) p r) w')) := by
        refine Lib.hid ?_
        have h := mkB_set HQ8.out.mq (1 + (c0 : Int) + 1) (plX r) none 0 (by have := HF.out.g5; omega) (AttrsK.nil _ _) (fits_of rfl)
        have e0 : markV (plX r) (.slice none (plX r).attrs.length 0) = .agg #[.int .i64 50, .string NM, .slice none 0 0] := by rw [HNN.out]; rfl
        rw [e0] at h
        rw [show (1 + (c0 : Int) + 1) = ((1 + c0 : Nat) : Int) + 1 by omega] at h ⊢
        unfold mSetS at h
        rw [HF.out.g4] at h
        exact h
      have y0 : W8q.cell? ⟨X, 0, none⟩ = some (.int .i64 50) := (block_cell HQ8.out.xb 0).1
      have y1 : W8q.cell? ⟨X, 1, none⟩ = some (.string NM) := (block_cell HQ8.out.xb 1).1
      have y2 : W8q.cell? ⟨X, 2, none⟩ = some (.slice none 0 0) := (block_cell HQ8.out.xb 2).1
      have yl := heap_lt HQ8.out.xb
      go_wp2_with fail
      refine HC.out.mono ?_
      rintro e W9q ⟨rfl, h9⟩
      obtain ⟨M9q, h9⟩ := HQ8.out.step h9
      have HQ9 := Lib.hid h9
      clear h9 y0 y1 y2 yl HC
      have HC : Hid (Calls Try.prog 21 #[.pointer (some ⟨B, 0, none⟩), .int .i64 (1 + (c0 : Int) + 1)] W9q (fun e w' => e = .returned (.bool false) ∧ Stepd w1 W9q M9q B (pl4 (1 + c0) p r) w')) := by
        refine Lib.hid ?_
        have h := mkB_drop HQ9.out.mq (1 + (c0 : Int) + 1) (by have := HF.out.g5; omega)
        rw [show (1 + (c0 : Int) + 1) = ((1 + c0 : Nat) : Int) + 1 by omega] at h ⊢
        unfold mDropS at h
        rw [HF.out.g4] at h
        exact h
      have y0 : W9q.cell? ⟨X, 0, none⟩ = some (.int .i64 50) := (block_cell HQ9.out.xb 0).1
      have y1 : W9q.cell? ⟨X, 1, none⟩ = some (.string NM) := (block_cell HQ9.out.xb 1).1
      have y2 : W9q.cell? ⟨X, 2, none⟩ = some (.slice none 0 0) := (block_cell HQ9.out.xb 2).1
      have yl := heap_lt HQ9.out.xb
      go_wp2_with fail
      refine HC.out.mono ?_
      rintro e W10q ⟨rfl, h10⟩
      obtain ⟨M10q, h10⟩ := HQ9.out.step h10
      have HQ10 := Lib.hid h10
      clear h10 y0 y1 y2 yl HC
      have HC : Hid (Calls Try.prog 39 #[.pointer (some ⟨B, 0, none⟩)] W10q (Gives (.int .i64 (1 + (c0 : Int) + 1)) W10q)) := by
        refine Lib.hid ?_
        have h := mkB_len HQ10.out.mq
        rw [HF.out.g5, show ((1 + c0 + 1 : Nat) : Int) = 1 + (c0 : Int) + 1 by omega] at h
        exact h
      have y0 : W10q.cell? ⟨X, 0, none⟩ = some (.int .i64 50) := (block_cell HQ10.out.xb 0).1
      have y1 : W10q.cell? ⟨X, 1, none⟩ = some (.string NM) := (block_cell HQ10.out.xb 1).1
      have y2 : W10q.cell? ⟨X, 2, none⟩ = some (.slice none 0 0) := (block_cell HQ10.out.xb 2).1
      have yl := heap_lt HQ10.out.xb
      go_wp2_with fail
      refine HC.out.mono ?_
      rintro e w7 ⟨rfl, rfl⟩
      clear y0 y1 y2 yl HC
      go_wp2_with fail
      go_ret
      exact ⟨rfl, B1.out.trans (HQ10.out.mq.below.mono B1.out.size)⟩
end Go.Proofs.Ytppcgcmhecagbab
