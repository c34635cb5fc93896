/-
  The walk of the law MarksKnown: true, and nothing old is changed. Any number.
-/
import Derived.Test.YtppcgcmhecagbabMWF
namespace Go.Proofs.Ytppcgcmhecagbab
open Go.RowKit

/-- Several blocks, one behind the other. -/
def allocs (w : World) : List Obj → World
  | [] => w
  | o :: r => allocs (w.alloc o) r
theorem allocs_below (w : World) (r : List Obj) : Below w.heap.size w (allocs w r) := by
  induction r generalizing w with
  | nil => exact Below.refl _ w
  | cons o r ih => exact ((Below.refl _ w).alloc (Nat.le_refl _) o).trans ((ih (w.alloc o)).mono (by simp))
theorem allocs_size (w : World) (r : List Obj) : (allocs w r).heap.size = w.heap.size + r.length := by
  induction r generalizing w with
  | nil => rfl
  | cons o r ih => rw [allocs, ih, List.length_cons]; simp; omega
theorem allocs_cell (w : World) (r : List Obj) (i : Nat) (cs : Array Value) (t : TypeId) (h : r[i]? = some (.cells cs t)) (j : Nat) : (allocs w r).cell? ⟨w.heap.size + i, j, none⟩ = cs[j]? := by
  induction r generalizing w i with
  | nil => simp at h
  | cons o r ih =>
    cases i with
    | zero =>
      rw [List.getElem?_cons_zero] at h
      have := Option.some.inj h
      subst this
      have hb := allocs_below (w.alloc (.cells cs t)) r
      rw [allocs, hb.cell (p := ⟨w.heap.size + 0, j, none⟩) (by simp)]
      exact World.cell?_alloc_mark w cs t (0, 0) j
    | succ i =>
      rw [List.getElem?_cons_succ] at h
      have := ih (w.alloc o) i h
      rw [show (w.alloc o).heap.size = w.heap.size + 1 by simp] at this
      rw [allocs, show w.heap.size + (i + 1) = w.heap.size + 1 + i by omega]
      exact this
def kn7Objs (w : World) : List Obj := [.cells #[.string ⟨#[98]⟩] 9,
  .cells #[.string ⟨#[98]⟩, .string ⟨#[105]⟩, .string ⟨#[98]⟩] 9,
  .cells #[.string ⟨#[98]⟩, .string ⟨#[124]⟩, .string ⟨#[98]⟩] 9,
  .cells #[.string ⟨#[98]⟩, .string ⟨#[124]⟩, .string ⟨#[105]⟩] 9,
  .cells #[.string ⟨#[98]⟩, .string ⟨#[98]⟩, .string ⟨#[98]⟩, .string ⟨#[98]⟩] 9,
  .cells #[.string ⟨#[98]⟩, .string ⟨#[124]⟩, .string ⟨#[98]⟩, .string ⟨#[33]⟩] 9,
  .cells #[.slice (some ⟨w.heap.size, 0, none⟩) 1 1, .slice (some ⟨w.heap.size + 1, 0, none⟩) 3 3, .slice (some ⟨w.heap.size + 1 + 1, 0, none⟩) 3 3, .slice (some ⟨w.heap.size + 1 + 1 + 1, 0, none⟩) 3 3, .slice (some ⟨w.heap.size + 1 + 1 + 1 + 1, 0, none⟩) 4 4, .slice (some ⟨w.heap.size + 1 + 1 + 1 + 1 + 1, 0, none⟩) 4 4] 59,
  .cells #[.int .i64 1, .int .i64 3, .int .i64 3, .int .i64 3, .int .i64 3, .int .i64 1] 3,
  .cells #[.int .i64 0, .int .i64 2, .int .i64 2, .int .i64 (-1), .int .i64 2, .int .i64 0] 3 ]
def kStep (S : List MK) (j : Nat) (s : List UInt8) : List MK := if s = [124] then S ++ [mWall] else if s = [33] then mClear S else mPush S ⟨(j : Int), s, []⟩
def kSt (l : List (List UInt8)) : Nat → List MK
  | 0 => []
  | j + 1 => kStep (kSt l j) j (l.getD j [])
theorem kSt_len (l : List (List UInt8)) : ∀ j, (kSt l j).length ≤ j
  | 0 => Nat.le_refl _
  | j + 1 => by
    have := kSt_len l j
    have h2 := mPush_len (kSt l j) ⟨(j : Int), l.getD j [], []⟩
    show (kStep _ _ _).length ≤ _
    unfold kStep
    split
    · simp; omega
    · split
      · unfold mClear; rw [List.length_take]; omega
      · omega
theorem kSt_wall {l : List (List UInt8)} {j : Nat} (h : l.getD j [] = [124]) : kSt l (j + 1) = kSt l j ++ [mWall] := by
  show kStep _ _ _ = _
  rw [h]; rfl
theorem kSt_clear {l : List (List UInt8)} {j : Nat} (h : l.getD j [] = [33]) : kSt l (j + 1) = mClear (kSt l j) := by
  show kStep _ _ _ = _
  rw [h]; rfl
theorem kSt_push {l : List (List UInt8)} {j : Nat} (s : List UInt8) (h : l.getD j [] = s) (h1 : s ≠ [124]) (h2 : s ≠ [33]) : kSt l (j + 1) = mPush (kSt l j) ⟨(j : Int), s, []⟩ := by
  show kStep _ _ _ = _
  rw [h]; unfold kStep; rw [if_neg h1, if_neg h2]

theorem quiet_at {f : FuncId} {args : Array Value} {v : Value} {w : World} (h : ∀ q, Calls Try.prog f args (w.drewN q) (Gives v (w.drewN q))) (n : Nat) : Calls Try.prog f args (w.drewN n) fun e w'' => e = .returned v ∧ ∃ m, w'' = w.drewN m :=
  (h n).mono fun _ _ hh => ⟨hh.1, n, hh.2.symm⟩
theorem quiet_at0 {f : FuncId} {args : Array Value} {v : Value} {w : World} (h : ∀ q, Calls Try.prog f args (w.drewN q) (Gives v (w.drewN q))) : Calls Try.prog f args w fun e w'' => e = .returned v ∧ ∃ m, w'' = w.drewN m :=
  quiet_at h 0
theorem tab_cell {w w2 wr : World} {r : List Obj} {n : Nat} (hw : allocs w r = w2) (hk : ∀ b, w.heap.size ≤ b → b < w.heap.size + n → wr.heap[b]? = w2.heap[b]?) (i : Nat) (cs : Array Value) (t : TypeId) (hi : i < n) (h : r[i]? = some (.cells cs t)) (j : Nat) : wr.cell? ⟨w.heap.size + i, j, none⟩ = cs[j]? := by
  rw [World.cell?_of_block (w := w2) (hk (w.heap.size + i) (by omega) (by omega)), ← hw]
  exact allocs_cell w r i cs t h j
set_option maxHeartbeats 4000000 in
set_option maxRecDepth 100000 in
theorem marksKnown_0 (n : Int) (w0 : World) (HW : ∀ W, Hid (Calls Try.prog 15 #[.int .i64 n, .int .i64 6] W (Gives (.int .i64 ((0 : Nat) : Int)) W))) : Calls Try.prog 9 #[.int .i64 n] w0 (Yes w0) := by
  have HNW := Lib.hid (mkB_new w0)
  have HKN : Hid (∀ W, Calls Try.prog 10 #[] W (Yes W)) := Lib.hid fun W => known7_yes W
  have HLE : Hid (∀ W M B, MarkB w0 W M B (kSt [[98]] 1) → Calls Try.prog 39 #[.pointer (some ⟨B, 0, none⟩)] W (Gives (.int .i64 1) W)) := Lib.hid fun W M B h => mkB_len h
  have HFI : Hid (∀ W M B, MarkB w0 W M B (kSt [[98]] 1) → Calls Try.prog 36 #[.pointer (some ⟨B, 0, none⟩), .string ⟨#[98]⟩] W (Gives (.int .i64 (0)) W)) := Lib.hid fun W M B h => mkB_find h [98] (by decide)
  go_enter Try.func9, Try.ntmps9
  go_wp2_with fail
  refine (HW _).out.mono ?_
  rintro e w1 ⟨rfl, rfl⟩
  go_wp2_with fail
  refine HNW.out.mono ?_
  rintro e w2 ⟨M, B, rfl, h2⟩
  have H2 := Lib.hid h2
  clear h2
  go_wp2_with fail
  refine (HKN.out _).mono ?_
  rintro e w ⟨rfl, b3⟩
  have H3 := Lib.hid (H2.out.on b3)
  clear b3 H2
  go_wp2_with fail
  change Code.wp Try.prog _ _ _ (allocs w (kn7Objs w))
  generalize hw2 : allocs w (kn7Objs w) = w2
  have b2 : Below w.heap.size w w2 := by rw [← hw2]; exact allocs_below w _
  have hz : w2.heap.size = w.heap.size + 9 := by rw [← hw2]; exact allocs_size w (kn7Objs w)
  have H2 := Lib.hid (H3.out.on b2)
  have HW2 := Lib.hid hw2
  have HZ := Lib.hid hz
  have hzl : w.heap.size + 9 ≤ w2.heap.size := by omega
  have hMn := Lib.hid (show ∀ b, w.heap.size ≤ b → ¬ M b from fun b hb k => absurd (H3.out.inn b k).2 (by omega))
  clear hw2 hz b2 H3 HNW HKN
  go_loopw [8] (fun jv wr => ∃ (k : Nat) (M' : Nat → Prop), k ≤ 1 ∧ jv = .int .i64 (k : Int) ∧ MarkB w0 wr M' B (kSt [[98]] k) ∧ w.heap.size + 9 ≤ wr.heap.size ∧ (∀ b, w.heap.size ≤ b → b < w.heap.size + 9 → wr.heap[b]? = w2.heap[b]?) ∧ ∀ b, w.heap.size ≤ b → b < w.heap.size + 9 → ¬ M' b) (fun jv _ => 1 - (intOf jv).toNat)
  case atStart => exact ⟨0, M, by omega, rfl, H2.out, by omega, fun _ _ _ => rfl, fun b hb _ => hMn.out b hb⟩
  case round =>
    obtain ⟨k, M', hk, rfl, hm, hsz, htab, hnm⟩ := hrel
    have HM := Lib.hid hm
    have HT := Lib.hid htab
    have HNM := Lib.hid hnm
    have r0 : wr.cell? ⟨w.heap.size + 1 + 1 + 1 + 1 + 1 + 1, 0, none⟩ = some (.slice (some ⟨w.heap.size, 0, none⟩) 1 1) := tab_cell HW2.out HT.out 6 _ _ (by omega) rfl 0
    have z6 : w.heap.size + 1 + 1 + 1 + 1 + 1 + 1 < wr.heap.size := by omega
    have zi : w.heap.size < wr.heap.size := by omega
    clear hm htab hnm
    have hcase : k = 0 ∨ k = 1 := by omega
    rcases hcase with rfl | rfl
    · rw [show ((0 : Nat) : Int) = 0 from rfl]
      have r1 : wr.cell? ⟨w.heap.size, 0, none⟩ = some (.string ⟨#[98]⟩) := tab_cell HW2.out HT.out 0 _ _ (by omega) rfl 0
      have HC : Hid (Calls Try.prog 27 #[.pointer (some ⟨B, 0, none⟩), .agg #[.int .i64 0, .string ⟨#[98]⟩, .slice none 0 0]] wr (fun e w' => e = .returned (.tuple #[]) ∧ Stepd w0 wr M' B (kSt [[98]] 1) w')) := Lib.hid (mkB_push HM.out ⟨0, [98], []⟩ none 0 (by have := kSt_len [[98]] 0; omega) (AttrsK.nil _ _) (fits_of rfl))
      clear hk
      go_wp2_with fail
      refine HC.out.mono ?_
      rintro e w5 ⟨rfl, M5, h5, s5, t5⟩
      have H5 := Lib.hid h5
      have HT5 : Hid (∀ b, w.heap.size ≤ b → b < w.heap.size + 9 → w5.heap[b]? = w2.heap[b]?) := Lib.hid fun b p q => (t5.block b (by omega) (HNM.out b p q)).trans (HT.out b p q)
      have HN5 : Hid (∀ b, w.heap.size ≤ b → b < w.heap.size + 9 → ¬ M5 b) := Lib.hid fun b p q r => HNM.out b p q (s5 b (by omega) r)
      have hz5 := t5.size
      clear h5 s5 t5
      go_wp2_with fail
      exact ⟨⟨1, M5, by omega, rfl, H5.out, by omega, HT5.out, HN5.out⟩, by simp [intOf]⟩
    · rw [show ((1 : Nat) : Int) = 1 from rfl]
      have g0 : wr.cell? ⟨w.heap.size + 1 + 1 + 1 + 1 + 1 + 1 + 1, 0, none⟩ = some (.int .i64 1) := tab_cell HW2.out HT.out 7 _ _ (by omega) rfl 0
      have g1 : wr.cell? ⟨w.heap.size + 1 + 1 + 1 + 1 + 1 + 1 + 1 + 1, 0, none⟩ = some (.int .i64 (0)) := tab_cell HW2.out HT.out 8 _ _ (by omega) rfl 0
      have z7 : w.heap.size + 1 + 1 + 1 + 1 + 1 + 1 + 1 < wr.heap.size := by omega
      have z8 : w.heap.size + 1 + 1 + 1 + 1 + 1 + 1 + 1 + 1 < wr.heap.size := by omega
      have HQL : Hid (∀ q, _) := Lib.hid fun q => HLE.out (wr.drewN q) M' B (HM.out.on (below_drewN (Below.refl _ _) q))
      have HQF : Hid (∀ q, _) := Lib.hid fun q => HFI.out (wr.drewN q) M' B (HM.out.on (below_drewN (Below.refl _ _) q))
      clear hk
      go_wp2_with fail
      go_quiet (first | (go_at_call 39; first | exact quiet_at HQL.out _ | exact quiet_at0 HQL.out) | (go_at_call 36; first | exact quiet_at HQF.out _ | exact quiet_at0 HQF.out))
      go_wp2_with fail
      go_ret
      exact ⟨rfl, below_drewN HM.out.below _⟩
set_option maxHeartbeats 4000000 in
set_option maxRecDepth 100000 in
theorem marksKnown_1 (n : Int) (w0 : World) (HW : ∀ W, Hid (Calls Try.prog 15 #[.int .i64 n, .int .i64 6] W (Gives (.int .i64 ((1 : Nat) : Int)) W))) : Calls Try.prog 9 #[.int .i64 n] w0 (Yes w0) := by
  have HNW := Lib.hid (mkB_new w0)
  have HKN : Hid (∀ W, Calls Try.prog 10 #[] W (Yes W)) := Lib.hid fun W => known7_yes W
  have HLE : Hid (∀ W M B, MarkB w0 W M B (kSt [[98], [105], [98]] 3) → Calls Try.prog 39 #[.pointer (some ⟨B, 0, none⟩)] W (Gives (.int .i64 3) W)) := Lib.hid fun W M B h => mkB_len h
  have HFI : Hid (∀ W M B, MarkB w0 W M B (kSt [[98], [105], [98]] 3) → Calls Try.prog 36 #[.pointer (some ⟨B, 0, none⟩), .string ⟨#[98]⟩] W (Gives (.int .i64 (2)) W)) := Lib.hid fun W M B h => mkB_find h [98] (by decide)
  go_enter Try.func9, Try.ntmps9
  go_wp2_with fail
  refine (HW _).out.mono ?_
  rintro e w1 ⟨rfl, rfl⟩
  go_wp2_with fail
  refine HNW.out.mono ?_
  rintro e w2 ⟨M, B, rfl, h2⟩
  have H2 := Lib.hid h2
  clear h2
  go_wp2_with fail
  refine (HKN.out _).mono ?_
  rintro e w ⟨rfl, b3⟩
  have H3 := Lib.hid (H2.out.on b3)
  clear b3 H2
  go_wp2_with fail
  change Code.wp Try.prog _ _ _ (allocs w (kn7Objs w))
  generalize hw2 : allocs w (kn7Objs w) = w2
  have b2 : Below w.heap.size w w2 := by rw [← hw2]; exact allocs_below w _
  have hz : w2.heap.size = w.heap.size + 9 := by rw [← hw2]; exact allocs_size w (kn7Objs w)
  have H2 := Lib.hid (H3.out.on b2)
  have HW2 := Lib.hid hw2
  have HZ := Lib.hid hz
  have hzl : w.heap.size + 9 ≤ w2.heap.size := by omega
  have hMn := Lib.hid (show ∀ b, w.heap.size ≤ b → ¬ M b from fun b hb k => absurd (H3.out.inn b k).2 (by omega))
  clear hw2 hz b2 H3 HNW HKN
  go_loopw [8] (fun jv wr => ∃ (k : Nat) (M' : Nat → Prop), k ≤ 3 ∧ jv = .int .i64 (k : Int) ∧ MarkB w0 wr M' B (kSt [[98], [105], [98]] k) ∧ w.heap.size + 9 ≤ wr.heap.size ∧ (∀ b, w.heap.size ≤ b → b < w.heap.size + 9 → wr.heap[b]? = w2.heap[b]?) ∧ ∀ b, w.heap.size ≤ b → b < w.heap.size + 9 → ¬ M' b) (fun jv _ => 3 - (intOf jv).toNat)
  case atStart => exact ⟨0, M, by omega, rfl, H2.out, by omega, fun _ _ _ => rfl, fun b hb _ => hMn.out b hb⟩
  case round =>
    obtain ⟨k, M', hk, rfl, hm, hsz, htab, hnm⟩ := hrel
    have HM := Lib.hid hm
    have HT := Lib.hid htab
    have HNM := Lib.hid hnm
    have r0 : wr.cell? ⟨w.heap.size + 1 + 1 + 1 + 1 + 1 + 1, 1, none⟩ = some (.slice (some ⟨w.heap.size + 1, 0, none⟩) 3 3) := tab_cell HW2.out HT.out 6 _ _ (by omega) rfl 1
    have z6 : w.heap.size + 1 + 1 + 1 + 1 + 1 + 1 < wr.heap.size := by omega
    have zi : w.heap.size + 1 < wr.heap.size := by omega
    clear hm htab hnm
    have hcase : k = 0 ∨ k = 1 ∨ k = 2 ∨ k = 3 := by omega
    rcases hcase with rfl | rfl | rfl | rfl
    · rw [show ((0 : Nat) : Int) = 0 from rfl]
      have r1 : wr.cell? ⟨w.heap.size + 1, 0, none⟩ = some (.string ⟨#[98]⟩) := tab_cell HW2.out HT.out 1 _ _ (by omega) rfl 0
      have HC : Hid (Calls Try.prog 27 #[.pointer (some ⟨B, 0, none⟩), .agg #[.int .i64 0, .string ⟨#[98]⟩, .slice none 0 0]] wr (fun e w' => e = .returned (.tuple #[]) ∧ Stepd w0 wr M' B (kSt [[98], [105], [98]] 1) w')) := Lib.hid (mkB_push HM.out ⟨0, [98], []⟩ none 0 (by have := kSt_len [[98], [105], [98]] 0; omega) (AttrsK.nil _ _) (fits_of rfl))
      clear hk
      go_wp2_with fail
      refine HC.out.mono ?_
      rintro e w5 ⟨rfl, M5, h5, s5, t5⟩
      have H5 := Lib.hid h5
      have HT5 : Hid (∀ b, w.heap.size ≤ b → b < w.heap.size + 9 → w5.heap[b]? = w2.heap[b]?) := Lib.hid fun b p q => (t5.block b (by omega) (HNM.out b p q)).trans (HT.out b p q)
      have HN5 : Hid (∀ b, w.heap.size ≤ b → b < w.heap.size + 9 → ¬ M5 b) := Lib.hid fun b p q r => HNM.out b p q (s5 b (by omega) r)
      have hz5 := t5.size
      clear h5 s5 t5
      go_wp2_with fail
      exact ⟨⟨1, M5, by omega, rfl, H5.out, by omega, HT5.out, HN5.out⟩, by simp [intOf]⟩
    · rw [show ((1 : Nat) : Int) = 1 from rfl]
      have r1 : wr.cell? ⟨w.heap.size + 1, 1, none⟩ = some (.string ⟨#[105]⟩) := tab_cell HW2.out HT.out 1 _ _ (by omega) rfl 1
      have HC : Hid (Calls Try.prog 27 #[.pointer (some ⟨B, 0, none⟩), .agg #[.int .i64 1, .string ⟨#[105]⟩, .slice none 0 0]] wr (fun e w' => e = .returned (.tuple #[]) ∧ Stepd w0 wr M' B (kSt [[98], [105], [98]] 2) w')) := Lib.hid (mkB_push HM.out ⟨1, [105], []⟩ none 0 (by have := kSt_len [[98], [105], [98]] 1; omega) (AttrsK.nil _ _) (fits_of rfl))
      clear hk
      go_wp2_with fail
      refine HC.out.mono ?_
      rintro e w5 ⟨rfl, M5, h5, s5, t5⟩
      have H5 := Lib.hid h5
      have HT5 : Hid (∀ b, w.heap.size ≤ b → b < w.heap.size + 9 → w5.heap[b]? = w2.heap[b]?) := Lib.hid fun b p q => (t5.block b (by omega) (HNM.out b p q)).trans (HT.out b p q)
      have HN5 : Hid (∀ b, w.heap.size ≤ b → b < w.heap.size + 9 → ¬ M5 b) := Lib.hid fun b p q r => HNM.out b p q (s5 b (by omega) r)
      have hz5 := t5.size
      clear h5 s5 t5
      go_wp2_with fail
      exact ⟨⟨2, M5, by omega, rfl, H5.out, by omega, HT5.out, HN5.out⟩, by simp [intOf]⟩
    · rw [show ((2 : Nat) : Int) = 2 from rfl]
      have r1 : wr.cell? ⟨w.heap.size + 1, 2, none⟩ = some (.string ⟨#[98]⟩) := tab_cell HW2.out HT.out 1 _ _ (by omega) rfl 2
      have HC : Hid (Calls Try.prog 27 #[.pointer (some ⟨B, 0, none⟩), .agg #[.int .i64 2, .string ⟨#[98]⟩, .slice none 0 0]] wr (fun e w' => e = .returned (.tuple #[]) ∧ Stepd w0 wr M' B (kSt [[98], [105], [98]] 3) w')) := Lib.hid (mkB_push HM.out ⟨2, [98], []⟩ none 0 (by have := kSt_len [[98], [105], [98]] 2; omega) (AttrsK.nil _ _) (fits_of rfl))
      clear hk
      go_wp2_with fail
      refine HC.out.mono ?_
      rintro e w5 ⟨rfl, M5, h5, s5, t5⟩
      have H5 := Lib.hid h5
      have HT5 : Hid (∀ b, w.heap.size ≤ b → b < w.heap.size + 9 → w5.heap[b]? = w2.heap[b]?) := Lib.hid fun b p q => (t5.block b (by omega) (HNM.out b p q)).trans (HT.out b p q)
      have HN5 : Hid (∀ b, w.heap.size ≤ b → b < w.heap.size + 9 → ¬ M5 b) := Lib.hid fun b p q r => HNM.out b p q (s5 b (by omega) r)
      have hz5 := t5.size
      clear h5 s5 t5
      go_wp2_with fail
      exact ⟨⟨3, M5, by omega, rfl, H5.out, by omega, HT5.out, HN5.out⟩, by simp [intOf]⟩
    · rw [show ((3 : Nat) : Int) = 3 from rfl]
      have g0 : wr.cell? ⟨w.heap.size + 1 + 1 + 1 + 1 + 1 + 1 + 1, 1, none⟩ = some (.int .i64 3) := tab_cell HW2.out HT.out 7 _ _ (by omega) rfl 1
      have g1 : wr.cell? ⟨w.heap.size + 1 + 1 + 1 + 1 + 1 + 1 + 1 + 1, 1, none⟩ = some (.int .i64 (2)) := tab_cell HW2.out HT.out 8 _ _ (by omega) rfl 1
      have z7 : w.heap.size + 1 + 1 + 1 + 1 + 1 + 1 + 1 < wr.heap.size := by omega
      have z8 : w.heap.size + 1 + 1 + 1 + 1 + 1 + 1 + 1 + 1 < wr.heap.size := by omega
      have HQL : Hid (∀ q, _) := Lib.hid fun q => HLE.out (wr.drewN q) M' B (HM.out.on (below_drewN (Below.refl _ _) q))
      have HQF : Hid (∀ q, _) := Lib.hid fun q => HFI.out (wr.drewN q) M' B (HM.out.on (below_drewN (Below.refl _ _) q))
      clear hk
      go_wp2_with fail
      go_quiet (first | (go_at_call 39; first | exact quiet_at HQL.out _ | exact quiet_at0 HQL.out) | (go_at_call 36; first | exact quiet_at HQF.out _ | exact quiet_at0 HQF.out))
      go_wp2_with fail
      go_ret
      exact ⟨rfl, below_drewN HM.out.below _⟩
set_option maxHeartbeats 4000000 in
set_option maxRecDepth 100000 in
theorem marksKnown_2 (n : Int) (w0 : World) (HW : ∀ W, Hid (Calls Try.prog 15 #[.int .i64 n, .int .i64 6] W (Gives (.int .i64 ((2 : Nat) : Int)) W))) : Calls Try.prog 9 #[.int .i64 n] w0 (Yes w0) := by
  have HNW := Lib.hid (mkB_new w0)
  have HKN : Hid (∀ W, Calls Try.prog 10 #[] W (Yes W)) := Lib.hid fun W => known7_yes W
  have HLE : Hid (∀ W M B, MarkB w0 W M B (kSt [[98], [124], [98]] 3) → Calls Try.prog 39 #[.pointer (some ⟨B, 0, none⟩)] W (Gives (.int .i64 3) W)) := Lib.hid fun W M B h => mkB_len h
  have HFI : Hid (∀ W M B, MarkB w0 W M B (kSt [[98], [124], [98]] 3) → Calls Try.prog 36 #[.pointer (some ⟨B, 0, none⟩), .string ⟨#[98]⟩] W (Gives (.int .i64 (2)) W)) := Lib.hid fun W M B h => mkB_find h [98] (by decide)
  go_enter Try.func9, Try.ntmps9
  go_wp2_with fail
  refine (HW _).out.mono ?_
  rintro e w1 ⟨rfl, rfl⟩
  go_wp2_with fail
  refine HNW.out.mono ?_
  rintro e w2 ⟨M, B, rfl, h2⟩
  have H2 := Lib.hid h2
  clear h2
  go_wp2_with fail
  refine (HKN.out _).mono ?_
  rintro e w ⟨rfl, b3⟩
  have H3 := Lib.hid (H2.out.on b3)
  clear b3 H2
  go_wp2_with fail
  change Code.wp Try.prog _ _ _ (allocs w (kn7Objs w))
  generalize hw2 : allocs w (kn7Objs w) = w2
  have b2 : Below w.heap.size w w2 := by rw [← hw2]; exact allocs_below w _
  have hz : w2.heap.size = w.heap.size + 9 := by rw [← hw2]; exact allocs_size w (kn7Objs w)
  have H2 := Lib.hid (H3.out.on b2)
  have HW2 := Lib.hid hw2
  have HZ := Lib.hid hz
  have hzl : w.heap.size + 9 ≤ w2.heap.size := by omega
  have hMn := Lib.hid (show ∀ b, w.heap.size ≤ b → ¬ M b from fun b hb k => absurd (H3.out.inn b k).2 (by omega))
  clear hw2 hz b2 H3 HNW HKN
  go_loopw [8] (fun jv wr => ∃ (k : Nat) (M' : Nat → Prop), k ≤ 3 ∧ jv = .int .i64 (k : Int) ∧ MarkB w0 wr M' B (kSt [[98], [124], [98]] k) ∧ w.heap.size + 9 ≤ wr.heap.size ∧ (∀ b, w.heap.size ≤ b → b < w.heap.size + 9 → wr.heap[b]? = w2.heap[b]?) ∧ ∀ b, w.heap.size ≤ b → b < w.heap.size + 9 → ¬ M' b) (fun jv _ => 3 - (intOf jv).toNat)
  case atStart => exact ⟨0, M, by omega, rfl, H2.out, by omega, fun _ _ _ => rfl, fun b hb _ => hMn.out b hb⟩
  case round =>
    obtain ⟨k, M', hk, rfl, hm, hsz, htab, hnm⟩ := hrel
    have HM := Lib.hid hm
    have HT := Lib.hid htab
    have HNM := Lib.hid hnm
    have r0 : wr.cell? ⟨w.heap.size + 1 + 1 + 1 + 1 + 1 + 1, 2, none⟩ = some (.slice (some ⟨w.heap.size + 1 + 1, 0, none⟩) 3 3) := tab_cell HW2.out HT.out 6 _ _ (by omega) rfl 2
    have z6 : w.heap.size + 1 + 1 + 1 + 1 + 1 + 1 < wr.heap.size := by omega
    have zi : w.heap.size + 1 + 1 < wr.heap.size := by omega
    clear hm htab hnm
    have hcase : k = 0 ∨ k = 1 ∨ k = 2 ∨ k = 3 := by omega
    rcases hcase with rfl | rfl | rfl | rfl
    · rw [show ((0 : Nat) : Int) = 0 from rfl]
      have r1 : wr.cell? ⟨w.heap.size + 1 + 1, 0, none⟩ = some (.string ⟨#[98]⟩) := tab_cell HW2.out HT.out 2 _ _ (by omega) rfl 0
      have HC : Hid (Calls Try.prog 27 #[.pointer (some ⟨B, 0, none⟩), .agg #[.int .i64 0, .string ⟨#[98]⟩, .slice none 0 0]] wr (fun e w' => e = .returned (.tuple #[]) ∧ Stepd w0 wr M' B (kSt [[98], [124], [98]] 1) w')) := Lib.hid (mkB_push HM.out ⟨0, [98], []⟩ none 0 (by have := kSt_len [[98], [124], [98]] 0; omega) (AttrsK.nil _ _) (fits_of rfl))
      clear hk
      go_wp2_with fail
      refine HC.out.mono ?_
      rintro e w5 ⟨rfl, M5, h5, s5, t5⟩
      have H5 := Lib.hid h5
      have HT5 : Hid (∀ b, w.heap.size ≤ b → b < w.heap.size + 9 → w5.heap[b]? = w2.heap[b]?) := Lib.hid fun b p q => (t5.block b (by omega) (HNM.out b p q)).trans (HT.out b p q)
      have HN5 : Hid (∀ b, w.heap.size ≤ b → b < w.heap.size + 9 → ¬ M5 b) := Lib.hid fun b p q r => HNM.out b p q (s5 b (by omega) r)
      have hz5 := t5.size
      clear h5 s5 t5
      go_wp2_with fail
      exact ⟨⟨1, M5, by omega, rfl, H5.out, by omega, HT5.out, HN5.out⟩, by simp [intOf]⟩
    · rw [show ((1 : Nat) : Int) = 1 from rfl]
      have r1 : wr.cell? ⟨w.heap.size + 1 + 1, 1, none⟩ = some (.string ⟨#[124]⟩) := tab_cell HW2.out HT.out 2 _ _ (by omega) rfl 1
      have HC := Lib.hid (mkB_wall HM.out (by have := kSt_len [[98], [124], [98]] 1; omega))
      rw [← kSt_wall rfl] at HC
      clear hk
      go_wp2_with fail
      refine HC.out.mono ?_
      rintro e w5 ⟨rfl, M5, h5, s5, t5⟩
      have H5 := Lib.hid h5
      have HT5 : Hid (∀ b, w.heap.size ≤ b → b < w.heap.size + 9 → w5.heap[b]? = w2.heap[b]?) := Lib.hid fun b p q => (t5.block b (by omega) (HNM.out b p q)).trans (HT.out b p q)
      have HN5 : Hid (∀ b, w.heap.size ≤ b → b < w.heap.size + 9 → ¬ M5 b) := Lib.hid fun b p q r => HNM.out b p q (s5 b (by omega) r)
      have hz5 := t5.size
      clear h5 s5 t5
      go_wp2_with fail
      exact ⟨⟨2, M5, by omega, rfl, H5.out, by omega, HT5.out, HN5.out⟩, by simp [intOf]⟩
    · rw [show ((2 : Nat) : Int) = 2 from rfl]
      have r1 : wr.cell? ⟨w.heap.size + 1 + 1, 2, none⟩ = some (.string ⟨#[98]⟩) := tab_cell HW2.out HT.out 2 _ _ (by omega) rfl 2
      have HC : Hid (Calls Try.prog 27 #[.pointer (some ⟨B, 0, none⟩), .agg #[.int .i64 2, .string ⟨#[98]⟩, .slice none 0 0]] wr (fun e w' => e = .returned (.tuple #[]) ∧ Stepd w0 wr M' B (kSt [[98], [124], [98]] 3) w')) := Lib.hid (mkB_push HM.out ⟨2, [98], []⟩ none 0 (by have := kSt_len [[98], [124], [98]] 2; omega) (AttrsK.nil _ _) (fits_of rfl))
      clear hk
      go_wp2_with fail
      refine HC.out.mono ?_
      rintro e w5 ⟨rfl, M5, h5, s5, t5⟩
      have H5 := Lib.hid h5
      have HT5 : Hid (∀ b, w.heap.size ≤ b → b < w.heap.size + 9 → w5.heap[b]? = w2.heap[b]?) := Lib.hid fun b p q => (t5.block b (by omega) (HNM.out b p q)).trans (HT.out b p q)
      have HN5 : Hid (∀ b, w.heap.size ≤ b → b < w.heap.size + 9 → ¬ M5 b) := Lib.hid fun b p q r => HNM.out b p q (s5 b (by omega) r)
      have hz5 := t5.size
      clear h5 s5 t5
      go_wp2_with fail
      exact ⟨⟨3, M5, by omega, rfl, H5.out, by omega, HT5.out, HN5.out⟩, by simp [intOf]⟩
    · rw [show ((3 : Nat) : Int) = 3 from rfl]
      have g0 : wr.cell? ⟨w.heap.size + 1 + 1 + 1 + 1 + 1 + 1 + 1, 2, none⟩ = some (.int .i64 3) := tab_cell HW2.out HT.out 7 _ _ (by omega) rfl 2
      have g1 : wr.cell? ⟨w.heap.size + 1 + 1 + 1 + 1 + 1 + 1 + 1 + 1, 2, none⟩ = some (.int .i64 (2)) := tab_cell HW2.out HT.out 8 _ _ (by omega) rfl 2
      have z7 : w.heap.size + 1 + 1 + 1 + 1 + 1 + 1 + 1 < wr.heap.size := by omega
      have z8 : w.heap.size + 1 + 1 + 1 + 1 + 1 + 1 + 1 + 1 < wr.heap.size := by omega
      have HQL : Hid (∀ q, _) := Lib.hid fun q => HLE.out (wr.drewN q) M' B (HM.out.on (below_drewN (Below.refl _ _) q))
      have HQF : Hid (∀ q, _) := Lib.hid fun q => HFI.out (wr.drewN q) M' B (HM.out.on (below_drewN (Below.refl _ _) q))
      clear hk
      go_wp2_with fail
      go_quiet (first | (go_at_call 39; first | exact quiet_at HQL.out _ | exact quiet_at0 HQL.out) | (go_at_call 36; first | exact quiet_at HQF.out _ | exact quiet_at0 HQF.out))
      go_wp2_with fail
      go_ret
      exact ⟨rfl, below_drewN HM.out.below _⟩
set_option maxHeartbeats 4000000 in
set_option maxRecDepth 100000 in
theorem marksKnown_3 (n : Int) (w0 : World) (HW : ∀ W, Hid (Calls Try.prog 15 #[.int .i64 n, .int .i64 6] W (Gives (.int .i64 ((3 : Nat) : Int)) W))) : Calls Try.prog 9 #[.int .i64 n] w0 (Yes w0) := by
  have HNW := Lib.hid (mkB_new w0)
  have HKN : Hid (∀ W, Calls Try.prog 10 #[] W (Yes W)) := Lib.hid fun W => known7_yes W
  have HLE : Hid (∀ W M B, MarkB w0 W M B (kSt [[98], [124], [105]] 3) → Calls Try.prog 39 #[.pointer (some ⟨B, 0, none⟩)] W (Gives (.int .i64 3) W)) := Lib.hid fun W M B h => mkB_len h
  have HFI : Hid (∀ W M B, MarkB w0 W M B (kSt [[98], [124], [105]] 3) → Calls Try.prog 36 #[.pointer (some ⟨B, 0, none⟩), .string ⟨#[98]⟩] W (Gives (.int .i64 (-1)) W)) := Lib.hid fun W M B h => mkB_find h [98] (by decide)
  go_enter Try.func9, Try.ntmps9
  go_wp2_with fail
  refine (HW _).out.mono ?_
  rintro e w1 ⟨rfl, rfl⟩
  go_wp2_with fail
  refine HNW.out.mono ?_
  rintro e w2 ⟨M, B, rfl, h2⟩
  have H2 := Lib.hid h2
  clear h2
  go_wp2_with fail
  refine (HKN.out _).mono ?_
  rintro e w ⟨rfl, b3⟩
  have H3 := Lib.hid (H2.out.on b3)
  clear b3 H2
  go_wp2_with fail
  change Code.wp Try.prog _ _ _ (allocs w (kn7Objs w))
  generalize hw2 : allocs w (kn7Objs w) = w2
  have b2 : Below w.heap.size w w2 := by rw [← hw2]; exact allocs_below w _
  have hz : w2.heap.size = w.heap.size + 9 := by rw [← hw2]; exact allocs_size w (kn7Objs w)
  have H2 := Lib.hid (H3.out.on b2)
  have HW2 := Lib.hid hw2
  have HZ := Lib.hid hz
  have hzl : w.heap.size + 9 ≤ w2.heap.size := by omega
  have hMn := Lib.hid (show ∀ b, w.heap.size ≤ b → ¬ M b from fun b hb k => absurd (H3.out.inn b k).2 (by omega))
  clear hw2 hz b2 H3 HNW HKN
  go_loopw [8] (fun jv wr => ∃ (k : Nat) (M' : Nat → Prop), k ≤ 3 ∧ jv = .int .i64 (k : Int) ∧ MarkB w0 wr M' B (kSt [[98], [124], [105]] k) ∧ w.heap.size + 9 ≤ wr.heap.size ∧ (∀ b, w.heap.size ≤ b → b < w.heap.size + 9 → wr.heap[b]? = w2.heap[b]?) ∧ ∀ b, w.heap.size ≤ b → b < w.heap.size + 9 → ¬ M' b) (fun jv _ => 3 - (intOf jv).toNat)
  case atStart => exact ⟨0, M, by omega, rfl, H2.out, by omega, fun _ _ _ => rfl, fun b hb _ => hMn.out b hb⟩
  case round =>
    obtain ⟨k, M', hk, rfl, hm, hsz, htab, hnm⟩ := hrel
    have HM := Lib.hid hm
    have HT := Lib.hid htab
    have HNM := Lib.hid hnm
    have r0 : wr.cell? ⟨w.heap.size + 1 + 1 + 1 + 1 + 1 + 1, 3, none⟩ = some (.slice (some ⟨w.heap.size + 1 + 1 + 1, 0, none⟩) 3 3) := tab_cell HW2.out HT.out 6 _ _ (by omega) rfl 3
    have z6 : w.heap.size + 1 + 1 + 1 + 1 + 1 + 1 < wr.heap.size := by omega
    have zi : w.heap.size + 1 + 1 + 1 < wr.heap.size := by omega
    clear hm htab hnm
    have hcase : k = 0 ∨ k = 1 ∨ k = 2 ∨ k = 3 := by omega
    rcases hcase with rfl | rfl | rfl | rfl
    · rw [show ((0 : Nat) : Int) = 0 from rfl]
      have r1 : wr.cell? ⟨w.heap.size + 1 + 1 + 1, 0, none⟩ = some (.string ⟨#[98]⟩) := tab_cell HW2.out HT.out 3 _ _ (by omega) rfl 0
      have HC : Hid (Calls Try.prog 27 #[.pointer (some ⟨B, 0, none⟩), .agg #[.int .i64 0, .string ⟨#[98]⟩, .slice none 0 0]] wr (fun e w' => e = .returned (.tuple #[]) ∧ Stepd w0 wr M' B (kSt [[98], [124], [105]] 1) w')) := Lib.hid (mkB_push HM.out ⟨0, [98], []⟩ none 0 (by have := kSt_len [[98], [124], [105]] 0; omega) (AttrsK.nil _ _) (fits_of rfl))
      clear hk
      go_wp2_with fail
      refine HC.out.mono ?_
      rintro e w5 ⟨rfl, M5, h5, s5, t5⟩
      have H5 := Lib.hid h5
      have HT5 : Hid (∀ b, w.heap.size ≤ b → b < w.heap.size + 9 → w5.heap[b]? = w2.heap[b]?) := Lib.hid fun b p q => (t5.block b (by omega) (HNM.out b p q)).trans (HT.out b p q)
      have HN5 : Hid (∀ b, w.heap.size ≤ b → b < w.heap.size + 9 → ¬ M5 b) := Lib.hid fun b p q r => HNM.out b p q (s5 b (by omega) r)
      have hz5 := t5.size
      clear h5 s5 t5
      go_wp2_with fail
      exact ⟨⟨1, M5, by omega, rfl, H5.out, by omega, HT5.out, HN5.out⟩, by simp [intOf]⟩
    · rw [show ((1 : Nat) : Int) = 1 from rfl]
      have r1 : wr.cell? ⟨w.heap.size + 1 + 1 + 1, 1, none⟩ = some (.string ⟨#[124]⟩) := tab_cell HW2.out HT.out 3 _ _ (by omega) rfl 1
      have HC := Lib.hid (mkB_wall HM.out (by have := kSt_len [[98], [124], [105]] 1; omega))
      rw [← kSt_wall rfl] at HC
      clear hk
      go_wp2_with fail
      refine HC.out.mono ?_
      rintro e w5 ⟨rfl, M5, h5, s5, t5⟩
      have H5 := Lib.hid h5
      have HT5 : Hid (∀ b, w.heap.size ≤ b → b < w.heap.size + 9 → w5.heap[b]? = w2.heap[b]?) := Lib.hid fun b p q => (t5.block b (by omega) (HNM.out b p q)).trans (HT.out b p q)
      have HN5 : Hid (∀ b, w.heap.size ≤ b → b < w.heap.size + 9 → ¬ M5 b) := Lib.hid fun b p q r => HNM.out b p q (s5 b (by omega) r)
      have hz5 := t5.size
      clear h5 s5 t5
      go_wp2_with fail
      exact ⟨⟨2, M5, by omega, rfl, H5.out, by omega, HT5.out, HN5.out⟩, by simp [intOf]⟩
    · rw [show ((2 : Nat) : Int) = 2 from rfl]
      have r1 : wr.cell? ⟨w.heap.size + 1 + 1 + 1, 2, none⟩ = some (.string ⟨#[105]⟩) := tab_cell HW2.out HT.out 3 _ _ (by omega) rfl 2
      have HC : Hid (Calls Try.prog 27 #[.pointer (some ⟨B, 0, none⟩), .agg #[.int .i64 2, .string ⟨#[105]⟩, .slice none 0 0]] wr (fun e w' => e = .returned (.tuple #[]) ∧ Stepd w0 wr M' B (kSt [[98], [124], [105]] 3) w')) := Lib.hid (mkB_push HM.out ⟨2, [105], []⟩ none 0 (by have := kSt_len [[98], [124], [105]] 2; omega) (AttrsK.nil _ _) (fits_of rfl))
      clear hk
      go_wp2_with fail
      refine HC.out.mono ?_
      rintro e w5 ⟨rfl, M5, h5, s5, t5⟩
      have H5 := Lib.hid h5
      have HT5 : Hid (∀ b, w.heap.size ≤ b → b < w.heap.size + 9 → w5.heap[b]? = w2.heap[b]?) := Lib.hid fun b p q => (t5.block b (by omega) (HNM.out b p q)).trans (HT.out b p q)
      have HN5 : Hid (∀ b, w.heap.size ≤ b → b < w.heap.size + 9 → ¬ M5 b) := Lib.hid fun b p q r => HNM.out b p q (s5 b (by omega) r)
      have hz5 := t5.size
      clear h5 s5 t5
      go_wp2_with fail
      exact ⟨⟨3, M5, by omega, rfl, H5.out, by omega, HT5.out, HN5.out⟩, by simp [intOf]⟩
    · rw [show ((3 : Nat) : Int) = 3 from rfl]
      have g0 : wr.cell? ⟨w.heap.size + 1 + 1 + 1 + 1 + 1 + 1 + 1, 3, none⟩ = some (.int .i64 3) := tab_cell HW2.out HT.out 7 _ _ (by omega) rfl 3
      have g1 : wr.cell? ⟨w.heap.size + 1 + 1 + 1 + 1 + 1 + 1 + 1 + 1, 3, none⟩ = some (.int .i64 (-1)) := tab_cell HW2.out HT.out 8 _ _ (by omega) rfl 3
      have z7 : w.heap.size + 1 + 1 + 1 + 1 + 1 + 1 + 1 < wr.heap.size := by omega
      have z8 : w.heap.size + 1 + 1 + 1 + 1 + 1 + 1 + 1 + 1 < wr.heap.size := by omega
      have HQL : Hid (∀ q, _) := Lib.hid fun q => HLE.out (wr.drewN q) M' B (HM.out.on (below_drewN (Below.refl _ _) q))
      have HQF : Hid (∀ q, _) := Lib.hid fun q => HFI.out (wr.drewN q) M' B (HM.out.on (below_drewN (Below.refl _ _) q))
      clear hk
      go_wp2_with fail
      go_quiet (first | (go_at_call 39; first | exact quiet_at HQL.out _ | exact quiet_at0 HQL.out) | (go_at_call 36; first | exact quiet_at HQF.out _ | exact quiet_at0 HQF.out))
      go_wp2_with fail
      go_ret
      exact ⟨rfl, below_drewN HM.out.below _⟩
set_option maxHeartbeats 4000000 in
set_option maxRecDepth 100000 in
theorem marksKnown_4 (n : Int) (w0 : World) (HW : ∀ W, Hid (Calls Try.prog 15 #[.int .i64 n, .int .i64 6] W (Gives (.int .i64 ((4 : Nat) : Int)) W))) : Calls Try.prog 9 #[.int .i64 n] w0 (Yes w0) := by
  have HNW := Lib.hid (mkB_new w0)
  have HKN : Hid (∀ W, Calls Try.prog 10 #[] W (Yes W)) := Lib.hid fun W => known7_yes W
  have HLE : Hid (∀ W M B, MarkB w0 W M B (kSt [[98], [98], [98], [98]] 4) → Calls Try.prog 39 #[.pointer (some ⟨B, 0, none⟩)] W (Gives (.int .i64 3) W)) := Lib.hid fun W M B h => mkB_len h
  have HFI : Hid (∀ W M B, MarkB w0 W M B (kSt [[98], [98], [98], [98]] 4) → Calls Try.prog 36 #[.pointer (some ⟨B, 0, none⟩), .string ⟨#[98]⟩] W (Gives (.int .i64 (2)) W)) := Lib.hid fun W M B h => mkB_find h [98] (by decide)
  go_enter Try.func9, Try.ntmps9
  go_wp2_with fail
  refine (HW _).out.mono ?_
  rintro e w1 ⟨rfl, rfl⟩
  go_wp2_with fail
  refine HNW.out.mono ?_
  rintro e w2 ⟨M, B, rfl, h2⟩
  have H2 := Lib.hid h2
  clear h2
  go_wp2_with fail
  refine (HKN.out _).mono ?_
  rintro e w ⟨rfl, b3⟩
  have H3 := Lib.hid (H2.out.on b3)
  clear b3 H2
  go_wp2_with fail
  change Code.wp Try.prog _ _ _ (allocs w (kn7Objs w))
  generalize hw2 : allocs w (kn7Objs w) = w2
  have b2 : Below w.heap.size w w2 := by rw [← hw2]; exact allocs_below w _
  have hz : w2.heap.size = w.heap.size + 9 := by rw [← hw2]; exact allocs_size w (kn7Objs w)
  have H2 := Lib.hid (H3.out.on b2)
  have HW2 := Lib.hid hw2
  have HZ := Lib.hid hz
  have hzl : w.heap.size + 9 ≤ w2.heap.size := by omega
  have hMn := Lib.hid (show ∀ b, w.heap.size ≤ b → ¬ M b from fun b hb k => absurd (H3.out.inn b k).2 (by omega))
  clear hw2 hz b2 H3 HNW HKN
  go_loopw [8] (fun jv wr => ∃ (k : Nat) (M' : Nat → Prop), k ≤ 4 ∧ jv = .int .i64 (k : Int) ∧ MarkB w0 wr M' B (kSt [[98], [98], [98], [98]] k) ∧ w.heap.size + 9 ≤ wr.heap.size ∧ (∀ b, w.heap.size ≤ b → b < w.heap.size + 9 → wr.heap[b]? = w2.heap[b]?) ∧ ∀ b, w.heap.size ≤ b → b < w.heap.size + 9 → ¬ M' b) (fun jv _ => 4 - (intOf jv).toNat)
  case atStart => exact ⟨0, M, by omega, rfl, H2.out, by omega, fun _ _ _ => rfl, fun b hb _ => hMn.out b hb⟩
  case round =>
    obtain ⟨k, M', hk, rfl, hm, hsz, htab, hnm⟩ := hrel
    have HM := Lib.hid hm
    have HT := Lib.hid htab
    have HNM := Lib.hid hnm
    have r0 : wr.cell? ⟨w.heap.size + 1 + 1 + 1 + 1 + 1 + 1, 4, none⟩ = some (.slice (some ⟨w.heap.size + 1 + 1 + 1 + 1, 0, none⟩) 4 4) := tab_cell HW2.out HT.out 6 _ _ (by omega) rfl 4
    have z6 : w.heap.size + 1 + 1 + 1 + 1 + 1 + 1 < wr.heap.size := by omega
    have zi : w.heap.size + 1 + 1 + 1 + 1 < wr.heap.size := by omega
    clear hm htab hnm
    have hcase : k = 0 ∨ k = 1 ∨ k = 2 ∨ k = 3 ∨ k = 4 := by omega
    rcases hcase with rfl | rfl | rfl | rfl | rfl
    · rw [show ((0 : Nat) : Int) = 0 from rfl]
      have r1 : wr.cell? ⟨w.heap.size + 1 + 1 + 1 + 1, 0, none⟩ = some (.string ⟨#[98]⟩) := tab_cell HW2.out HT.out 4 _ _ (by omega) rfl 0
      have HC : Hid (Calls Try.prog 27 #[.pointer (some ⟨B, 0, none⟩), .agg #[.int .i64 0, .string ⟨#[98]⟩, .slice none 0 0]] wr (fun e w' => e = .returned (.tuple #[]) ∧ Stepd w0 wr M' B (kSt [[98], [98], [98], [98]] 1) w')) := Lib.hid (mkB_push HM.out ⟨0, [98], []⟩ none 0 (by have := kSt_len [[98], [98], [98], [98]] 0; omega) (AttrsK.nil _ _) (fits_of rfl))
      clear hk
      go_wp2_with fail
      refine HC.out.mono ?_
      rintro e w5 ⟨rfl, M5, h5, s5, t5⟩
      have H5 := Lib.hid h5
      have HT5 : Hid (∀ b, w.heap.size ≤ b → b < w.heap.size + 9 → w5.heap[b]? = w2.heap[b]?) := Lib.hid fun b p q => (t5.block b (by omega) (HNM.out b p q)).trans (HT.out b p q)
      have HN5 : Hid (∀ b, w.heap.size ≤ b → b < w.heap.size + 9 → ¬ M5 b) := Lib.hid fun b p q r => HNM.out b p q (s5 b (by omega) r)
      have hz5 := t5.size
      clear h5 s5 t5
      go_wp2_with fail
      exact ⟨⟨1, M5, by omega, rfl, H5.out, by omega, HT5.out, HN5.out⟩, by simp [intOf]⟩
    · rw [show ((1 : Nat) : Int) = 1 from rfl]
      have r1 : wr.cell? ⟨w.heap.size + 1 + 1 + 1 + 1, 1, none⟩ = some (.string ⟨#[98]⟩) := tab_cell HW2.out HT.out 4 _ _ (by omega) rfl 1
      have HC : Hid (Calls Try.prog 27 #[.pointer (some ⟨B, 0, none⟩), .agg #[.int .i64 1, .string ⟨#[98]⟩, .slice none 0 0]] wr (fun e w' => e = .returned (.tuple #[]) ∧ Stepd w0 wr M' B (kSt [[98], [98], [98], [98]] 2) w')) := Lib.hid (mkB_push HM.out ⟨1, [98], []⟩ none 0 (by have := kSt_len [[98], [98], [98], [98]] 1; omega) (AttrsK.nil _ _) (fits_of rfl))
      clear hk
      go_wp2_with fail
      refine HC.out.mono ?_
      rintro e w5 ⟨rfl, M5, h5, s5, t5⟩
      have H5 := Lib.hid h5
      have HT5 : Hid (∀ b, w.heap.size ≤ b → b < w.heap.size + 9 → w5.heap[b]? = w2.heap[b]?) := Lib.hid fun b p q => (t5.block b (by omega) (HNM.out b p q)).trans (HT.out b p q)
      have HN5 : Hid (∀ b, w.heap.size ≤ b → b < w.heap.size + 9 → ¬ M5 b) := Lib.hid fun b p q r => HNM.out b p q (s5 b (by omega) r)
      have hz5 := t5.size
      clear h5 s5 t5
      go_wp2_with fail
      exact ⟨⟨2, M5, by omega, rfl, H5.out, by omega, HT5.out, HN5.out⟩, by simp [intOf]⟩
    · rw [show ((2 : Nat) : Int) = 2 from rfl]
      have r1 : wr.cell? ⟨w.heap.size + 1 + 1 + 1 + 1, 2, none⟩ = some (.string ⟨#[98]⟩) := tab_cell HW2.out HT.out 4 _ _ (by omega) rfl 2
      have HC : Hid (Calls Try.prog 27 #[.pointer (some ⟨B, 0, none⟩), .agg #[.int .i64 2, .string ⟨#[98]⟩, .slice none 0 0]] wr (fun e w' => e = .returned (.tuple #[]) ∧ Stepd w0 wr M' B (kSt [[98], [98], [98], [98]] 3) w')) := Lib.hid (mkB_push HM.out ⟨2, [98], []⟩ none 0 (by have := kSt_len [[98], [98], [98], [98]] 2; omega) (AttrsK.nil _ _) (fits_of rfl))
      clear hk
      go_wp2_with fail
      refine HC.out.mono ?_
      rintro e w5 ⟨rfl, M5, h5, s5, t5⟩
      have H5 := Lib.hid h5
      have HT5 : Hid (∀ b, w.heap.size ≤ b → b < w.heap.size + 9 → w5.heap[b]? = w2.heap[b]?) := Lib.hid fun b p q => (t5.block b (by omega) (HNM.out b p q)).trans (HT.out b p q)
      have HN5 : Hid (∀ b, w.heap.size ≤ b → b < w.heap.size + 9 → ¬ M5 b) := Lib.hid fun b p q r => HNM.out b p q (s5 b (by omega) r)
      have hz5 := t5.size
      clear h5 s5 t5
      go_wp2_with fail
      exact ⟨⟨3, M5, by omega, rfl, H5.out, by omega, HT5.out, HN5.out⟩, by simp [intOf]⟩
    · rw [show ((3 : Nat) : Int) = 3 from rfl]
      have r1 : wr.cell? ⟨w.heap.size + 1 + 1 + 1 + 1, 3, none⟩ = some (.string ⟨#[98]⟩) := tab_cell HW2.out HT.out 4 _ _ (by omega) rfl 3
      have HC : Hid (Calls Try.prog 27 #[.pointer (some ⟨B, 0, none⟩), .agg #[.int .i64 3, .string ⟨#[98]⟩, .slice none 0 0]] wr (fun e w' => e = .returned (.tuple #[]) ∧ Stepd w0 wr M' B (kSt [[98], [98], [98], [98]] 4) w')) := Lib.hid (mkB_push HM.out ⟨3, [98], []⟩ none 0 (by have := kSt_len [[98], [98], [98], [98]] 3; omega) (AttrsK.nil _ _) (fits_of rfl))
      clear hk
      go_wp2_with fail
      refine HC.out.mono ?_
      rintro e w5 ⟨rfl, M5, h5, s5, t5⟩
      have H5 := Lib.hid h5
      have HT5 : Hid (∀ b, w.heap.size ≤ b → b < w.heap.size + 9 → w5.heap[b]? = w2.heap[b]?) := Lib.hid fun b p q => (t5.block b (by omega) (HNM.out b p q)).trans (HT.out b p q)
      have HN5 : Hid (∀ b, w.heap.size ≤ b → b < w.heap.size + 9 → ¬ M5 b) := Lib.hid fun b p q r => HNM.out b p q (s5 b (by omega) r)
      have hz5 := t5.size
      clear h5 s5 t5
      go_wp2_with fail
      exact ⟨⟨4, M5, by omega, rfl, H5.out, by omega, HT5.out, HN5.out⟩, by simp [intOf]⟩
    · rw [show ((4 : Nat) : Int) = 4 from rfl]
      have g0 : wr.cell? ⟨w.heap.size + 1 + 1 + 1 + 1 + 1 + 1 + 1, 4, none⟩ = some (.int .i64 3) := tab_cell HW2.out HT.out 7 _ _ (by omega) rfl 4
      have g1 : wr.cell? ⟨w.heap.size + 1 + 1 + 1 + 1 + 1 + 1 + 1 + 1, 4, none⟩ = some (.int .i64 (2)) := tab_cell HW2.out HT.out 8 _ _ (by omega) rfl 4
      have z7 : w.heap.size + 1 + 1 + 1 + 1 + 1 + 1 + 1 < wr.heap.size := by omega
      have z8 : w.heap.size + 1 + 1 + 1 + 1 + 1 + 1 + 1 + 1 < wr.heap.size := by omega
      have HQL : Hid (∀ q, _) := Lib.hid fun q => HLE.out (wr.drewN q) M' B (HM.out.on (below_drewN (Below.refl _ _) q))
      have HQF : Hid (∀ q, _) := Lib.hid fun q => HFI.out (wr.drewN q) M' B (HM.out.on (below_drewN (Below.refl _ _) q))
      clear hk
      go_wp2_with fail
      go_quiet (first | (go_at_call 39; first | exact quiet_at HQL.out _ | exact quiet_at0 HQL.out) | (go_at_call 36; first | exact quiet_at HQF.out _ | exact quiet_at0 HQF.out))
      go_wp2_with fail
      go_ret
      exact ⟨rfl, below_drewN HM.out.below _⟩
set_option maxHeartbeats 4000000 in
set_option maxRecDepth 100000 in
theorem marksKnown_5 (n : Int) (w0 : World) (HW : ∀ W, Hid (Calls Try.prog 15 #[.int .i64 n, .int .i64 6] W (Gives (.int .i64 ((5 : Nat) : Int)) W))) : Calls Try.prog 9 #[.int .i64 n] w0 (Yes w0) := by
  have HNW := Lib.hid (mkB_new w0)
  have HKN : Hid (∀ W, Calls Try.prog 10 #[] W (Yes W)) := Lib.hid fun W => known7_yes W
  have HLE : Hid (∀ W M B, MarkB w0 W M B (kSt [[98], [124], [98], [33]] 4) → Calls Try.prog 39 #[.pointer (some ⟨B, 0, none⟩)] W (Gives (.int .i64 1) W)) := Lib.hid fun W M B h => mkB_len h
  have HFI : Hid (∀ W M B, MarkB w0 W M B (kSt [[98], [124], [98], [33]] 4) → Calls Try.prog 36 #[.pointer (some ⟨B, 0, none⟩), .string ⟨#[98]⟩] W (Gives (.int .i64 (0)) W)) := Lib.hid fun W M B h => mkB_find h [98] (by decide)
  go_enter Try.func9, Try.ntmps9
  go_wp2_with fail
  refine (HW _).out.mono ?_
  rintro e w1 ⟨rfl, rfl⟩
  go_wp2_with fail
  refine HNW.out.mono ?_
  rintro e w2 ⟨M, B, rfl, h2⟩
  have H2 := Lib.hid h2
  clear h2
  go_wp2_with fail
  refine (HKN.out _).mono ?_
  rintro e w ⟨rfl, b3⟩
  have H3 := Lib.hid (H2.out.on b3)
  clear b3 H2
  go_wp2_with fail
  change Code.wp Try.prog _ _ _ (allocs w (kn7Objs w))
  generalize hw2 : allocs w (kn7Objs w) = w2
  have b2 : Below w.heap.size w w2 := by rw [← hw2]; exact allocs_below w _
  have hz : w2.heap.size = w.heap.size + 9 := by rw [← hw2]; exact allocs_size w (kn7Objs w)
  have H2 := Lib.hid (H3.out.on b2)
  have HW2 := Lib.hid hw2
  have HZ := Lib.hid hz
  have hzl : w.heap.size + 9 ≤ w2.heap.size := by omega
  have hMn := Lib.hid (show ∀ b, w.heap.size ≤ b → ¬ M b from fun b hb k => absurd (H3.out.inn b k).2 (by omega))
  clear hw2 hz b2 H3 HNW HKN
  go_loopw [8] (fun jv wr => ∃ (k : Nat) (M' : Nat → Prop), k ≤ 4 ∧ jv = .int .i64 (k : Int) ∧ MarkB w0 wr M' B (kSt [[98], [124], [98], [33]] k) ∧ w.heap.size + 9 ≤ wr.heap.size ∧ (∀ b, w.heap.size ≤ b → b < w.heap.size + 9 → wr.heap[b]? = w2.heap[b]?) ∧ ∀ b, w.heap.size ≤ b → b < w.heap.size + 9 → ¬ M' b) (fun jv _ => 4 - (intOf jv).toNat)
  case atStart => exact ⟨0, M, by omega, rfl, H2.out, by omega, fun _ _ _ => rfl, fun b hb _ => hMn.out b hb⟩
  case round =>
    obtain ⟨k, M', hk, rfl, hm, hsz, htab, hnm⟩ := hrel
    have HM := Lib.hid hm
    have HT := Lib.hid htab
    have HNM := Lib.hid hnm
    have r0 : wr.cell? ⟨w.heap.size + 1 + 1 + 1 + 1 + 1 + 1, 5, none⟩ = some (.slice (some ⟨w.heap.size + 1 + 1 + 1 + 1 + 1, 0, none⟩) 4 4) := tab_cell HW2.out HT.out 6 _ _ (by omega) rfl 5
    have z6 : w.heap.size + 1 + 1 + 1 + 1 + 1 + 1 < wr.heap.size := by omega
    have zi : w.heap.size + 1 + 1 + 1 + 1 + 1 < wr.heap.size := by omega
    clear hm htab hnm
    have hcase : k = 0 ∨ k = 1 ∨ k = 2 ∨ k = 3 ∨ k = 4 := by omega
    rcases hcase with rfl | rfl | rfl | rfl | rfl
    · rw [show ((0 : Nat) : Int) = 0 from rfl]
      have r1 : wr.cell? ⟨w.heap.size + 1 + 1 + 1 + 1 + 1, 0, none⟩ = some (.string ⟨#[98]⟩) := tab_cell HW2.out HT.out 5 _ _ (by omega) rfl 0
      have HC : Hid (Calls Try.prog 27 #[.pointer (some ⟨B, 0, none⟩), .agg #[.int .i64 0, .string ⟨#[98]⟩, .slice none 0 0]] wr (fun e w' => e = .returned (.tuple #[]) ∧ Stepd w0 wr M' B (kSt [[98], [124], [98], [33]] 1) w')) := Lib.hid (mkB_push HM.out ⟨0, [98], []⟩ none 0 (by have := kSt_len [[98], [124], [98], [33]] 0; omega) (AttrsK.nil _ _) (fits_of rfl))
      clear hk
      go_wp2_with fail
      refine HC.out.mono ?_
      rintro e w5 ⟨rfl, M5, h5, s5, t5⟩
      have H5 := Lib.hid h5
      have HT5 : Hid (∀ b, w.heap.size ≤ b → b < w.heap.size + 9 → w5.heap[b]? = w2.heap[b]?) := Lib.hid fun b p q => (t5.block b (by omega) (HNM.out b p q)).trans (HT.out b p q)
      have HN5 : Hid (∀ b, w.heap.size ≤ b → b < w.heap.size + 9 → ¬ M5 b) := Lib.hid fun b p q r => HNM.out b p q (s5 b (by omega) r)
      have hz5 := t5.size
      clear h5 s5 t5
      go_wp2_with fail
      exact ⟨⟨1, M5, by omega, rfl, H5.out, by omega, HT5.out, HN5.out⟩, by simp [intOf]⟩
    · rw [show ((1 : Nat) : Int) = 1 from rfl]
      have r1 : wr.cell? ⟨w.heap.size + 1 + 1 + 1 + 1 + 1, 1, none⟩ = some (.string ⟨#[124]⟩) := tab_cell HW2.out HT.out 5 _ _ (by omega) rfl 1
      have HC := Lib.hid (mkB_wall HM.out (by have := kSt_len [[98], [124], [98], [33]] 1; omega))
      rw [← kSt_wall rfl] at HC
      clear hk
      go_wp2_with fail
      refine HC.out.mono ?_
      rintro e w5 ⟨rfl, M5, h5, s5, t5⟩
      have H5 := Lib.hid h5
      have HT5 : Hid (∀ b, w.heap.size ≤ b → b < w.heap.size + 9 → w5.heap[b]? = w2.heap[b]?) := Lib.hid fun b p q => (t5.block b (by omega) (HNM.out b p q)).trans (HT.out b p q)
      have HN5 : Hid (∀ b, w.heap.size ≤ b → b < w.heap.size + 9 → ¬ M5 b) := Lib.hid fun b p q r => HNM.out b p q (s5 b (by omega) r)
      have hz5 := t5.size
      clear h5 s5 t5
      go_wp2_with fail
      exact ⟨⟨2, M5, by omega, rfl, H5.out, by omega, HT5.out, HN5.out⟩, by simp [intOf]⟩
    · rw [show ((2 : Nat) : Int) = 2 from rfl]
      have r1 : wr.cell? ⟨w.heap.size + 1 + 1 + 1 + 1 + 1, 2, none⟩ = some (.string ⟨#[98]⟩) := tab_cell HW2.out HT.out 5 _ _ (by omega) rfl 2
      have HC : Hid (Calls Try.prog 27 #[.pointer (some ⟨B, 0, none⟩), .agg #[.int .i64 2, .string ⟨#[98]⟩, .slice none 0 0]] wr (fun e w' => e = .returned (.tuple #[]) ∧ Stepd w0 wr M' B (kSt [[98], [124], [98], [33]] 3) w')) := Lib.hid (mkB_push HM.out ⟨2, [98], []⟩ none 0 (by have := kSt_len [[98], [124], [98], [33]] 2; omega) (AttrsK.nil _ _) (fits_of rfl))
      clear hk
      go_wp2_with fail
      refine HC.out.mono ?_
      rintro e w5 ⟨rfl, M5, h5, s5, t5⟩
      have H5 := Lib.hid h5
      have HT5 : Hid (∀ b, w.heap.size ≤ b → b < w.heap.size + 9 → w5.heap[b]? = w2.heap[b]?) := Lib.hid fun b p q => (t5.block b (by omega) (HNM.out b p q)).trans (HT.out b p q)
      have HN5 : Hid (∀ b, w.heap.size ≤ b → b < w.heap.size + 9 → ¬ M5 b) := Lib.hid fun b p q r => HNM.out b p q (s5 b (by omega) r)
      have hz5 := t5.size
      clear h5 s5 t5
      go_wp2_with fail
      exact ⟨⟨3, M5, by omega, rfl, H5.out, by omega, HT5.out, HN5.out⟩, by simp [intOf]⟩
    · rw [show ((3 : Nat) : Int) = 3 from rfl]
      have r1 : wr.cell? ⟨w.heap.size + 1 + 1 + 1 + 1 + 1, 3, none⟩ = some (.string ⟨#[33]⟩) := tab_cell HW2.out HT.out 5 _ _ (by omega) rfl 3
      have HC := Lib.hid (mkB_clear HM.out (by have := kSt_len [[98], [124], [98], [33]] 3; omega))
      rw [← kSt_clear rfl] at HC
      clear hk
      go_wp2_with fail
      refine HC.out.mono ?_
      rintro e w5 ⟨rfl, M5, h5, s5, t5⟩
      have H5 := Lib.hid h5
      have HT5 : Hid (∀ b, w.heap.size ≤ b → b < w.heap.size + 9 → w5.heap[b]? = w2.heap[b]?) := Lib.hid fun b p q => (t5.block b (by omega) (HNM.out b p q)).trans (HT.out b p q)
      have HN5 : Hid (∀ b, w.heap.size ≤ b → b < w.heap.size + 9 → ¬ M5 b) := Lib.hid fun b p q r => HNM.out b p q (s5 b (by omega) r)
      have hz5 := t5.size
      clear h5 s5 t5
      go_wp2_with fail
      exact ⟨⟨4, M5, by omega, rfl, H5.out, by omega, HT5.out, HN5.out⟩, by simp [intOf]⟩
    · rw [show ((4 : Nat) : Int) = 4 from rfl]
      have g0 : wr.cell? ⟨w.heap.size + 1 + 1 + 1 + 1 + 1 + 1 + 1, 5, none⟩ = some (.int .i64 1) := tab_cell HW2.out HT.out 7 _ _ (by omega) rfl 5
      have g1 : wr.cell? ⟨w.heap.size + 1 + 1 + 1 + 1 + 1 + 1 + 1 + 1, 5, none⟩ = some (.int .i64 (0)) := tab_cell HW2.out HT.out 8 _ _ (by omega) rfl 5
      have z7 : w.heap.size + 1 + 1 + 1 + 1 + 1 + 1 + 1 < wr.heap.size := by omega
      have z8 : w.heap.size + 1 + 1 + 1 + 1 + 1 + 1 + 1 + 1 < wr.heap.size := by omega
      have HQL : Hid (∀ q, _) := Lib.hid fun q => HLE.out (wr.drewN q) M' B (HM.out.on (below_drewN (Below.refl _ _) q))
      have HQF : Hid (∀ q, _) := Lib.hid fun q => HFI.out (wr.drewN q) M' B (HM.out.on (below_drewN (Below.refl _ _) q))
      clear hk
      go_wp2_with fail
      go_quiet (first | (go_at_call 39; first | exact quiet_at HQL.out _ | exact quiet_at0 HQL.out) | (go_at_call 36; first | exact quiet_at HQF.out _ | exact quiet_at0 HQF.out))
      go_wp2_with fail
      go_ret
      exact ⟨rfl, below_drewN HM.out.below _⟩
theorem marksKnown_walk (n : Int) (w : World) (h0 : -9223372036854775808 ≤ n) (h1 : n ≤ 9223372036854775807) : Calls Try.prog 9 #[.int .i64 n] w (Yes w) := by
  have HW := fun W => Lib.hid (within7 n 6 W h0 h1 (by omega) (by omega))
  have hr := (within_lt n 6 (by omega)).1
  generalize Within n 6 = r at *
  match r, hr with
  | 0, _ => exact marksKnown_0 n w HW
  | 1, _ => exact marksKnown_1 n w HW
  | 2, _ => exact marksKnown_2 n w HW
  | 3, _ => exact marksKnown_3 n w HW
  | 4, _ => exact marksKnown_4 n w HW
  | 5, _ => exact marksKnown_5 n w HW
end Go.Proofs.Ytppcgcmhecagbab
