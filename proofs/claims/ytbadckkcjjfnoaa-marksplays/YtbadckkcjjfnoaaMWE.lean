/-
  Marks behind calls; the walks of the laws' known, within, Name, Attrs (chapter 7).
-/
import Derived.Test.YtbadckkcjjfnoaaMW7
import Derived.Test.YtbadckkcjjfnoaaMW8
import Derived.Test.YtbadckkcjjfnoaaMWC
import Derived.Test.YtbadckkcjjfnoaaMWD
namespace Go.Proofs.Ytbadckkcjjfnoaa
open Go.RowKit

/-- Marks that were made since w0, in blocks of M, none of which is newer than W. -/
structure MarkB (w0 W : World) (M : Nat → Prop) (B : Nat) (S : List MK) : Prop where
  marks : MarksM M W B S
  inn : ∀ b, M b → w0.heap.size ≤ b ∧ b < W.heap.size
  below : Below w0.heap.size w0 W
  fit : ∀ y ∈ S, y.fits
/-- Behind a call: the marks, in what they had, and in what is new; nothing else has turned. -/
def Stepd (w0 W : World) (M : Nat → Prop) (B : Nat) (S' : List MK) (w' : World) : Prop := ∃ M', MarkB w0 w' M' B S' ∧ (∀ b, b < W.heap.size → M' b → M b) ∧ Turns M W w'
theorem MarkB.step {w0 W w' : World} {M : Nat → Prop} {B : Nat} {S S' : List MK} (h : MarkB w0 W M B S) (hm : MarksM (New M W) w' B S') (ht : Turns M W w') (hf : ∀ y ∈ S', y.fits) : Stepd w0 W M B S' w' := by
  have z0 := h.below.size
  have z1 := ht.size
  refine ⟨fun b => (M b ∨ W.heap.size ≤ b) ∧ b < w'.heap.size, ⟨hm.mono fun b hb k => ⟨k, hb⟩, ?_, h.below.trans (ht.below z0 fun b hb k => by have := (h.inn b k).1; omega), hf⟩, ?_, ht⟩
  · rintro b ⟨k | k, hb⟩
    · exact ⟨(h.inn b k).1, hb⟩
    · exact ⟨by omega, hb⟩
  · rintro b hb ⟨k | k, _⟩
    · exact k
    · omega
theorem MarkB.on {w0 W w' : World} {M : Nat → Prop} {B : Nat} {S : List MK} (h : MarkB w0 W M B S) (hb : Below W.heap.size W w') : MarkB w0 w' M B S :=
  ⟨h.marks.below hb, fun b k => ⟨(h.inn b k).1, Nat.lt_of_lt_of_le (h.inn b k).2 hb.size⟩, h.below.trans (hb.mono h.below.size), h.fit⟩
/-- A row that stands beside the marks. -/
def RowK (W : World) (M : Nat → Prop) (v : Value) (qs : List (MK × Value)) : Prop := ∃ P, RowP P W v qs ∧ ∀ b, P b → b < W.heap.size ∧ ¬ M b
theorem RowK.turns {W w' : World} {M M' : Nat → Prop} {v : Value} {qs : List (MK × Value)} (h : RowK W M v qs) (hs : ∀ b, b < W.heap.size → M' b → M b) (ht : Turns M W w') : RowK w' M' v qs := by
  obtain ⟨P, hr, hp⟩ := h
  exact ⟨P, hr.kept (ht.kept fun b _ k => (hp b k).2), fun b k => ⟨Nat.lt_of_lt_of_le (hp b k).1 ht.size, fun q => (hp b k).2 (hs b (hp b k).1 q)⟩⟩
theorem RowK.on {W w' : World} {M : Nat → Prop} {v : Value} {qs : List (MK × Value)} (h : RowK W M v qs) (hb : Below W.heap.size W w') : RowK w' M v qs := by
  obtain ⟨P, hr, hp⟩ := h
  exact ⟨P, hr.kept (.of_below hb), fun b k => ⟨Nat.lt_of_lt_of_le (hp b k).1 hb.size, (hp b k).2⟩⟩
/-- Attributes that stand beside the marks. -/
def AttrsK (W : World) (M : Nat → Prop) (v : Value) (l : List (List UInt8 × List UInt8)) : Prop := ∃ P, AttrsP P W v l ∧ ∀ b, P b → b < W.heap.size ∧ ¬ M b
theorem AttrsK.nil (W : World) (M : Nat → Prop) : AttrsK W M (.slice none 0 0) [] := ⟨fun _ => False, AttrsP.nil _ _ _ _, fun _ k => k.elim⟩
theorem AttrsK.on {W w' : World} {M : Nat → Prop} {v : Value} {l : List (List UInt8 × List UInt8)} (h : AttrsK W M v l) (hb : Below W.heap.size W w') : AttrsK w' M v l := by
  obtain ⟨P, hr, hp⟩ := h
  exact ⟨P, hr.kept (.of_below hb), fun b k => ⟨Nat.lt_of_lt_of_le (hp b k).1 hb.size, (hp b k).2⟩⟩

theorem mRoom_mem {S : List MK} {x y : MK} (h : y ∈ mRoom S x) : y ∈ S := by
  unfold mRoom at h
  split at h
  · exact List.mem_of_mem_eraseIdx h
  · exact h
theorem mPush_mem {S : List MK} {x y : MK} (h : y ∈ mPush S x) : y ∈ S ∨ y = x := by
  unfold mPush at h
  rcases List.mem_append.1 h with h | h
  · exact .inl (mRoom_mem h)
  · exact .inr (List.mem_singleton.1 h)
theorem mPush_len (S : List MK) (x : MK) : (mPush S x).length ≤ S.length + 1 := by
  unfold mPush mRoom
  split
  · simp [List.length_eraseIdx]; split <;> omega
  · simp
theorem fits_of {a : MK} (h : a.attrs = []) : a.fits := by
  unfold MK.fits
  rw [h]
  exact ⟨by decide, fun a h => absurd h (by simp)⟩

theorem mkB_new (w : World) : Calls Try.prog 22 #[] w (fun e w' => ∃ M B, e = .returned (.pointer (some ⟨B, 0, none⟩)) ∧ MarkB w w' M B []) := by
  refine (mnewP w).mono ?_
  rintro e w1 ⟨rfl, d, b⟩
  exact ⟨fun x => w.heap.size ≤ x ∧ x < w1.heap.size, _, rfl, ⟨d.mono (fun _ hx k => ⟨k, hx⟩), fun _ k => k, b, fun y hy => absurd hy (by simp)⟩⟩
theorem mkB_push {w0 W : World} {M : Nat → Prop} {B : Nat} {S : List MK} (h : MarkB w0 W M B S) (x : MK) (pa : Option Addr) (ca : Nat) (hs : S.length ≤ 4294967296) (ha : AttrsK W M (.slice pa x.attrs.length ca) x.attrs) (hx : x.fits) :
    Calls Try.prog 38 #[.pointer (some ⟨B, 0, none⟩), markV x (.slice pa x.attrs.length ca)] W (fun e w' => e = .returned (.tuple #[]) ∧ Stepd w0 W M B (mPush S x) w') := by
  obtain ⟨P, ha, hp⟩ := ha
  refine (mpushP S B M P W x pa ca h.marks hs h.fit ha (fun b k => (hp b k).2) (fun b k => (h.inn b k).2) hx).mono ?_
  rintro e w' ⟨rfl, q2, q3⟩
  exact ⟨rfl, h.step q2 q3 fun y hy => (mPush_mem hy).elim (h.fit y) (fun e => by rw [e]; exact hx)⟩
theorem wall_fits : mWall.fits := fits_of rfl
theorem mkB_wall {w0 W : World} {M : Nat → Prop} {B : Nat} {S : List MK} (h : MarkB w0 W M B S) (hs : S.length ≤ 4294967296) : Calls Try.prog 28 #[.pointer (some ⟨B, 0, none⟩)] W (fun e w' => e = .returned (.tuple #[]) ∧ Stepd w0 W M B (S ++ [mWall]) w') := by
  refine (mwallP S B M W h.marks hs).mono ?_
  rintro e w' ⟨rfl, q2, q3⟩
  refine ⟨rfl, h.step q2 q3 fun y hy => ?_⟩
  rcases List.mem_append.1 hy with hy | hy
  · exact h.fit y hy
  · rw [List.mem_singleton.1 hy]; exact wall_fits
theorem New.of {M : Nat → Prop} {W w' : World} {B : Nat} {S : List MK} (h : MarksM M w' B S) : MarksM (New M W) w' B S := h.mono fun _ _ k => .inl k
theorem mkB_clear {w0 W : World} {M : Nat → Prop} {B : Nat} {S : List MK} (h : MarkB w0 W M B S) (hs : S.length ≤ 4294967296) : Calls Try.prog 30 #[.pointer (some ⟨B, 0, none⟩)] W (fun e w' => e = .returned (.tuple #[]) ∧ Stepd w0 W M B (mClear S) w') := by
  refine (mclearP S B M W h.marks hs).mono ?_
  rintro e w' ⟨rfl, q2, q3⟩
  exact ⟨rfl, h.step (New.of q2) q3 fun y hy => h.fit y (List.mem_of_mem_take hy)⟩
theorem mkB_drop {w0 W : World} {M : Nat → Prop} {B : Nat} {S : List MK} (h : MarkB w0 W M B S) (i : Int) (hs : S.length ≤ 4294967296) : Calls Try.prog 32 #[.pointer (some ⟨B, 0, none⟩), .int .i64 i] W (fun e w' => e = .returned (.bool (mHas S i)) ∧ Stepd w0 W M B (mDropS S i) w') := by
  refine (mdropP S B M W i h.marks hs).mono ?_
  rintro e w' ⟨rfl, q2, q3⟩
  refine ⟨rfl, h.step (New.of q2) q3 fun y hy => h.fit y ?_⟩
  unfold mDropS at hy
  split at hy
  · exact List.mem_of_mem_eraseIdx hy
  · exact hy
theorem mkB_find {w0 W : World} {M : Nat → Prop} {B : Nat} {S : List MK} (h : MarkB w0 W M B S) (n : List UInt8) (hs : S.length ≤ 4294967296) : Calls Try.prog 86 #[.pointer (some ⟨B, 0, none⟩), .string ⟨n.toArray⟩] W (Gives (.int .i64 (mFind S n S.length)) W) := mfindP S B M W n h.marks hs
theorem mkB_of {w0 W : World} {M : Nat → Prop} {B : Nat} {S : List MK} (h : MarkB w0 W M B S) (n : Int) (hs : S.length ≤ 4294967296) : Calls Try.prog 41 #[.pointer (some ⟨B, 0, none⟩), .int .i64 n] W (Gives (.int .i64 (mOfA S n 0)) W) := mofP S B M W n h.marks hs
theorem mkB_len {w0 W : World} {M : Nat → Prop} {B : Nat} {S : List MK} (h : MarkB w0 W M B S) : Calls Try.prog 85 #[.pointer (some ⟨B, 0, none⟩)] W (Gives (.int .i64 (S.length : Int)) W) := mlenP S B M W h.marks
/-- What All tells, beside the marks. -/
def AllK (w0 W : World) (M : Nat → Prop) (B : Nat) (S : List MK) (e : Ending) (w' : World) : Prop := ∃ v rs, e = .returned v ∧ rs.map (·.1) = S ∧ RowP (fun b => W.heap.size ≤ b ∧ b < w'.heap.size) w' v rs ∧ Below W.heap.size W w' ∧ MarkB w0 w' M B S ∧ RowK w' M v rs
theorem mkB_all {w0 W : World} {M : Nat → Prop} {B : Nat} {S : List MK} (h : MarkB w0 W M B S) (hs : S.length ≤ 4294967296) : Calls Try.prog 97 #[.pointer (some ⟨B, 0, none⟩)] W (AllK w0 W M B S) := by
  refine (mallP S B M W h.marks hs fun x hx => Nat.le_trans (h.fit x hx).1 (by decide)).mono ?_
  rintro e w' ⟨v, rs, rfl, q1, q2, q3⟩
  exact ⟨v, rs, rfl, q1, q2.row', q3, h.on q3, _, q2.row', fun b k => ⟨k.2, fun q => by have := (h.inn b q).2; omega⟩⟩

def kn7 : Nat → List MK
  | 0 => []
  | k + 1 => mPush (kn7 k) ⟨(k : Int) + 1, [98], []⟩
theorem kn7_len : ∀ k, (kn7 k).length ≤ k
  | 0 => Nat.le_refl _
  | k + 1 => Nat.le_trans (mPush_len _ _) (by have := kn7_len k; omega)
set_option maxHeartbeats 1000000 in
set_option maxRecDepth 100000 in
theorem known7_yes (w : World) : Calls Try.prog 21 #[] w (Yes w) := by
  have HN := Lib.hid (mkB_new w)
  have HP : Hid (∀ W M B (k : Nat), k < 4 → MarkB w W M B (kn7 k) → Calls Try.prog 38 #[.pointer (some ⟨B, 0, none⟩), .agg #[.int .i64 ((k : Int) + 1), .string ⟨#[98]⟩, .slice none 0 0]] W (fun e w' => e = .returned (.tuple #[]) ∧ Stepd w W M B (kn7 (k + 1)) w')) := Lib.hid fun W M B k hk h => mkB_push h ⟨(k : Int) + 1, [98], []⟩ none 0 (by have := kn7_len k; omega) (AttrsK.nil _ _) (fits_of rfl)
  have HL : Hid (∀ W M B, MarkB w W M B (kn7 4) → Calls Try.prog 85 #[.pointer (some ⟨B, 0, none⟩)] W (Gives (.int .i64 3) W)) := Lib.hid fun W M B h => mkB_len h
  have HWL : Hid (∀ W M B, MarkB w W M B (kn7 4) → Calls Try.prog 28 #[.pointer (some ⟨B, 0, none⟩)] W (fun e w' => e = .returned (.tuple #[]) ∧ Stepd w W M B (kn7 4 ++ [mWall]) w')) := Lib.hid fun W M B h => mkB_wall h (by decide)
  have HF : Hid (∀ W M B, MarkB w W M B (kn7 4 ++ [mWall]) → Calls Try.prog 86 #[.pointer (some ⟨B, 0, none⟩), .string ⟨#[98]⟩] W (Gives (.int .i64 (-1)) W)) := Lib.hid fun W M B h => mkB_find h [98] (by decide)
  have HO4 : Hid (∀ W M B, MarkB w W M B (kn7 4 ++ [mWall]) → Calls Try.prog 41 #[.pointer (some ⟨B, 0, none⟩), .int .i64 4] W (Gives (.int .i64 2) W)) := Lib.hid fun W M B h => mkB_of h 4 (by decide)
  have HO1 : Hid (∀ W M B, MarkB w W M B (kn7 4 ++ [mWall]) → Calls Try.prog 41 #[.pointer (some ⟨B, 0, none⟩), .int .i64 1] W (Gives (.int .i64 (-1)) W)) := Lib.hid fun W M B h => mkB_of h 1 (by decide)
  go_enter Try.func21, Try.ntmps21
  go_wp2_with fail
  refine HN.out.mono ?_
  rintro e w1 ⟨M1, B, rfl, h1⟩
  have H1 := Lib.hid h1
  clear h1
  go_wp2_with fail
  go_loopw [2] (fun i wr => ∃ (k : Nat) (M : Nat → Prop), k ≤ 4 ∧ i = .int .i64 (k : Int) ∧ MarkB w wr M B (kn7 k)) (fun i _ => 4 - (intOf i).toNat)
  case atStart => exact ⟨0, M1, by omega, rfl, H1.out⟩
  case round =>
    obtain ⟨k, M, hk, rfl, hm⟩ := hrel
    have HM := Lib.hid hm
    clear hm
    by_cases hlt : k < 4
    · go_wp2_with fail
      refine (HP.out _ _ _ k hlt HM.out).mono ?_
      rintro e w2 ⟨rfl, M2, h2, _, _⟩
      have H2 := Lib.hid h2
      clear h2
      go_wp2_with fail
      exact ⟨⟨k + 1, M2, by omega, by go_num, H2.out⟩, by simp [intOf]; omega⟩
    · obtain rfl : k = 4 := by omega
      go_wp2_with fail
      refine (HL.out _ _ _ HM.out).mono ?_
      rintro e w2 ⟨rfl, rfl⟩
      go_wp2_with fail
      refine (HWL.out _ _ _ HM.out).mono ?_
      rintro e w2 ⟨rfl, M2, h2, _, _⟩
      have H2 := Lib.hid h2
      clear h2
      go_wp2_with fail
      refine (HF.out _ _ _ H2.out).mono ?_
      rintro e w3 ⟨rfl, rfl⟩
      go_wp2_with fail
      refine (HO4.out _ _ _ H2.out).mono ?_
      rintro e w3 ⟨rfl, rfl⟩
      go_wp2_with fail
      refine (HO1.out _ _ _ H2.out).mono ?_
      rintro e w3 ⟨rfl, rfl⟩
      go_wp2_with fail
      go_ret
      exact ⟨rfl, H2.out.below⟩
end Go.Proofs.Ytbadckkcjjfnoaa
