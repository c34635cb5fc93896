/-
  The program's Marks and the reference's, side by side. Any marks, not too many.
-/
import Derived.Test.YtbadckkcjjfnoaaMRE
namespace Go.Proofs.Ytbadckkcjjfnoaa
open Go.RowKit

theorem mkB_put7 {w0 W : World} {M : Nat → Prop} {B : Nat} {S : List MK} (h : MarkB w0 W M B S) (i : Int) (x : MK) (pa : Option Addr) (ca : Nat) (hs : S.length ≤ 4294967296) (ha : AttrsK W M (.slice pa x.attrs.length ca) x.attrs) (hx : x.fits) :
    Calls Try.prog 36 #[.pointer (some ⟨B, 0, none⟩), .int .i64 i, markV x (.slice pa x.attrs.length ca)] W (fun e w' => e = .returned (.bool (mPutB S i)) ∧ Stepd w0 W M B (mPutS S i x) w') := by
  obtain ⟨P, ha, hp⟩ := ha
  refine (mputP S B M P W i x pa ca h.marks hs ha (fun b k => (hp b k).2) (Nat.le_trans hx.1 (by decide))).mono ?_
  rintro e w' ⟨rfl, q2, q3⟩
  refine ⟨rfl, h.step q2 q3 fun y hy => ?_⟩
  unfold mPutS at hy
  split at hy
  · unfold mIns at hy
    rcases List.mem_append.1 hy with hy | hy
    · exact h.fit y (List.mem_of_mem_take hy)
    · rcases List.mem_cons.1 hy with rfl | hy
      · exact hx
      · exact h.fit y (List.mem_of_mem_drop hy)
  · exact h.fit y hy
theorem mkB_set7 {w0 W : World} {M : Nat → Prop} {B : Nat} {S : List MK} (h : MarkB w0 W M B S) (i : Int) (x : MK) (pa : Option Addr) (ca : Nat) (hs : S.length ≤ 4294967296) (ha : AttrsK W M (.slice pa x.attrs.length ca) x.attrs) (hx : x.fits) :
    Calls Try.prog 34 #[.pointer (some ⟨B, 0, none⟩), .int .i64 i, markV x (.slice pa x.attrs.length ca)] W (fun e w' => e = .returned (.bool (mHas S i)) ∧ Stepd w0 W M B (mSetS S i x) w') := by
  obtain ⟨P, ha, hp⟩ := ha
  refine (msetP S B M P W i x pa ca h.marks hs ha (Nat.le_trans hx.1 (by decide))).mono ?_
  rintro e w' ⟨rfl, q2, q3⟩
  refine ⟨rfl, h.step q2 q3 fun y hy => ?_⟩
  unfold mSetS at hy
  split at hy
  · rcases List.mem_or_eq_of_mem_set hy with hy | rfl
    · exact h.fit y hy
    · exact hx
  · exact h.fit y hy
theorem MarkB.beside7 {w0 W w' : World} {M L : Nat → Prop} {B : Nat} {S : List MK} (h : MarkB w0 W M B S) (ht : Turns L W w') (hm : ∀ b, b < W.heap.size → M b → ¬ L b) (hl : ∀ b, L b → w0.heap.size ≤ b) : MarkB w0 w' M B S :=
  ⟨h.marks.on ht hm, fun b k => ⟨(h.inn b k).1, Nat.lt_of_lt_of_le (h.inn b k).2 ht.size⟩, h.below.trans (ht.below h.below.size fun b hb k => absurd (hl b k) (by omega)), h.fit⟩
/-- Something that leads to blocks of P stands, where M turns. -/
theorem RefM.turns {M P : Nat → Prop} {w w' : World} {B : Nat} {S : List MK} (h : RefM P w B S) (ht : Turns M w w') (hB : ¬ M B) (hp : ∀ b, P b → ¬ M b) : RefM P w' B S := by
  obtain ⟨v, rs, e, hq⟩ := h
  have hk := ht.block B hq.lt hB
  refine ⟨v, rs, e, Nat.lt_of_lt_of_le hq.lt ht.size, ?_, ?_, hq.row.kept (ht.kept fun b _ k => hp b k), hq.off, hq.nil, hq.addr⟩
  · rw [World.cell?_of_block (w := w) hk]; exact hq.cell
  · rw [World.frozen?_of_block (w := w) hk]; exact hq.free
theorem RefM.wider {P Q : Nat → Prop} {w : World} {B : Nat} {S : List MK} (h : RefM P w B S) (hp : ∀ b, P b → Q b) (hB : ¬ Q B) : RefM Q w B S := by
  obtain ⟨v, rs, e, hq⟩ := h
  exact ⟨v, rs, e, hq.lt, hq.cell, hq.free, hq.row.mono fun b k _ => hp b k, hB, hq.nil, hq.addr⟩
theorem RefM.lt {P : Nat → Prop} {w : World} {B : Nat} {S : List MK} (h : RefM P w B S) : B < w.heap.size := by
  obtain ⟨v, rs, e, hq⟩ := h
  exact hq.lt
/-- Both, with lists of their own, made since w1. -/
structure Pair7 (w1 W : World) (M P : Nat → Prop) (B R : Nat) (S Z : List MK) : Prop where
  m : MarkB w1 W M B S
  r : RefM P W R Z
  new : w1.heap.size ≤ R
  rM : ¬ M R
  pM : ∀ b, P b → ¬ M b
  pR : ¬ P R
  pin : ∀ b, P b → b < W.heap.size
theorem Pair7.on {w1 W W' : World} {M P : Nat → Prop} {B R : Nat} {S Z : List MK} (h : Pair7 w1 W M P B R S Z) (hb : Below W.heap.size W W') : Pair7 w1 W' M P B R S Z :=
  ⟨h.m.on hb, h.r.below hb, h.new, h.rM, h.pM, h.pR, fun b k => Nat.lt_of_lt_of_le (h.pin b k) hb.size⟩
theorem Pair7.left {w1 W W' : World} {M P : Nat → Prop} {B R : Nat} {S Z S' : List MK} (h : Pair7 w1 W M P B R S Z) (hs : Stepd w1 W M B S' W') : ∃ M', Pair7 w1 W' M' P B R S' Z ∧ (∀ b, b < W.heap.size → M' b → M b) ∧ Turns M W W' := by
  obtain ⟨M', h1, h2, h3⟩ := hs
  exact ⟨M', ⟨h1, h.r.turns h3 h.rM h.pM, h.new, fun k => h.rM (h2 R h.r.lt k), fun b p k => h.pM b p (h2 b (h.pin b p) k), h.pR, fun b k => Nat.lt_of_lt_of_le (h.pin b k) h3.size⟩, h2, h3⟩
theorem Pair7.right {w1 W W' : World} {M P : Nat → Prop} {B R : Nat} {S Z Z' : List MK} (h : Pair7 w1 W M P B R S Z) (hs : RStep W R P Z' W') : Pair7 w1 W' M (NewP P W W') B R S Z' := by
  obtain ⟨h1, h2⟩ := hs
  have z := h2.size
  refine ⟨h.m.beside7 h2 (fun b _ k e => h.rM (by rw [← e]; exact k)) (fun b e => by rw [e]; exact h.new), h1, h.new, h.rM, ?_, ?_, ?_⟩
  · rintro b (k | k) q
    · exact h.pM b k q
    · have := (h.m.inn b q).2; omega
  · rintro (k | k)
    · exact h.pR k
    · have := h.r.lt; omega
  · rintro b (k | k)
    · have := h.pin b k; omega
    · omega
/-- Attributes that were made since w, beside both. -/
theorem Pair7.attrs {w1 w W : World} {M P : Nat → Prop} {B R : Nat} {S Z : List MK} {v : Value} {l : List (List UInt8 × List UInt8)} (h : Pair7 w1 w M P B R S Z) (hb : Below w.heap.size w W) (ha : AttrsP (fun b => w.heap.size ≤ b) W v l) :
    Pair7 w1 W M (NewP P w W) B R S Z ∧ AttrsP (NewP P w W) W v l ∧ AttrsK W M v l := by
  have z := hb.size
  have h' := h.on hb
  have hPR : ¬ NewP P w W R := by
    rintro (k | k)
    · exact h.pR k
    · have := h.r.lt; omega
  have hPM : ∀ b, NewP P w W b → ¬ M b := by
    rintro b (k | k) q
    · exact h.pM b k q
    · have := (h.m.inn b q).2; omega
  have hin : ∀ b, NewP P w W b → b < W.heap.size := by
    rintro b (k | k)
    · have := h.pin b k; omega
    · omega
  have ha' : AttrsP (NewP P w W) W v l := ha.mono fun b k hb' => .inr ⟨k, hb'⟩
  exact ⟨⟨h'.m, h'.r.wider (fun b k => .inl k) hPR, h.new, h.rM, hPM, hPR, hin⟩, ha', ⟨_, ha', fun b k => ⟨hin b k, hPM b k⟩⟩⟩
end Go.Proofs.Ytbadckkcjjfnoaa
