/-
  What the law MarksPlays needs: its row of calls; both Marks behind a call.
-/
import Derived.Test.YtbadckkcjjfnoaaMRF
import Derived.Test.YtbadckkcjjfnoaaMR6
import Derived.Test.YtbadckkcjjfnoaaMWH
namespace Go.Proofs.Ytbadckkcjjfnoaa
open Go.RowKit

/-- A row of calls: four numbers each. -/
def OpsIn (w : World) (v : Value) (n : Nat) : Prop :=
  ∃ p cap, v = .slice p n cap ∧ n ≤ maxLen ∧ ∀ j, j < n → ∃ g o, p = some ⟨g, o, none⟩ ∧ g < w.heap.size ∧ ∀ t, t < 4 → ∃ z : Int, w.cell? ⟨g, o + j * 4 + t, none⟩ = some (.int .i64 z) ∧ -9223372036854775808 ≤ z ∧ z ≤ 9223372036854775807
theorem OpsIn.below {w w' : World} {v : Value} {n : Nat} (h : OpsIn w v n) (hb : Below w.heap.size w w') : OpsIn w' v n := by
  obtain ⟨p, cap, rfl, hn, hc⟩ := h
  refine ⟨p, cap, rfl, hn, fun j hj => ?_⟩
  obtain ⟨g, o, e, hg, hz⟩ := hc j hj
  refine ⟨g, o, e, Nat.lt_of_lt_of_le hg hb.size, fun t ht => ?_⟩
  obtain ⟨z, h0, h1, h2⟩ := hz t ht
  exact ⟨z, (hb.cell (p := ⟨g, o + j * 4 + t, none⟩) hg).trans h0, h1, h2⟩
theorem Sign.of {S Z : List MK} {x : MK} (h : Sign S) (hx : 0 ≤ x.node) (hz : ∀ y ∈ Z, y ∈ S ∨ y = x ∨ y = mWall) : Sign Z := by
  intro y hy
  rcases hz y hy with k | rfl | rfl
  · exact h y k
  · exact .inr hx
  · exact .inl rfl
theorem plays_push {S : List MK} {x : MK} (h : Sign S) (hx : 0 ≤ x.node) : Sign (mPush S x) := h.of hx fun _ hy => (mPush_mem hy).imp id .inl
theorem plays_wall {S : List MK} (h : Sign S) : Sign (S ++ [mWall]) := h.of (x := mZero) (Int.le_refl _) fun _ hy => (List.mem_append.1 hy).imp id fun k => .inr (List.mem_singleton.1 k)
theorem plays_clear {S : List MK} (h : Sign S) : Sign (mClear S) ∧ (mClear S).length ≤ S.length := ⟨h.of (x := mZero) (Int.le_refl _) fun y hy => .inl (List.mem_of_mem_take hy), by unfold mClear; rw [List.length_take]; omega⟩
theorem plays_drop {S : List MK} (h : Sign S) (i : Int) : Sign (mDropS S i) ∧ (mDropS S i).length ≤ S.length := by
  unfold mDropS
  split
  · exact ⟨h.of (x := mZero) (Int.le_refl _) fun y hy => .inl (List.mem_of_mem_eraseIdx hy), List.length_eraseIdx_le ..⟩
  · exact ⟨h, Nat.le_refl _⟩
theorem plays_set {S : List MK} {x : MK} (h : Sign S) (hx : 0 ≤ x.node) (i : Int) : Sign (mSetS S i x) ∧ (mSetS S i x).length ≤ S.length := by
  unfold mSetS
  split
  · exact ⟨h.of hx fun y hy => (List.mem_or_eq_of_mem_set hy).imp id .inl, by rw [List.length_set]; exact Nat.le_refl _⟩
  · exact ⟨h, Nat.le_refl _⟩
theorem plays_put {S : List MK} {x : MK} (h : Sign S) (hx : 0 ≤ x.node) (i : Int) : Sign (mPutS S i x) ∧ (mPutS S i x).length ≤ S.length + 1 := by
  unfold mPutS
  split
  · unfold mIns
    refine ⟨h.of hx fun y hy => ?_, ?_⟩
    · rcases List.mem_append.1 hy with hy | hy
      · exact .inl (List.mem_of_mem_take hy)
      · rcases List.mem_cons.1 hy with rfl | hy
        · exact .inr (.inl rfl)
        · exact .inl (List.mem_of_mem_drop hy)
    · simp only [List.length_append, List.length_take, List.length_cons, List.length_drop]; omega
  · exact ⟨h, Nat.le_succ _⟩
theorem Pair7.made {w1 w2 w' : World} {M : Nat → Prop} {B : Nat} (h : MarkB w1 w2 M B []) (hr : RefM (fun _ => False) w' w2.heap.size []) (hb : Below w2.heap.size w2 w') : Pair7 w1 w' M (fun _ => False) B w2.heap.size [] [] :=
  ⟨h.on hb, hr, h.below.size, fun k => by have := (h.inn _ k).2; omega, fun _ k => k.elim, fun k => k, fun _ k => k.elim⟩
theorem Pair7.kept {w1 W : World} {M P : Nat → Prop} {B R : Nat} {S Z : List MK} (h : Pair7 w1 W M P B R S Z) {v : Value} {l : List (List UInt8 × List UInt8)} (ha : AttrsP P W v l) : AttrsK W M v l := ⟨P, ha, fun b k => ⟨h.pin b k, h.pM b k⟩⟩
theorem Pair7.still {w1 W : World} {M P : Nat → Prop} {B R : Nat} {S Z : List MK} (h : Pair7 w1 W M P B R S Z) {W' : World} {v : Value} {l : List (List UInt8 × List UInt8)} (ha : AttrsP P W v l) (ht : Turns M W W') : AttrsP P W' v l := ha.kept (ht.kept fun b _ k => h.pM b k)
theorem p7_wall {w1 W : World} {M P : Nat → Prop} {B R : Nat} {S Z : List MK} (h : Pair7 w1 W M P B R S Z) (hs : S.length ≤ 1000) : Calls Try.prog 28 #[.pointer (some ⟨B, 0, none⟩)] W (fun e w' => e = .returned (.tuple #[]) ∧ ∃ M', Pair7 w1 w' M' P B R (S ++ [mWall]) Z ∧ (∀ b, b < W.heap.size → M' b → M b) ∧ Turns M W w') :=
  (mkB_wall h.m (by omega)).mono fun _ _ k => ⟨k.1, h.left k.2⟩
theorem q7_wall {w1 W : World} {M P : Nat → Prop} {B R : Nat} {S Z : List MK} (h : Pair7 w1 W M P B R S Z) (hs : Z.length ≤ 1000) : Calls Try.prog 29 #[.pointer (some ⟨R, 0, none⟩)] W (fun e w' => e = .returned (.tuple #[]) ∧ Pair7 w1 w' M (NewP P W w') B R S (Z ++ [mWall])) :=
  (rmwallP Z R P W h.r (by omega)).mono fun _ _ k => ⟨k.1, h.right k.2⟩
theorem p7_clear {w1 W : World} {M P : Nat → Prop} {B R : Nat} {S Z : List MK} (h : Pair7 w1 W M P B R S Z) (hs : S.length ≤ 1000) : Calls Try.prog 30 #[.pointer (some ⟨B, 0, none⟩)] W (fun e w' => e = .returned (.tuple #[]) ∧ ∃ M', Pair7 w1 w' M' P B R (mClear S) Z ∧ (∀ b, b < W.heap.size → M' b → M b) ∧ Turns M W w') :=
  (mkB_clear h.m (by omega)).mono fun _ _ k => ⟨k.1, h.left k.2⟩
theorem q7_clear {w1 W : World} {M P : Nat → Prop} {B R : Nat} {S Z : List MK} (h : Pair7 w1 W M P B R S Z) (hs : Z.length ≤ 1000) (hsg : Sign Z) : Calls Try.prog 31 #[.pointer (some ⟨R, 0, none⟩)] W (fun e w' => e = .returned (.tuple #[]) ∧ Pair7 w1 w' M (NewP P W w') B R S (mClear Z)) :=
  (rclearP Z R P W h.r (by omega) hsg).mono fun _ _ k => ⟨k.1, h.right k.2⟩
theorem p7_drop {w1 W : World} {M P : Nat → Prop} {B R : Nat} {S Z : List MK} (h : Pair7 w1 W M P B R S Z) (hs : S.length ≤ 1000) (i : Int) : Calls Try.prog 32 #[.pointer (some ⟨B, 0, none⟩), .int .i64 i] W (fun e w' => e = .returned (.bool (mHas S i)) ∧ ∃ M', Pair7 w1 w' M' P B R (mDropS S i) Z ∧ (∀ b, b < W.heap.size → M' b → M b) ∧ Turns M W w') :=
  (mkB_drop h.m i (by omega)).mono fun _ _ k => ⟨k.1, h.left k.2⟩
theorem q7_drop {w1 W : World} {M P : Nat → Prop} {B R : Nat} {S Z : List MK} (h : Pair7 w1 W M P B R S Z) (hs : Z.length ≤ 1000) (i : Int) : Calls Try.prog 33 #[.pointer (some ⟨R, 0, none⟩), .int .i64 i] W (fun e w' => e = .returned (.bool (mHas Z i)) ∧ Pair7 w1 w' M (NewP P W w') B R S (mDropS Z i)) :=
  (rdropP Z R P W i h.r (by omega)).mono fun _ _ k => ⟨k.1, h.right k.2⟩
theorem p7_set {w1 W : World} {M P : Nat → Prop} {B R : Nat} {S Z : List MK} (h : Pair7 w1 W M P B R S Z) (hs : S.length ≤ 1000) (i : Int) (x : MK) (pa : Option Addr) (ca : Nat) (ha : AttrsP P W (.slice pa x.attrs.length ca) x.attrs) (hx : x.fits) : Calls Try.prog 34 #[.pointer (some ⟨B, 0, none⟩), .int .i64 i, markV x (.slice pa x.attrs.length ca)] W (fun e w' => e = .returned (.bool (mHas S i)) ∧ ∃ M', Pair7 w1 w' M' P B R (mSetS S i x) Z ∧ (∀ b, b < W.heap.size → M' b → M b) ∧ Turns M W w') :=
  (mkB_set7 h.m i x pa ca (by omega) (h.kept ha) hx).mono fun _ _ k => ⟨k.1, h.left k.2⟩
theorem q7_set {w1 W : World} {M P : Nat → Prop} {B R : Nat} {S Z : List MK} (h : Pair7 w1 W M P B R S Z) (hs : Z.length ≤ 1000) (i : Int) (x : MK) (pa : Option Addr) (ca : Nat) (ha : AttrsP P W (.slice pa x.attrs.length ca) x.attrs) : Calls Try.prog 35 #[.pointer (some ⟨R, 0, none⟩), .int .i64 i, markV x (.slice pa x.attrs.length ca)] W (fun e w' => e = .returned (.bool (mHas Z i)) ∧ Pair7 w1 w' M (NewP P W w') B R S (mSetS Z i x)) :=
  (rsetP Z R P W i x pa ca h.r (by omega) ha).mono fun _ _ k => ⟨k.1, h.right k.2⟩
theorem p7_put {w1 W : World} {M P : Nat → Prop} {B R : Nat} {S Z : List MK} (h : Pair7 w1 W M P B R S Z) (hs : S.length ≤ 1000) (i : Int) (x : MK) (pa : Option Addr) (ca : Nat) (ha : AttrsP P W (.slice pa x.attrs.length ca) x.attrs) (hx : x.fits) : Calls Try.prog 36 #[.pointer (some ⟨B, 0, none⟩), .int .i64 i, markV x (.slice pa x.attrs.length ca)] W (fun e w' => e = .returned (.bool (mPutB S i)) ∧ ∃ M', Pair7 w1 w' M' P B R (mPutS S i x) Z ∧ (∀ b, b < W.heap.size → M' b → M b) ∧ Turns M W w') :=
  (mkB_put7 h.m i x pa ca (by omega) (h.kept ha) hx).mono fun _ _ k => ⟨k.1, h.left k.2⟩
theorem q7_put {w1 W : World} {M P : Nat → Prop} {B R : Nat} {S Z : List MK} (h : Pair7 w1 W M P B R S Z) (hs : Z.length ≤ 1000) (i : Int) (x : MK) (pa : Option Addr) (ca : Nat) (ha : AttrsP P W (.slice pa x.attrs.length ca) x.attrs) : Calls Try.prog 37 #[.pointer (some ⟨R, 0, none⟩), .int .i64 i, markV x (.slice pa x.attrs.length ca)] W (fun e w' => e = .returned (.bool (mPutB Z i)) ∧ Pair7 w1 w' M (NewP P W w') B R S (mPutS Z i x)) :=
  (rputP Z R P W i x pa ca h.r (by omega) ha).mono fun _ _ k => ⟨k.1, h.right k.2⟩
theorem p7_push {w1 W : World} {M P : Nat → Prop} {B R : Nat} {S Z : List MK} (h : Pair7 w1 W M P B R S Z) (hs : S.length ≤ 1000) (x : MK) (pa : Option Addr) (ca : Nat) (ha : AttrsP P W (.slice pa x.attrs.length ca) x.attrs) (hx : x.fits) : Calls Try.prog 38 #[.pointer (some ⟨B, 0, none⟩), markV x (.slice pa x.attrs.length ca)] W (fun e w' => e = .returned (.tuple #[]) ∧ ∃ M', Pair7 w1 w' M' P B R (mPush S x) Z ∧ (∀ b, b < W.heap.size → M' b → M b) ∧ Turns M W w') :=
  (mkB_push h.m x pa ca (by omega) (h.kept ha) hx).mono fun _ _ k => ⟨k.1, h.left k.2⟩
theorem q7_push {w1 W : World} {M P : Nat → Prop} {B R : Nat} {S Z : List MK} (h : Pair7 w1 W M P B R S Z) (hs : Z.length ≤ 1000) (x : MK) (pa : Option Addr) (ca : Nat) (ha : AttrsP P W (.slice pa x.attrs.length ca) x.attrs) (hsg : Sign Z) (hf : ∀ y ∈ Z, y.fits) (hx : x.fits) : Calls Try.prog 39 #[.pointer (some ⟨R, 0, none⟩), markV x (.slice pa x.attrs.length ca)] W (fun e w' => e = .returned (.tuple #[]) ∧ Pair7 w1 w' M (NewP P W w') B R S (mPush Z x)) :=
  (rpushP Z R P W x pa ca h.r (by omega) hsg hf hx ha).mono fun _ _ k => ⟨k.1, h.right k.2⟩
end Go.Proofs.Ytbadckkcjjfnoaa
