/-
  The laws' tape, its numbers and its place told. Any slice of numbers.
-/
import Derived.Test.YtbadckkcjjfnoaaDMF
namespace Go.Proofs.Ytbadckkcjjfnoaa
open Go.RowKit

/-- A slice of just these numbers that came in. -/
def IntsZ (w : World) (v : Value) (zs : List Int) : Prop :=
  (∃ p cap, v = .slice p 0 cap ∧ zs = []) ∨
  ∃ g off cap, v = .slice (some ⟨g, off, none⟩) zs.length cap ∧ g < w.heap.size ∧ zs.length ≤ maxLen ∧ ∀ j (hj : j < zs.length), w.cell? ⟨g, off + j, none⟩ = some (.int .i64 zs[j]) ∧ -9223372036854775808 ≤ zs[j] ∧ zs[j] ≤ 9223372036854775807
theorem IntsIn.zs {w : World} {v : Value} {n : Nat} (h : IntsIn w v n) : ∃ zs : List Int, zs.length = n ∧ IntsZ w v zs := by
  rcases h with ⟨p, cap, rfl, rfl⟩ | ⟨g, off, cap, rfl, hg, hn, hc⟩
  · exact ⟨[], rfl, .inl ⟨p, cap, rfl, rfl⟩⟩
  · have hl : (List.ofFn fun j : Fin n => Classical.choose (hc j.1 j.2)).length = n := by simp
    refine ⟨List.ofFn fun j : Fin n => Classical.choose (hc j.1 j.2), hl, .inr ⟨g, off, cap, by rw [hl], hg, by rw [hl]; exact hn, fun j hj => ?_⟩⟩
    rw [hl] at hj
    rw [List.getElem_ofFn]
    exact Classical.choose_spec (hc j hj)
theorem IntsZ.form {w : World} {v : Value} {zs : List Int} (h : IntsZ w v zs) : ∃ p cap, v = .slice p zs.length cap := by
  rcases h with ⟨p, cap, hv, h0⟩ | ⟨g, off, cap, hv, _⟩
  · exact ⟨p, cap, by rw [hv, h0]; rfl⟩
  · exact ⟨_, cap, hv⟩
theorem IntsZ.below {w w' : World} {v : Value} {zs : List Int} (h : IntsZ w v zs) (hb : Below w.heap.size w w') : IntsZ w' v zs := by
  rcases h with h | ⟨g, off, cap, rfl, hlt, hn, hc⟩
  · exact Or.inl h
  · exact Or.inr ⟨g, off, cap, rfl, Nat.lt_of_lt_of_le hlt hb.size, hn, fun j hj => ⟨(hb.cell (p := ⟨g, off + j, none⟩) hlt).trans (hc j hj).1, (hc j hj).2⟩⟩
/-- A tape in memory, its place told. -/
structure TapeZ (w : World) (v : Value) (zs : List Int) (B a : Nat) (W : World) : Prop where
  ints : IntsZ w v zs
  new : w.heap.size ≤ B
  row : W.cell? ⟨B, 0, none⟩ = some v
  le : a ≤ zs.length
  at_ : W.cell? ⟨B, 1, none⟩ = some (.int .i64 (a : Int))
  free : W.frozen? ⟨B, 1, none⟩ = false
  below : Below w.heap.size w W
theorem TapeZ.lt {w W : World} {v : Value} {zs : List Int} {B a : Nat} (h : TapeZ w v zs B a W) : B < W.heap.size := World.block_lt_of_cell? W _ h.at_
theorem TapeZ.on {w W W' : World} {v : Value} {zs : List Int} {B a : Nat} (h : TapeZ w v zs B a W) (hb : Below W.heap.size W W') : TapeZ w v zs B a W' :=
  ⟨h.ints, h.new, (hb.cell (p := ⟨B, 0, none⟩) h.lt).trans h.row, h.le, (hb.cell (p := ⟨B, 1, none⟩) h.lt).trans h.at_, (hb.frozen (p := ⟨B, 1, none⟩) h.lt).trans h.free, h.below.trans (hb.mono h.below.size)⟩
theorem TapeZ.drewN {w W : World} {v : Value} {zs : List Int} {B a : Nat} (h : TapeZ w v zs B a W) (q : Nat) : TapeZ w v zs B a (W.drewN q) := h.on (below_drewN (Below.refl _ _) q)
theorem TapeZ.made (w : World) (v : Value) (zs : List Int) (t : TypeId) (h : IntsZ w v zs) : TapeZ w v zs w.heap.size 0 (w.alloc (.cells #[v, .int .i64 0] t)) := by
  have c0 : ∀ j, (w.alloc (.cells #[v, .int .i64 0] t)).cell? ⟨w.heap.size, j, none⟩ = (#[v, .int .i64 0] : Array Value)[j]? := fun j => World.cell?_alloc_mark w _ t (0, 0) j
  exact ⟨h, Nat.le_refl _, by rw [c0]; rfl, Nat.zero_le _, by rw [c0]; rfl, by rw [World.frozen?_alloc_mark]; rfl, (Below.refl _ w).alloc (Nat.le_refl _) _⟩
theorem TapeZ.grown {w W W' : World} {v : Value} {zs : List Int} {B a : Nat} {row : Option Nat} (h : TapeZ w v zs B a W) (hg : W.grownBy W' row) (hne : some B ≠ row) (hr : ∀ k, row = some k → w.heap.size ≤ k) : TapeZ w v zs B a W' :=
  ⟨h.ints, h.new, (hg.cell_far ⟨B, 0, none⟩ h.lt hne).trans h.row, h.le, (hg.cell_far ⟨B, 1, none⟩ h.lt hne).trans h.at_, (hg.frozen_far ⟨B, 1, none⟩ h.lt hne).trans h.free, h.below.grown hg h.below.size hr⟩
set_option maxHeartbeats 1000000 in
set_option maxRecDepth 100000 in
theorem next_anyZ (B a n cap g off m : Nat) (z : Int) (w : World) (h0 : w.cell? ⟨B, 0, none⟩ = some (.slice (some ⟨g, off, none⟩) n cap)) (h1 : w.cell? ⟨B, 1, none⟩ = some (.int .i64 (a : Int))) (hf : w.frozen? ⟨B, 1, none⟩ = false)
    (ha : a < n) (hn : n ≤ maxLen) (hg : g ≠ B) (hz : w.cell? ⟨g, off + a, none⟩ = some (.int .i64 z)) (hz0 : -9223372036854775808 ≤ z) (hz1 : z ≤ 9223372036854775807) (hm1 : 1 ≤ m) (hm2 : m ≤ 2147483647) :
    Calls Try.prog 47 #[.pointer (some ⟨B, 0, none⟩), .int .i64 (m : Int)] w (fun e w' => ∃ q1 q2 : Nat, e = .returned (.int .i64 ((Within z m : Nat) : Int)) ∧ w' = ((w.drewN q1).setCell ⟨B, 1, none⟩ (.int .i64 ((a : Int) + 1))).drewN q2) := by
  unfold maxLen at hn
  have a0 : (0 : Int) ≤ (a : Int) := by omega
  have a1 : (a : Int) < (n : Int) := by omega
  have HWI := fun W => Lib.hid (within1 z m W hz0 hz1 hm1 hm2)
  generalize Within z m = r at *
  go_enter Try.func47, Try.ntmps47
  go_wp2
  go_quiet (fail)
  go_wp2
  have e1 : (a : Int) + 1 - 1 = (a : Int) := by omega
  have e2 : IntKind.i64.wrap (a : Int) = (a : Int) := IntWalk.i64_in _ (by omega)
  go_quiet ((go_at_call 107; first | exact quiet_gives HWI _ _ _ | exact quiet_gives0 HWI _ _))
  go_wp2
  go_ret
  exact ⟨_, _, rfl, rfl⟩
/-- What Next tells. -/
def NextZ (w : World) (v : Value) (zs : List Int) (B a m : Nat) (W : World) (e : Ending) (W' : World) : Prop := e = .returned (.int .i64 ((nextZ zs a m).1 : Int)) ∧ Stepped B W W' ∧ TapeZ w v zs B (nextZ zs a m).2 W'
theorem tape_nextZ (w : World) (v : Value) (zs : List Int) (B a m : Nat) (W : World) (h : TapeZ w v zs B a W) (hm1 : 1 ≤ m) (hm2 : m ≤ 2147483647) :
    Calls Try.prog 47 #[.pointer (some ⟨B, 0, none⟩), .int .i64 (m : Int)] W (NextZ w v zs B a m W) := by
  have hc := h.at_
  have hnew := h.new
  by_cases hlt : a < zs.length
  · rcases h.ints with ⟨p, cap, hv, h0⟩ | ⟨g, off, cap, hv, hg, hn, hz⟩
    · rw [h0] at hlt; simp at hlt
    · obtain ⟨hz1, hz2, hz3⟩ := hz a hlt
      have e : nextZ zs a m = (Within zs[a] m, a + 1) := by unfold nextZ; rw [dif_pos hlt]
      refine (next_anyZ B a zs.length cap g off m zs[a] W (by rw [h.row, hv]) hc h.free hlt hn (by omega) ((h.below.cell (p := ⟨g, off + a, none⟩) hg).trans hz1) hz2 hz3 hm1 hm2).mono ?_
      rintro e' w' ⟨q1, q2, rfl, rfl⟩
      have hS : Stepped B W (((W.drewN q1).setCell ⟨B, 1, none⟩ (.int .i64 ((a : Int) + 1))).drewN q2) := ⟨q1, q2, Or.inr ⟨_, rfl⟩⟩
      refine ⟨by rw [e], hS, h.ints, h.new, ?_, by rw [e]; exact hlt, ?_, ?_, hS.below h.below h.new⟩
      · rw [hS.cell B 0 (Or.inr (by omega))]; exact h.row
      · rw [World.cell?_drewN, World.cell?_setCell_same _ _ _ (by rw [World.cell?_drewN]; exact hc), e]
        rw [show ((a + 1 : Nat) : Int) = (a : Int) + 1 by omega]
      · rw [hS.frozen]; exact h.free
  · obtain ⟨p, cap, hv⟩ := h.ints.form
    have e : nextZ zs a m = (0, a) := by unfold nextZ; rw [dif_neg hlt]
    refine (next_none B a zs.length cap m p W (by rw [h.row, hv]) hc (by omega)).mono ?_
    rintro e' w' ⟨rfl, q, rfl⟩
    refine ⟨by rw [e]; rfl, ⟨q, 0, Or.inl rfl⟩, ?_⟩
    rw [e]
    exact h.drewN q
theorem tape_moreZ (w : World) (v : Value) (zs : List Int) (B a : Nat) (W : World) (h : TapeZ w v zs B a W) :
    Calls Try.prog 46 #[.pointer (some ⟨B, 0, none⟩)] W fun e W' => e = .returned (.bool (decide (a < zs.length))) ∧ ∃ q, W' = W.drewN q := by
  obtain ⟨p, cap, hv⟩ := h.ints.form
  exact more_any B a zs.length cap p W _ (by rw [h.row, hv]) h.at_ rfl
end Go.Proofs.Ytbadckkcjjfnoaa
