/-
  The walks of the laws' own, without what chapters 1 to 4 need: within, a tape of numbers. Any slice of numbers.
-/
import Derived.Test.YtkoijkdhmfnlbaaDAll
namespace Go.Proofs.Ytkoijkdhmfnlbaa
open Go.RowKit

set_option maxHeartbeats 1000000 in
theorem within6 (n : Int) (m : Nat) (w : World) (h0 : -9223372036854775808 ≤ n) (h1 : n ≤ 9223372036854775807) (hm1 : 1 ≤ m) (hm2 : m ≤ 2147483647) :
    Calls Try.prog 15 #[.int .i64 n, .int .i64 (m : Int)] w (Gives (.int .i64 ((Within n m : Nat) : Int)) w) := by
  have HW := Lib.hid (within_lt n m hm1).2
  by_cases hn : 0 ≤ n
  · have g1 := Int.emod_nonneg n (show (m : Int) ≠ 0 by omega)
    go_enter Try.func15, Try.ntmps15
    go_wp2
    go_ret
    exact ⟨ret_is HW.out.symm, rfl⟩
  · obtain ⟨g1, g2, g3, g4⟩ := tmod_facts n m (by omega) hm1
    have G3 := Lib.hid g3
    have G4 := Lib.hid g4
    clear g3 g4
    by_cases hz : n.tmod m < 0
    · go_enter Try.func15, Try.ntmps15
      go_wp2
      go_ret
      exact ⟨ret_is ((G3.out hz).trans HW.out.symm), rfl⟩
    · go_enter Try.func15, Try.ntmps15
      go_wp2
      go_ret
      exact ⟨ret_is ((G4.out hz).trans HW.out.symm), rfl⟩



/-- A slice of numbers that came in. -/
def IntsIn (w : World) (v : Value) (n : Nat) : Prop :=
  (∃ p cap, v = .slice p 0 cap ∧ n = 0) ∨
  ∃ g off cap, v = .slice (some ⟨g, off, none⟩) n cap ∧ g < w.heap.size ∧ n ≤ maxLen ∧ ∀ j, j < n → ∃ z : Int, w.cell? ⟨g, off + j, none⟩ = some (.int .i64 z) ∧ -9223372036854775808 ≤ z ∧ z ≤ 9223372036854775807
theorem IntsIn.below {w w' : World} {v : Value} {n : Nat} (h : IntsIn w v n) (hb : Below w.heap.size w w') : IntsIn w' v n := by
  rcases h with h | ⟨g, off, cap, rfl, hlt, hn, hc⟩
  · exact Or.inl h
  · refine Or.inr ⟨g, off, cap, rfl, Nat.lt_of_lt_of_le hlt hb.size, hn, fun j hj => ?_⟩
    obtain ⟨z, h1, h2⟩ := hc j hj
    exact ⟨z, (hb.cell (p := ⟨g, off + j, none⟩) hlt).trans h1, h2⟩

theorem quiet_gives0 {f : FuncId} {args : Array Value} {v : Value} (h : ∀ W, Hid (Calls Try.prog f args W (Gives v W))) (w : World) (n : Nat) : Calls Try.prog f args (w.drewN n) fun e w'' => e = .returned v ∧ ∃ m, w'' = w.drewN m :=
  (h (w.drewN n)).out.mono fun _ _ hh => ⟨hh.1, n, hh.2.symm⟩
/-- What Next tells: a number below m; the tape stands one further. -/
def NextOut (B a m : Nat) (w : World) (e : Ending) (w' : World) : Prop := ∃ r q1 q2 : Nat, r < m ∧ e = .returned (.int .i64 (r : Int)) ∧ w' = ((w.drewN q1).setCell ⟨B, 1, none⟩ (.int .i64 ((a : Int) + 1))).drewN q2
/-- A tape in memory: block B holds the row of numbers and a place in it; it is newer than w, and the numbers came in with w. -/
structure TapeAt (w : World) (v : Value) (n B : Nat) (W : World) : Prop where
  ints : IntsIn w v n
  new : w.heap.size ≤ B
  row : W.cell? ⟨B, 0, none⟩ = some v
  at_ : ∃ a : Nat, a ≤ n ∧ W.cell? ⟨B, 1, none⟩ = some (.int .i64 (a : Int))
  free : W.frozen? ⟨B, 1, none⟩ = false
  below : Below w.heap.size w W
theorem TapeAt.on {w : World} {v : Value} {n B : Nat} {W W' : World} (h : TapeAt w v n B W) (hb : Below W.heap.size W W') (hB : B < W.heap.size) : TapeAt w v n B W' := by
  obtain ⟨a, ha, hc⟩ := h.at_
  exact ⟨h.ints, h.new, (hb.cell (p := ⟨B, 0, none⟩) hB).trans h.row, ⟨a, ha, (hb.cell (p := ⟨B, 1, none⟩) hB).trans hc⟩, (hb.frozen (p := ⟨B, 1, none⟩) hB).trans h.free, h.below.trans (hb.mono h.below.size)⟩
theorem TapeAt.drewN {w : World} {v : Value} {n B : Nat} {W : World} (h : TapeAt w v n B W) (q : Nat) : TapeAt w v n B (W.drewN q) := by
  obtain ⟨a, ha, hc⟩ := h.at_
  exact ⟨h.ints, h.new, by simpa using h.row, ⟨a, ha, by simpa using hc⟩, by simpa using h.free, below_drewN h.below q⟩
theorem TapeAt.made (w : World) (v : Value) (n : Nat) (t : TypeId) (h : IntsIn w v n) : TapeAt w v n w.heap.size (w.alloc (.cells #[v, .int .i64 0] t)) := by
  have c0 : ∀ j, (w.alloc (.cells #[v, .int .i64 0] t)).cell? ⟨w.heap.size, j, none⟩ = (#[v, .int .i64 0] : Array Value)[j]? := fun j => World.cell?_alloc_mark w _ t (0, 0) j
  exact ⟨h, Nat.le_refl _, by rw [c0]; rfl, ⟨0, Nat.zero_le _, by rw [c0]; rfl⟩, by rw [World.frozen?_alloc_mark]; rfl, (Below.refl _ w).alloc (Nat.le_refl _) _⟩
/-- What Next leaves: the place in the tape may be another; all else stands. -/
def Stepped (B : Nat) (W W' : World) : Prop := ∃ q1 q2 : Nat, W' = W.drewN q1 ∨ ∃ u, W' = ((W.drewN q1).setCell ⟨B, 1, none⟩ u).drewN q2
theorem Stepped.cell {B : Nat} {W W' : World} (h : Stepped B W W') (g o : Nat) (hne : g ≠ B ∨ o ≠ 1) : W'.cell? ⟨g, o, none⟩ = W.cell? ⟨g, o, none⟩ := by
  obtain ⟨q1, q2, rfl | ⟨u, rfl⟩⟩ := h
  · simp
  · rw [World.cell?_drewN, World.cell?_setCell_other _ _ _ _ (by simp; omega), World.cell?_drewN]
theorem Stepped.frozen {B : Nat} {W W' : World} (h : Stepped B W W') (g o : Nat) : W'.frozen? ⟨g, o, none⟩ = W.frozen? ⟨g, o, none⟩ := by
  obtain ⟨q1, q2, rfl | ⟨u, rfl⟩⟩ := h
  · simp
  · rw [World.frozen?_drewN, World.frozen?_setCell, World.frozen?_drewN]
theorem Stepped.size {B : Nat} {W W' : World} (h : Stepped B W W') : W'.heap.size = W.heap.size := by
  obtain ⟨q1, q2, rfl | ⟨u, rfl⟩⟩ := h
  · simp
  · simp
theorem Stepped.below {B n : Nat} {w W W' : World} (h : Stepped B W W') (hb : Below n w W) (hB : n ≤ B) : Below n w W' := by
  obtain ⟨q1, q2, rfl | ⟨u, rfl⟩⟩ := h
  · exact below_drewN hb q1
  · exact below_drewN ((below_drewN hb q1).setCell hB _) q2
/-- What Next tells: a number below m; the tape stands. -/
def NextT (w : World) (v : Value) (n B m : Nat) (W : World) (e : Ending) (W' : World) : Prop := ∃ r : Nat, r < m ∧ e = .returned (.int .i64 (r : Int)) ∧ Stepped B W W' ∧ TapeAt w v n B W'
end Go.Proofs.Ytkoijkdhmfnlbaa
