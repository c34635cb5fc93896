/-
  Marks and tapes side by side; pushes behind the last wall. No program is walked.
-/
import Derived.Test.YtbadckkcjjfnoaaMWF
namespace Go.Proofs.Ytbadckkcjjfnoaa
open Go.RowKit

theorem Stepped.turns {T : Nat} {W W' : World} (h : Stepped T W W') : Turns (fun b => b = T) W W' := by
  obtain ⟨q1, q2, rfl | ⟨u, rfl⟩⟩ := h
  · exact Turns.of_below (below_drewN (Below.refl _ _) q1)
  · exact ((Turns.of_below (M := fun b => b = T) (below_drewN (Below.refl _ W) q1)).setCell (B := T) (.inl rfl) 1 u).trans (Turns.of_below (below_drewN (Below.refl _ _) q2))
theorem TapeAt.turns {w W W' : World} {v : Value} {n B : Nat} {M : Nat → Prop} (h : TapeAt w v n B W) (ht : Turns M W W') (hB : B < W.heap.size) (hm : ¬ M B) (hw : ∀ b, M b → w.heap.size ≤ b) : TapeAt w v n B W' := by
  obtain ⟨a, ha, hc⟩ := h.at_
  have hk := ht.block B hB hm
  refine ⟨h.ints, h.new, ?_, ⟨a, ha, ?_⟩, ?_, h.below.trans (ht.below h.below.size fun b hb k => absurd (hw b k) (by omega))⟩
  · rw [World.cell?_of_block (w := W) hk]; exact h.row
  · rw [World.cell?_of_block (w := W) hk]; exact hc
  · rw [World.frozen?_of_block (w := W) hk]; exact h.free
/-- A tape beside the marks. -/
structure TapeK (w W : World) (M : Nat → Prop) (v : Value) (n T : Nat) : Prop where
  tape : TapeAt w v n T W
  off : ¬ M T
  lt : T < W.heap.size
theorem TapeK.on {w W W' : World} {M : Nat → Prop} {v : Value} {n T : Nat} (h : TapeK w W M v n T) (hb : Below W.heap.size W W') : TapeK w W' M v n T := ⟨h.tape.on hb h.lt, h.off, Nat.lt_of_lt_of_le h.lt hb.size⟩
theorem TapeK.turns {w w1 W W' : World} {M M' : Nat → Prop} {v : Value} {n T : Nat} (h : TapeK w W M v n T) (hs : ∀ b, b < W.heap.size → M' b → M b) (ht : Turns M W W') (hw : ∀ b, M b → w1.heap.size ≤ b) (hz : w.heap.size ≤ w1.heap.size) : TapeK w W' M' v n T :=
  ⟨h.tape.turns ht h.lt h.off (fun b k => Nat.le_trans hz (hw b k)), fun k => h.off (hs T h.lt k), Nat.lt_of_lt_of_le h.lt ht.size⟩
theorem TapeK.stepped {w W W' : World} {M : Nat → Prop} {v v2 : Value} {n n2 T T2 : Nat} (h : TapeK w W M v n T) (hs : Stepped T2 W W') (h2 : TapeK w W M v2 n2 T2) (hne : T ≠ T2) : TapeK w W' M v n T :=
  ⟨h.tape.turns hs.turns h.lt (fun e => hne e) (fun b e => by rw [e]; exact h2.tape.new), h.off, by rw [hs.size]; exact h.lt⟩
theorem MarkB.stepped {w0 w W W' : World} {M : Nat → Prop} {B : Nat} {S : List MK} {v : Value} {n T : Nat} (h : MarkB w0 W M B S) (hs : Stepped T W W') (hT : TapeK w W M v n T) (hz : w0.heap.size ≤ T) : MarkB w0 W' M B S := by
  have ht := hs.turns
  exact ⟨h.marks.on ht (fun b _ k e => hT.off (by rw [← e]; exact k)), fun b k => ⟨(h.inn b k).1, by rw [hs.size]; exact (h.inn b k).2⟩, h.below.trans (ht.below h.below.size fun b hb e => by omega), h.fit⟩
theorem RowK.stepped {W W' : World} {M : Nat → Prop} {vr : Value} {rs : List (MK × Value)} {T : Nat} (h : RowK W (fun b => M b ∨ b = T) vr rs) (hs : Stepped T W W') : RowK W' (fun b => M b ∨ b = T) vr rs := by
  obtain ⟨P, hr, hp⟩ := h
  exact ⟨P, hr.kept (hs.turns.kept fun b _ k e => (hp b k).2 (.inr e)), fun b k => ⟨by rw [hs.size]; exact (hp b k).1, (hp b k).2⟩⟩

def Bare (A : List MK) : Prop := A = [] ∨ ∃ A', A = A' ++ [mWall]
theorem getD_app {A R : List MK} {i : Nat} (h : i < R.length) : (A ++ R).getD (A.length + i) mZero = R[i] := by
  rw [getD_at (by simp; omega), List.getElem_append_right (by omega)]
  simp
theorem mScan_app (A R : List MK) (x : MK) (hA : Bare A) (hR : ∀ y ∈ R, y.node ≠ -1) : ∀ (i : Nat), i ≤ R.length → ∀ (f : Int) (n : Nat), ∃ g, mScan (A ++ R) x (A.length + i) f n = (g, n + (R.take i).countP (fun y => alikeM y x)) ∧
    (((R.take i).countP (fun y => alikeM y x) = 0 ∧ g = f) ∨ ∃ k, ∃ hk : k < R.length, g = ((A.length + k : Nat) : Int) ∧ alikeM R[k] x = true)
  | 0, _, f, n => by
    refine ⟨f, ?_, .inl ⟨rfl, rfl⟩⟩
    rcases hA with rfl | ⟨A', rfl⟩
    · rfl
    · rw [show (A' ++ [mWall]).length + 0 = A'.length + 1 by simp, mScan, if_pos (by rw [getD_at (by simp)]; simp [mWall])]
      rfl
  | i + 1, hi, f, n => by
    have hlt : i < R.length := by omega
    have hn := hR R[i] (List.getElem_mem hlt)
    rw [show A.length + (i + 1) = (A.length + i) + 1 by omega, mScan, getD_app hlt, if_neg hn, List.take_succ_eq_append_getElem hlt, List.countP_append]
    by_cases c : alikeM R[i] x = true
    · rw [if_pos c]
      obtain ⟨g, e, h⟩ := mScan_app A R x hA hR i (by omega) ((A.length + i : Nat) : Int) (n + 1)
      refine ⟨g, ?_, .inr ?_⟩
      · rw [e]
        simp [c]
        omega
      · rcases h with ⟨_, rfl⟩ | h
        · exact ⟨i, hlt, rfl, c⟩
        · exact h
    · rw [if_neg c]
      obtain ⟨g, e, h⟩ := mScan_app A R x hA hR i (by omega) f n
      refine ⟨g, ?_, ?_⟩
      · rw [e]
        simp [c]
      · rcases h with ⟨h1, rfl⟩ | h
        · exact .inl ⟨by simp [c, h1], rfl⟩
        · exact .inr h
/-- What a push does behind the last wall. -/
theorem push_app (A R : List MK) (x : MK) (hA : Bare A) (hR : ∀ y ∈ R, y.node ≠ -1) : ∃ R0, mPush (A ++ R) x = A ++ (R0 ++ [x]) ∧ ((R.countP (fun y => alikeM y x) < 3 ∧ R0 = R) ∨ ∃ k, ∃ hk : k < R.length, R0 = R.eraseIdx k ∧ alikeM R[k] x = true) := by
  obtain ⟨g, e, h⟩ := mScan_app A R x hA hR R.length (Nat.le_refl _) (-1) 0
  rw [List.take_length, Nat.zero_add] at e
  rw [List.take_length] at h
  have e' : mScan (A ++ R) x (A ++ R).length (-1) 0 = (g, R.countP (fun y => alikeM y x)) := by rw [List.length_append]; exact e
  unfold mPush mRoom
  rw [e']
  by_cases c : 3 ≤ R.countP (fun y => alikeM y x)
  · rw [if_pos c]
    rcases h with ⟨h0, _⟩ | ⟨k, hk, rfl, ha⟩
    · omega
    · refine ⟨R.eraseIdx k, ?_, .inr ⟨k, hk, rfl, ha⟩⟩
      simp only
      rw [show (((A.length + k : Nat) : Int)).toNat = A.length + k by omega, List.eraseIdx_append_of_length_le (by omega), show A.length + k - A.length = k by omega, List.append_assoc]
  · rw [if_neg c]
    exact ⟨R, by rw [List.append_assoc], .inl ⟨by omega, rfl⟩⟩
theorem last_app (S R : List MK) (hR : ∀ y ∈ R, y.node ≠ -1) : ∀ i, i ≤ R.length → mLast (S ++ mWall :: R) (S.length + i) = S.length
  | 0, _ => by
    rcases hS : S.length with _ | k
    · rfl
    · rw [Nat.add_zero, mLast, if_pos]
      rw [getD_at (by simp; omega), List.getElem_append_right (by omega)]
      simp [hS, mWall]
  | i + 1, hi => by
    have hlt : i < R.length := by omega
    rw [show S.length + (i + 1) = (S.length + i) + 1 by omega, mLast, if_neg]
    · exact last_app S R hR i (by omega)
    · rw [getD_at (by simp; omega), List.getElem_append_right (by omega)]
      have : (mWall :: R)[S.length + i + 1 - S.length]'(by simp; omega) = R[i] := by
        rw [List.getElem_cons, dif_neg (by omega)]
        congr 1
        omega
      rw [this]
      exact hR _ (List.getElem_mem hlt)
theorem clear_app (S R : List MK) (hR : ∀ y ∈ R, y.node ≠ -1) : mClear (S ++ mWall :: R) = S := by
  unfold mClear
  have := last_app S R hR R.length (Nat.le_refl _)
  rw [show (S ++ mWall :: R).length - 1 = S.length + R.length by simp]
  rw [this, List.take_append_of_le_length (Nat.le_refl _), List.take_length]
theorem find_wall (S : List MK) (n : List UInt8) : mFind (S ++ [mWall]) n (S ++ [mWall]).length = -1 := by
  rw [List.length_append, List.length_singleton, mFind_step _ _ _ (by simp), if_pos]
  simp [mWall]
theorem at7_fit (r : Nat) : (at7 r).length ≤ 30 ∧ ∀ a ∈ at7 r, a.1.length ≤ maxLen ∧ a.2.length ≤ maxLen := by
  have h : ∀ r < 5, (at7 r).length ≤ 30 ∧ ∀ a ∈ at7 r, a.1.length ≤ 5 ∧ a.2.length ≤ 5 := by decide
  by_cases c : r < 5
  · exact ⟨(h r c).1, fun a ha => ⟨Nat.le_trans ((h r c).2 a ha).1 (by decide), Nat.le_trans ((h r c).2 a ha).2 (by decide)⟩⟩
  · have e : at7 r = [] := by
      obtain ⟨m, rfl⟩ : ∃ m, r = m + 5 := ⟨r - 5, by omega⟩
      rfl
    rw [e]
    exact ⟨by decide, fun a ha => absurd ha (by simp)⟩
end Go.Proofs.Ytbadckkcjjfnoaa
