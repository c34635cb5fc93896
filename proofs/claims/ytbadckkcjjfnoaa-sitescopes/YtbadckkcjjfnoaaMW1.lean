/-
  The walks of the program's New, copied, has, Len, cut. Any marks, not too many.
-/
import Derived.Test.YtbadckkcjjfnoaaMMAll
namespace Go.Proofs.Ytbadckkcjjfnoaa
open Go.RowKit

def markV (x : MK) (va : Value) : Value := .agg #[.int .i64 x.node, .string ⟨x.name.toArray⟩, va]
set_option maxHeartbeats 1000000 in
set_option maxRecDepth 100000 in
theorem mnewP (w : World) : Calls Try.prog 22 #[] w (fun e w' => e = .returned (.pointer (some ⟨w.heap.size, 0, none⟩)) ∧ MarksM (fun b => w.heap.size ≤ b) w' w.heap.size [] ∧ Below w.heap.size w w') := by
  have HM : Hid (MarksM (fun b => w.heap.size ≤ b) (w.alloc (.cells #[.slice none 0 0] 104)) w.heap.size []) := Lib.hid ⟨.slice none 0 0, [], rfl, Nat.le_refl _, by simp, World.cell?_alloc_mark w _ _ (0, 0) 0, by rw [World.frozen?_alloc_mark]; rfl, ⟨rfl, .inl ⟨rfl, rfl⟩⟩, fun g e => (by cases e), fun q hq => absurd hq (by simp)⟩
  go_enter Try.func22, Try.ntmps22
  go_wp2_with fail
  go_ret
  exact ⟨rfl, HM.out, (Below.refl _ w).alloc (Nat.le_refl _) _⟩
set_option maxHeartbeats 1000000 in
set_option maxRecDepth 100000 in
theorem mlenP (S : List MK) (B : Nat) (M : Nat → Prop) (w : World) (h : MarksM M w B S) : Calls Try.prog 85 #[.pointer (some ⟨B, 0, none⟩)] w (Gives (.int .i64 (S.length : Int)) w) := by
  obtain ⟨v, qs, rfl, hq⟩ := h
  obtain ⟨p, cap, rfl, _⟩ := hq.reads
  have h0 := hq.cell
  have hB := hq.lt
  have HL : Hid ((qs.map (·.1)).length = qs.length) := Lib.hid (by simp)
  rw [HL.out]
  clear hq
  go_enter Try.func85, Try.ntmps85
  go_wp2_with fail
  go_ret
  exact ⟨rfl, rfl⟩
def mHas (S : List MK) (i : Int) : Bool := decide (0 ≤ i) && decide (i < S.length)
set_option maxHeartbeats 1000000 in
set_option maxRecDepth 100000 in
theorem mhasP (S : List MK) (B : Nat) (M : Nat → Prop) (w : World) (i : Int) (h : MarksM M w B S) : Calls Try.prog 90 #[.pointer (some ⟨B, 0, none⟩), .int .i64 i] w (Gives (.bool (mHas S i)) w) := by
  obtain ⟨v, qs, rfl, hq⟩ := h
  obtain ⟨p, cap, rfl, _⟩ := hq.reads
  have h0 := hq.cell
  have hB := hq.lt
  have HL : Hid ((qs.map (·.1)).length = qs.length) := Lib.hid (by simp)
  have HR : Hid (mHas (qs.map (·.1)) i = (decide (0 ≤ i) && decide (i < qs.length))) := Lib.hid (by unfold mHas; rw [HL.out])
  rw [HR.out]
  clear hq
  by_cases c1 : 0 ≤ i
  · by_cases c2 : i < qs.length
    · have HV : Hid ((decide (0 ≤ i) && decide (i < (qs.length : Int))) = true) := Lib.hid (by simp [c1, c2])
      rw [HV.out]
      go_enter Try.func90, Try.ntmps90
      go_wp2_with fail
      go_ret
      exact ⟨rfl, rfl⟩
    · have HV : Hid ((decide (0 ≤ i) && decide (i < (qs.length : Int))) = false) := Lib.hid (by simp [c2])
      rw [HV.out]
      go_enter Try.func90, Try.ntmps90
      go_wp2_with fail
      go_ret
      exact ⟨rfl, rfl⟩
  · have HV : Hid ((decide (0 ≤ i) && decide (i < (qs.length : Int))) = false) := Lib.hid (by simp [c1])
    rw [HV.out]
    go_enter Try.func90, Try.ntmps90
    go_wp2_with fail
    go_ret
    exact ⟨rfl, rfl⟩
end Go.Proofs.Ytbadckkcjjfnoaa
