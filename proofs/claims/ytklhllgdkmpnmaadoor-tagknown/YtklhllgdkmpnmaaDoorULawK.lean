/-
  The walk of the law TagKnown: true, and nothing old is changed. The library's number MaxLen and the table of package refs are there.
-/
import Derived.Test.YtklhllgdkmpnmaaDoorUTok
namespace Go.Proofs.YtklhllgdkmpnmaaDoor
open Go.RowKit

/-- Several blocks, one behind the other. -/
def allocs (w : World) : List Obj → World
  | [] => w
  | o :: r => allocs (w.alloc o) r
theorem allocs_below (w : World) (r : List Obj) : Below w.heap.size w (allocs w r) := by
  induction r generalizing w with
  | nil => exact Below.refl _ w
  | cons o r ih => exact ((Below.refl _ w).alloc (Nat.le_refl _) o).trans ((ih (w.alloc o)).mono (by simp))
theorem allocs_size (w : World) (r : List Obj) : (allocs w r).heap.size = w.heap.size + r.length := by
  induction r generalizing w with
  | nil => rfl
  | cons o r ih => rw [allocs, ih, List.length_cons]; simp; omega
theorem allocs_cell (w : World) (r : List Obj) (i : Nat) (cs : Array Value) (t : TypeId) (h : r[i]? = some (.cells cs t)) (j : Nat) : (allocs w r).cell? ⟨w.heap.size + i, j, none⟩ = cs[j]? := by
  induction r generalizing w i with
  | nil => simp at h
  | cons o r ih =>
    cases i with
    | zero =>
      rw [List.getElem?_cons_zero] at h
      have := Option.some.inj h
      subst this
      have hb := allocs_below (w.alloc (.cells cs t)) r
      rw [allocs, hb.cell (p := ⟨w.heap.size + 0, j, none⟩) (by simp)]
      exact World.cell?_alloc_mark w cs t (0, 0) j
    | succ i =>
      rw [List.getElem?_cons_succ] at h
      have := ih (w.alloc o) i h
      rw [show (w.alloc o).heap.size = w.heap.size + 1 by simp] at this
      rw [allocs, show w.heap.size + (i + 1) = w.heap.size + 1 + i by omega]
      exact this
def knownObjs (w : World) : List Obj := [.cells #[.string ⟨#[60, 97, 32, 61, 98, 62]⟩, .string ⟨#[60, 97, 32, 98, 32, 99, 61, 100, 62]⟩, .string ⟨#[60, 97, 47, 98, 47, 62]⟩, .string ⟨#[60, 97, 32, 98, 61, 39, 120, 39, 32, 98, 61, 121, 62]⟩, .string ⟨#[60, 97, 32, 98, 61, 34, 38, 108, 116, 38, 97, 109, 112, 34, 62]⟩, .string ⟨#[60, 97, 32, 98, 61, 38, 99, 111, 112, 121, 49, 62]⟩, .string ⟨#[60, 97, 32, 98, 61, 99, 47, 62]⟩, .string ⟨#[60, 97, 10, 66, 12, 61, 9, 99, 62]⟩, .string ⟨#[60, 47, 97, 32, 98, 61, 99, 47, 62]⟩, .string ⟨#[60, 97, 32, 98, 61, 62]⟩, .string ⟨#[60, 97, 32, 98, 61, 32, 62]⟩, .string ⟨#[60, 97, 32, 98, 39, 39, 61, 99, 62]⟩] 9,
  .cells #[.string ⟨#[61, 98]⟩, .string ⟨#[]⟩] 44,
  .cells #[.string ⟨#[98]⟩, .string ⟨#[]⟩, .string ⟨#[99]⟩, .string ⟨#[100]⟩] 44,
  .cells #[.string ⟨#[98]⟩, .string ⟨#[]⟩] 44,
  .cells #[.string ⟨#[98]⟩, .string ⟨#[120]⟩] 44,
  .cells #[.string ⟨#[98]⟩, .string ⟨#[60, 38]⟩] 44,
  .cells #[.string ⟨#[98]⟩, .string ⟨#[38, 99, 111, 112, 121, 49]⟩] 44,
  .cells #[.string ⟨#[98]⟩, .string ⟨#[99, 47]⟩] 44,
  .cells #[.string ⟨#[98]⟩, .string ⟨#[99]⟩] 44,
  .cells #[.string ⟨#[98]⟩, .string ⟨#[]⟩] 44,
  .cells #[.string ⟨#[98]⟩, .string ⟨#[]⟩] 44,
  .cells #[.string ⟨#[98, 39, 39]⟩, .string ⟨#[99]⟩] 44,
  .cells #[.int .i64 0, .string ⟨#[]⟩, .slice (some ⟨w.heap.size + 1, 0, none⟩) 1 1, .bool false, .string ⟨#[]⟩, .int .i64 0, .string ⟨#[]⟩, .slice (some ⟨w.heap.size + 1 + 1, 0, none⟩) 2 2, .bool false, .string ⟨#[]⟩, .int .i64 0, .string ⟨#[]⟩, .slice (some ⟨w.heap.size + 1 + 1 + 1, 0, none⟩) 1 1, .bool true, .string ⟨#[]⟩, .int .i64 0, .string ⟨#[]⟩, .slice (some ⟨w.heap.size + 1 + 1 + 1 + 1, 0, none⟩) 1 1, .bool false, .string ⟨#[]⟩, .int .i64 0, .string ⟨#[]⟩, .slice (some ⟨w.heap.size + 1 + 1 + 1 + 1 + 1, 0, none⟩) 1 1, .bool false, .string ⟨#[]⟩, .int .i64 0, .string ⟨#[]⟩, .slice (some ⟨w.heap.size + 1 + 1 + 1 + 1 + 1 + 1, 0, none⟩) 1 1, .bool false, .string ⟨#[]⟩, .int .i64 0, .string ⟨#[]⟩, .slice (some ⟨w.heap.size + 1 + 1 + 1 + 1 + 1 + 1 + 1, 0, none⟩) 1 1, .bool false, .string ⟨#[]⟩, .int .i64 0, .string ⟨#[]⟩, .slice (some ⟨w.heap.size + 1 + 1 + 1 + 1 + 1 + 1 + 1 + 1, 0, none⟩) 1 1, .bool false, .string ⟨#[]⟩, .int .i64 2, .string ⟨#[]⟩, .slice none 0 0, .bool false, .string ⟨#[]⟩, .int .i64 0, .string ⟨#[]⟩, .slice (some ⟨w.heap.size + 1 + 1 + 1 + 1 + 1 + 1 + 1 + 1 + 1, 0, none⟩) 1 1, .bool false, .string ⟨#[]⟩, .int .i64 0, .string ⟨#[]⟩, .slice (some ⟨w.heap.size + 1 + 1 + 1 + 1 + 1 + 1 + 1 + 1 + 1 + 1, 0, none⟩) 1 1, .bool false, .string ⟨#[]⟩, .int .i64 0, .string ⟨#[]⟩, .slice (some ⟨w.heap.size + 1 + 1 + 1 + 1 + 1 + 1 + 1 + 1 + 1 + 1 + 1, 0, none⟩) 1 1, .bool false, .string ⟨#[]⟩] 31 ]

set_option maxHeartbeats 8000000 in
set_option maxRecDepth 100000 in
theorem tagKnown_walk (z : Int) (w : World) (h0 : -9223372036854775808 ≤ z) (h1 : z ≤ 9223372036854775807) (hmax : HasMax w) (hea : HasEarly w) :
    Calls Tryd.prog 11 #[.int .i64 z] w (Yes w) := by
  have HW := fun W => Lib.hid (within3 z 12 W h0 h1 (by omega) (by omega))
  have hr := (within_lt z 12 (by omega)).1
  generalize Within z 12 = r at *
  have HMX := Lib.hid hmax
  have HEA := Lib.hid hea
  have hE := hea.size
  clear hmax hea
  go_enter Tryd.func11, Tryd.ntmps11
  go_wp2_with fail
  refine (HW _).out.mono ?_
  rintro e w2 ⟨rfl, hw⟩
  replace hw : allocs w (knownObjs w) = w2 := hw
  have b2 : Below w.heap.size w w2 := by rw [← hw]; exact allocs_below w _
  have hz : w.heap.size + 13 ≤ w2.heap.size := by rw [← hw, show (allocs w (knownObjs w)).heap.size = w.heap.size + 13 from allocs_size w (knownObjs w)]; exact Nat.le_refl _
  have hzl : w.heap.size < w2.heap.size := by omega
  have hzn : ¬ w.heap.size = w2.heap.size := by omega
  have hzm : ¬ w2.heap.size = w.heap.size := by omega
  have HW2 := Lib.hid hw
  clear hw HW
  have hcase : r = 0 ∨ r = 1 ∨ r = 2 ∨ r = 3 ∨ r = 4 ∨ r = 5 ∨ r = 6 ∨ r = 7 ∨ r = 8 ∨ r = 9 ∨ r = 10 ∨ r = 11 := by omega
  rcases hcase with rfl | rfl | rfl | rfl | rfl | rfl | rfl | rfl | rfl | rfl | rfl | rfl
  · rw [show ((0 : Nat) : Int) = 0 from rfl]
    have i0 : w2.cell? ⟨w.heap.size, 0, none⟩ = some (.string ⟨#[60, 97, 32, 61, 98, 62]⟩) := by rw [← HW2.out]; exact allocs_cell w (knownObjs w) 0 _ _ rfl 0
    have o0 : w2.cell? ⟨w.heap.size + 1 + 1 + 1 + 1 + 1 + 1 + 1 + 1 + 1 + 1 + 1 + 1, 0, none⟩ = some (.int .i64 0) := by rw [← HW2.out]; exact allocs_cell w (knownObjs w) 12 _ _ rfl 0
    have o1 : w2.cell? ⟨w.heap.size + 1 + 1 + 1 + 1 + 1 + 1 + 1 + 1 + 1 + 1 + 1 + 1, 1, none⟩ = some (.string ⟨#[]⟩) := by rw [← HW2.out]; exact allocs_cell w (knownObjs w) 12 _ _ rfl 1
    have o2 : w2.cell? ⟨w.heap.size + 1 + 1 + 1 + 1 + 1 + 1 + 1 + 1 + 1 + 1 + 1 + 1, 2, none⟩ = some (.slice (some ⟨w.heap.size + 1, 0, none⟩) 1 1) := by rw [← HW2.out]; exact allocs_cell w (knownObjs w) 12 _ _ rfl 2
    have o3 : w2.cell? ⟨w.heap.size + 1 + 1 + 1 + 1 + 1 + 1 + 1 + 1 + 1 + 1 + 1 + 1, 3, none⟩ = some (.bool false) := by rw [← HW2.out]; exact allocs_cell w (knownObjs w) 12 _ _ rfl 3
    have o4 : w2.cell? ⟨w.heap.size + 1 + 1 + 1 + 1 + 1 + 1 + 1 + 1 + 1 + 1 + 1 + 1, 4, none⟩ = some (.string ⟨#[]⟩) := by rw [← HW2.out]; exact allocs_cell w (knownObjs w) 12 _ _ rfl 4
    have a0 : w2.cell? ⟨w.heap.size + 1, 0, none⟩ = some (.string ⟨#[61, 98]⟩) := by rw [← HW2.out]; exact allocs_cell w (knownObjs w) 1 _ _ rfl 0
    have a1 : w2.cell? ⟨w.heap.size + 1, 1, none⟩ = some (.string ⟨#[]⟩) := by rw [← HW2.out]; exact allocs_cell w (knownObjs w) 1 _ _ rfl 1
    have HAT : Hid (AttrsAt w2 (.slice (some ⟨w.heap.size + 1, 0, none⟩) 1 1) [([61, 98], [])]) := Lib.hid ⟨_, _, rfl, fun j hj => ⟨w.heap.size + 1, rfl, by omega, by
      match j, hj with
      | 0, _ => exact ⟨a0, a1⟩⟩⟩
    have HR := fun W h1 h2 => Lib.hid (read_is ⟨#[60, 97, 32, 61, 98, 62]⟩ 1 [97] [([61, 98], [])] false 6 W h1 h2 (by decide) (by decide) (by decide) (by decide) (by decide))
    clear HW2 a0 a1
    go_wp2_with fail
    have b3 := b2.alloc b2.size (.cells #[.int .i64 1, .string ⟨#[97]⟩, .slice (some ⟨w.heap.size + 1, 0, none⟩) 1 1, .bool false, .string ⟨#[]⟩] 31)
    have k3 := tok_cells w2 (.int .i64 1) (.string ⟨#[97]⟩) (.slice (some ⟨w.heap.size + 1, 0, none⟩) 1 1) (.bool false) (.string ⟨#[]⟩)
    have HA3 := Lib.hid (HAT.out.below ((Below.refl _ w2).alloc (Nat.le_refl _) (.cells #[.int .i64 1, .string ⟨#[97]⟩, .slice (some ⟨w.heap.size + 1, 0, none⟩) 1 1, .bool false, .string ⟨#[]⟩] 31)))
    have hz3 : (w2.alloc (.cells #[.int .i64 1, .string ⟨#[97]⟩, .slice (some ⟨w.heap.size + 1, 0, none⟩) 1 1, .bool false, .string ⟨#[]⟩] 31)).heap.size = w2.heap.size + 1 := by simp
    have i3 : (w2.alloc (.cells #[.int .i64 1, .string ⟨#[97]⟩, .slice (some ⟨w.heap.size + 1, 0, none⟩) 1 1, .bool false, .string ⟨#[]⟩] 31)).cell? ⟨w.heap.size, 0, none⟩ = some (.string ⟨#[60, 97, 32, 61, 98, 62]⟩) := by rw [World.cell?_alloc_lt _ _ _ (by simp; omega)]; exact i0
    clear o0 o1 o2 o3 o4 i0
    generalize w2.alloc (.cells #[.int .i64 1, .string ⟨#[97]⟩, .slice (some ⟨w.heap.size + 1, 0, none⟩) 1 1, .bool false, .string ⟨#[]⟩] 31) = W3 at *
    refine (HR _ (HMX.out.below b3) (HEA.out.below b3 hE)).out.mono ?_
    rintro e w4 ⟨v4, rfl, ha4, b4⟩
    have HA4 := Lib.hid ha4
    obtain ⟨p4, c4, rfl, hq4⟩ := ha4
    clear hq4
    have b5 := b4.alloc b4.size (.cells #[.int .i64 1, .string ⟨#[97]⟩, .slice p4 1 c4, .bool false, .string ⟨#[]⟩] 31)
    have k5 := tok_cells w4 (.int .i64 1) (.string ⟨#[97]⟩) (.slice p4 1 c4) (.bool false) (.string ⟨#[]⟩)
    have hz5 : (w4.alloc (.cells #[.int .i64 1, .string ⟨#[97]⟩, .slice p4 1 c4, .bool false, .string ⟨#[]⟩] 31)).heap.size = w4.heap.size + 1 := by simp
    have HA5 := Lib.hid (HA4.out.below ((Below.refl _ w4).alloc (Nat.le_refl _) (.cells #[.int .i64 1, .string ⟨#[97]⟩, .slice p4 1 c4, .bool false, .string ⟨#[]⟩] 31)))
    have hs4 := b4.size
    go_wp2_with fail
    have HA5 : Hid (AttrsAt (w4.alloc (.cells #[.int .i64 1, .string ⟨#[97]⟩, .slice p4 1 c4, .bool false, .string ⟨#[]⟩] 31)) (.slice p4 1 c4) [([61, 98], [])]) := HA5
    generalize w4.alloc (.cells #[.int .i64 1, .string ⟨#[97]⟩, .slice p4 1 c4, .bool false, .string ⟨#[]⟩] 31) = W5 at *
    have B5 := b3.trans (b5.mono b3.size)
    refine (known3_yes W5 (HMX.out.below B5) (HEA.out.below B5 hE)).mono ?_
    rintro e w6 ⟨rfl, b6⟩
    have B6 := b5.trans (b6.mono b5.size)
    have BB := Lib.hid (B5.trans (b6.mono B5.size))
    have m0 := (B6.cell (p := ⟨w2.heap.size, 0, none⟩) (by rw [hz3]; simp)).trans (k3 0)
    have m1 := (B6.cell (p := ⟨w2.heap.size, 1, none⟩) (by rw [hz3]; simp)).trans (k3 1)
    have m2 := (B6.cell (p := ⟨w2.heap.size, 2, none⟩) (by rw [hz3]; simp)).trans (k3 2)
    have m3 := (B6.cell (p := ⟨w2.heap.size, 3, none⟩) (by rw [hz3]; simp)).trans (k3 3)
    have m4 := (B6.cell (p := ⟨w2.heap.size, 4, none⟩) (by rw [hz3]; simp)).trans (k3 4)
    have n0 := (b6.cell (p := ⟨w4.heap.size, 0, none⟩) (by rw [hz5]; simp)).trans (k5 0)
    have n1 := (b6.cell (p := ⟨w4.heap.size, 1, none⟩) (by rw [hz5]; simp)).trans (k5 1)
    have n2 := (b6.cell (p := ⟨w4.heap.size, 2, none⟩) (by rw [hz5]; simp)).trans (k5 2)
    have n3 := (b6.cell (p := ⟨w4.heap.size, 3, none⟩) (by rw [hz5]; simp)).trans (k5 3)
    have n4 := (b6.cell (p := ⟨w4.heap.size, 4, none⟩) (by rw [hz5]; simp)).trans (k5 4)
    have HX := Lib.hid (HA5.out.below b6)
    have HY := Lib.hid (HA3.out.below B6)
    have i6 := (B6.cell (p := ⟨w.heap.size, 0, none⟩) (by rw [hz3]; simp; omega)).trans i3
    have hz6 := B6.size
    have hz7 := b6.size
    clear k3 k5 b3 b4 b5 b6 B5 B6 HA3 HA4 HA5 HAT HR i3
    go_wp2_with fail
    refine (rone_any 1 ⟨#[97]⟩ ⟨#[]⟩ false _ _ [([61, 98], [])] _ HX.out HY.out (by decide)).mono ?_
    rintro e w8 ⟨rfl, b8⟩
    have i8 := (b8.cell (p := ⟨w.heap.size, 0, none⟩) (by simp; omega)).trans i6
    have B8 := Lib.hid (BB.out.trans (b8.mono BB.out.size))
    clear m0 m1 m2 m3 m4 n0 n1 n2 n3 n4 b8 i6
    go_wp2
    go_ret
    exact ⟨rfl, B8.out⟩
  · rw [show ((1 : Nat) : Int) = 1 from rfl]
    have i0 : w2.cell? ⟨w.heap.size, 1, none⟩ = some (.string ⟨#[60, 97, 32, 98, 32, 99, 61, 100, 62]⟩) := by rw [← HW2.out]; exact allocs_cell w (knownObjs w) 0 _ _ rfl 1
    have o0 : w2.cell? ⟨w.heap.size + 1 + 1 + 1 + 1 + 1 + 1 + 1 + 1 + 1 + 1 + 1 + 1, 5, none⟩ = some (.int .i64 0) := by rw [← HW2.out]; exact allocs_cell w (knownObjs w) 12 _ _ rfl 5
    have o1 : w2.cell? ⟨w.heap.size + 1 + 1 + 1 + 1 + 1 + 1 + 1 + 1 + 1 + 1 + 1 + 1, 6, none⟩ = some (.string ⟨#[]⟩) := by rw [← HW2.out]; exact allocs_cell w (knownObjs w) 12 _ _ rfl 6
    have o2 : w2.cell? ⟨w.heap.size + 1 + 1 + 1 + 1 + 1 + 1 + 1 + 1 + 1 + 1 + 1 + 1, 7, none⟩ = some (.slice (some ⟨w.heap.size + 1 + 1, 0, none⟩) 2 2) := by rw [← HW2.out]; exact allocs_cell w (knownObjs w) 12 _ _ rfl 7
    have o3 : w2.cell? ⟨w.heap.size + 1 + 1 + 1 + 1 + 1 + 1 + 1 + 1 + 1 + 1 + 1 + 1, 8, none⟩ = some (.bool false) := by rw [← HW2.out]; exact allocs_cell w (knownObjs w) 12 _ _ rfl 8
    have o4 : w2.cell? ⟨w.heap.size + 1 + 1 + 1 + 1 + 1 + 1 + 1 + 1 + 1 + 1 + 1 + 1, 9, none⟩ = some (.string ⟨#[]⟩) := by rw [← HW2.out]; exact allocs_cell w (knownObjs w) 12 _ _ rfl 9
    have a0 : w2.cell? ⟨w.heap.size + 1 + 1, 0, none⟩ = some (.string ⟨#[98]⟩) := by rw [← HW2.out]; exact allocs_cell w (knownObjs w) 2 _ _ rfl 0
    have a1 : w2.cell? ⟨w.heap.size + 1 + 1, 1, none⟩ = some (.string ⟨#[]⟩) := by rw [← HW2.out]; exact allocs_cell w (knownObjs w) 2 _ _ rfl 1
    have a2 : w2.cell? ⟨w.heap.size + 1 + 1, 2, none⟩ = some (.string ⟨#[99]⟩) := by rw [← HW2.out]; exact allocs_cell w (knownObjs w) 2 _ _ rfl 2
    have a3 : w2.cell? ⟨w.heap.size + 1 + 1, 3, none⟩ = some (.string ⟨#[100]⟩) := by rw [← HW2.out]; exact allocs_cell w (knownObjs w) 2 _ _ rfl 3
    have HAT : Hid (AttrsAt w2 (.slice (some ⟨w.heap.size + 1 + 1, 0, none⟩) 2 2) [([98], []), ([99], [100])]) := Lib.hid ⟨_, _, rfl, fun j hj => ⟨w.heap.size + 1 + 1, rfl, by omega, by
      match j, hj with
      | 0, _ => exact ⟨a0, a1⟩
      | 1, _ => exact ⟨a2, a3⟩⟩⟩
    have HR := fun W h1 h2 => Lib.hid (read_is ⟨#[60, 97, 32, 98, 32, 99, 61, 100, 62]⟩ 1 [97] [([98], []), ([99], [100])] false 9 W h1 h2 (by decide) (by decide) (by decide) (by decide) (by decide))
    clear HW2 a0 a1 a2 a3
    go_wp2_with fail
    have b3 := b2.alloc b2.size (.cells #[.int .i64 1, .string ⟨#[97]⟩, .slice (some ⟨w.heap.size + 1 + 1, 0, none⟩) 2 2, .bool false, .string ⟨#[]⟩] 31)
    have k3 := tok_cells w2 (.int .i64 1) (.string ⟨#[97]⟩) (.slice (some ⟨w.heap.size + 1 + 1, 0, none⟩) 2 2) (.bool false) (.string ⟨#[]⟩)
    have HA3 := Lib.hid (HAT.out.below ((Below.refl _ w2).alloc (Nat.le_refl _) (.cells #[.int .i64 1, .string ⟨#[97]⟩, .slice (some ⟨w.heap.size + 1 + 1, 0, none⟩) 2 2, .bool false, .string ⟨#[]⟩] 31)))
    have hz3 : (w2.alloc (.cells #[.int .i64 1, .string ⟨#[97]⟩, .slice (some ⟨w.heap.size + 1 + 1, 0, none⟩) 2 2, .bool false, .string ⟨#[]⟩] 31)).heap.size = w2.heap.size + 1 := by simp
    have i3 : (w2.alloc (.cells #[.int .i64 1, .string ⟨#[97]⟩, .slice (some ⟨w.heap.size + 1 + 1, 0, none⟩) 2 2, .bool false, .string ⟨#[]⟩] 31)).cell? ⟨w.heap.size, 1, none⟩ = some (.string ⟨#[60, 97, 32, 98, 32, 99, 61, 100, 62]⟩) := by rw [World.cell?_alloc_lt _ _ _ (by simp; omega)]; exact i0
    clear o0 o1 o2 o3 o4 i0
    generalize w2.alloc (.cells #[.int .i64 1, .string ⟨#[97]⟩, .slice (some ⟨w.heap.size + 1 + 1, 0, none⟩) 2 2, .bool false, .string ⟨#[]⟩] 31) = W3 at *
    refine (HR _ (HMX.out.below b3) (HEA.out.below b3 hE)).out.mono ?_
    rintro e w4 ⟨v4, rfl, ha4, b4⟩
    have HA4 := Lib.hid ha4
    obtain ⟨p4, c4, rfl, hq4⟩ := ha4
    clear hq4
    have b5 := b4.alloc b4.size (.cells #[.int .i64 1, .string ⟨#[97]⟩, .slice p4 2 c4, .bool false, .string ⟨#[]⟩] 31)
    have k5 := tok_cells w4 (.int .i64 1) (.string ⟨#[97]⟩) (.slice p4 2 c4) (.bool false) (.string ⟨#[]⟩)
    have hz5 : (w4.alloc (.cells #[.int .i64 1, .string ⟨#[97]⟩, .slice p4 2 c4, .bool false, .string ⟨#[]⟩] 31)).heap.size = w4.heap.size + 1 := by simp
    have HA5 := Lib.hid (HA4.out.below ((Below.refl _ w4).alloc (Nat.le_refl _) (.cells #[.int .i64 1, .string ⟨#[97]⟩, .slice p4 2 c4, .bool false, .string ⟨#[]⟩] 31)))
    have hs4 := b4.size
    go_wp2_with fail
    have HA5 : Hid (AttrsAt (w4.alloc (.cells #[.int .i64 1, .string ⟨#[97]⟩, .slice p4 2 c4, .bool false, .string ⟨#[]⟩] 31)) (.slice p4 2 c4) [([98], []), ([99], [100])]) := HA5
    generalize w4.alloc (.cells #[.int .i64 1, .string ⟨#[97]⟩, .slice p4 2 c4, .bool false, .string ⟨#[]⟩] 31) = W5 at *
    have B5 := b3.trans (b5.mono b3.size)
    refine (known3_yes W5 (HMX.out.below B5) (HEA.out.below B5 hE)).mono ?_
    rintro e w6 ⟨rfl, b6⟩
    have B6 := b5.trans (b6.mono b5.size)
    have BB := Lib.hid (B5.trans (b6.mono B5.size))
    have m0 := (B6.cell (p := ⟨w2.heap.size, 0, none⟩) (by rw [hz3]; simp)).trans (k3 0)
    have m1 := (B6.cell (p := ⟨w2.heap.size, 1, none⟩) (by rw [hz3]; simp)).trans (k3 1)
    have m2 := (B6.cell (p := ⟨w2.heap.size, 2, none⟩) (by rw [hz3]; simp)).trans (k3 2)
    have m3 := (B6.cell (p := ⟨w2.heap.size, 3, none⟩) (by rw [hz3]; simp)).trans (k3 3)
    have m4 := (B6.cell (p := ⟨w2.heap.size, 4, none⟩) (by rw [hz3]; simp)).trans (k3 4)
    have n0 := (b6.cell (p := ⟨w4.heap.size, 0, none⟩) (by rw [hz5]; simp)).trans (k5 0)
    have n1 := (b6.cell (p := ⟨w4.heap.size, 1, none⟩) (by rw [hz5]; simp)).trans (k5 1)
    have n2 := (b6.cell (p := ⟨w4.heap.size, 2, none⟩) (by rw [hz5]; simp)).trans (k5 2)
    have n3 := (b6.cell (p := ⟨w4.heap.size, 3, none⟩) (by rw [hz5]; simp)).trans (k5 3)
    have n4 := (b6.cell (p := ⟨w4.heap.size, 4, none⟩) (by rw [hz5]; simp)).trans (k5 4)
    have HX := Lib.hid (HA5.out.below b6)
    have HY := Lib.hid (HA3.out.below B6)
    have i6 := (B6.cell (p := ⟨w.heap.size, 1, none⟩) (by rw [hz3]; simp; omega)).trans i3
    have hz6 := B6.size
    have hz7 := b6.size
    clear k3 k5 b3 b4 b5 b6 B5 B6 HA3 HA4 HA5 HAT HR i3
    go_wp2_with fail
    refine (rone_any 1 ⟨#[97]⟩ ⟨#[]⟩ false _ _ [([98], []), ([99], [100])] _ HX.out HY.out (by decide)).mono ?_
    rintro e w8 ⟨rfl, b8⟩
    have i8 := (b8.cell (p := ⟨w.heap.size, 1, none⟩) (by simp; omega)).trans i6
    have B8 := Lib.hid (BB.out.trans (b8.mono BB.out.size))
    clear m0 m1 m2 m3 m4 n0 n1 n2 n3 n4 b8 i6
    go_wp2
    go_ret
    exact ⟨rfl, B8.out⟩
  · rw [show ((2 : Nat) : Int) = 2 from rfl]
    have i0 : w2.cell? ⟨w.heap.size, 2, none⟩ = some (.string ⟨#[60, 97, 47, 98, 47, 62]⟩) := by rw [← HW2.out]; exact allocs_cell w (knownObjs w) 0 _ _ rfl 2
    have o0 : w2.cell? ⟨w.heap.size + 1 + 1 + 1 + 1 + 1 + 1 + 1 + 1 + 1 + 1 + 1 + 1, 10, none⟩ = some (.int .i64 0) := by rw [← HW2.out]; exact allocs_cell w (knownObjs w) 12 _ _ rfl 10
    have o1 : w2.cell? ⟨w.heap.size + 1 + 1 + 1 + 1 + 1 + 1 + 1 + 1 + 1 + 1 + 1 + 1, 11, none⟩ = some (.string ⟨#[]⟩) := by rw [← HW2.out]; exact allocs_cell w (knownObjs w) 12 _ _ rfl 11
    have o2 : w2.cell? ⟨w.heap.size + 1 + 1 + 1 + 1 + 1 + 1 + 1 + 1 + 1 + 1 + 1 + 1, 12, none⟩ = some (.slice (some ⟨w.heap.size + 1 + 1 + 1, 0, none⟩) 1 1) := by rw [← HW2.out]; exact allocs_cell w (knownObjs w) 12 _ _ rfl 12
    have o3 : w2.cell? ⟨w.heap.size + 1 + 1 + 1 + 1 + 1 + 1 + 1 + 1 + 1 + 1 + 1 + 1, 13, none⟩ = some (.bool true) := by rw [← HW2.out]; exact allocs_cell w (knownObjs w) 12 _ _ rfl 13
    have o4 : w2.cell? ⟨w.heap.size + 1 + 1 + 1 + 1 + 1 + 1 + 1 + 1 + 1 + 1 + 1 + 1, 14, none⟩ = some (.string ⟨#[]⟩) := by rw [← HW2.out]; exact allocs_cell w (knownObjs w) 12 _ _ rfl 14
    have a0 : w2.cell? ⟨w.heap.size + 1 + 1 + 1, 0, none⟩ = some (.string ⟨#[98]⟩) := by rw [← HW2.out]; exact allocs_cell w (knownObjs w) 3 _ _ rfl 0
    have a1 : w2.cell? ⟨w.heap.size + 1 + 1 + 1, 1, none⟩ = some (.string ⟨#[]⟩) := by rw [← HW2.out]; exact allocs_cell w (knownObjs w) 3 _ _ rfl 1
    have HAT : Hid (AttrsAt w2 (.slice (some ⟨w.heap.size + 1 + 1 + 1, 0, none⟩) 1 1) [([98], [])]) := Lib.hid ⟨_, _, rfl, fun j hj => ⟨w.heap.size + 1 + 1 + 1, rfl, by omega, by
      match j, hj with
      | 0, _ => exact ⟨a0, a1⟩⟩⟩
    have HR := fun W h1 h2 => Lib.hid (read_is ⟨#[60, 97, 47, 98, 47, 62]⟩ 1 [97] [([98], [])] true 6 W h1 h2 (by decide) (by decide) (by decide) (by decide) (by decide))
    clear HW2 a0 a1
    go_wp2_with fail
    have b3 := b2.alloc b2.size (.cells #[.int .i64 1, .string ⟨#[97]⟩, .slice (some ⟨w.heap.size + 1 + 1 + 1, 0, none⟩) 1 1, .bool true, .string ⟨#[]⟩] 31)
    have k3 := tok_cells w2 (.int .i64 1) (.string ⟨#[97]⟩) (.slice (some ⟨w.heap.size + 1 + 1 + 1, 0, none⟩) 1 1) (.bool true) (.string ⟨#[]⟩)
    have HA3 := Lib.hid (HAT.out.below ((Below.refl _ w2).alloc (Nat.le_refl _) (.cells #[.int .i64 1, .string ⟨#[97]⟩, .slice (some ⟨w.heap.size + 1 + 1 + 1, 0, none⟩) 1 1, .bool true, .string ⟨#[]⟩] 31)))
    have hz3 : (w2.alloc (.cells #[.int .i64 1, .string ⟨#[97]⟩, .slice (some ⟨w.heap.size + 1 + 1 + 1, 0, none⟩) 1 1, .bool true, .string ⟨#[]⟩] 31)).heap.size = w2.heap.size + 1 := by simp
    have i3 : (w2.alloc (.cells #[.int .i64 1, .string ⟨#[97]⟩, .slice (some ⟨w.heap.size + 1 + 1 + 1, 0, none⟩) 1 1, .bool true, .string ⟨#[]⟩] 31)).cell? ⟨w.heap.size, 2, none⟩ = some (.string ⟨#[60, 97, 47, 98, 47, 62]⟩) := by rw [World.cell?_alloc_lt _ _ _ (by simp; omega)]; exact i0
    clear o0 o1 o2 o3 o4 i0
    generalize w2.alloc (.cells #[.int .i64 1, .string ⟨#[97]⟩, .slice (some ⟨w.heap.size + 1 + 1 + 1, 0, none⟩) 1 1, .bool true, .string ⟨#[]⟩] 31) = W3 at *
    refine (HR _ (HMX.out.below b3) (HEA.out.below b3 hE)).out.mono ?_
    rintro e w4 ⟨v4, rfl, ha4, b4⟩
    have HA4 := Lib.hid ha4
    obtain ⟨p4, c4, rfl, hq4⟩ := ha4
    clear hq4
    have b5 := b4.alloc b4.size (.cells #[.int .i64 1, .string ⟨#[97]⟩, .slice p4 1 c4, .bool true, .string ⟨#[]⟩] 31)
    have k5 := tok_cells w4 (.int .i64 1) (.string ⟨#[97]⟩) (.slice p4 1 c4) (.bool true) (.string ⟨#[]⟩)
    have hz5 : (w4.alloc (.cells #[.int .i64 1, .string ⟨#[97]⟩, .slice p4 1 c4, .bool true, .string ⟨#[]⟩] 31)).heap.size = w4.heap.size + 1 := by simp
    have HA5 := Lib.hid (HA4.out.below ((Below.refl _ w4).alloc (Nat.le_refl _) (.cells #[.int .i64 1, .string ⟨#[97]⟩, .slice p4 1 c4, .bool true, .string ⟨#[]⟩] 31)))
    have hs4 := b4.size
    go_wp2_with fail
    have HA5 : Hid (AttrsAt (w4.alloc (.cells #[.int .i64 1, .string ⟨#[97]⟩, .slice p4 1 c4, .bool true, .string ⟨#[]⟩] 31)) (.slice p4 1 c4) [([98], [])]) := HA5
    generalize w4.alloc (.cells #[.int .i64 1, .string ⟨#[97]⟩, .slice p4 1 c4, .bool true, .string ⟨#[]⟩] 31) = W5 at *
    have B5 := b3.trans (b5.mono b3.size)
    refine (known3_yes W5 (HMX.out.below B5) (HEA.out.below B5 hE)).mono ?_
    rintro e w6 ⟨rfl, b6⟩
    have B6 := b5.trans (b6.mono b5.size)
    have BB := Lib.hid (B5.trans (b6.mono B5.size))
    have m0 := (B6.cell (p := ⟨w2.heap.size, 0, none⟩) (by rw [hz3]; simp)).trans (k3 0)
    have m1 := (B6.cell (p := ⟨w2.heap.size, 1, none⟩) (by rw [hz3]; simp)).trans (k3 1)
    have m2 := (B6.cell (p := ⟨w2.heap.size, 2, none⟩) (by rw [hz3]; simp)).trans (k3 2)
    have m3 := (B6.cell (p := ⟨w2.heap.size, 3, none⟩) (by rw [hz3]; simp)).trans (k3 3)
    have m4 := (B6.cell (p := ⟨w2.heap.size, 4, none⟩) (by rw [hz3]; simp)).trans (k3 4)
    have n0 := (b6.cell (p := ⟨w4.heap.size, 0, none⟩) (by rw [hz5]; simp)).trans (k5 0)
    have n1 := (b6.cell (p := ⟨w4.heap.size, 1, none⟩) (by rw [hz5]; simp)).trans (k5 1)
    have n2 := (b6.cell (p := ⟨w4.heap.size, 2, none⟩) (by rw [hz5]; simp)).trans (k5 2)
    have n3 := (b6.cell (p := ⟨w4.heap.size, 3, none⟩) (by rw [hz5]; simp)).trans (k5 3)
    have n4 := (b6.cell (p := ⟨w4.heap.size, 4, none⟩) (by rw [hz5]; simp)).trans (k5 4)
    have HX := Lib.hid (HA5.out.below b6)
    have HY := Lib.hid (HA3.out.below B6)
    have i6 := (B6.cell (p := ⟨w.heap.size, 2, none⟩) (by rw [hz3]; simp; omega)).trans i3
    have hz6 := B6.size
    have hz7 := b6.size
    clear k3 k5 b3 b4 b5 b6 B5 B6 HA3 HA4 HA5 HAT HR i3
    go_wp2_with fail
    refine (rone_any 1 ⟨#[97]⟩ ⟨#[]⟩ true _ _ [([98], [])] _ HX.out HY.out (by decide)).mono ?_
    rintro e w8 ⟨rfl, b8⟩
    have i8 := (b8.cell (p := ⟨w.heap.size, 2, none⟩) (by simp; omega)).trans i6
    have B8 := Lib.hid (BB.out.trans (b8.mono BB.out.size))
    clear m0 m1 m2 m3 m4 n0 n1 n2 n3 n4 b8 i6
    go_wp2
    go_ret
    exact ⟨rfl, B8.out⟩
  · rw [show ((3 : Nat) : Int) = 3 from rfl]
    have i0 : w2.cell? ⟨w.heap.size, 3, none⟩ = some (.string ⟨#[60, 97, 32, 98, 61, 39, 120, 39, 32, 98, 61, 121, 62]⟩) := by rw [← HW2.out]; exact allocs_cell w (knownObjs w) 0 _ _ rfl 3
    have o0 : w2.cell? ⟨w.heap.size + 1 + 1 + 1 + 1 + 1 + 1 + 1 + 1 + 1 + 1 + 1 + 1, 15, none⟩ = some (.int .i64 0) := by rw [← HW2.out]; exact allocs_cell w (knownObjs w) 12 _ _ rfl 15
    have o1 : w2.cell? ⟨w.heap.size + 1 + 1 + 1 + 1 + 1 + 1 + 1 + 1 + 1 + 1 + 1 + 1, 16, none⟩ = some (.string ⟨#[]⟩) := by rw [← HW2.out]; exact allocs_cell w (knownObjs w) 12 _ _ rfl 16
    have o2 : w2.cell? ⟨w.heap.size + 1 + 1 + 1 + 1 + 1 + 1 + 1 + 1 + 1 + 1 + 1 + 1, 17, none⟩ = some (.slice (some ⟨w.heap.size + 1 + 1 + 1 + 1, 0, none⟩) 1 1) := by rw [← HW2.out]; exact allocs_cell w (knownObjs w) 12 _ _ rfl 17
    have o3 : w2.cell? ⟨w.heap.size + 1 + 1 + 1 + 1 + 1 + 1 + 1 + 1 + 1 + 1 + 1 + 1, 18, none⟩ = some (.bool false) := by rw [← HW2.out]; exact allocs_cell w (knownObjs w) 12 _ _ rfl 18
    have o4 : w2.cell? ⟨w.heap.size + 1 + 1 + 1 + 1 + 1 + 1 + 1 + 1 + 1 + 1 + 1 + 1, 19, none⟩ = some (.string ⟨#[]⟩) := by rw [← HW2.out]; exact allocs_cell w (knownObjs w) 12 _ _ rfl 19
    have a0 : w2.cell? ⟨w.heap.size + 1 + 1 + 1 + 1, 0, none⟩ = some (.string ⟨#[98]⟩) := by rw [← HW2.out]; exact allocs_cell w (knownObjs w) 4 _ _ rfl 0
    have a1 : w2.cell? ⟨w.heap.size + 1 + 1 + 1 + 1, 1, none⟩ = some (.string ⟨#[120]⟩) := by rw [← HW2.out]; exact allocs_cell w (knownObjs w) 4 _ _ rfl 1
    have HAT : Hid (AttrsAt w2 (.slice (some ⟨w.heap.size + 1 + 1 + 1 + 1, 0, none⟩) 1 1) [([98], [120])]) := Lib.hid ⟨_, _, rfl, fun j hj => ⟨w.heap.size + 1 + 1 + 1 + 1, rfl, by omega, by
      match j, hj with
      | 0, _ => exact ⟨a0, a1⟩⟩⟩
    have HR := fun W h1 h2 => Lib.hid (read_is ⟨#[60, 97, 32, 98, 61, 39, 120, 39, 32, 98, 61, 121, 62]⟩ 1 [97] [([98], [120])] false 13 W h1 h2 (by decide) (by decide) (by decide) (by decide) (by decide))
    clear HW2 a0 a1
    go_wp2_with fail
    have b3 := b2.alloc b2.size (.cells #[.int .i64 1, .string ⟨#[97]⟩, .slice (some ⟨w.heap.size + 1 + 1 + 1 + 1, 0, none⟩) 1 1, .bool false, .string ⟨#[]⟩] 31)
    have k3 := tok_cells w2 (.int .i64 1) (.string ⟨#[97]⟩) (.slice (some ⟨w.heap.size + 1 + 1 + 1 + 1, 0, none⟩) 1 1) (.bool false) (.string ⟨#[]⟩)
    have HA3 := Lib.hid (HAT.out.below ((Below.refl _ w2).alloc (Nat.le_refl _) (.cells #[.int .i64 1, .string ⟨#[97]⟩, .slice (some ⟨w.heap.size + 1 + 1 + 1 + 1, 0, none⟩) 1 1, .bool false, .string ⟨#[]⟩] 31)))
    have hz3 : (w2.alloc (.cells #[.int .i64 1, .string ⟨#[97]⟩, .slice (some ⟨w.heap.size + 1 + 1 + 1 + 1, 0, none⟩) 1 1, .bool false, .string ⟨#[]⟩] 31)).heap.size = w2.heap.size + 1 := by simp
    have i3 : (w2.alloc (.cells #[.int .i64 1, .string ⟨#[97]⟩, .slice (some ⟨w.heap.size + 1 + 1 + 1 + 1, 0, none⟩) 1 1, .bool false, .string ⟨#[]⟩] 31)).cell? ⟨w.heap.size, 3, none⟩ = some (.string ⟨#[60, 97, 32, 98, 61, 39, 120, 39, 32, 98, 61, 121, 62]⟩) := by rw [World.cell?_alloc_lt _ _ _ (by simp; omega)]; exact i0
    clear o0 o1 o2 o3 o4 i0
    generalize w2.alloc (.cells #[.int .i64 1, .string ⟨#[97]⟩, .slice (some ⟨w.heap.size + 1 + 1 + 1 + 1, 0, none⟩) 1 1, .bool false, .string ⟨#[]⟩] 31) = W3 at *
    refine (HR _ (HMX.out.below b3) (HEA.out.below b3 hE)).out.mono ?_
    rintro e w4 ⟨v4, rfl, ha4, b4⟩
    have HA4 := Lib.hid ha4
    obtain ⟨p4, c4, rfl, hq4⟩ := ha4
    clear hq4
    have b5 := b4.alloc b4.size (.cells #[.int .i64 1, .string ⟨#[97]⟩, .slice p4 1 c4, .bool false, .string ⟨#[]⟩] 31)
    have k5 := tok_cells w4 (.int .i64 1) (.string ⟨#[97]⟩) (.slice p4 1 c4) (.bool false) (.string ⟨#[]⟩)
    have hz5 : (w4.alloc (.cells #[.int .i64 1, .string ⟨#[97]⟩, .slice p4 1 c4, .bool false, .string ⟨#[]⟩] 31)).heap.size = w4.heap.size + 1 := by simp
    have HA5 := Lib.hid (HA4.out.below ((Below.refl _ w4).alloc (Nat.le_refl _) (.cells #[.int .i64 1, .string ⟨#[97]⟩, .slice p4 1 c4, .bool false, .string ⟨#[]⟩] 31)))
    have hs4 := b4.size
    go_wp2_with fail
    have HA5 : Hid (AttrsAt (w4.alloc (.cells #[.int .i64 1, .string ⟨#[97]⟩, .slice p4 1 c4, .bool false, .string ⟨#[]⟩] 31)) (.slice p4 1 c4) [([98], [120])]) := HA5
    generalize w4.alloc (.cells #[.int .i64 1, .string ⟨#[97]⟩, .slice p4 1 c4, .bool false, .string ⟨#[]⟩] 31) = W5 at *
    have B5 := b3.trans (b5.mono b3.size)
    refine (known3_yes W5 (HMX.out.below B5) (HEA.out.below B5 hE)).mono ?_
    rintro e w6 ⟨rfl, b6⟩
    have B6 := b5.trans (b6.mono b5.size)
    have BB := Lib.hid (B5.trans (b6.mono B5.size))
    have m0 := (B6.cell (p := ⟨w2.heap.size, 0, none⟩) (by rw [hz3]; simp)).trans (k3 0)
    have m1 := (B6.cell (p := ⟨w2.heap.size, 1, none⟩) (by rw [hz3]; simp)).trans (k3 1)
    have m2 := (B6.cell (p := ⟨w2.heap.size, 2, none⟩) (by rw [hz3]; simp)).trans (k3 2)
    have m3 := (B6.cell (p := ⟨w2.heap.size, 3, none⟩) (by rw [hz3]; simp)).trans (k3 3)
    have m4 := (B6.cell (p := ⟨w2.heap.size, 4, none⟩) (by rw [hz3]; simp)).trans (k3 4)
    have n0 := (b6.cell (p := ⟨w4.heap.size, 0, none⟩) (by rw [hz5]; simp)).trans (k5 0)
    have n1 := (b6.cell (p := ⟨w4.heap.size, 1, none⟩) (by rw [hz5]; simp)).trans (k5 1)
    have n2 := (b6.cell (p := ⟨w4.heap.size, 2, none⟩) (by rw [hz5]; simp)).trans (k5 2)
    have n3 := (b6.cell (p := ⟨w4.heap.size, 3, none⟩) (by rw [hz5]; simp)).trans (k5 3)
    have n4 := (b6.cell (p := ⟨w4.heap.size, 4, none⟩) (by rw [hz5]; simp)).trans (k5 4)
    have HX := Lib.hid (HA5.out.below b6)
    have HY := Lib.hid (HA3.out.below B6)
    have i6 := (B6.cell (p := ⟨w.heap.size, 3, none⟩) (by rw [hz3]; simp; omega)).trans i3
    have hz6 := B6.size
    have hz7 := b6.size
    clear k3 k5 b3 b4 b5 b6 B5 B6 HA3 HA4 HA5 HAT HR i3
    go_wp2_with fail
    refine (rone_any 1 ⟨#[97]⟩ ⟨#[]⟩ false _ _ [([98], [120])] _ HX.out HY.out (by decide)).mono ?_
    rintro e w8 ⟨rfl, b8⟩
    have i8 := (b8.cell (p := ⟨w.heap.size, 3, none⟩) (by simp; omega)).trans i6
    have B8 := Lib.hid (BB.out.trans (b8.mono BB.out.size))
    clear m0 m1 m2 m3 m4 n0 n1 n2 n3 n4 b8 i6
    go_wp2
    go_ret
    exact ⟨rfl, B8.out⟩
  · rw [show ((4 : Nat) : Int) = 4 from rfl]
    have i0 : w2.cell? ⟨w.heap.size, 4, none⟩ = some (.string ⟨#[60, 97, 32, 98, 61, 34, 38, 108, 116, 38, 97, 109, 112, 34, 62]⟩) := by rw [← HW2.out]; exact allocs_cell w (knownObjs w) 0 _ _ rfl 4
    have o0 : w2.cell? ⟨w.heap.size + 1 + 1 + 1 + 1 + 1 + 1 + 1 + 1 + 1 + 1 + 1 + 1, 20, none⟩ = some (.int .i64 0) := by rw [← HW2.out]; exact allocs_cell w (knownObjs w) 12 _ _ rfl 20
    have o1 : w2.cell? ⟨w.heap.size + 1 + 1 + 1 + 1 + 1 + 1 + 1 + 1 + 1 + 1 + 1 + 1, 21, none⟩ = some (.string ⟨#[]⟩) := by rw [← HW2.out]; exact allocs_cell w (knownObjs w) 12 _ _ rfl 21
    have o2 : w2.cell? ⟨w.heap.size + 1 + 1 + 1 + 1 + 1 + 1 + 1 + 1 + 1 + 1 + 1 + 1, 22, none⟩ = some (.slice (some ⟨w.heap.size + 1 + 1 + 1 + 1 + 1, 0, none⟩) 1 1) := by rw [← HW2.out]; exact allocs_cell w (knownObjs w) 12 _ _ rfl 22
    have o3 : w2.cell? ⟨w.heap.size + 1 + 1 + 1 + 1 + 1 + 1 + 1 + 1 + 1 + 1 + 1 + 1, 23, none⟩ = some (.bool false) := by rw [← HW2.out]; exact allocs_cell w (knownObjs w) 12 _ _ rfl 23
    have o4 : w2.cell? ⟨w.heap.size + 1 + 1 + 1 + 1 + 1 + 1 + 1 + 1 + 1 + 1 + 1 + 1, 24, none⟩ = some (.string ⟨#[]⟩) := by rw [← HW2.out]; exact allocs_cell w (knownObjs w) 12 _ _ rfl 24
    have a0 : w2.cell? ⟨w.heap.size + 1 + 1 + 1 + 1 + 1, 0, none⟩ = some (.string ⟨#[98]⟩) := by rw [← HW2.out]; exact allocs_cell w (knownObjs w) 5 _ _ rfl 0
    have a1 : w2.cell? ⟨w.heap.size + 1 + 1 + 1 + 1 + 1, 1, none⟩ = some (.string ⟨#[60, 38]⟩) := by rw [← HW2.out]; exact allocs_cell w (knownObjs w) 5 _ _ rfl 1
    have HAT : Hid (AttrsAt w2 (.slice (some ⟨w.heap.size + 1 + 1 + 1 + 1 + 1, 0, none⟩) 1 1) [([98], [60, 38])]) := Lib.hid ⟨_, _, rfl, fun j hj => ⟨w.heap.size + 1 + 1 + 1 + 1 + 1, rfl, by omega, by
      match j, hj with
      | 0, _ => exact ⟨a0, a1⟩⟩⟩
    have HR := fun W h1 h2 => Lib.hid (read_is ⟨#[60, 97, 32, 98, 61, 34, 38, 108, 116, 38, 97, 109, 112, 34, 62]⟩ 1 [97] [([98], [60, 38])] false 15 W h1 h2 (by decide) (by decide) (by decide) (by decide) (by decide))
    clear HW2 a0 a1
    go_wp2_with fail
    have b3 := b2.alloc b2.size (.cells #[.int .i64 1, .string ⟨#[97]⟩, .slice (some ⟨w.heap.size + 1 + 1 + 1 + 1 + 1, 0, none⟩) 1 1, .bool false, .string ⟨#[]⟩] 31)
    have k3 := tok_cells w2 (.int .i64 1) (.string ⟨#[97]⟩) (.slice (some ⟨w.heap.size + 1 + 1 + 1 + 1 + 1, 0, none⟩) 1 1) (.bool false) (.string ⟨#[]⟩)
    have HA3 := Lib.hid (HAT.out.below ((Below.refl _ w2).alloc (Nat.le_refl _) (.cells #[.int .i64 1, .string ⟨#[97]⟩, .slice (some ⟨w.heap.size + 1 + 1 + 1 + 1 + 1, 0, none⟩) 1 1, .bool false, .string ⟨#[]⟩] 31)))
    have hz3 : (w2.alloc (.cells #[.int .i64 1, .string ⟨#[97]⟩, .slice (some ⟨w.heap.size + 1 + 1 + 1 + 1 + 1, 0, none⟩) 1 1, .bool false, .string ⟨#[]⟩] 31)).heap.size = w2.heap.size + 1 := by simp
    have i3 : (w2.alloc (.cells #[.int .i64 1, .string ⟨#[97]⟩, .slice (some ⟨w.heap.size + 1 + 1 + 1 + 1 + 1, 0, none⟩) 1 1, .bool false, .string ⟨#[]⟩] 31)).cell? ⟨w.heap.size, 4, none⟩ = some (.string ⟨#[60, 97, 32, 98, 61, 34, 38, 108, 116, 38, 97, 109, 112, 34, 62]⟩) := by rw [World.cell?_alloc_lt _ _ _ (by simp; omega)]; exact i0
    clear o0 o1 o2 o3 o4 i0
    generalize w2.alloc (.cells #[.int .i64 1, .string ⟨#[97]⟩, .slice (some ⟨w.heap.size + 1 + 1 + 1 + 1 + 1, 0, none⟩) 1 1, .bool false, .string ⟨#[]⟩] 31) = W3 at *
    refine (HR _ (HMX.out.below b3) (HEA.out.below b3 hE)).out.mono ?_
    rintro e w4 ⟨v4, rfl, ha4, b4⟩
    have HA4 := Lib.hid ha4
    obtain ⟨p4, c4, rfl, hq4⟩ := ha4
    clear hq4
    have b5 := b4.alloc b4.size (.cells #[.int .i64 1, .string ⟨#[97]⟩, .slice p4 1 c4, .bool false, .string ⟨#[]⟩] 31)
    have k5 := tok_cells w4 (.int .i64 1) (.string ⟨#[97]⟩) (.slice p4 1 c4) (.bool false) (.string ⟨#[]⟩)
    have hz5 : (w4.alloc (.cells #[.int .i64 1, .string ⟨#[97]⟩, .slice p4 1 c4, .bool false, .string ⟨#[]⟩] 31)).heap.size = w4.heap.size + 1 := by simp
    have HA5 := Lib.hid (HA4.out.below ((Below.refl _ w4).alloc (Nat.le_refl _) (.cells #[.int .i64 1, .string ⟨#[97]⟩, .slice p4 1 c4, .bool false, .string ⟨#[]⟩] 31)))
    have hs4 := b4.size
    go_wp2_with fail
    have HA5 : Hid (AttrsAt (w4.alloc (.cells #[.int .i64 1, .string ⟨#[97]⟩, .slice p4 1 c4, .bool false, .string ⟨#[]⟩] 31)) (.slice p4 1 c4) [([98], [60, 38])]) := HA5
    generalize w4.alloc (.cells #[.int .i64 1, .string ⟨#[97]⟩, .slice p4 1 c4, .bool false, .string ⟨#[]⟩] 31) = W5 at *
    have B5 := b3.trans (b5.mono b3.size)
    refine (known3_yes W5 (HMX.out.below B5) (HEA.out.below B5 hE)).mono ?_
    rintro e w6 ⟨rfl, b6⟩
    have B6 := b5.trans (b6.mono b5.size)
    have BB := Lib.hid (B5.trans (b6.mono B5.size))
    have m0 := (B6.cell (p := ⟨w2.heap.size, 0, none⟩) (by rw [hz3]; simp)).trans (k3 0)
    have m1 := (B6.cell (p := ⟨w2.heap.size, 1, none⟩) (by rw [hz3]; simp)).trans (k3 1)
    have m2 := (B6.cell (p := ⟨w2.heap.size, 2, none⟩) (by rw [hz3]; simp)).trans (k3 2)
    have m3 := (B6.cell (p := ⟨w2.heap.size, 3, none⟩) (by rw [hz3]; simp)).trans (k3 3)
    have m4 := (B6.cell (p := ⟨w2.heap.size, 4, none⟩) (by rw [hz3]; simp)).trans (k3 4)
    have n0 := (b6.cell (p := ⟨w4.heap.size, 0, none⟩) (by rw [hz5]; simp)).trans (k5 0)
    have n1 := (b6.cell (p := ⟨w4.heap.size, 1, none⟩) (by rw [hz5]; simp)).trans (k5 1)
    have n2 := (b6.cell (p := ⟨w4.heap.size, 2, none⟩) (by rw [hz5]; simp)).trans (k5 2)
    have n3 := (b6.cell (p := ⟨w4.heap.size, 3, none⟩) (by rw [hz5]; simp)).trans (k5 3)
    have n4 := (b6.cell (p := ⟨w4.heap.size, 4, none⟩) (by rw [hz5]; simp)).trans (k5 4)
    have HX := Lib.hid (HA5.out.below b6)
    have HY := Lib.hid (HA3.out.below B6)
    have i6 := (B6.cell (p := ⟨w.heap.size, 4, none⟩) (by rw [hz3]; simp; omega)).trans i3
    have hz6 := B6.size
    have hz7 := b6.size
    clear k3 k5 b3 b4 b5 b6 B5 B6 HA3 HA4 HA5 HAT HR i3
    go_wp2_with fail
    refine (rone_any 1 ⟨#[97]⟩ ⟨#[]⟩ false _ _ [([98], [60, 38])] _ HX.out HY.out (by decide)).mono ?_
    rintro e w8 ⟨rfl, b8⟩
    have i8 := (b8.cell (p := ⟨w.heap.size, 4, none⟩) (by simp; omega)).trans i6
    have B8 := Lib.hid (BB.out.trans (b8.mono BB.out.size))
    clear m0 m1 m2 m3 m4 n0 n1 n2 n3 n4 b8 i6
    go_wp2
    go_ret
    exact ⟨rfl, B8.out⟩
  · rw [show ((5 : Nat) : Int) = 5 from rfl]
    have i0 : w2.cell? ⟨w.heap.size, 5, none⟩ = some (.string ⟨#[60, 97, 32, 98, 61, 38, 99, 111, 112, 121, 49, 62]⟩) := by rw [← HW2.out]; exact allocs_cell w (knownObjs w) 0 _ _ rfl 5
    have o0 : w2.cell? ⟨w.heap.size + 1 + 1 + 1 + 1 + 1 + 1 + 1 + 1 + 1 + 1 + 1 + 1, 25, none⟩ = some (.int .i64 0) := by rw [← HW2.out]; exact allocs_cell w (knownObjs w) 12 _ _ rfl 25
    have o1 : w2.cell? ⟨w.heap.size + 1 + 1 + 1 + 1 + 1 + 1 + 1 + 1 + 1 + 1 + 1 + 1, 26, none⟩ = some (.string ⟨#[]⟩) := by rw [← HW2.out]; exact allocs_cell w (knownObjs w) 12 _ _ rfl 26
    have o2 : w2.cell? ⟨w.heap.size + 1 + 1 + 1 + 1 + 1 + 1 + 1 + 1 + 1 + 1 + 1 + 1, 27, none⟩ = some (.slice (some ⟨w.heap.size + 1 + 1 + 1 + 1 + 1 + 1, 0, none⟩) 1 1) := by rw [← HW2.out]; exact allocs_cell w (knownObjs w) 12 _ _ rfl 27
    have o3 : w2.cell? ⟨w.heap.size + 1 + 1 + 1 + 1 + 1 + 1 + 1 + 1 + 1 + 1 + 1 + 1, 28, none⟩ = some (.bool false) := by rw [← HW2.out]; exact allocs_cell w (knownObjs w) 12 _ _ rfl 28
    have o4 : w2.cell? ⟨w.heap.size + 1 + 1 + 1 + 1 + 1 + 1 + 1 + 1 + 1 + 1 + 1 + 1, 29, none⟩ = some (.string ⟨#[]⟩) := by rw [← HW2.out]; exact allocs_cell w (knownObjs w) 12 _ _ rfl 29
    have a0 : w2.cell? ⟨w.heap.size + 1 + 1 + 1 + 1 + 1 + 1, 0, none⟩ = some (.string ⟨#[98]⟩) := by rw [← HW2.out]; exact allocs_cell w (knownObjs w) 6 _ _ rfl 0
    have a1 : w2.cell? ⟨w.heap.size + 1 + 1 + 1 + 1 + 1 + 1, 1, none⟩ = some (.string ⟨#[38, 99, 111, 112, 121, 49]⟩) := by rw [← HW2.out]; exact allocs_cell w (knownObjs w) 6 _ _ rfl 1
    have HAT : Hid (AttrsAt w2 (.slice (some ⟨w.heap.size + 1 + 1 + 1 + 1 + 1 + 1, 0, none⟩) 1 1) [([98], [38, 99, 111, 112, 121, 49])]) := Lib.hid ⟨_, _, rfl, fun j hj => ⟨w.heap.size + 1 + 1 + 1 + 1 + 1 + 1, rfl, by omega, by
      match j, hj with
      | 0, _ => exact ⟨a0, a1⟩⟩⟩
    have HR := fun W h1 h2 => Lib.hid (read_is ⟨#[60, 97, 32, 98, 61, 38, 99, 111, 112, 121, 49, 62]⟩ 1 [97] [([98], [38, 99, 111, 112, 121, 49])] false 12 W h1 h2 (by decide) (by decide) (by decide) (by decide) (by decide))
    clear HW2 a0 a1
    go_wp2_with fail
    have b3 := b2.alloc b2.size (.cells #[.int .i64 1, .string ⟨#[97]⟩, .slice (some ⟨w.heap.size + 1 + 1 + 1 + 1 + 1 + 1, 0, none⟩) 1 1, .bool false, .string ⟨#[]⟩] 31)
    have k3 := tok_cells w2 (.int .i64 1) (.string ⟨#[97]⟩) (.slice (some ⟨w.heap.size + 1 + 1 + 1 + 1 + 1 + 1, 0, none⟩) 1 1) (.bool false) (.string ⟨#[]⟩)
    have HA3 := Lib.hid (HAT.out.below ((Below.refl _ w2).alloc (Nat.le_refl _) (.cells #[.int .i64 1, .string ⟨#[97]⟩, .slice (some ⟨w.heap.size + 1 + 1 + 1 + 1 + 1 + 1, 0, none⟩) 1 1, .bool false, .string ⟨#[]⟩] 31)))
    have hz3 : (w2.alloc (.cells #[.int .i64 1, .string ⟨#[97]⟩, .slice (some ⟨w.heap.size + 1 + 1 + 1 + 1 + 1 + 1, 0, none⟩) 1 1, .bool false, .string ⟨#[]⟩] 31)).heap.size = w2.heap.size + 1 := by simp
    have i3 : (w2.alloc (.cells #[.int .i64 1, .string ⟨#[97]⟩, .slice (some ⟨w.heap.size + 1 + 1 + 1 + 1 + 1 + 1, 0, none⟩) 1 1, .bool false, .string ⟨#[]⟩] 31)).cell? ⟨w.heap.size, 5, none⟩ = some (.string ⟨#[60, 97, 32, 98, 61, 38, 99, 111, 112, 121, 49, 62]⟩) := by rw [World.cell?_alloc_lt _ _ _ (by simp; omega)]; exact i0
    clear o0 o1 o2 o3 o4 i0
    generalize w2.alloc (.cells #[.int .i64 1, .string ⟨#[97]⟩, .slice (some ⟨w.heap.size + 1 + 1 + 1 + 1 + 1 + 1, 0, none⟩) 1 1, .bool false, .string ⟨#[]⟩] 31) = W3 at *
    refine (HR _ (HMX.out.below b3) (HEA.out.below b3 hE)).out.mono ?_
    rintro e w4 ⟨v4, rfl, ha4, b4⟩
    have HA4 := Lib.hid ha4
    obtain ⟨p4, c4, rfl, hq4⟩ := ha4
    clear hq4
    have b5 := b4.alloc b4.size (.cells #[.int .i64 1, .string ⟨#[97]⟩, .slice p4 1 c4, .bool false, .string ⟨#[]⟩] 31)
    have k5 := tok_cells w4 (.int .i64 1) (.string ⟨#[97]⟩) (.slice p4 1 c4) (.bool false) (.string ⟨#[]⟩)
    have hz5 : (w4.alloc (.cells #[.int .i64 1, .string ⟨#[97]⟩, .slice p4 1 c4, .bool false, .string ⟨#[]⟩] 31)).heap.size = w4.heap.size + 1 := by simp
    have HA5 := Lib.hid (HA4.out.below ((Below.refl _ w4).alloc (Nat.le_refl _) (.cells #[.int .i64 1, .string ⟨#[97]⟩, .slice p4 1 c4, .bool false, .string ⟨#[]⟩] 31)))
    have hs4 := b4.size
    go_wp2_with fail
    have HA5 : Hid (AttrsAt (w4.alloc (.cells #[.int .i64 1, .string ⟨#[97]⟩, .slice p4 1 c4, .bool false, .string ⟨#[]⟩] 31)) (.slice p4 1 c4) [([98], [38, 99, 111, 112, 121, 49])]) := HA5
    generalize w4.alloc (.cells #[.int .i64 1, .string ⟨#[97]⟩, .slice p4 1 c4, .bool false, .string ⟨#[]⟩] 31) = W5 at *
    have B5 := b3.trans (b5.mono b3.size)
    refine (known3_yes W5 (HMX.out.below B5) (HEA.out.below B5 hE)).mono ?_
    rintro e w6 ⟨rfl, b6⟩
    have B6 := b5.trans (b6.mono b5.size)
    have BB := Lib.hid (B5.trans (b6.mono B5.size))
    have m0 := (B6.cell (p := ⟨w2.heap.size, 0, none⟩) (by rw [hz3]; simp)).trans (k3 0)
    have m1 := (B6.cell (p := ⟨w2.heap.size, 1, none⟩) (by rw [hz3]; simp)).trans (k3 1)
    have m2 := (B6.cell (p := ⟨w2.heap.size, 2, none⟩) (by rw [hz3]; simp)).trans (k3 2)
    have m3 := (B6.cell (p := ⟨w2.heap.size, 3, none⟩) (by rw [hz3]; simp)).trans (k3 3)
    have m4 := (B6.cell (p := ⟨w2.heap.size, 4, none⟩) (by rw [hz3]; simp)).trans (k3 4)
    have n0 := (b6.cell (p := ⟨w4.heap.size, 0, none⟩) (by rw [hz5]; simp)).trans (k5 0)
    have n1 := (b6.cell (p := ⟨w4.heap.size, 1, none⟩) (by rw [hz5]; simp)).trans (k5 1)
    have n2 := (b6.cell (p := ⟨w4.heap.size, 2, none⟩) (by rw [hz5]; simp)).trans (k5 2)
    have n3 := (b6.cell (p := ⟨w4.heap.size, 3, none⟩) (by rw [hz5]; simp)).trans (k5 3)
    have n4 := (b6.cell (p := ⟨w4.heap.size, 4, none⟩) (by rw [hz5]; simp)).trans (k5 4)
    have HX := Lib.hid (HA5.out.below b6)
    have HY := Lib.hid (HA3.out.below B6)
    have i6 := (B6.cell (p := ⟨w.heap.size, 5, none⟩) (by rw [hz3]; simp; omega)).trans i3
    have hz6 := B6.size
    have hz7 := b6.size
    clear k3 k5 b3 b4 b5 b6 B5 B6 HA3 HA4 HA5 HAT HR i3
    go_wp2_with fail
    refine (rone_any 1 ⟨#[97]⟩ ⟨#[]⟩ false _ _ [([98], [38, 99, 111, 112, 121, 49])] _ HX.out HY.out (by decide)).mono ?_
    rintro e w8 ⟨rfl, b8⟩
    have i8 := (b8.cell (p := ⟨w.heap.size, 5, none⟩) (by simp; omega)).trans i6
    have B8 := Lib.hid (BB.out.trans (b8.mono BB.out.size))
    clear m0 m1 m2 m3 m4 n0 n1 n2 n3 n4 b8 i6
    go_wp2
    go_ret
    exact ⟨rfl, B8.out⟩
  · rw [show ((6 : Nat) : Int) = 6 from rfl]
    have i0 : w2.cell? ⟨w.heap.size, 6, none⟩ = some (.string ⟨#[60, 97, 32, 98, 61, 99, 47, 62]⟩) := by rw [← HW2.out]; exact allocs_cell w (knownObjs w) 0 _ _ rfl 6
    have o0 : w2.cell? ⟨w.heap.size + 1 + 1 + 1 + 1 + 1 + 1 + 1 + 1 + 1 + 1 + 1 + 1, 30, none⟩ = some (.int .i64 0) := by rw [← HW2.out]; exact allocs_cell w (knownObjs w) 12 _ _ rfl 30
    have o1 : w2.cell? ⟨w.heap.size + 1 + 1 + 1 + 1 + 1 + 1 + 1 + 1 + 1 + 1 + 1 + 1, 31, none⟩ = some (.string ⟨#[]⟩) := by rw [← HW2.out]; exact allocs_cell w (knownObjs w) 12 _ _ rfl 31
    have o2 : w2.cell? ⟨w.heap.size + 1 + 1 + 1 + 1 + 1 + 1 + 1 + 1 + 1 + 1 + 1 + 1, 32, none⟩ = some (.slice (some ⟨w.heap.size + 1 + 1 + 1 + 1 + 1 + 1 + 1, 0, none⟩) 1 1) := by rw [← HW2.out]; exact allocs_cell w (knownObjs w) 12 _ _ rfl 32
    have o3 : w2.cell? ⟨w.heap.size + 1 + 1 + 1 + 1 + 1 + 1 + 1 + 1 + 1 + 1 + 1 + 1, 33, none⟩ = some (.bool false) := by rw [← HW2.out]; exact allocs_cell w (knownObjs w) 12 _ _ rfl 33
    have o4 : w2.cell? ⟨w.heap.size + 1 + 1 + 1 + 1 + 1 + 1 + 1 + 1 + 1 + 1 + 1 + 1, 34, none⟩ = some (.string ⟨#[]⟩) := by rw [← HW2.out]; exact allocs_cell w (knownObjs w) 12 _ _ rfl 34
    have a0 : w2.cell? ⟨w.heap.size + 1 + 1 + 1 + 1 + 1 + 1 + 1, 0, none⟩ = some (.string ⟨#[98]⟩) := by rw [← HW2.out]; exact allocs_cell w (knownObjs w) 7 _ _ rfl 0
    have a1 : w2.cell? ⟨w.heap.size + 1 + 1 + 1 + 1 + 1 + 1 + 1, 1, none⟩ = some (.string ⟨#[99, 47]⟩) := by rw [← HW2.out]; exact allocs_cell w (knownObjs w) 7 _ _ rfl 1
    have HAT : Hid (AttrsAt w2 (.slice (some ⟨w.heap.size + 1 + 1 + 1 + 1 + 1 + 1 + 1, 0, none⟩) 1 1) [([98], [99, 47])]) := Lib.hid ⟨_, _, rfl, fun j hj => ⟨w.heap.size + 1 + 1 + 1 + 1 + 1 + 1 + 1, rfl, by omega, by
      match j, hj with
      | 0, _ => exact ⟨a0, a1⟩⟩⟩
    have HR := fun W h1 h2 => Lib.hid (read_is ⟨#[60, 97, 32, 98, 61, 99, 47, 62]⟩ 1 [97] [([98], [99, 47])] false 8 W h1 h2 (by decide) (by decide) (by decide) (by decide) (by decide))
    clear HW2 a0 a1
    go_wp2_with fail
    have b3 := b2.alloc b2.size (.cells #[.int .i64 1, .string ⟨#[97]⟩, .slice (some ⟨w.heap.size + 1 + 1 + 1 + 1 + 1 + 1 + 1, 0, none⟩) 1 1, .bool false, .string ⟨#[]⟩] 31)
    have k3 := tok_cells w2 (.int .i64 1) (.string ⟨#[97]⟩) (.slice (some ⟨w.heap.size + 1 + 1 + 1 + 1 + 1 + 1 + 1, 0, none⟩) 1 1) (.bool false) (.string ⟨#[]⟩)
    have HA3 := Lib.hid (HAT.out.below ((Below.refl _ w2).alloc (Nat.le_refl _) (.cells #[.int .i64 1, .string ⟨#[97]⟩, .slice (some ⟨w.heap.size + 1 + 1 + 1 + 1 + 1 + 1 + 1, 0, none⟩) 1 1, .bool false, .string ⟨#[]⟩] 31)))
    have hz3 : (w2.alloc (.cells #[.int .i64 1, .string ⟨#[97]⟩, .slice (some ⟨w.heap.size + 1 + 1 + 1 + 1 + 1 + 1 + 1, 0, none⟩) 1 1, .bool false, .string ⟨#[]⟩] 31)).heap.size = w2.heap.size + 1 := by simp
    have i3 : (w2.alloc (.cells #[.int .i64 1, .string ⟨#[97]⟩, .slice (some ⟨w.heap.size + 1 + 1 + 1 + 1 + 1 + 1 + 1, 0, none⟩) 1 1, .bool false, .string ⟨#[]⟩] 31)).cell? ⟨w.heap.size, 6, none⟩ = some (.string ⟨#[60, 97, 32, 98, 61, 99, 47, 62]⟩) := by rw [World.cell?_alloc_lt _ _ _ (by simp; omega)]; exact i0
    clear o0 o1 o2 o3 o4 i0
    generalize w2.alloc (.cells #[.int .i64 1, .string ⟨#[97]⟩, .slice (some ⟨w.heap.size + 1 + 1 + 1 + 1 + 1 + 1 + 1, 0, none⟩) 1 1, .bool false, .string ⟨#[]⟩] 31) = W3 at *
    refine (HR _ (HMX.out.below b3) (HEA.out.below b3 hE)).out.mono ?_
    rintro e w4 ⟨v4, rfl, ha4, b4⟩
    have HA4 := Lib.hid ha4
    obtain ⟨p4, c4, rfl, hq4⟩ := ha4
    clear hq4
    have b5 := b4.alloc b4.size (.cells #[.int .i64 1, .string ⟨#[97]⟩, .slice p4 1 c4, .bool false, .string ⟨#[]⟩] 31)
    have k5 := tok_cells w4 (.int .i64 1) (.string ⟨#[97]⟩) (.slice p4 1 c4) (.bool false) (.string ⟨#[]⟩)
    have hz5 : (w4.alloc (.cells #[.int .i64 1, .string ⟨#[97]⟩, .slice p4 1 c4, .bool false, .string ⟨#[]⟩] 31)).heap.size = w4.heap.size + 1 := by simp
    have HA5 := Lib.hid (HA4.out.below ((Below.refl _ w4).alloc (Nat.le_refl _) (.cells #[.int .i64 1, .string ⟨#[97]⟩, .slice p4 1 c4, .bool false, .string ⟨#[]⟩] 31)))
    have hs4 := b4.size
    go_wp2_with fail
    have HA5 : Hid (AttrsAt (w4.alloc (.cells #[.int .i64 1, .string ⟨#[97]⟩, .slice p4 1 c4, .bool false, .string ⟨#[]⟩] 31)) (.slice p4 1 c4) [([98], [99, 47])]) := HA5
    generalize w4.alloc (.cells #[.int .i64 1, .string ⟨#[97]⟩, .slice p4 1 c4, .bool false, .string ⟨#[]⟩] 31) = W5 at *
    have B5 := b3.trans (b5.mono b3.size)
    refine (known3_yes W5 (HMX.out.below B5) (HEA.out.below B5 hE)).mono ?_
    rintro e w6 ⟨rfl, b6⟩
    have B6 := b5.trans (b6.mono b5.size)
    have BB := Lib.hid (B5.trans (b6.mono B5.size))
    have m0 := (B6.cell (p := ⟨w2.heap.size, 0, none⟩) (by rw [hz3]; simp)).trans (k3 0)
    have m1 := (B6.cell (p := ⟨w2.heap.size, 1, none⟩) (by rw [hz3]; simp)).trans (k3 1)
    have m2 := (B6.cell (p := ⟨w2.heap.size, 2, none⟩) (by rw [hz3]; simp)).trans (k3 2)
    have m3 := (B6.cell (p := ⟨w2.heap.size, 3, none⟩) (by rw [hz3]; simp)).trans (k3 3)
    have m4 := (B6.cell (p := ⟨w2.heap.size, 4, none⟩) (by rw [hz3]; simp)).trans (k3 4)
    have n0 := (b6.cell (p := ⟨w4.heap.size, 0, none⟩) (by rw [hz5]; simp)).trans (k5 0)
    have n1 := (b6.cell (p := ⟨w4.heap.size, 1, none⟩) (by rw [hz5]; simp)).trans (k5 1)
    have n2 := (b6.cell (p := ⟨w4.heap.size, 2, none⟩) (by rw [hz5]; simp)).trans (k5 2)
    have n3 := (b6.cell (p := ⟨w4.heap.size, 3, none⟩) (by rw [hz5]; simp)).trans (k5 3)
    have n4 := (b6.cell (p := ⟨w4.heap.size, 4, none⟩) (by rw [hz5]; simp)).trans (k5 4)
    have HX := Lib.hid (HA5.out.below b6)
    have HY := Lib.hid (HA3.out.below B6)
    have i6 := (B6.cell (p := ⟨w.heap.size, 6, none⟩) (by rw [hz3]; simp; omega)).trans i3
    have hz6 := B6.size
    have hz7 := b6.size
    clear k3 k5 b3 b4 b5 b6 B5 B6 HA3 HA4 HA5 HAT HR i3
    go_wp2_with fail
    refine (rone_any 1 ⟨#[97]⟩ ⟨#[]⟩ false _ _ [([98], [99, 47])] _ HX.out HY.out (by decide)).mono ?_
    rintro e w8 ⟨rfl, b8⟩
    have i8 := (b8.cell (p := ⟨w.heap.size, 6, none⟩) (by simp; omega)).trans i6
    have B8 := Lib.hid (BB.out.trans (b8.mono BB.out.size))
    clear m0 m1 m2 m3 m4 n0 n1 n2 n3 n4 b8 i6
    go_wp2
    go_ret
    exact ⟨rfl, B8.out⟩
  · rw [show ((7 : Nat) : Int) = 7 from rfl]
    have i0 : w2.cell? ⟨w.heap.size, 7, none⟩ = some (.string ⟨#[60, 97, 10, 66, 12, 61, 9, 99, 62]⟩) := by rw [← HW2.out]; exact allocs_cell w (knownObjs w) 0 _ _ rfl 7
    have o0 : w2.cell? ⟨w.heap.size + 1 + 1 + 1 + 1 + 1 + 1 + 1 + 1 + 1 + 1 + 1 + 1, 35, none⟩ = some (.int .i64 0) := by rw [← HW2.out]; exact allocs_cell w (knownObjs w) 12 _ _ rfl 35
    have o1 : w2.cell? ⟨w.heap.size + 1 + 1 + 1 + 1 + 1 + 1 + 1 + 1 + 1 + 1 + 1 + 1, 36, none⟩ = some (.string ⟨#[]⟩) := by rw [← HW2.out]; exact allocs_cell w (knownObjs w) 12 _ _ rfl 36
    have o2 : w2.cell? ⟨w.heap.size + 1 + 1 + 1 + 1 + 1 + 1 + 1 + 1 + 1 + 1 + 1 + 1, 37, none⟩ = some (.slice (some ⟨w.heap.size + 1 + 1 + 1 + 1 + 1 + 1 + 1 + 1, 0, none⟩) 1 1) := by rw [← HW2.out]; exact allocs_cell w (knownObjs w) 12 _ _ rfl 37
    have o3 : w2.cell? ⟨w.heap.size + 1 + 1 + 1 + 1 + 1 + 1 + 1 + 1 + 1 + 1 + 1 + 1, 38, none⟩ = some (.bool false) := by rw [← HW2.out]; exact allocs_cell w (knownObjs w) 12 _ _ rfl 38
    have o4 : w2.cell? ⟨w.heap.size + 1 + 1 + 1 + 1 + 1 + 1 + 1 + 1 + 1 + 1 + 1 + 1, 39, none⟩ = some (.string ⟨#[]⟩) := by rw [← HW2.out]; exact allocs_cell w (knownObjs w) 12 _ _ rfl 39
    have a0 : w2.cell? ⟨w.heap.size + 1 + 1 + 1 + 1 + 1 + 1 + 1 + 1, 0, none⟩ = some (.string ⟨#[98]⟩) := by rw [← HW2.out]; exact allocs_cell w (knownObjs w) 8 _ _ rfl 0
    have a1 : w2.cell? ⟨w.heap.size + 1 + 1 + 1 + 1 + 1 + 1 + 1 + 1, 1, none⟩ = some (.string ⟨#[99]⟩) := by rw [← HW2.out]; exact allocs_cell w (knownObjs w) 8 _ _ rfl 1
    have HAT : Hid (AttrsAt w2 (.slice (some ⟨w.heap.size + 1 + 1 + 1 + 1 + 1 + 1 + 1 + 1, 0, none⟩) 1 1) [([98], [99])]) := Lib.hid ⟨_, _, rfl, fun j hj => ⟨w.heap.size + 1 + 1 + 1 + 1 + 1 + 1 + 1 + 1, rfl, by omega, by
      match j, hj with
      | 0, _ => exact ⟨a0, a1⟩⟩⟩
    have HR := fun W h1 h2 => Lib.hid (read_is ⟨#[60, 97, 10, 66, 12, 61, 9, 99, 62]⟩ 1 [97] [([98], [99])] false 9 W h1 h2 (by decide) (by decide) (by decide) (by decide) (by decide))
    clear HW2 a0 a1
    go_wp2_with fail
    have b3 := b2.alloc b2.size (.cells #[.int .i64 1, .string ⟨#[97]⟩, .slice (some ⟨w.heap.size + 1 + 1 + 1 + 1 + 1 + 1 + 1 + 1, 0, none⟩) 1 1, .bool false, .string ⟨#[]⟩] 31)
    have k3 := tok_cells w2 (.int .i64 1) (.string ⟨#[97]⟩) (.slice (some ⟨w.heap.size + 1 + 1 + 1 + 1 + 1 + 1 + 1 + 1, 0, none⟩) 1 1) (.bool false) (.string ⟨#[]⟩)
    have HA3 := Lib.hid (HAT.out.below ((Below.refl _ w2).alloc (Nat.le_refl _) (.cells #[.int .i64 1, .string ⟨#[97]⟩, .slice (some ⟨w.heap.size + 1 + 1 + 1 + 1 + 1 + 1 + 1 + 1, 0, none⟩) 1 1, .bool false, .string ⟨#[]⟩] 31)))
    have hz3 : (w2.alloc (.cells #[.int .i64 1, .string ⟨#[97]⟩, .slice (some ⟨w.heap.size + 1 + 1 + 1 + 1 + 1 + 1 + 1 + 1, 0, none⟩) 1 1, .bool false, .string ⟨#[]⟩] 31)).heap.size = w2.heap.size + 1 := by simp
    have i3 : (w2.alloc (.cells #[.int .i64 1, .string ⟨#[97]⟩, .slice (some ⟨w.heap.size + 1 + 1 + 1 + 1 + 1 + 1 + 1 + 1, 0, none⟩) 1 1, .bool false, .string ⟨#[]⟩] 31)).cell? ⟨w.heap.size, 7, none⟩ = some (.string ⟨#[60, 97, 10, 66, 12, 61, 9, 99, 62]⟩) := by rw [World.cell?_alloc_lt _ _ _ (by simp; omega)]; exact i0
    clear o0 o1 o2 o3 o4 i0
    generalize w2.alloc (.cells #[.int .i64 1, .string ⟨#[97]⟩, .slice (some ⟨w.heap.size + 1 + 1 + 1 + 1 + 1 + 1 + 1 + 1, 0, none⟩) 1 1, .bool false, .string ⟨#[]⟩] 31) = W3 at *
    refine (HR _ (HMX.out.below b3) (HEA.out.below b3 hE)).out.mono ?_
    rintro e w4 ⟨v4, rfl, ha4, b4⟩
    have HA4 := Lib.hid ha4
    obtain ⟨p4, c4, rfl, hq4⟩ := ha4
    clear hq4
    have b5 := b4.alloc b4.size (.cells #[.int .i64 1, .string ⟨#[97]⟩, .slice p4 1 c4, .bool false, .string ⟨#[]⟩] 31)
    have k5 := tok_cells w4 (.int .i64 1) (.string ⟨#[97]⟩) (.slice p4 1 c4) (.bool false) (.string ⟨#[]⟩)
    have hz5 : (w4.alloc (.cells #[.int .i64 1, .string ⟨#[97]⟩, .slice p4 1 c4, .bool false, .string ⟨#[]⟩] 31)).heap.size = w4.heap.size + 1 := by simp
    have HA5 := Lib.hid (HA4.out.below ((Below.refl _ w4).alloc (Nat.le_refl _) (.cells #[.int .i64 1, .string ⟨#[97]⟩, .slice p4 1 c4, .bool false, .string ⟨#[]⟩] 31)))
    have hs4 := b4.size
    go_wp2_with fail
    have HA5 : Hid (AttrsAt (w4.alloc (.cells #[.int .i64 1, .string ⟨#[97]⟩, .slice p4 1 c4, .bool false, .string ⟨#[]⟩] 31)) (.slice p4 1 c4) [([98], [99])]) := HA5
    generalize w4.alloc (.cells #[.int .i64 1, .string ⟨#[97]⟩, .slice p4 1 c4, .bool false, .string ⟨#[]⟩] 31) = W5 at *
    have B5 := b3.trans (b5.mono b3.size)
    refine (known3_yes W5 (HMX.out.below B5) (HEA.out.below B5 hE)).mono ?_
    rintro e w6 ⟨rfl, b6⟩
    have B6 := b5.trans (b6.mono b5.size)
    have BB := Lib.hid (B5.trans (b6.mono B5.size))
    have m0 := (B6.cell (p := ⟨w2.heap.size, 0, none⟩) (by rw [hz3]; simp)).trans (k3 0)
    have m1 := (B6.cell (p := ⟨w2.heap.size, 1, none⟩) (by rw [hz3]; simp)).trans (k3 1)
    have m2 := (B6.cell (p := ⟨w2.heap.size, 2, none⟩) (by rw [hz3]; simp)).trans (k3 2)
    have m3 := (B6.cell (p := ⟨w2.heap.size, 3, none⟩) (by rw [hz3]; simp)).trans (k3 3)
    have m4 := (B6.cell (p := ⟨w2.heap.size, 4, none⟩) (by rw [hz3]; simp)).trans (k3 4)
    have n0 := (b6.cell (p := ⟨w4.heap.size, 0, none⟩) (by rw [hz5]; simp)).trans (k5 0)
    have n1 := (b6.cell (p := ⟨w4.heap.size, 1, none⟩) (by rw [hz5]; simp)).trans (k5 1)
    have n2 := (b6.cell (p := ⟨w4.heap.size, 2, none⟩) (by rw [hz5]; simp)).trans (k5 2)
    have n3 := (b6.cell (p := ⟨w4.heap.size, 3, none⟩) (by rw [hz5]; simp)).trans (k5 3)
    have n4 := (b6.cell (p := ⟨w4.heap.size, 4, none⟩) (by rw [hz5]; simp)).trans (k5 4)
    have HX := Lib.hid (HA5.out.below b6)
    have HY := Lib.hid (HA3.out.below B6)
    have i6 := (B6.cell (p := ⟨w.heap.size, 7, none⟩) (by rw [hz3]; simp; omega)).trans i3
    have hz6 := B6.size
    have hz7 := b6.size
    clear k3 k5 b3 b4 b5 b6 B5 B6 HA3 HA4 HA5 HAT HR i3
    go_wp2_with fail
    refine (rone_any 1 ⟨#[97]⟩ ⟨#[]⟩ false _ _ [([98], [99])] _ HX.out HY.out (by decide)).mono ?_
    rintro e w8 ⟨rfl, b8⟩
    have i8 := (b8.cell (p := ⟨w.heap.size, 7, none⟩) (by simp; omega)).trans i6
    have B8 := Lib.hid (BB.out.trans (b8.mono BB.out.size))
    clear m0 m1 m2 m3 m4 n0 n1 n2 n3 n4 b8 i6
    go_wp2
    go_ret
    exact ⟨rfl, B8.out⟩
  · rw [show ((8 : Nat) : Int) = 8 from rfl]
    have i0 : w2.cell? ⟨w.heap.size, 8, none⟩ = some (.string ⟨#[60, 47, 97, 32, 98, 61, 99, 47, 62]⟩) := by rw [← HW2.out]; exact allocs_cell w (knownObjs w) 0 _ _ rfl 8
    have o0 : w2.cell? ⟨w.heap.size + 1 + 1 + 1 + 1 + 1 + 1 + 1 + 1 + 1 + 1 + 1 + 1, 40, none⟩ = some (.int .i64 2) := by rw [← HW2.out]; exact allocs_cell w (knownObjs w) 12 _ _ rfl 40
    have o1 : w2.cell? ⟨w.heap.size + 1 + 1 + 1 + 1 + 1 + 1 + 1 + 1 + 1 + 1 + 1 + 1, 41, none⟩ = some (.string ⟨#[]⟩) := by rw [← HW2.out]; exact allocs_cell w (knownObjs w) 12 _ _ rfl 41
    have o2 : w2.cell? ⟨w.heap.size + 1 + 1 + 1 + 1 + 1 + 1 + 1 + 1 + 1 + 1 + 1 + 1, 42, none⟩ = some (.slice none 0 0) := by rw [← HW2.out]; exact allocs_cell w (knownObjs w) 12 _ _ rfl 42
    have o3 : w2.cell? ⟨w.heap.size + 1 + 1 + 1 + 1 + 1 + 1 + 1 + 1 + 1 + 1 + 1 + 1, 43, none⟩ = some (.bool false) := by rw [← HW2.out]; exact allocs_cell w (knownObjs w) 12 _ _ rfl 43
    have o4 : w2.cell? ⟨w.heap.size + 1 + 1 + 1 + 1 + 1 + 1 + 1 + 1 + 1 + 1 + 1 + 1, 44, none⟩ = some (.string ⟨#[]⟩) := by rw [← HW2.out]; exact allocs_cell w (knownObjs w) 12 _ _ rfl 44
    have HAT : Hid (AttrsAt w2 (.slice none 0 0) []) := Lib.hid (AttrsAt.nil w2)
    have HR := fun W h1 h2 => Lib.hid (read_is ⟨#[60, 47, 97, 32, 98, 61, 99, 47, 62]⟩ 2 [97] [] false 9 W h1 h2 (by decide) (by decide) (by decide) (by decide) (by decide))
    clear HW2 
    go_wp2_with fail
    have b3 := b2.alloc b2.size (.cells #[.int .i64 2, .string ⟨#[97]⟩, .slice none 0 0, .bool false, .string ⟨#[]⟩] 31)
    have k3 := tok_cells w2 (.int .i64 2) (.string ⟨#[97]⟩) (.slice none 0 0) (.bool false) (.string ⟨#[]⟩)
    have HA3 := Lib.hid (HAT.out.below ((Below.refl _ w2).alloc (Nat.le_refl _) (.cells #[.int .i64 2, .string ⟨#[97]⟩, .slice none 0 0, .bool false, .string ⟨#[]⟩] 31)))
    have hz3 : (w2.alloc (.cells #[.int .i64 2, .string ⟨#[97]⟩, .slice none 0 0, .bool false, .string ⟨#[]⟩] 31)).heap.size = w2.heap.size + 1 := by simp
    have i3 : (w2.alloc (.cells #[.int .i64 2, .string ⟨#[97]⟩, .slice none 0 0, .bool false, .string ⟨#[]⟩] 31)).cell? ⟨w.heap.size, 8, none⟩ = some (.string ⟨#[60, 47, 97, 32, 98, 61, 99, 47, 62]⟩) := by rw [World.cell?_alloc_lt _ _ _ (by simp; omega)]; exact i0
    clear o0 o1 o2 o3 o4 i0
    generalize w2.alloc (.cells #[.int .i64 2, .string ⟨#[97]⟩, .slice none 0 0, .bool false, .string ⟨#[]⟩] 31) = W3 at *
    refine (HR _ (HMX.out.below b3) (HEA.out.below b3 hE)).out.mono ?_
    rintro e w4 ⟨v4, rfl, ha4, b4⟩
    have HA4 := Lib.hid ha4
    obtain ⟨p4, c4, rfl, hq4⟩ := ha4
    clear hq4
    have b5 := b4.alloc b4.size (.cells #[.int .i64 2, .string ⟨#[97]⟩, .slice p4 0 c4, .bool false, .string ⟨#[]⟩] 31)
    have k5 := tok_cells w4 (.int .i64 2) (.string ⟨#[97]⟩) (.slice p4 0 c4) (.bool false) (.string ⟨#[]⟩)
    have hz5 : (w4.alloc (.cells #[.int .i64 2, .string ⟨#[97]⟩, .slice p4 0 c4, .bool false, .string ⟨#[]⟩] 31)).heap.size = w4.heap.size + 1 := by simp
    have HA5 := Lib.hid (HA4.out.below ((Below.refl _ w4).alloc (Nat.le_refl _) (.cells #[.int .i64 2, .string ⟨#[97]⟩, .slice p4 0 c4, .bool false, .string ⟨#[]⟩] 31)))
    have hs4 := b4.size
    go_wp2_with fail
    have HA5 : Hid (AttrsAt (w4.alloc (.cells #[.int .i64 2, .string ⟨#[97]⟩, .slice p4 0 c4, .bool false, .string ⟨#[]⟩] 31)) (.slice p4 0 c4) []) := HA5
    generalize w4.alloc (.cells #[.int .i64 2, .string ⟨#[97]⟩, .slice p4 0 c4, .bool false, .string ⟨#[]⟩] 31) = W5 at *
    have B5 := b3.trans (b5.mono b3.size)
    refine (known3_yes W5 (HMX.out.below B5) (HEA.out.below B5 hE)).mono ?_
    rintro e w6 ⟨rfl, b6⟩
    have B6 := b5.trans (b6.mono b5.size)
    have BB := Lib.hid (B5.trans (b6.mono B5.size))
    have m0 := (B6.cell (p := ⟨w2.heap.size, 0, none⟩) (by rw [hz3]; simp)).trans (k3 0)
    have m1 := (B6.cell (p := ⟨w2.heap.size, 1, none⟩) (by rw [hz3]; simp)).trans (k3 1)
    have m2 := (B6.cell (p := ⟨w2.heap.size, 2, none⟩) (by rw [hz3]; simp)).trans (k3 2)
    have m3 := (B6.cell (p := ⟨w2.heap.size, 3, none⟩) (by rw [hz3]; simp)).trans (k3 3)
    have m4 := (B6.cell (p := ⟨w2.heap.size, 4, none⟩) (by rw [hz3]; simp)).trans (k3 4)
    have n0 := (b6.cell (p := ⟨w4.heap.size, 0, none⟩) (by rw [hz5]; simp)).trans (k5 0)
    have n1 := (b6.cell (p := ⟨w4.heap.size, 1, none⟩) (by rw [hz5]; simp)).trans (k5 1)
    have n2 := (b6.cell (p := ⟨w4.heap.size, 2, none⟩) (by rw [hz5]; simp)).trans (k5 2)
    have n3 := (b6.cell (p := ⟨w4.heap.size, 3, none⟩) (by rw [hz5]; simp)).trans (k5 3)
    have n4 := (b6.cell (p := ⟨w4.heap.size, 4, none⟩) (by rw [hz5]; simp)).trans (k5 4)
    have HX := Lib.hid (HA5.out.below b6)
    have HY := Lib.hid (HA3.out.below B6)
    have i6 := (B6.cell (p := ⟨w.heap.size, 8, none⟩) (by rw [hz3]; simp; omega)).trans i3
    have hz6 := B6.size
    have hz7 := b6.size
    clear k3 k5 b3 b4 b5 b6 B5 B6 HA3 HA4 HA5 HAT HR i3
    go_wp2_with fail
    refine (rone_any 2 ⟨#[97]⟩ ⟨#[]⟩ false _ _ [] _ HX.out HY.out (by decide)).mono ?_
    rintro e w8 ⟨rfl, b8⟩
    have i8 := (b8.cell (p := ⟨w.heap.size, 8, none⟩) (by simp; omega)).trans i6
    have B8 := Lib.hid (BB.out.trans (b8.mono BB.out.size))
    clear m0 m1 m2 m3 m4 n0 n1 n2 n3 n4 b8 i6
    go_wp2
    go_ret
    exact ⟨rfl, B8.out⟩
  · rw [show ((9 : Nat) : Int) = 9 from rfl]
    have i0 : w2.cell? ⟨w.heap.size, 9, none⟩ = some (.string ⟨#[60, 97, 32, 98, 61, 62]⟩) := by rw [← HW2.out]; exact allocs_cell w (knownObjs w) 0 _ _ rfl 9
    have o0 : w2.cell? ⟨w.heap.size + 1 + 1 + 1 + 1 + 1 + 1 + 1 + 1 + 1 + 1 + 1 + 1, 45, none⟩ = some (.int .i64 0) := by rw [← HW2.out]; exact allocs_cell w (knownObjs w) 12 _ _ rfl 45
    have o1 : w2.cell? ⟨w.heap.size + 1 + 1 + 1 + 1 + 1 + 1 + 1 + 1 + 1 + 1 + 1 + 1, 46, none⟩ = some (.string ⟨#[]⟩) := by rw [← HW2.out]; exact allocs_cell w (knownObjs w) 12 _ _ rfl 46
    have o2 : w2.cell? ⟨w.heap.size + 1 + 1 + 1 + 1 + 1 + 1 + 1 + 1 + 1 + 1 + 1 + 1, 47, none⟩ = some (.slice (some ⟨w.heap.size + 1 + 1 + 1 + 1 + 1 + 1 + 1 + 1 + 1, 0, none⟩) 1 1) := by rw [← HW2.out]; exact allocs_cell w (knownObjs w) 12 _ _ rfl 47
    have o3 : w2.cell? ⟨w.heap.size + 1 + 1 + 1 + 1 + 1 + 1 + 1 + 1 + 1 + 1 + 1 + 1, 48, none⟩ = some (.bool false) := by rw [← HW2.out]; exact allocs_cell w (knownObjs w) 12 _ _ rfl 48
    have o4 : w2.cell? ⟨w.heap.size + 1 + 1 + 1 + 1 + 1 + 1 + 1 + 1 + 1 + 1 + 1 + 1, 49, none⟩ = some (.string ⟨#[]⟩) := by rw [← HW2.out]; exact allocs_cell w (knownObjs w) 12 _ _ rfl 49
    have a0 : w2.cell? ⟨w.heap.size + 1 + 1 + 1 + 1 + 1 + 1 + 1 + 1 + 1, 0, none⟩ = some (.string ⟨#[98]⟩) := by rw [← HW2.out]; exact allocs_cell w (knownObjs w) 9 _ _ rfl 0
    have a1 : w2.cell? ⟨w.heap.size + 1 + 1 + 1 + 1 + 1 + 1 + 1 + 1 + 1, 1, none⟩ = some (.string ⟨#[]⟩) := by rw [← HW2.out]; exact allocs_cell w (knownObjs w) 9 _ _ rfl 1
    have HAT : Hid (AttrsAt w2 (.slice (some ⟨w.heap.size + 1 + 1 + 1 + 1 + 1 + 1 + 1 + 1 + 1, 0, none⟩) 1 1) [([98], [])]) := Lib.hid ⟨_, _, rfl, fun j hj => ⟨w.heap.size + 1 + 1 + 1 + 1 + 1 + 1 + 1 + 1 + 1, rfl, by omega, by
      match j, hj with
      | 0, _ => exact ⟨a0, a1⟩⟩⟩
    have HR := fun W h1 h2 => Lib.hid (read_is ⟨#[60, 97, 32, 98, 61, 62]⟩ 1 [97] [([98], [])] false 6 W h1 h2 (by decide) (by decide) (by decide) (by decide) (by decide))
    clear HW2 a0 a1
    go_wp2_with fail
    have b3 := b2.alloc b2.size (.cells #[.int .i64 1, .string ⟨#[97]⟩, .slice (some ⟨w.heap.size + 1 + 1 + 1 + 1 + 1 + 1 + 1 + 1 + 1, 0, none⟩) 1 1, .bool false, .string ⟨#[]⟩] 31)
    have k3 := tok_cells w2 (.int .i64 1) (.string ⟨#[97]⟩) (.slice (some ⟨w.heap.size + 1 + 1 + 1 + 1 + 1 + 1 + 1 + 1 + 1, 0, none⟩) 1 1) (.bool false) (.string ⟨#[]⟩)
    have HA3 := Lib.hid (HAT.out.below ((Below.refl _ w2).alloc (Nat.le_refl _) (.cells #[.int .i64 1, .string ⟨#[97]⟩, .slice (some ⟨w.heap.size + 1 + 1 + 1 + 1 + 1 + 1 + 1 + 1 + 1, 0, none⟩) 1 1, .bool false, .string ⟨#[]⟩] 31)))
    have hz3 : (w2.alloc (.cells #[.int .i64 1, .string ⟨#[97]⟩, .slice (some ⟨w.heap.size + 1 + 1 + 1 + 1 + 1 + 1 + 1 + 1 + 1, 0, none⟩) 1 1, .bool false, .string ⟨#[]⟩] 31)).heap.size = w2.heap.size + 1 := by simp
    have i3 : (w2.alloc (.cells #[.int .i64 1, .string ⟨#[97]⟩, .slice (some ⟨w.heap.size + 1 + 1 + 1 + 1 + 1 + 1 + 1 + 1 + 1, 0, none⟩) 1 1, .bool false, .string ⟨#[]⟩] 31)).cell? ⟨w.heap.size, 9, none⟩ = some (.string ⟨#[60, 97, 32, 98, 61, 62]⟩) := by rw [World.cell?_alloc_lt _ _ _ (by simp; omega)]; exact i0
    clear o0 o1 o2 o3 o4 i0
    generalize w2.alloc (.cells #[.int .i64 1, .string ⟨#[97]⟩, .slice (some ⟨w.heap.size + 1 + 1 + 1 + 1 + 1 + 1 + 1 + 1 + 1, 0, none⟩) 1 1, .bool false, .string ⟨#[]⟩] 31) = W3 at *
    refine (HR _ (HMX.out.below b3) (HEA.out.below b3 hE)).out.mono ?_
    rintro e w4 ⟨v4, rfl, ha4, b4⟩
    have HA4 := Lib.hid ha4
    obtain ⟨p4, c4, rfl, hq4⟩ := ha4
    clear hq4
    have b5 := b4.alloc b4.size (.cells #[.int .i64 1, .string ⟨#[97]⟩, .slice p4 1 c4, .bool false, .string ⟨#[]⟩] 31)
    have k5 := tok_cells w4 (.int .i64 1) (.string ⟨#[97]⟩) (.slice p4 1 c4) (.bool false) (.string ⟨#[]⟩)
    have hz5 : (w4.alloc (.cells #[.int .i64 1, .string ⟨#[97]⟩, .slice p4 1 c4, .bool false, .string ⟨#[]⟩] 31)).heap.size = w4.heap.size + 1 := by simp
    have HA5 := Lib.hid (HA4.out.below ((Below.refl _ w4).alloc (Nat.le_refl _) (.cells #[.int .i64 1, .string ⟨#[97]⟩, .slice p4 1 c4, .bool false, .string ⟨#[]⟩] 31)))
    have hs4 := b4.size
    go_wp2_with fail
    have HA5 : Hid (AttrsAt (w4.alloc (.cells #[.int .i64 1, .string ⟨#[97]⟩, .slice p4 1 c4, .bool false, .string ⟨#[]⟩] 31)) (.slice p4 1 c4) [([98], [])]) := HA5
    generalize w4.alloc (.cells #[.int .i64 1, .string ⟨#[97]⟩, .slice p4 1 c4, .bool false, .string ⟨#[]⟩] 31) = W5 at *
    have B5 := b3.trans (b5.mono b3.size)
    refine (known3_yes W5 (HMX.out.below B5) (HEA.out.below B5 hE)).mono ?_
    rintro e w6 ⟨rfl, b6⟩
    have B6 := b5.trans (b6.mono b5.size)
    have BB := Lib.hid (B5.trans (b6.mono B5.size))
    have m0 := (B6.cell (p := ⟨w2.heap.size, 0, none⟩) (by rw [hz3]; simp)).trans (k3 0)
    have m1 := (B6.cell (p := ⟨w2.heap.size, 1, none⟩) (by rw [hz3]; simp)).trans (k3 1)
    have m2 := (B6.cell (p := ⟨w2.heap.size, 2, none⟩) (by rw [hz3]; simp)).trans (k3 2)
    have m3 := (B6.cell (p := ⟨w2.heap.size, 3, none⟩) (by rw [hz3]; simp)).trans (k3 3)
    have m4 := (B6.cell (p := ⟨w2.heap.size, 4, none⟩) (by rw [hz3]; simp)).trans (k3 4)
    have n0 := (b6.cell (p := ⟨w4.heap.size, 0, none⟩) (by rw [hz5]; simp)).trans (k5 0)
    have n1 := (b6.cell (p := ⟨w4.heap.size, 1, none⟩) (by rw [hz5]; simp)).trans (k5 1)
    have n2 := (b6.cell (p := ⟨w4.heap.size, 2, none⟩) (by rw [hz5]; simp)).trans (k5 2)
    have n3 := (b6.cell (p := ⟨w4.heap.size, 3, none⟩) (by rw [hz5]; simp)).trans (k5 3)
    have n4 := (b6.cell (p := ⟨w4.heap.size, 4, none⟩) (by rw [hz5]; simp)).trans (k5 4)
    have HX := Lib.hid (HA5.out.below b6)
    have HY := Lib.hid (HA3.out.below B6)
    have i6 := (B6.cell (p := ⟨w.heap.size, 9, none⟩) (by rw [hz3]; simp; omega)).trans i3
    have hz6 := B6.size
    have hz7 := b6.size
    clear k3 k5 b3 b4 b5 b6 B5 B6 HA3 HA4 HA5 HAT HR i3
    go_wp2_with fail
    refine (rone_any 1 ⟨#[97]⟩ ⟨#[]⟩ false _ _ [([98], [])] _ HX.out HY.out (by decide)).mono ?_
    rintro e w8 ⟨rfl, b8⟩
    have i8 := (b8.cell (p := ⟨w.heap.size, 9, none⟩) (by simp; omega)).trans i6
    have B8 := Lib.hid (BB.out.trans (b8.mono BB.out.size))
    clear m0 m1 m2 m3 m4 n0 n1 n2 n3 n4 b8 i6
    go_wp2
    go_ret
    exact ⟨rfl, B8.out⟩
  · rw [show ((10 : Nat) : Int) = 10 from rfl]
    have i0 : w2.cell? ⟨w.heap.size, 10, none⟩ = some (.string ⟨#[60, 97, 32, 98, 61, 32, 62]⟩) := by rw [← HW2.out]; exact allocs_cell w (knownObjs w) 0 _ _ rfl 10
    have o0 : w2.cell? ⟨w.heap.size + 1 + 1 + 1 + 1 + 1 + 1 + 1 + 1 + 1 + 1 + 1 + 1, 50, none⟩ = some (.int .i64 0) := by rw [← HW2.out]; exact allocs_cell w (knownObjs w) 12 _ _ rfl 50
    have o1 : w2.cell? ⟨w.heap.size + 1 + 1 + 1 + 1 + 1 + 1 + 1 + 1 + 1 + 1 + 1 + 1, 51, none⟩ = some (.string ⟨#[]⟩) := by rw [← HW2.out]; exact allocs_cell w (knownObjs w) 12 _ _ rfl 51
    have o2 : w2.cell? ⟨w.heap.size + 1 + 1 + 1 + 1 + 1 + 1 + 1 + 1 + 1 + 1 + 1 + 1, 52, none⟩ = some (.slice (some ⟨w.heap.size + 1 + 1 + 1 + 1 + 1 + 1 + 1 + 1 + 1 + 1, 0, none⟩) 1 1) := by rw [← HW2.out]; exact allocs_cell w (knownObjs w) 12 _ _ rfl 52
    have o3 : w2.cell? ⟨w.heap.size + 1 + 1 + 1 + 1 + 1 + 1 + 1 + 1 + 1 + 1 + 1 + 1, 53, none⟩ = some (.bool false) := by rw [← HW2.out]; exact allocs_cell w (knownObjs w) 12 _ _ rfl 53
    have o4 : w2.cell? ⟨w.heap.size + 1 + 1 + 1 + 1 + 1 + 1 + 1 + 1 + 1 + 1 + 1 + 1, 54, none⟩ = some (.string ⟨#[]⟩) := by rw [← HW2.out]; exact allocs_cell w (knownObjs w) 12 _ _ rfl 54
    have a0 : w2.cell? ⟨w.heap.size + 1 + 1 + 1 + 1 + 1 + 1 + 1 + 1 + 1 + 1, 0, none⟩ = some (.string ⟨#[98]⟩) := by rw [← HW2.out]; exact allocs_cell w (knownObjs w) 10 _ _ rfl 0
    have a1 : w2.cell? ⟨w.heap.size + 1 + 1 + 1 + 1 + 1 + 1 + 1 + 1 + 1 + 1, 1, none⟩ = some (.string ⟨#[]⟩) := by rw [← HW2.out]; exact allocs_cell w (knownObjs w) 10 _ _ rfl 1
    have HAT : Hid (AttrsAt w2 (.slice (some ⟨w.heap.size + 1 + 1 + 1 + 1 + 1 + 1 + 1 + 1 + 1 + 1, 0, none⟩) 1 1) [([98], [])]) := Lib.hid ⟨_, _, rfl, fun j hj => ⟨w.heap.size + 1 + 1 + 1 + 1 + 1 + 1 + 1 + 1 + 1 + 1, rfl, by omega, by
      match j, hj with
      | 0, _ => exact ⟨a0, a1⟩⟩⟩
    have HR := fun W h1 h2 => Lib.hid (read_is ⟨#[60, 97, 32, 98, 61, 32, 62]⟩ 1 [97] [([98], [])] false 7 W h1 h2 (by decide) (by decide) (by decide) (by decide) (by decide))
    clear HW2 a0 a1
    go_wp2_with fail
    have b3 := b2.alloc b2.size (.cells #[.int .i64 1, .string ⟨#[97]⟩, .slice (some ⟨w.heap.size + 1 + 1 + 1 + 1 + 1 + 1 + 1 + 1 + 1 + 1, 0, none⟩) 1 1, .bool false, .string ⟨#[]⟩] 31)
    have k3 := tok_cells w2 (.int .i64 1) (.string ⟨#[97]⟩) (.slice (some ⟨w.heap.size + 1 + 1 + 1 + 1 + 1 + 1 + 1 + 1 + 1 + 1, 0, none⟩) 1 1) (.bool false) (.string ⟨#[]⟩)
    have HA3 := Lib.hid (HAT.out.below ((Below.refl _ w2).alloc (Nat.le_refl _) (.cells #[.int .i64 1, .string ⟨#[97]⟩, .slice (some ⟨w.heap.size + 1 + 1 + 1 + 1 + 1 + 1 + 1 + 1 + 1 + 1, 0, none⟩) 1 1, .bool false, .string ⟨#[]⟩] 31)))
    have hz3 : (w2.alloc (.cells #[.int .i64 1, .string ⟨#[97]⟩, .slice (some ⟨w.heap.size + 1 + 1 + 1 + 1 + 1 + 1 + 1 + 1 + 1 + 1, 0, none⟩) 1 1, .bool false, .string ⟨#[]⟩] 31)).heap.size = w2.heap.size + 1 := by simp
    have i3 : (w2.alloc (.cells #[.int .i64 1, .string ⟨#[97]⟩, .slice (some ⟨w.heap.size + 1 + 1 + 1 + 1 + 1 + 1 + 1 + 1 + 1 + 1, 0, none⟩) 1 1, .bool false, .string ⟨#[]⟩] 31)).cell? ⟨w.heap.size, 10, none⟩ = some (.string ⟨#[60, 97, 32, 98, 61, 32, 62]⟩) := by rw [World.cell?_alloc_lt _ _ _ (by simp; omega)]; exact i0
    clear o0 o1 o2 o3 o4 i0
    generalize w2.alloc (.cells #[.int .i64 1, .string ⟨#[97]⟩, .slice (some ⟨w.heap.size + 1 + 1 + 1 + 1 + 1 + 1 + 1 + 1 + 1 + 1, 0, none⟩) 1 1, .bool false, .string ⟨#[]⟩] 31) = W3 at *
    refine (HR _ (HMX.out.below b3) (HEA.out.below b3 hE)).out.mono ?_
    rintro e w4 ⟨v4, rfl, ha4, b4⟩
    have HA4 := Lib.hid ha4
    obtain ⟨p4, c4, rfl, hq4⟩ := ha4
    clear hq4
    have b5 := b4.alloc b4.size (.cells #[.int .i64 1, .string ⟨#[97]⟩, .slice p4 1 c4, .bool false, .string ⟨#[]⟩] 31)
    have k5 := tok_cells w4 (.int .i64 1) (.string ⟨#[97]⟩) (.slice p4 1 c4) (.bool false) (.string ⟨#[]⟩)
    have hz5 : (w4.alloc (.cells #[.int .i64 1, .string ⟨#[97]⟩, .slice p4 1 c4, .bool false, .string ⟨#[]⟩] 31)).heap.size = w4.heap.size + 1 := by simp
    have HA5 := Lib.hid (HA4.out.below ((Below.refl _ w4).alloc (Nat.le_refl _) (.cells #[.int .i64 1, .string ⟨#[97]⟩, .slice p4 1 c4, .bool false, .string ⟨#[]⟩] 31)))
    have hs4 := b4.size
    go_wp2_with fail
    have HA5 : Hid (AttrsAt (w4.alloc (.cells #[.int .i64 1, .string ⟨#[97]⟩, .slice p4 1 c4, .bool false, .string ⟨#[]⟩] 31)) (.slice p4 1 c4) [([98], [])]) := HA5
    generalize w4.alloc (.cells #[.int .i64 1, .string ⟨#[97]⟩, .slice p4 1 c4, .bool false, .string ⟨#[]⟩] 31) = W5 at *
    have B5 := b3.trans (b5.mono b3.size)
    refine (known3_yes W5 (HMX.out.below B5) (HEA.out.below B5 hE)).mono ?_
    rintro e w6 ⟨rfl, b6⟩
    have B6 := b5.trans (b6.mono b5.size)
    have BB := Lib.hid (B5.trans (b6.mono B5.size))
    have m0 := (B6.cell (p := ⟨w2.heap.size, 0, none⟩) (by rw [hz3]; simp)).trans (k3 0)
    have m1 := (B6.cell (p := ⟨w2.heap.size, 1, none⟩) (by rw [hz3]; simp)).trans (k3 1)
    have m2 := (B6.cell (p := ⟨w2.heap.size, 2, none⟩) (by rw [hz3]; simp)).trans (k3 2)
    have m3 := (B6.cell (p := ⟨w2.heap.size, 3, none⟩) (by rw [hz3]; simp)).trans (k3 3)
    have m4 := (B6.cell (p := ⟨w2.heap.size, 4, none⟩) (by rw [hz3]; simp)).trans (k3 4)
    have n0 := (b6.cell (p := ⟨w4.heap.size, 0, none⟩) (by rw [hz5]; simp)).trans (k5 0)
    have n1 := (b6.cell (p := ⟨w4.heap.size, 1, none⟩) (by rw [hz5]; simp)).trans (k5 1)
    have n2 := (b6.cell (p := ⟨w4.heap.size, 2, none⟩) (by rw [hz5]; simp)).trans (k5 2)
    have n3 := (b6.cell (p := ⟨w4.heap.size, 3, none⟩) (by rw [hz5]; simp)).trans (k5 3)
    have n4 := (b6.cell (p := ⟨w4.heap.size, 4, none⟩) (by rw [hz5]; simp)).trans (k5 4)
    have HX := Lib.hid (HA5.out.below b6)
    have HY := Lib.hid (HA3.out.below B6)
    have i6 := (B6.cell (p := ⟨w.heap.size, 10, none⟩) (by rw [hz3]; simp; omega)).trans i3
    have hz6 := B6.size
    have hz7 := b6.size
    clear k3 k5 b3 b4 b5 b6 B5 B6 HA3 HA4 HA5 HAT HR i3
    go_wp2_with fail
    refine (rone_any 1 ⟨#[97]⟩ ⟨#[]⟩ false _ _ [([98], [])] _ HX.out HY.out (by decide)).mono ?_
    rintro e w8 ⟨rfl, b8⟩
    have i8 := (b8.cell (p := ⟨w.heap.size, 10, none⟩) (by simp; omega)).trans i6
    have B8 := Lib.hid (BB.out.trans (b8.mono BB.out.size))
    clear m0 m1 m2 m3 m4 n0 n1 n2 n3 n4 b8 i6
    go_wp2
    go_ret
    exact ⟨rfl, B8.out⟩
  · rw [show ((11 : Nat) : Int) = 11 from rfl]
    have i0 : w2.cell? ⟨w.heap.size, 11, none⟩ = some (.string ⟨#[60, 97, 32, 98, 39, 39, 61, 99, 62]⟩) := by rw [← HW2.out]; exact allocs_cell w (knownObjs w) 0 _ _ rfl 11
    have o0 : w2.cell? ⟨w.heap.size + 1 + 1 + 1 + 1 + 1 + 1 + 1 + 1 + 1 + 1 + 1 + 1, 55, none⟩ = some (.int .i64 0) := by rw [← HW2.out]; exact allocs_cell w (knownObjs w) 12 _ _ rfl 55
    have o1 : w2.cell? ⟨w.heap.size + 1 + 1 + 1 + 1 + 1 + 1 + 1 + 1 + 1 + 1 + 1 + 1, 56, none⟩ = some (.string ⟨#[]⟩) := by rw [← HW2.out]; exact allocs_cell w (knownObjs w) 12 _ _ rfl 56
    have o2 : w2.cell? ⟨w.heap.size + 1 + 1 + 1 + 1 + 1 + 1 + 1 + 1 + 1 + 1 + 1 + 1, 57, none⟩ = some (.slice (some ⟨w.heap.size + 1 + 1 + 1 + 1 + 1 + 1 + 1 + 1 + 1 + 1 + 1, 0, none⟩) 1 1) := by rw [← HW2.out]; exact allocs_cell w (knownObjs w) 12 _ _ rfl 57
    have o3 : w2.cell? ⟨w.heap.size + 1 + 1 + 1 + 1 + 1 + 1 + 1 + 1 + 1 + 1 + 1 + 1, 58, none⟩ = some (.bool false) := by rw [← HW2.out]; exact allocs_cell w (knownObjs w) 12 _ _ rfl 58
    have o4 : w2.cell? ⟨w.heap.size + 1 + 1 + 1 + 1 + 1 + 1 + 1 + 1 + 1 + 1 + 1 + 1, 59, none⟩ = some (.string ⟨#[]⟩) := by rw [← HW2.out]; exact allocs_cell w (knownObjs w) 12 _ _ rfl 59
    have a0 : w2.cell? ⟨w.heap.size + 1 + 1 + 1 + 1 + 1 + 1 + 1 + 1 + 1 + 1 + 1, 0, none⟩ = some (.string ⟨#[98, 39, 39]⟩) := by rw [← HW2.out]; exact allocs_cell w (knownObjs w) 11 _ _ rfl 0
    have a1 : w2.cell? ⟨w.heap.size + 1 + 1 + 1 + 1 + 1 + 1 + 1 + 1 + 1 + 1 + 1, 1, none⟩ = some (.string ⟨#[99]⟩) := by rw [← HW2.out]; exact allocs_cell w (knownObjs w) 11 _ _ rfl 1
    have HAT : Hid (AttrsAt w2 (.slice (some ⟨w.heap.size + 1 + 1 + 1 + 1 + 1 + 1 + 1 + 1 + 1 + 1 + 1, 0, none⟩) 1 1) [([98, 39, 39], [99])]) := Lib.hid ⟨_, _, rfl, fun j hj => ⟨w.heap.size + 1 + 1 + 1 + 1 + 1 + 1 + 1 + 1 + 1 + 1 + 1, rfl, by omega, by
      match j, hj with
      | 0, _ => exact ⟨a0, a1⟩⟩⟩
    have HR := fun W h1 h2 => Lib.hid (read_is ⟨#[60, 97, 32, 98, 39, 39, 61, 99, 62]⟩ 1 [97] [([98, 39, 39], [99])] false 9 W h1 h2 (by decide) (by decide) (by decide) (by decide) (by decide))
    clear HW2 a0 a1
    go_wp2_with fail
    have b3 := b2.alloc b2.size (.cells #[.int .i64 1, .string ⟨#[97]⟩, .slice (some ⟨w.heap.size + 1 + 1 + 1 + 1 + 1 + 1 + 1 + 1 + 1 + 1 + 1, 0, none⟩) 1 1, .bool false, .string ⟨#[]⟩] 31)
    have k3 := tok_cells w2 (.int .i64 1) (.string ⟨#[97]⟩) (.slice (some ⟨w.heap.size + 1 + 1 + 1 + 1 + 1 + 1 + 1 + 1 + 1 + 1 + 1, 0, none⟩) 1 1) (.bool false) (.string ⟨#[]⟩)
    have HA3 := Lib.hid (HAT.out.below ((Below.refl _ w2).alloc (Nat.le_refl _) (.cells #[.int .i64 1, .string ⟨#[97]⟩, .slice (some ⟨w.heap.size + 1 + 1 + 1 + 1 + 1 + 1 + 1 + 1 + 1 + 1 + 1, 0, none⟩) 1 1, .bool false, .string ⟨#[]⟩] 31)))
    have hz3 : (w2.alloc (.cells #[.int .i64 1, .string ⟨#[97]⟩, .slice (some ⟨w.heap.size + 1 + 1 + 1 + 1 + 1 + 1 + 1 + 1 + 1 + 1 + 1, 0, none⟩) 1 1, .bool false, .string ⟨#[]⟩] 31)).heap.size = w2.heap.size + 1 := by simp
    have i3 : (w2.alloc (.cells #[.int .i64 1, .string ⟨#[97]⟩, .slice (some ⟨w.heap.size + 1 + 1 + 1 + 1 + 1 + 1 + 1 + 1 + 1 + 1 + 1, 0, none⟩) 1 1, .bool false, .string ⟨#[]⟩] 31)).cell? ⟨w.heap.size, 11, none⟩ = some (.string ⟨#[60, 97, 32, 98, 39, 39, 61, 99, 62]⟩) := by rw [World.cell?_alloc_lt _ _ _ (by simp; omega)]; exact i0
    clear o0 o1 o2 o3 o4 i0
    generalize w2.alloc (.cells #[.int .i64 1, .string ⟨#[97]⟩, .slice (some ⟨w.heap.size + 1 + 1 + 1 + 1 + 1 + 1 + 1 + 1 + 1 + 1 + 1, 0, none⟩) 1 1, .bool false, .string ⟨#[]⟩] 31) = W3 at *
    refine (HR _ (HMX.out.below b3) (HEA.out.below b3 hE)).out.mono ?_
    rintro e w4 ⟨v4, rfl, ha4, b4⟩
    have HA4 := Lib.hid ha4
    obtain ⟨p4, c4, rfl, hq4⟩ := ha4
    clear hq4
    have b5 := b4.alloc b4.size (.cells #[.int .i64 1, .string ⟨#[97]⟩, .slice p4 1 c4, .bool false, .string ⟨#[]⟩] 31)
    have k5 := tok_cells w4 (.int .i64 1) (.string ⟨#[97]⟩) (.slice p4 1 c4) (.bool false) (.string ⟨#[]⟩)
    have hz5 : (w4.alloc (.cells #[.int .i64 1, .string ⟨#[97]⟩, .slice p4 1 c4, .bool false, .string ⟨#[]⟩] 31)).heap.size = w4.heap.size + 1 := by simp
    have HA5 := Lib.hid (HA4.out.below ((Below.refl _ w4).alloc (Nat.le_refl _) (.cells #[.int .i64 1, .string ⟨#[97]⟩, .slice p4 1 c4, .bool false, .string ⟨#[]⟩] 31)))
    have hs4 := b4.size
    go_wp2_with fail
    have HA5 : Hid (AttrsAt (w4.alloc (.cells #[.int .i64 1, .string ⟨#[97]⟩, .slice p4 1 c4, .bool false, .string ⟨#[]⟩] 31)) (.slice p4 1 c4) [([98, 39, 39], [99])]) := HA5
    generalize w4.alloc (.cells #[.int .i64 1, .string ⟨#[97]⟩, .slice p4 1 c4, .bool false, .string ⟨#[]⟩] 31) = W5 at *
    have B5 := b3.trans (b5.mono b3.size)
    refine (known3_yes W5 (HMX.out.below B5) (HEA.out.below B5 hE)).mono ?_
    rintro e w6 ⟨rfl, b6⟩
    have B6 := b5.trans (b6.mono b5.size)
    have BB := Lib.hid (B5.trans (b6.mono B5.size))
    have m0 := (B6.cell (p := ⟨w2.heap.size, 0, none⟩) (by rw [hz3]; simp)).trans (k3 0)
    have m1 := (B6.cell (p := ⟨w2.heap.size, 1, none⟩) (by rw [hz3]; simp)).trans (k3 1)
    have m2 := (B6.cell (p := ⟨w2.heap.size, 2, none⟩) (by rw [hz3]; simp)).trans (k3 2)
    have m3 := (B6.cell (p := ⟨w2.heap.size, 3, none⟩) (by rw [hz3]; simp)).trans (k3 3)
    have m4 := (B6.cell (p := ⟨w2.heap.size, 4, none⟩) (by rw [hz3]; simp)).trans (k3 4)
    have n0 := (b6.cell (p := ⟨w4.heap.size, 0, none⟩) (by rw [hz5]; simp)).trans (k5 0)
    have n1 := (b6.cell (p := ⟨w4.heap.size, 1, none⟩) (by rw [hz5]; simp)).trans (k5 1)
    have n2 := (b6.cell (p := ⟨w4.heap.size, 2, none⟩) (by rw [hz5]; simp)).trans (k5 2)
    have n3 := (b6.cell (p := ⟨w4.heap.size, 3, none⟩) (by rw [hz5]; simp)).trans (k5 3)
    have n4 := (b6.cell (p := ⟨w4.heap.size, 4, none⟩) (by rw [hz5]; simp)).trans (k5 4)
    have HX := Lib.hid (HA5.out.below b6)
    have HY := Lib.hid (HA3.out.below B6)
    have i6 := (B6.cell (p := ⟨w.heap.size, 11, none⟩) (by rw [hz3]; simp; omega)).trans i3
    have hz6 := B6.size
    have hz7 := b6.size
    clear k3 k5 b3 b4 b5 b6 B5 B6 HA3 HA4 HA5 HAT HR i3
    go_wp2_with fail
    refine (rone_any 1 ⟨#[97]⟩ ⟨#[]⟩ false _ _ [([98, 39, 39], [99])] _ HX.out HY.out (by decide)).mono ?_
    rintro e w8 ⟨rfl, b8⟩
    have i8 := (b8.cell (p := ⟨w.heap.size, 11, none⟩) (by simp; omega)).trans i6
    have B8 := Lib.hid (BB.out.trans (b8.mono BB.out.size))
    clear m0 m1 m2 m3 m4 n0 n1 n2 n3 n4 b8 i6
    go_wp2
    go_ret
    exact ⟨rfl, B8.out⟩
end Go.Proofs.YtklhllgdkmpnmaaDoor
