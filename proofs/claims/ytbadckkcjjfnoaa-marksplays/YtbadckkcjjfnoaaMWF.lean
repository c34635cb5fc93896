/-
  The walks of the laws' Name, Attrs (chapter 7).
-/
import Derived.Test.YtbadckkcjjfnoaaMWE
import Derived.Test.YtbadckkcjjfnoaaMTape
namespace Go.Proofs.Ytbadckkcjjfnoaa
open Go.RowKit

def nm7 : Nat → List UInt8
  | 0 => [98]
  | 1 => [105]
  | 2 => [97]
  | 3 => [101, 109]
  | _ => [110, 111, 98, 114]
def TellsN (l : List UInt8) (w : World) (e : Ending) (w' : World) : Prop := e = .returned (.string ⟨l.toArray⟩) ∧ Below w.heap.size w w'
set_option maxHeartbeats 1000000 in
set_option maxRecDepth 100000 in
theorem name7 (n : Int) (w : World) (h0 : -9223372036854775808 ≤ n) (h1 : n ≤ 9223372036854775807) : Calls Try.prog 24 #[.int .i64 n] w (TellsN (nm7 (Within n 5)) w) := by
  have HW : Hid (∀ W, Calls Try.prog 26 #[.int .i64 n, .int .i64 5] W (Gives (.int .i64 ((Within n 5 : Nat) : Int)) W)) := Lib.hid fun W => within7 n 5 W h0 h1 (by omega) (by omega)
  have hl := (within_lt n 5 (by omega)).1
  have HB : Hid (Below w.heap.size w (w.alloc (.cells #[.string ⟨#[98]⟩, .string ⟨#[105]⟩, .string ⟨#[97]⟩, .string ⟨#[101, 109]⟩, .string ⟨#[110, 111, 98, 114]⟩] 9))) := Lib.hid ((Below.refl _ w).alloc (Nat.le_refl _) _)
  generalize Within n 5 = r at *
  clear h0 h1
  match r, hl with
  | 0, _ =>
    go_enter Try.func24, Try.ntmps24
    go_wp2_with fail
    refine (HW.out _).mono ?_
    rintro e w1 ⟨rfl, rfl⟩
    go_wp2_with fail
    go_ret
    exact ⟨rfl, HB.out⟩
  | 1, _ =>
    go_enter Try.func24, Try.ntmps24
    go_wp2_with fail
    refine (HW.out _).mono ?_
    rintro e w1 ⟨rfl, rfl⟩
    go_wp2_with fail
    go_ret
    exact ⟨rfl, HB.out⟩
  | 2, _ =>
    go_enter Try.func24, Try.ntmps24
    go_wp2_with fail
    refine (HW.out _).mono ?_
    rintro e w1 ⟨rfl, rfl⟩
    go_wp2_with fail
    go_ret
    exact ⟨rfl, HB.out⟩
  | 3, _ =>
    go_enter Try.func24, Try.ntmps24
    go_wp2_with fail
    refine (HW.out _).mono ?_
    rintro e w1 ⟨rfl, rfl⟩
    go_wp2_with fail
    go_ret
    exact ⟨rfl, HB.out⟩
  | 4, _ =>
    go_enter Try.func24, Try.ntmps24
    go_wp2_with fail
    refine (HW.out _).mono ?_
    rintro e w1 ⟨rfl, rfl⟩
    go_wp2_with fail
    go_ret
    exact ⟨rfl, HB.out⟩
def at7 : Nat → List (List UInt8 × List UInt8)
  | 1 => [([97], [49])]
  | 2 => [([97], [49]), ([98], [50])]
  | 3 => [([98], [50]), ([97], [49])]
  | 4 => [([97], [50])]
  | _ => []
def AttrsOut (l : List (List UInt8 × List UInt8)) (w : World) (e : Ending) (w' : World) : Prop := ∃ p c, e = .returned (.slice p l.length c) ∧ AttrsP (fun b => w.heap.size ≤ b) w' (.slice p l.length c) l ∧ Below w.heap.size w w'
theorem AttrsP.block {w : World} {g c : Nat} {l : List (List UInt8 × List UInt8)} {cs : Array Value} {T : TypeId} {P : Nat → Prop} (h : w.heap[g]? = some (.cells cs T (0, 0))) (hc : cs.toList = atCells l) (hp : P g) : AttrsP P w (.slice (some ⟨g, 0, none⟩) l.length c) l := by
  refine ⟨_, c, rfl, fun _ => ⟨g, 0, rfl, hp, heap_lt h, fun j hj => ?_⟩⟩
  have key : ∀ i, i < 2 → w.cell? ⟨g, 0 + j * 2 + i, none⟩ = (atCell l[j])[i]? := by
    intro i hi
    rw [(block_cell h _).1, ← Array.getElem?_toList, hc, show 0 + j * 2 + i = j * 2 + i by omega, atCells_at l j i hj hi]
  exact ⟨key 0 (by omega), key 1 (by omega)⟩
theorem made3 (w : World) (o1 o2 : Obj) (cs : Array Value) (T : TypeId) : (((w.alloc o1).alloc o2).alloc (.cells cs T)).heap[w.heap.size + 1 + 1]? = some (.cells cs T (0, 0)) := by
  have := heap_alloc_new ((w.alloc o1).alloc o2) (.cells cs T)
  simpa using this
theorem below2 (w : World) (o1 o2 : Obj) : Below w.heap.size w ((w.alloc o1).alloc o2) := ((Below.refl _ w).alloc (Nat.le_refl _) _).alloc (by simp) _
theorem below3 (w : World) (o1 o2 o3 : Obj) : Below w.heap.size w (((w.alloc o1).alloc o2).alloc o3) := (below2 w o1 o2).alloc (by simp; omega) _
set_option maxHeartbeats 1000000 in
set_option maxRecDepth 100000 in
theorem attrs7 (n : Int) (w : World) (h0 : -9223372036854775808 ≤ n) (h1 : n ≤ 9223372036854775807) : Calls Try.prog 25 #[.int .i64 n] w (AttrsOut (at7 (Within n 7)) w) := by
  have HW : Hid (∀ W, Calls Try.prog 26 #[.int .i64 n, .int .i64 7] W (Gives (.int .i64 ((Within n 7 : Nat) : Int)) W)) := Lib.hid fun W => within7 n 7 W h0 h1 (by omega) (by omega)
  have hl := (within_lt n 7 (by omega)).1
  generalize Within n 7 = r at *
  clear h0 h1
  match r, hl with
  | 0, _ =>
    go_enter Try.func25, Try.ntmps25
    go_wp2_with fail
    refine (HW.out _).mono ?_
    rintro e w1 ⟨rfl, rfl⟩
    go_wp2_with fail
    go_ret
    exact ⟨none, 0, rfl, AttrsP.nil _ _ _ _, below2 _ _ _⟩
  | 1, _ =>
    go_enter Try.func25, Try.ntmps25
    go_wp2_with fail
    refine (HW.out _).mono ?_
    rintro e w1 ⟨rfl, rfl⟩
    go_wp2_with fail
    go_ret
    exact ⟨some ⟨w.heap.size + 1 + 1, 0, none⟩, _, rfl, AttrsP.block (l := at7 1) (made3 _ _ _ _ _) rfl (by omega), below3 _ _ _ _⟩
  | 2, _ =>
    go_enter Try.func25, Try.ntmps25
    go_wp2_with fail
    refine (HW.out _).mono ?_
    rintro e w1 ⟨rfl, rfl⟩
    go_wp2_with fail
    go_ret
    exact ⟨some ⟨w.heap.size + 1 + 1, 0, none⟩, _, rfl, AttrsP.block (l := at7 2) (made3 _ _ _ _ _) rfl (by omega), below3 _ _ _ _⟩
  | 3, _ =>
    go_enter Try.func25, Try.ntmps25
    go_wp2_with fail
    refine (HW.out _).mono ?_
    rintro e w1 ⟨rfl, rfl⟩
    go_wp2_with fail
    go_ret
    exact ⟨some ⟨w.heap.size + 1 + 1, 0, none⟩, _, rfl, AttrsP.block (l := at7 3) (made3 _ _ _ _ _) rfl (by omega), below3 _ _ _ _⟩
  | 4, _ =>
    go_enter Try.func25, Try.ntmps25
    go_wp2_with fail
    refine (HW.out _).mono ?_
    rintro e w1 ⟨rfl, rfl⟩
    go_wp2_with fail
    go_ret
    exact ⟨some ⟨w.heap.size + 1 + 1, 0, none⟩, _, rfl, AttrsP.block (l := at7 4) (made3 _ _ _ _ _) rfl (by omega), below3 _ _ _ _⟩
  | 5, _ =>
    go_enter Try.func25, Try.ntmps25
    go_wp2_with fail
    refine (HW.out _).mono ?_
    rintro e w1 ⟨rfl, rfl⟩
    go_wp2_with fail
    go_ret
    exact ⟨none, 0, rfl, AttrsP.nil _ _ _ _, below2 _ _ _⟩
  | 6, _ =>
    go_enter Try.func25, Try.ntmps25
    go_wp2_with fail
    refine (HW.out _).mono ?_
    rintro e w1 ⟨rfl, rfl⟩
    go_wp2_with fail
    go_ret
    exact ⟨none, 0, rfl, AttrsP.nil _ _ _ _, below2 _ _ _⟩
end Go.Proofs.Ytbadckkcjjfnoaa
