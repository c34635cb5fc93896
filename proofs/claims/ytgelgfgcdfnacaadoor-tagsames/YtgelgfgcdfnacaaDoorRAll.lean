/-
  The walk of what makes the reference's names: all. No argument.
-/
import Derived.Test.YtgelgfgcdfnacaaDoorRTab
import Derived.IntWalk
namespace Go.Proofs.YtgelgfgcdfnacaaDoor
open Go.RowKit
attribute [local go_sem ↓] Go.wp_at_zero Go.wp_at_succ

/-- A row of texts that a call owns, at a block. -/
def RowAt (w : World) (B g n cap : Nat) (ls : List (List UInt8)) : Prop := w.ownsRow B 9 1 (.slice (some ⟨g, 0, none⟩) n cap) n (ls.map strV)

theorem RowAt.new (w : World) (B : Nat) (ls : List (List UInt8)) (hB : B ≤ w.heap.size) (hn : ls.length ≤ maxLen) : RowAt (w.alloc (.cells (ls.map strV).toArray 9)) B w.heap.size ls.length ls.length ls :=
  ⟨by simp, .inr ⟨w.heap.size, ls.length, (ls.map strV).toArray, rfl, hB, heap_alloc_new w _, Nat.le_refl _, hn, by simp, by rw [List.toList_toArray, Nat.mul_one, List.take_of_length_le (by simp)]⟩⟩
theorem RowAt.alloc {w : World} {B g n cap : Nat} {ls : List (List UInt8)} (h : RowAt w B g n cap ls) (o : Obj) : RowAt (w.alloc o) B g n cap ls := World.ownsRow.alloc h o
theorem RowAt.drew {w : World} {B g n cap : Nat} {ls : List (List UInt8)} (h : RowAt w B g n cap ls) : RowAt w.drew B g n cap ls := h
theorem RowAt.kept {w w' : World} {B g n cap x : Nat} {ls : List (List UInt8)} (h : RowAt w B g n cap ls) (hg : w.grownBy w' (some x)) (hne : g ≠ x) : RowAt w' B g n cap ls := World.ownsRow.kept h hg (Or.inr (by simpa [Value.ownBlock] using hne))
theorem RowAt.lt {w : World} {B g n cap : Nat} {ls : List (List UInt8)} (h : RowAt w B g n cap ls) : B ≤ g ∧ g < w.heap.size := World.ownsRow.lt h g rfl

/-- A block that is known whole. -/
def BlkAt (w : World) (g : Nat) (cs : Array Value) : Prop := w.heap[g]? = some (.cells cs 9 (0, 0))
theorem BlkAt.new {w : World} {g : Nat} (cs : Array Value) (h : w.heap.size = g) : BlkAt (w.alloc (.cells cs 9)) g cs := by subst h; exact heap_alloc_new w _
theorem BlkAt.alloc {w : World} {g : Nat} {cs : Array Value} (h : BlkAt w g cs) (o : Obj) : BlkAt (w.alloc o) g cs := by
  unfold BlkAt
  rw [heap_alloc_old w o (Array.getElem?_eq_some_iff.1 h).1]
  exact h
theorem BlkAt.drew {w : World} {g : Nat} {cs : Array Value} (h : BlkAt w g cs) : BlkAt w.drew g cs := h
theorem BlkAt.kept {w w' : World} {g x : Nat} {cs : Array Value} (h : BlkAt w g cs) (hg : w.grownBy w' (some x)) (hne : g ≠ x) : BlkAt w' g cs := by
  unfold BlkAt
  rw [hg.block g (Array.getElem?_eq_some_iff.1 h).1 (by simpa using hne)]
  exact h

theorem short_step : ∀ k, k < 13 → Plain.names.take (2 + 2 * (k + 1)) = Plain.names.take (2 + 2 * k) ++ [(Plain.shortW.getD k [], Plain.enc (Plain.shortN.getD k 0)), (Plain.shortW.getD k [] ++ [59], Plain.enc (Plain.shortN.getD k 0))] := by decide
theorem long_step : ∀ k, k < 18 → Plain.names.take (28 + (k + 1)) = Plain.names.take (28 + k) ++ [(Plain.longW.getD k [] ++ [59], Plain.enc (Plain.longN.getD k 0))] := by decide
theorem short_facts : ∀ k, k < 13 → (Plain.shortW.getD k []).length ≤ 10 ∧ Plain.shortN.getD k 0 ≤ 9000 := by decide
theorem long_facts : ∀ k, k < 18 → (Plain.longW.getD k []).length ≤ 10 ∧ Plain.longN.getD k 0 ≤ 9000 := by decide

theorem far {W w' : World} {x b o : Nat} {v : Value} (hg : W.grownBy w' (some x)) (hc : W.cell? ⟨b, o, none⟩ = some v) (hne : b ≠ x) : w'.cell? ⟨b, o, none⟩ = some v := hg.cell hc (by simpa using hne)

theorem enc_val (N : Nat) (h : Plain.Valid N) : strV (Plain.enc N) = .string (Utf8.encode (N : Int)) := (str_of _ _ (Plain.enc_is N h)).symm

/-- What all tells: names and what they stand for. -/
def AllOut (w : World) (e : Ending) (w' : World) : Prop :=
  ∃ l v, e = .returned (.tuple #[l, v]) ∧ TextsAt w' l (Plain.names.map (·.1)) ∧ TextsAt w' v (Plain.names.map (·.2)) ∧ Below w.heap.size w w'

theorem getD_at {α : Type} (l : List α) (k : Nat) (d : α) (h : k < l.length) : l[k] = l.getD k d := by
  rw [List.getD_eq_getElem?_getD, List.getElem?_eq_getElem h]
  rfl

end Go.Proofs.YtgelgfgcdfnacaaDoor
