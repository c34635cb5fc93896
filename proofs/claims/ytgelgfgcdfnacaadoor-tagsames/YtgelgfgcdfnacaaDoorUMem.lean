/-
  The memory in which the reference's Read works: the result's block, the token's block, the row of attributes. No program is walked.
-/
import Derived.Test.YtgelgfgcdfnacaaDoorUFind
import Derived.Deep.AppendLies
import Derived.Laws.OwnMore
import Derived.Lib.SmallJoins
namespace Go.Proofs.YtgelgfgcdfnacaaDoor
open Go.RowKit

/-- The cells of a row of attributes. -/
def attrCells (rs : List (List UInt8 × List UInt8)) : List Value := rs.flatMap fun a => [.string ⟨a.1.toArray⟩, .string ⟨a.2.toArray⟩]
theorem attrCells_snoc (rs : List (List UInt8 × List UInt8)) (a : List UInt8 × List UInt8) : attrCells (rs ++ [a]) = attrCells rs ++ [.string ⟨a.1.toArray⟩, .string ⟨a.2.toArray⟩] := by
  unfold attrCells
  rw [List.flatMap_append]
  simp
theorem attrCells_at : ∀ (rs : List (List UInt8 × List UInt8)) (j : Nat) (hj : j < rs.length), (attrCells rs)[j * 2]? = some (.string ⟨rs[j].1.toArray⟩) ∧ (attrCells rs)[j * 2 + 1]? = some (.string ⟨rs[j].2.toArray⟩)
  | [], j, hj => absurd hj (by simp)
  | a :: r, 0, _ => ⟨rfl, rfl⟩
  | a :: r, j + 1, hj => by
    have h := attrCells_at r j (by simpa using hj)
    have e : attrCells (a :: r) = .string ⟨a.1.toArray⟩ :: .string ⟨a.2.toArray⟩ :: attrCells r := rfl
    rw [e, show (j + 1) * 2 = j * 2 + 1 + 1 by omega, List.getElem?_cons_succ, List.getElem?_cons_succ, List.getElem?_cons_succ, List.getElem?_cons_succ]
    exact h
/-- A row that is owned holds its attributes. -/
theorem AttrsAt.of_row {w : World} {base : Nat} {v : Value} {rs : List (List UInt8 × List UInt8)} (h : w.ownsRow base 49 2 v rs.length (attrCells rs)) : AttrsAt w v rs := by
  rcases Joins.ownsRow_forms h with ⟨rfl, h0⟩ | ⟨g, cap, rfl⟩
  · exact ⟨none, 0, by rw [h0], fun j hj => absurd hj (by omega)⟩
  · refine ⟨some ⟨g, 0, none⟩, cap, rfl, fun j hj => ?_⟩
    have hc := attrCells_at rs j hj
    refine ⟨g, rfl, (h.lt g rfl).2, ?_, ?_⟩
    · rw [h.cellAt (j * 2) (by omega)]; exact hc.1
    · rw [h.cellAt (j * 2 + 1) (by omega)]; exact hc.2

/-- What Read's world holds: the result's block (w's next), the token's block (the one behind it), the row. -/
structure ReadW (w : World) (K : Int) (N : ByteArray) (v : Value) (rs : List (List UInt8 × List UInt8)) (W : World) : Prop where
  lt : w.heap.size + 1 < W.heap.size
  r : ∀ j, W.cell? ⟨w.heap.size, j, none⟩ = (#[.int .i64 0, .string ⟨#[]⟩, .slice none 0 0, .bool false, .string ⟨#[]⟩] : Array Value)[j]?
  fr : ∀ j, W.frozen? ⟨w.heap.size, j, none⟩ = false
  c : ∀ j, W.cell? ⟨w.heap.size + 1, j, none⟩ = (#[.int .i64 K, .string N, v, .bool false, .string ⟨#[]⟩] : Array Value)[j]?
  fc : ∀ j, W.frozen? ⟨w.heap.size + 1, j, none⟩ = false
  row : W.ownsRow (w.heap.size + 2) 49 2 v rs.length (attrCells rs)
  below : Below w.heap.size w W
theorem ReadW.start (w : World) (K : Int) : ReadW w K ⟨#[]⟩ (.slice none 0 0) [] ((w.alloc (.cells #[.int .i64 0, .string ⟨#[]⟩, .slice none 0 0, .bool false, .string ⟨#[]⟩] 27)).alloc (.cells #[.int .i64 K, .string ⟨#[]⟩, .slice none 0 0, .bool false, .string ⟨#[]⟩] 27)) := by
  have k0 : ∀ j, (w.alloc (.cells #[.int .i64 0, .string ⟨#[]⟩, .slice none 0 0, .bool false, .string ⟨#[]⟩] 27)).cell? ⟨w.heap.size, j, none⟩ = (#[.int .i64 0, .string ⟨#[]⟩, .slice none 0 0, .bool false, .string ⟨#[]⟩] : Array Value)[j]? := fun j => World.cell?_alloc_mark w _ 27 (0, 0) j
  have m0 : ∀ j, (w.alloc (.cells #[.int .i64 0, .string ⟨#[]⟩, .slice none 0 0, .bool false, .string ⟨#[]⟩] 27)).frozen? ⟨w.heap.size, j, none⟩ = false := fun j => by rw [World.frozen?_alloc_mark]; simp
  have hz : (w.alloc (.cells #[.int .i64 0, .string ⟨#[]⟩, .slice none 0 0, .bool false, .string ⟨#[]⟩] 27)).heap.size = w.heap.size + 1 := by simp
  have b1 : Below w.heap.size w (w.alloc (.cells #[.int .i64 0, .string ⟨#[]⟩, .slice none 0 0, .bool false, .string ⟨#[]⟩] 27)) := (Below.refl _ w).alloc (Nat.le_refl _) _
  generalize w.alloc (.cells #[.int .i64 0, .string ⟨#[]⟩, .slice none 0 0, .bool false, .string ⟨#[]⟩] 27) = w1 at *
  have k1 : ∀ j, (w1.alloc (.cells #[.int .i64 K, .string ⟨#[]⟩, .slice none 0 0, .bool false, .string ⟨#[]⟩] 27)).cell? ⟨w1.heap.size, j, none⟩ = (#[.int .i64 K, .string ⟨#[]⟩, .slice none 0 0, .bool false, .string ⟨#[]⟩] : Array Value)[j]? := fun j => World.cell?_alloc_mark w1 _ 27 (0, 0) j
  have m1 : ∀ j, (w1.alloc (.cells #[.int .i64 K, .string ⟨#[]⟩, .slice none 0 0, .bool false, .string ⟨#[]⟩] 27)).frozen? ⟨w1.heap.size, j, none⟩ = false := fun j => by rw [World.frozen?_alloc_mark]; simp
  have b2 : Below w1.heap.size w1 (w1.alloc (.cells #[.int .i64 K, .string ⟨#[]⟩, .slice none 0 0, .bool false, .string ⟨#[]⟩] 27)) := (Below.refl _ w1).alloc (Nat.le_refl _) _
  have hz2 : (w1.alloc (.cells #[.int .i64 K, .string ⟨#[]⟩, .slice none 0 0, .bool false, .string ⟨#[]⟩] 27)).heap.size = w1.heap.size + 1 := by simp
  rw [hz] at k1 m1
  exact ⟨by omega, fun j => (b2.cell (p := ⟨w.heap.size, j, none⟩) (by simp; omega)).trans (k0 j), fun j => (b2.frozen (p := ⟨w.heap.size, j, none⟩) (by simp; omega)).trans (m0 j), k1, m1, ⟨rfl, Or.inl ⟨rfl, rfl⟩⟩, b1.trans (b2.mono (by omega))⟩
/-- New memory beside it. -/
theorem ReadW.on {w W W' : World} {K : Int} {N : ByteArray} {v : Value} {rs : List (List UInt8 × List UInt8)} (h : ReadW w K N v rs W) (hb : Below W.heap.size W W') : ReadW w K N v rs W' := by
  have h1 := h.lt
  exact ⟨Nat.lt_of_lt_of_le h1 hb.size, fun j => (hb.cell (p := ⟨w.heap.size, j, none⟩) (by simp; omega)).trans (h.r j), fun j => (hb.frozen (p := ⟨w.heap.size, j, none⟩) (by simp; omega)).trans (h.fr j),
    fun j => (hb.cell (p := ⟨w.heap.size + 1, j, none⟩) h1).trans (h.c j), fun j => (hb.frozen (p := ⟨w.heap.size + 1, j, none⟩) h1).trans (h.fc j), h.row.kept (row := none) ⟨hb.os, hb.tape, hb.output, hb.size, fun i hi _ => hb.block i hi⟩ (by cases v.ownBlock <;> simp), h.below.trans (hb.mono h.below.size)⟩
/-- One of the token's cells set. -/
theorem ReadW.setC {w W : World} {K : Int} {N : ByteArray} {v : Value} {rs : List (List UInt8 × List UInt8)} (h : ReadW w K N v rs W) (i : Nat) (hi : i < 5) (u : Value) (j : Nat) : (W.setCell ⟨w.heap.size + 1, i, none⟩ u).cell? ⟨w.heap.size + 1, j, none⟩ = ((#[.int .i64 K, .string N, v, .bool false, .string ⟨#[]⟩] : Array Value).setIfInBounds i u)[j]? := by
  by_cases e : i = j
  · subst e
    rw [World.cell?_setCell_same W _ u ((h.c i).trans (Array.getElem?_eq_getElem (by simpa using hi))), Array.getElem?_setIfInBounds_self_of_lt (by simpa using hi)]
  · rw [World.cell?_setCell_other W _ _ u (fun q => e (by injection q)), h.c, Array.getElem?_setIfInBounds_ne e]
theorem ReadW.kind {w W : World} {K : Int} {N : ByteArray} {v : Value} {rs : List (List UInt8 × List UInt8)} (h : ReadW w K N v rs W) (K' : Int) : ReadW w K' N v rs (W.setCell ⟨w.heap.size + 1, 0, none⟩ (.int .i64 K')) := by
  have h1 := h.lt
  exact ⟨by simpa using h1, fun j => (World.cell?_setCell_other W _ _ _ (fun q => by injection q with q1; omega)).trans (h.r j), fun j => by rw [World.frozen?_setCell]; exact h.fr j,
    h.setC 0 (by omega) _, fun j => by rw [World.frozen?_setCell]; exact h.fc j, ownsRow_setCell_below h.row (by simp) _, h.below.setCell (by simp) _⟩
theorem ReadW.name {w W : World} {K : Int} {N : ByteArray} {v : Value} {rs : List (List UInt8 × List UInt8)} (h : ReadW w K N v rs W) (N' : ByteArray) : ReadW w K N' v rs (W.setCell ⟨w.heap.size + 1, 1, none⟩ (.string N')) := by
  have h1 := h.lt
  exact ⟨by simpa using h1, fun j => (World.cell?_setCell_other W _ _ _ (fun q => by injection q with q1; omega)).trans (h.r j), fun j => by rw [World.frozen?_setCell]; exact h.fr j,
    h.setC 1 (by omega) _, fun j => by rw [World.frozen?_setCell]; exact h.fc j, ownsRow_setCell_below h.row (by simp) _, h.below.setCell (by simp) _⟩
/-- One more attribute: the row grown, and its slice set. -/
theorem ReadW.more {w W W' : World} {K : Int} {N : ByteArray} {v v' : Value} {rs : List (List UInt8 × List UInt8)} {a : List UInt8 × List UInt8} (h : ReadW w K N v rs W) (hg : W.grownBy W' v.ownBlock) (hr : W'.ownsRow (w.heap.size + 2) 49 2 v' (rs.length + 1) (attrCells rs ++ [.string ⟨a.1.toArray⟩, .string ⟨a.2.toArray⟩])) : ReadW w K N v' (rs ++ [a]) (W'.setCell ⟨w.heap.size + 1, 2, none⟩ v') := by
  have h1 := h.lt
  have n0 : some w.heap.size ≠ v.ownBlock := fun e => by have := (h.row.lt _ e.symm).1; omega
  have n1 : some (w.heap.size + 1) ≠ v.ownBlock := fun e => by have := (h.row.lt _ e.symm).1; omega
  have hW : Below w.heap.size w W' := h.below.grown hg h.below.size (fun k hk => by have := (h.row.lt k hk).1; omega)
  have hz := hg.size
  have c' : ∀ j, W'.cell? ⟨w.heap.size + 1, j, none⟩ = (#[.int .i64 K, .string N, v, .bool false, .string ⟨#[]⟩] : Array Value)[j]? := fun j => (hg.cell_far ⟨w.heap.size + 1, j, none⟩ h1 n1).trans (h.c j)
  refine ⟨by simp; omega, fun j => (World.cell?_setCell_other W' _ _ _ (fun q => by injection q with q1; omega)).trans ((hg.cell_far ⟨w.heap.size, j, none⟩ (by simp; omega) n0).trans (h.r j)), fun j => by rw [World.frozen?_setCell]; exact (hg.frozen_far ⟨w.heap.size, j, none⟩ (by simp; omega) n0).trans (h.fr j),
    fun j => ?_, fun j => by rw [World.frozen?_setCell]; exact (hg.frozen_far ⟨w.heap.size + 1, j, none⟩ h1 n1).trans (h.fc j), ?_, hW.setCell (by simp) _⟩
  · by_cases e : 2 = j
    · subst e
      rw [World.cell?_setCell_same W' _ v' (c' 2)]
      rfl
    · rw [World.cell?_setCell_other W' _ _ v' (fun q => e (by injection q)), c']
      match j with
      | 0 => rfl
      | 1 => rfl
      | 2 => exact absurd rfl e
      | 3 => rfl
      | 4 => rfl
      | j + 5 => rfl
  · rw [List.length_append, attrCells_snoc]
    exact ownsRow_setCell_below hr (by simp) _
end Go.Proofs.YtgelgfgcdfnacaaDoor
