/-
  The walks of the laws' own in chapter 6: within, small, Small. Any nodes.
-/
import Derived.Test.YtkoijkdhmfnlbaaDAll
namespace Go.Proofs.Ytkoijkdhmfnlbaa
open Go.RowKit

/-- Attributes are no more, and their names no longer, than can be. -/
def attrsFit (l : List (List UInt8 × List UInt8)) : Prop := l.length ≤ maxLen ∧ ∀ a ∈ l, a.1.length ≤ maxLen
namespace Fo
/-- No row is longer than one can be. -/
def fits : Fo → Prop
  | nil => True
  | cons d k r => attrsFit d.attrs ∧ k.len ≤ maxLen ∧ k.fits ∧ r.fits
end Fo
/-- What small leaves: a number in block B; all else stands. -/
structure LeftAt (B : Nat) (L : Int) (w w' : World) : Prop where
  grown : w.grownBy w' (some B)
  cell : w'.cell? ⟨B, 0, none⟩ = some (.int .i64 L)
  free : w'.frozen? ⟨B, 0, none⟩ = false
/-- What small tells. -/
def SmallOut (B : Nat) (L : Int) (f : Fo) (w : World) (e : Ending) (w' : World) : Prop := ∃ (b : Bool) (L' : Int), e = .returned (.bool b) ∧ LeftAt B L' w w' ∧ (b = true → 0 ≤ L' ∧ L' + f.wt = L)
theorem grown_refl (w : World) (row : Option Nat) : w.grownBy w row := ⟨rfl, rfl, rfl, Nat.le_refl _, fun _ _ _ => rfl⟩
theorem grown_set (w : World) (B : Nat) (q : Nat) (u : Value) : w.grownBy ((w.drewN q).setCell ⟨B, 0, none⟩ u) (some B) :=
  ⟨rfl, rfl, rfl, by simp, fun b _ hne => by rw [Below.heap_setCell _ _ _ _ (fun e => hne (by rw [e]))]; rfl⟩

theorem cellB_lt {W : World} {g o : Nat} {v : Value} (h : W.cell? ⟨g, o, none⟩ = some v) : g < W.heap.size := by
  rcases Nat.lt_or_ge g W.heap.size with h' | h'
  · exact h'
  · unfold World.cell? at h
    rw [Array.getElem?_eq_none h'] at h
    cases h

/-- What Small tells. -/
def SmallB (f : Fo) (w : World) (e : Ending) (w' : World) : Prop := ∃ b : Bool, e = .returned (.bool b) ∧ Below w.heap.size w w' ∧ (b = true → f.wt ≤ 300)
end Go.Proofs.Ytkoijkdhmfnlbaa
