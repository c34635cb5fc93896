/-
  What every row of this seat shares: the knobs, the layout; a slice of numbers that came in.
-/
import Derived.Test.YtkoijkdhmfnlbaaRows
import Derived.Test.YtkoijkdhmfnlbaaDOpen
import Derived.Test.YtkoijkdhmfnlbaaDTape
import Derived.ProofKit
import Derived.Deep.DeepHandedRow
namespace Go.Proofs.Ytkoijkdhmfnlbaa
open Go.ChangeShapes Go.WideShapes Go.ChangeAt Go.RowKit

theorem own : ownKnob Try.prog.godebug = none := by kernel_rfl
theorem laidOut : laidOutB Try.prog = true := by kernel_rfl
/-- A slice of numbers that came in. -/
theorem ints_open {H : Type} {enc : TypeId × Value → H} {W : World} {base : Nat} {spare : Nat → Bool} {held : Bool} {a : Option Addr} {len cap : Nat} {d : DataW H} {ps : List MemPlace}
    (h : DataW.Trod enc Try.prog W base spare held 32 (.slice a len cap) d ps) : IntsIn W (.slice a len cap) len := by
  obtain ⟨fuel, hf⟩ := h
  rcases open_ints Try.underlying32 Try.underlying3 (by kernel_rfl) hf with ⟨hcs, _⟩ | ⟨x, l, c, zs, hcs, _, hl, hm, hz, _, hcell, hwz⟩
  · simp [Value.cells] at hcs
    obtain ⟨rfl, rfl, rfl⟩ := hcs
    exact .inl ⟨_, _, rfl, rfl⟩
  · simp [Value.cells] at hcs
    obtain ⟨rfl, rfl, rfl⟩ := hcs
    have hzl : len ≤ zs.length := by rw [hz]; split <;> omega
    rcases Nat.eq_zero_or_pos len with h0 | h0
    · subst h0
      exact .inl ⟨_, _, rfl, rfl⟩
    · obtain ⟨g, off, rfl, hc⟩ := ints_at hcell (by omega)
      refine .inr ⟨g, off, cap, rfl, cellB_lt (hc 0 (by omega)), by omega, fun j hj => ?_⟩
      have hwf := bounds_i64 (hwz (zs.getD j 0) (by
        rw [List.getD_eq_getElem?_getD, List.getElem?_eq_getElem (by omega)]
        exact List.getElem_mem _))
      exact ⟨zs.getD j 0, hc j (by omega), hwf.1, hwf.2⟩
end Go.Proofs.Ytkoijkdhmfnlbaa
