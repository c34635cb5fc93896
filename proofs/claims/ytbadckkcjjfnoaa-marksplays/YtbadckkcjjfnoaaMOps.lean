/-
  A row of calls that came in: four numbers each.
-/
import Derived.Test.YtbadckkcjjfnoaaMFrame
import Derived.Test.YtbadckkcjjfnoaaMRG
import Derived.Deep.Strs
namespace Go.Proofs.Ytbadckkcjjfnoaa
open Go.ChangeShapes Go.WideShapes Go.ChangeAt Go.RowKit

set_option maxRecDepth 100000 in
/-- A slice of calls that came in. -/
theorem ops_open {H : Type} {enc : TypeId × Value → H} {W : World} {base : Nat} {spare : Nat → Bool} {held : Bool} {a : Option Addr} {len cap : Nat} {d : DataW H} {ps : List MemPlace}
    (h : DataW.Trod enc Try.prog W base spare held 53 (.slice a len cap) d ps) : OpsIn W (.slice a len cap) len := by
  obtain ⟨fuel, hf⟩ := h
  rcases DataW.trod_slice Try.underlying53 (cs := [.slice a len cap]) hf with ⟨hcs, _⟩ | ⟨ad, l, c, el, rest, n, hfu, hcs, _, _, hl, hcm, hel, hi, _⟩
  · simp at hcs
    obtain ⟨rfl, rfl, rfl⟩ := hcs
    exact ⟨none, 0, rfl, Nat.zero_le _, fun j hj => absurd hj (by simp)⟩
  · simp at hcs
    obtain ⟨rfl, rfl, rfl⟩ := hcs
    have hC : Try.prog.cellsOf 59 = 4 := by kernel_rfl
    have key : ∀ i, i < len → ∃ z0 z1 z2 z3 : Int, (W.cell? ((ad.add (i * 4)).add 0) = some (.int .i64 z0) ∧ W.cell? ((ad.add (i * 4)).add 1) = some (.int .i64 z1) ∧ W.cell? ((ad.add (i * 4)).add 2) = some (.int .i64 z2) ∧ W.cell? ((ad.add (i * 4)).add 3) = some (.int .i64 z3)) ∧ (-9223372036854775808 ≤ z0 ∧ z0 ≤ 9223372036854775807) ∧ (-9223372036854775808 ≤ z1 ∧ z1 ≤ 9223372036854775807) ∧ (-9223372036854775808 ≤ z2 ∧ z2 ≤ 9223372036854775807) ∧ (-9223372036854775808 ≤ z3 ∧ z3 ≤ 9223372036854775807) := by
      intro j hj
      have h1 := hi j hj
      rw [List.getElem?_eq_getElem (by omega), hC] at h1
      obtain ⟨cs', hc, ht⟩ := Option.bind_eq_some_iff.1 h1
      obtain ⟨xs, n', hn', _, _, hxl, hfs⟩ := DataW.trod_struct Try.underlying59 ht
      obtain ⟨_, hln, hat⟩ := World.cells?_some hc
      match cs', hln, xs, hxl with
      | [c0, c1, c2, c3], _, [y0, y1, y2, y3], _ =>
        have t0 : DataW.trod enc Try.prog W base spare held n' 3 [c0] = some y0 := hfs 0 _ rfl
        have t1 : DataW.trod enc Try.prog W base spare held n' 3 [c1] = some y1 := hfs 1 _ rfl
        have t2 : DataW.trod enc Try.prog W base spare held n' 3 [c2] = some y2 := hfs 2 _ rfl
        have t3 : DataW.trod enc Try.prog W base spare held n' 3 [c3] = some y3 := hfs 3 _ rfl
        obtain ⟨z0, e0, _, b0⟩ := DataW.trod_int Try.underlying3 t0
        obtain ⟨z1, e1, _, b1⟩ := DataW.trod_int Try.underlying3 t1
        obtain ⟨z2, e2, _, b2⟩ := DataW.trod_int Try.underlying3 t2
        obtain ⟨z3, e3, _, b3⟩ := DataW.trod_int Try.underlying3 t3
        have f0 : c0 = .int .i64 z0 := by simpa using e0
        have f1 : c1 = .int .i64 z1 := by simpa using e1
        have f2 : c2 = .int .i64 z2 := by simpa using e2
        have f3 : c3 = .int .i64 z3 := by simpa using e3
        subst f0 f1 f2 f3
        exact ⟨z0, z1, z2, z3, ⟨hat 0 (by omega), hat 1 (by omega), hat 2 (by omega), hat 3 (by omega)⟩, bounds_i64 b0, bounds_i64 b1, bounds_i64 b2, bounds_i64 b3⟩
    clear hi
    refine ⟨some ad, cap, rfl, by omega, fun j hj => ?_⟩
    obtain ⟨b, off, spot⟩ := ad
    have hspot : spot = none := by
      obtain ⟨_, _, _, _, ⟨k0, _⟩, _⟩ := key 0 (by omega)
      simpa [Addr.add] using World.cell?_spot k0
    subst hspot
    obtain ⟨z0, z1, z2, z3, ⟨g0, g1, g2, g3⟩, b0, b1, b2, b3⟩ := key j hj
    rw [add_plain, add_plain] at g0 g1 g2 g3
    refine ⟨b, off, rfl, cellB_lt g0, fun t ht => ?_⟩
    match t, ht with
    | 0, _ => exact ⟨z0, g0, b0⟩
    | 1, _ => exact ⟨z1, g1, b1⟩
    | 2, _ => exact ⟨z2, g2, b2⟩
    | 3, _ => exact ⟨z3, g3, b3⟩
end Go.Proofs.Ytbadckkcjjfnoaa
