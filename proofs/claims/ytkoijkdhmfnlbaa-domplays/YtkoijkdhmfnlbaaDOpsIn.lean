/-
  A row of calls of chapter 6 that came in: four numbers and a text each. No program is walked.
-/
import Derived.Test.YtkoijkdhmfnlbaaDFrame
import Derived.Deep.Strs
namespace Go.Proofs.Ytkoijkdhmfnlbaa
open Go.ChangeShapes Go.WideShapes Go.ChangeAt Go.RowKit

/-- A machine number. -/
def Int64 (z : Int) : Prop := -9223372036854775808 ≤ z ∧ z ≤ 9223372036854775807
/-- The slice v, at whichever place of a block, holds n calls in w. -/
def OpsIn6 (w : World) (v : Value) (n : Nat) : Prop :=
  ∃ p cap, v = .slice p n cap ∧ n ≤ maxLen ∧ ∀ j, j < n → ∃ g o, p = some ⟨g, o, none⟩ ∧ g < w.heap.size ∧ ∃ (z0 z1 z2 z3 : Int) (s : List UInt8),
    (w.cell? ⟨g, o + j * 5, none⟩ = some (.int .i64 z0) ∧ w.cell? ⟨g, o + j * 5 + 1, none⟩ = some (.int .i64 z1) ∧ w.cell? ⟨g, o + j * 5 + 2, none⟩ = some (.int .i64 z2) ∧ w.cell? ⟨g, o + j * 5 + 3, none⟩ = some (.int .i64 z3) ∧ w.cell? ⟨g, o + j * 5 + 4, none⟩ = some (.string ⟨s.toArray⟩)) ∧ Int64 z0 ∧ Int64 z1 ∧ Int64 z2 ∧ Int64 z3 ∧ s.length ≤ maxLen
theorem OpsIn6.below {w w' : World} {v : Value} {n : Nat} (h : OpsIn6 w v n) (hb : Below w.heap.size w w') : OpsIn6 w' v n := by
  obtain ⟨p, cap, e, hn, hc⟩ := h
  refine ⟨p, cap, e, hn, fun j hj => ?_⟩
  obtain ⟨g, o, e2, hg, z0, z1, z2, z3, s, ⟨c0, c1, c2, c3, c4⟩, hz⟩ := hc j hj
  exact ⟨g, o, e2, Nat.lt_of_lt_of_le hg hb.size, z0, z1, z2, z3, s, ⟨(hb.cell (p := ⟨g, o + j * 5, none⟩) hg).trans c0, (hb.cell (p := ⟨g, o + j * 5 + 1, none⟩) hg).trans c1, (hb.cell (p := ⟨g, o + j * 5 + 2, none⟩) hg).trans c2, (hb.cell (p := ⟨g, o + j * 5 + 3, none⟩) hg).trans c3, (hb.cell (p := ⟨g, o + j * 5 + 4, none⟩) hg).trans c4⟩, hz⟩
theorem add_plainO (b o k : Nat) : (⟨b, o, none⟩ : Addr).add k = ⟨b, o + k, none⟩ := by unfold Addr.add; split <;> simp_all
set_option maxRecDepth 100000 in
/-- A slice of calls that came in. -/
theorem ops_open {H : Type} {enc : TypeId × Value → H} {W : World} {base : Nat} {spare : Nat → Bool} {held : Bool} {a : Option Addr} {len cap : Nat} {d : DataW H} {ps : List MemPlace}
    (h : DataW.Trod enc Try.prog W base spare held 22 (.slice a len cap) d ps) : OpsIn6 W (.slice a len cap) len := by
  obtain ⟨fuel, hf⟩ := h
  rcases DataW.trod_slice Try.underlying22 (cs := [.slice a len cap]) hf with ⟨hcs, _⟩ | ⟨ad, l, c, el, rest, n, hfu, hcs, _, _, hl, hcm, hel, hi, _⟩
  · simp at hcs
    obtain ⟨rfl, rfl, rfl⟩ := hcs
    exact ⟨none, 0, rfl, Nat.zero_le _, fun j hj => absurd hj (by simp)⟩
  · simp at hcs
    obtain ⟨rfl, rfl, rfl⟩ := hcs
    have hC : Try.prog.cellsOf 29 = 5 := by kernel_rfl
    have key : ∀ i, i < len → ∃ (z0 z1 z2 z3 : Int) (s : List UInt8), (W.cell? ((ad.add (i * 5)).add 0) = some (.int .i64 z0) ∧ W.cell? ((ad.add (i * 5)).add 1) = some (.int .i64 z1) ∧ W.cell? ((ad.add (i * 5)).add 2) = some (.int .i64 z2) ∧ W.cell? ((ad.add (i * 5)).add 3) = some (.int .i64 z3) ∧ W.cell? ((ad.add (i * 5)).add 4) = some (.string ⟨s.toArray⟩)) ∧ Int64 z0 ∧ Int64 z1 ∧ Int64 z2 ∧ Int64 z3 ∧ s.length ≤ maxLen := by
      intro j hj
      have h1 := hi j hj
      rw [List.getElem?_eq_getElem (by omega), hC] at h1
      obtain ⟨cs', hc, ht⟩ := Option.bind_eq_some_iff.1 h1
      obtain ⟨xs, n', hn', _, _, hxl, hfs⟩ := DataW.trod_struct Try.underlying29 ht
      obtain ⟨_, hln, hat⟩ := World.cells?_some hc
      match cs', hln, xs, hxl with
      | [c0, c1, c2, c3, c4], _, [y0, y1, y2, y3, y4], _ =>
        have t0 : DataW.trod enc Try.prog W base spare held n' 3 [c0] = some y0 := hfs 0 _ rfl
        have t1 : DataW.trod enc Try.prog W base spare held n' 3 [c1] = some y1 := hfs 1 _ rfl
        have t2 : DataW.trod enc Try.prog W base spare held n' 3 [c2] = some y2 := hfs 2 _ rfl
        have t3 : DataW.trod enc Try.prog W base spare held n' 3 [c3] = some y3 := hfs 3 _ rfl
        have t4 : DataW.trod enc Try.prog W base spare held n' 9 [c4] = some y4 := hfs 4 _ rfl
        obtain ⟨z0, e0, _, b0⟩ := DataW.trod_int Try.underlying3 t0
        obtain ⟨z1, e1, _, b1⟩ := DataW.trod_int Try.underlying3 t1
        obtain ⟨z2, e2, _, b2⟩ := DataW.trod_int Try.underlying3 t2
        obtain ⟨z3, e3, _, b3⟩ := DataW.trod_int Try.underlying3 t3
        obtain ⟨s4, e4, _, b4⟩ := DataW.trod_string Try.underlying9 t4
        have f0 : c0 = .int .i64 z0 := by simpa using e0
        have f1 : c1 = .int .i64 z1 := by simpa using e1
        have f2 : c2 = .int .i64 z2 := by simpa using e2
        have f3 : c3 = .int .i64 z3 := by simpa using e3
        have f4 : c4 = .string s4 := by simpa using e4
        subst f0 f1 f2 f3 f4
        refine ⟨z0, z1, z2, z3, s4.data.toList, ⟨hat 0 (by omega), hat 1 (by omega), hat 2 (by omega), hat 3 (by omega), ?_⟩, bounds_i64 b0, bounds_i64 b1, bounds_i64 b2, bounds_i64 b3, ?_⟩
        · have := hat 4 (by omega)
          rw [this]
          simp
        · rw [Array.length_toList]
          exact b4
    clear hi
    refine ⟨some ad, cap, rfl, by omega, fun j hj => ?_⟩
    obtain ⟨b, off, spot⟩ := ad
    have hspot : spot = none := by
      obtain ⟨_, _, _, _, _, ⟨k0, _⟩, _⟩ := key 0 (by omega)
      simpa [Addr.add] using World.cell?_spot k0
    subst hspot
    obtain ⟨z0, z1, z2, z3, s, ⟨g0, g1, g2, g3, g4⟩, hz⟩ := key j hj
    simp only [add_plainO, Nat.add_zero] at g0 g1 g2 g3 g4
    exact ⟨b, off, rfl, cellB_lt g0, z0, z1, z2, z3, s, ⟨g0, g1, g2, g3, g4⟩, hz⟩
end Go.Proofs.Ytkoijkdhmfnlbaa
