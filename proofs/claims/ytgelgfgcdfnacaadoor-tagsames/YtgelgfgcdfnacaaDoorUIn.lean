/-
  Slices of attributes that came in; the walks of Find over them, the reference's and the program's.
-/
import Derived.Test.YtgelgfgcdfnacaaDoorUTok
import Derived.Deep.Slices
import Derived.ChangeSame
namespace Go.Proofs.YtgelgfgcdfnacaaDoor
open Go.RowKit Go.ChangeShapes Go.WideShapes Go.Deep

/-- The slice v, at whichever place of a block, holds the attributes rs in w. -/
def AttrsIn (w : World) (v : Value) (rs : List (List UInt8 × List UInt8)) : Prop :=
  (∃ p cap, v = .slice p rs.length cap ∧ ∀ j (hj : j < rs.length), ∃ g off, p = some ⟨g, off, none⟩ ∧ g < w.heap.size ∧ w.cell? ⟨g, off + j * 2, none⟩ = some (.string ⟨rs[j].1.toArray⟩) ∧ w.cell? ⟨g, off + j * 2 + 1, none⟩ = some (.string ⟨rs[j].2.toArray⟩)) ∧
  ∀ x ∈ rs, x.1.length ≤ maxLen ∧ x.2.length ≤ maxLen
def AttrsArg (w : World) (v : Value) (n : Nat) : Prop := ∃ rs, rs.length = n ∧ AttrsIn w v rs
theorem AttrsIn.below {w w' : World} {v : Value} {rs : List (List UInt8 × List UInt8)} (h : AttrsIn w v rs) (hb : Below w.heap.size w w') : AttrsIn w' v rs := by
  obtain ⟨⟨p, cap, rfl, hc⟩, hs⟩ := h
  refine ⟨⟨p, cap, rfl, fun j hj => ?_⟩, hs⟩
  obtain ⟨g, off, h1, h2, h3, h4⟩ := hc j hj
  exact ⟨g, off, h1, Nat.lt_of_lt_of_le h2 hb.size, (hb.cell (p := ⟨g, off + j * 2, none⟩) h2).trans h3, (hb.cell (p := ⟨g, off + j * 2 + 1, none⟩) h2).trans h4⟩
theorem cell_lt {W : World} {g o : Nat} {v : Value} (h : W.cell? ⟨g, o, none⟩ = some v) : g < W.heap.size := by
  rcases Nat.lt_or_ge g W.heap.size with h' | h'
  · exact h'
  · unfold World.cell? at h
    rw [Array.getElem?_eq_none h'] at h
    cases h
set_option maxRecDepth 100000 in
/-- What an argument of attributes holds. -/
theorem attrs_open {H : Type} {enc : TypeId × Value → H} {W : World} {base : Nat} {spare : Nat → Bool} {held : Bool} {a : Option Addr} {len cap : Nat} {d : DataW H} {ps : List MemPlace}
    (h : DataW.Trod enc Tryd.prog W base spare held 25 (.slice a len cap) d ps) : AttrsArg W (.slice a len cap) len := by
  obtain ⟨fuel, hf⟩ := h
  rcases open_slice Tryd.underlying25 hf with ⟨hcs, _⟩ | ⟨ad, l, c, m, n, D, Pl, hcs, _, hl, _, hm, _, hi⟩
  · simp [Value.cells] at hcs
    obtain ⟨rfl, rfl, rfl⟩ := hcs
    exact ⟨[], rfl, ⟨none, 0, rfl, fun j hj => absurd hj (by simp)⟩, fun x hx => by cases hx⟩
  · simp [Value.cells] at hcs
    obtain ⟨rfl, rfl, rfl⟩ := hcs
    have hlm : len ≤ m := by rw [hm]; split <;> omega
    have hC : Tryd.prog.cellsOf 49 = 2 := by kernel_rfl
    have key : ∀ i, ∃ x : List UInt8 × List UInt8, i < len → W.cell? ((ad.add (i * 2)).add 0) = some (.string ⟨x.1.toArray⟩) ∧ W.cell? ((ad.add (i * 2)).add 1) = some (.string ⟨x.2.toArray⟩) ∧ x.1.length ≤ maxLen ∧ x.2.length ≤ maxLen := by
      intro i
      by_cases hil : i < len
      · obtain ⟨cs', hc, ht⟩ := hi i (by omega)
        rw [hC] at hc
        obtain ⟨y0, y1, n', hy, hcl, t0, t1⟩ := trod_struct2 Tryd.underlying49 ht
        obtain ⟨_, hln, hat⟩ := World.cells?_some hc
        match cs', hln with
        | [c0, c1], _ =>
          obtain ⟨s0, e0, _, z0⟩ := DataW.trod_string Tryd.underlying9 (show DataW.trod enc Tryd.prog W base spare held n' 9 [c0] = some y0 from t0)
          obtain ⟨s1, e1, _, z1⟩ := DataW.trod_string Tryd.underlying9 (show DataW.trod enc Tryd.prog W base spare held n' 9 [c1] = some y1 from t1)
          have f0 : c0 = .string s0 := by simpa using e0
          have f1 : c1 = .string s1 := by simpa using e1
          subst f0 f1
          refine ⟨(s0.data.toList, s1.data.toList), fun _ => ⟨hat 0 (by omega), hat 1 (by omega), ?_, ?_⟩⟩
          · rw [len_of]; exact z0
          · rw [len_of]; exact z1
      · exact ⟨([], []), fun h => absurd h hil⟩
    obtain ⟨f, hf2⟩ := Classical.axiomOfChoice key
    obtain ⟨b, off, spot⟩ := ad
    refine ⟨(List.range len).map f, by simp, ⟨some ⟨b, off, spot⟩, cap, by simp, fun j hj => ?_⟩, fun x hx => ?_⟩
    · have hj' : j < len := by simpa using hj
      obtain ⟨h3, h4, _⟩ := hf2 j hj'
      have hspot : spot = none := by simpa [Addr.add] using World.cell?_spot (hf2 0 (by omega)).1
      subst hspot
      rw [add_plain, add_plain] at h3 h4
      have h3' : W.cell? ⟨b, off + j * 2, none⟩ = some (.string ⟨(f j).1.toArray⟩) := h3
      have h4' : W.cell? ⟨b, off + j * 2 + 1, none⟩ = some (.string ⟨(f j).2.toArray⟩) := h4
      refine ⟨b, off, rfl, cell_lt h3', ?_, ?_⟩
      · rw [h3']; simp
      · rw [h4']; simp
    · obtain ⟨i, hi1, rfl⟩ := List.mem_map.1 hx
      exact ⟨(hf2 i (by simpa using hi1)).2.2.1, (hf2 i (by simpa using hi1)).2.2.2⟩

/-- What the program's Find tells: new memory beside it. -/
def FindB (r : Option (List UInt8)) (w : World) (e : Ending) (w' : World) : Prop := e = .returned (.tuple #[.string ⟨(r.getD []).toArray⟩, .bool r.isSome]) ∧ Below w.heap.size w w'
end Go.Proofs.YtgelgfgcdfnacaaDoor
