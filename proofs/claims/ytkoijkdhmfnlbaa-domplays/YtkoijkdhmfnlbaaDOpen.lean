/-
  Nodes that came in as an argument. No program is walked.
-/
import Derived.Test.YtkoijkdhmfnlbaaDSmall
import Derived.OpenShut
namespace Go.Proofs.Ytkoijkdhmfnlbaa
open Go.RowKit Go.ChangeShapes Go.WideShapes Go.Deep

theorem nodesFrom_at (P : Nat → Prop) (W : World) (g o : Nat) : ∀ (qs : List ((Nd × Value × Value) × Fo)) (i : Nat),
    (∀ j (hj : j < qs.length), Cells7 W g (o + (i + j) * 7) qs[j].1.1 qs[j].1.2.1 qs[j].1.2.2 ∧ AttrsP P W qs[j].1.2.1 qs[j].1.1.attrs ∧ NodesP P W qs[j].1.2.2 qs[j].2) → NodesFrom P W (Fo.ofList (qs.map fun q => (q.1.1, q.2))) g o i
  | [], _, _ => trivial
  | q :: r, i, h => by
    obtain ⟨h7, ha, p, cap, hv, hk⟩ := h 0 (by simp)
    refine ⟨⟨q.1.2.1, q.1.2.2, h7, ha, p, cap, hv, hk⟩, ?_⟩
    refine nodesFrom_at P W g o r (i + 1) fun j hj => ?_
    have := h (j + 1) (by simpa using hj)
    rw [show i + 1 + j = i + (j + 1) by omega]
    exact this
theorem fits_of : ∀ (qs : List ((Nd × Value × Value) × Fo)), (∀ q ∈ qs, attrsFit q.1.1.attrs ∧ q.2.len ≤ maxLen ∧ q.2.fits) → (Fo.ofList (qs.map fun q => (q.1.1, q.2))).fits
  | [], _ => trivial
  | q :: r, h => ⟨(h q (by simp)).1, (h q (by simp)).2.1, (h q (by simp)).2.2, fits_of r (fun x hx => h x (by simp [hx]))⟩

section
variable {H : Type} {enc : TypeId × Value → H} {W : World} {base : Nat} {spare : Nat → Bool} {held : Bool}
set_option maxRecDepth 100000 in
/-- Attributes that came in. -/
theorem attrs_trod {fuel : Nat} {cs : List Value} {x : DataW H × List MemPlace} (hf : DataW.trod enc Try.prog W base spare held fuel 41 cs = some x) :
    ∃ v rs, cs = [v] ∧ AttrsP (fun _ => True) W v rs ∧ attrsFit rs := by
  rcases open_slice Try.underlying41 hf with ⟨hcs, _⟩ | ⟨ad, l, c, m, n, D, Pl, hcs, _, hl, hcm, hm, _, hi⟩
  · exact ⟨_, [], hcs, AttrsP.nil _ _ _ _, by simp [attrsFit]⟩
  · have hlm : l ≤ m := by rw [hm]; split <;> omega
    have hC : Try.prog.cellsOf 53 = 2 := by kernel_rfl
    have key : ∀ i, ∃ x : List UInt8 × List UInt8, i < l → W.cell? ((ad.add (i * 2)).add 0) = some (.string ⟨x.1.toArray⟩) ∧ W.cell? ((ad.add (i * 2)).add 1) = some (.string ⟨x.2.toArray⟩) ∧ x.1.length ≤ maxLen := by
      intro i
      by_cases hil : i < l
      · obtain ⟨cs', hc, ht⟩ := hi i (by omega)
        rw [hC] at hc
        obtain ⟨y0, y1, n', hy, hcl, t0, t1⟩ := trod_struct2 Try.underlying53 ht
        obtain ⟨_, hln, hat⟩ := World.cells?_some hc
        match cs', hln with
        | [c0, c1], _ =>
          obtain ⟨s0, e0, _, z0⟩ := DataW.trod_string Try.underlying9 (show DataW.trod enc Try.prog W base spare held n' 9 [c0] = some y0 from t0)
          obtain ⟨s1, e1, _, _⟩ := DataW.trod_string Try.underlying9 (show DataW.trod enc Try.prog W base spare held n' 9 [c1] = some y1 from t1)
          have f0 : c0 = .string s0 := by simpa using e0
          have f1 : c1 = .string s1 := by simpa using e1
          subst f0 f1
          exact ⟨(s0.data.toList, s1.data.toList), fun _ => ⟨hat 0 (by omega), hat 1 (by omega), by rw [Array.length_toList]; exact z0⟩⟩
      · exact ⟨([], []), fun h => absurd h hil⟩
    obtain ⟨f, hf2⟩ := Classical.axiomOfChoice key
    obtain ⟨b, off, spot⟩ := ad
    refine ⟨_, (List.range l).map f, hcs, ⟨some ⟨b, off, spot⟩, c, by simp, fun h0 => ?_⟩, ⟨by simp; omega, fun a ha => ?_⟩⟩
    rotate_left
    · obtain ⟨i, hi1, rfl⟩ := List.mem_map.1 ha
      exact (hf2 i (by simpa using hi1)).2.2
    have h0' : 0 < l := by simpa using h0
    have hspot : spot = none := by simpa [Addr.add] using World.cell?_spot (hf2 0 h0').1
    subst hspot
    refine ⟨b, off, rfl, trivial, ?_, fun j hj => ?_⟩
    · have h3 := (hf2 0 h0').1
      rw [add_plain, add_plain] at h3
      exact cellB_lt h3
    · have hj' : j < l := by simpa using hj
      obtain ⟨h3, h4, _⟩ := hf2 j hj'
      rw [add_plain, add_plain] at h3 h4
      refine ⟨?_, ?_⟩
      · have h3' : W.cell? ⟨b, off + j * 2, none⟩ = some (.string ⟨(f j).1.toArray⟩) := h3
        rw [h3']; simp
      · have h4' : W.cell? ⟨b, off + j * 2 + 1, none⟩ = some (.string ⟨(f j).2.toArray⟩) := h4
        rw [h4']; simp
set_option maxRecDepth 100000 in
theorem nodes_trod : ∀ (fuel : Nat) (cs : List Value) (x : DataW H × List MemPlace), DataW.trod enc Try.prog W base spare held fuel 31 cs = some x →
    ∃ v f, cs = [v] ∧ NodesP (fun _ => True) W v f ∧ f.fits ∧ f.len ≤ maxLen := by
  intro fuel
  induction fuel using Nat.strongRecOn with
  | ind fuel IH =>
    intro cs x hf
    rcases DataW.trod_slice Try.underlying31 hf with ⟨hcs, _⟩ | ⟨ad, l, c, el, rest, n, hfu, hcs, _, _, hl, hcm, hel, hi, _⟩
    · exact ⟨_, .nil, hcs, NodesP.nil _ _ _ _, trivial, by simp [Fo.len]⟩
    · have hC : Try.prog.cellsOf 43 = 7 := by kernel_rfl
      have key : ∀ i, ∃ q : (Nd × Value × Value) × Fo, i < l → (W.cell? ((ad.add (i * 7)).add 0) = some (.int .i64 q.1.1.kind) ∧ W.cell? ((ad.add (i * 7)).add 1) = some (.int .i64 q.1.1.space) ∧ W.cell? ((ad.add (i * 7)).add 2) = some (.string ⟨q.1.1.name.toArray⟩) ∧ W.cell? ((ad.add (i * 7)).add 3) = some q.1.2.1 ∧ W.cell? ((ad.add (i * 7)).add 4) = some (.string ⟨q.1.1.text.toArray⟩) ∧ W.cell? ((ad.add (i * 7)).add 5) = some (.int .i64 q.1.1.frm) ∧ W.cell? ((ad.add (i * 7)).add 6) = some q.1.2.2) ∧ AttrsP (fun _ => True) W q.1.2.1 q.1.1.attrs ∧ NodesP (fun _ => True) W q.1.2.2 q.2 ∧ attrsFit q.1.1.attrs ∧ q.2.len ≤ maxLen ∧ q.2.fits := by
        intro i
        by_cases hil : i < l
        · have h1 := hi i hil
          rw [List.getElem?_eq_getElem (by omega), hC] at h1
          obtain ⟨cs', hc, ht⟩ := Option.bind_eq_some_iff.1 h1
          obtain ⟨xs, n', hn', _, _, hxl, hfs⟩ := DataW.trod_struct Try.underlying43 ht
          obtain ⟨_, hln, hat⟩ := World.cells?_some hc
          match cs', hln, xs, hxl with
          | [c0, c1, c2, c3, c4, c5, c6], _, [y0, y1, y2, y3, y4, y5, y6], _ =>
            have t0 : DataW.trod enc Try.prog W base spare held n' 3 [c0] = some y0 := hfs 0 _ rfl
            have t1 : DataW.trod enc Try.prog W base spare held n' 3 [c1] = some y1 := hfs 1 _ rfl
            have t2 : DataW.trod enc Try.prog W base spare held n' 9 [c2] = some y2 := hfs 2 _ rfl
            have t3 : DataW.trod enc Try.prog W base spare held n' 41 [c3] = some y3 := hfs 3 _ rfl
            have t4 : DataW.trod enc Try.prog W base spare held n' 9 [c4] = some y4 := hfs 4 _ rfl
            have t5 : DataW.trod enc Try.prog W base spare held n' 3 [c5] = some y5 := hfs 5 _ rfl
            have t6 : DataW.trod enc Try.prog W base spare held n' 31 [c6] = some y6 := hfs 6 _ rfl
            obtain ⟨z0, e0, _, _⟩ := DataW.trod_int Try.underlying3 t0
            obtain ⟨z1, e1, _, _⟩ := DataW.trod_int Try.underlying3 t1
            obtain ⟨s2, e2, _, _⟩ := DataW.trod_string Try.underlying9 t2
            obtain ⟨v3, rs, e3, ha, hal⟩ := attrs_trod t3
            obtain ⟨s4, e4, _, _⟩ := DataW.trod_string Try.underlying9 t4
            obtain ⟨z5, e5, _, _⟩ := DataW.trod_int Try.underlying3 t5
            obtain ⟨v6, k6, e6, hk, hkf, hkl⟩ := IH n' (by omega) _ _ t6
            have f0 : c0 = .int .i64 z0 := by simpa using e0
            have f1 : c1 = .int .i64 z1 := by simpa using e1
            have f2 : c2 = .string s2 := by simpa using e2
            have f3 : c3 = v3 := by simpa using e3
            have f4 : c4 = .string s4 := by simpa using e4
            have f5 : c5 = .int .i64 z5 := by simpa using e5
            have f6 : c6 = v6 := by simpa using e6
            subst f0 f1 f2 f3 f4 f5 f6
            exact ⟨((⟨z0, z1, s2.data.toList, rs, s4.data.toList, z5⟩, c3, c6), k6), fun _ => ⟨⟨hat 0 (by omega), hat 1 (by omega), hat 2 (by omega), hat 3 (by omega), hat 4 (by omega), hat 5 (by omega), hat 6 (by omega)⟩, ha, hk, hal, hkl, hkf⟩⟩
        · exact ⟨((⟨0, 0, [], [], [], 0⟩, .slice none 0 0, .slice none 0 0), .nil), fun h => absurd h hil⟩
      obtain ⟨F, hF⟩ := Classical.axiomOfChoice key
      clear key hi IH
      obtain ⟨b, off, spot⟩ := ad
      have hlen : (Fo.ofList (((List.range l).map F).map fun q => (q.1.1, q.2))).len = l := by rw [Fo.of_len]; simp
      refine ⟨_, Fo.ofList (((List.range l).map F).map fun q => (q.1.1, q.2)), hcs, ⟨some ⟨b, off, spot⟩, c, by rw [hlen], fun h0 => ?_⟩, ?_, by rw [hlen]; omega⟩
      · rw [hlen] at h0
        have hspot : spot = none := by simpa [Addr.add] using World.cell?_spot (hF 0 h0).1.1
        subst hspot
        refine ⟨b, off, rfl, trivial, ?_, ?_⟩
        · have h3 := (hF 0 h0).1.1
          rw [add_plain, add_plain] at h3
          exact cellB_lt h3
        · refine nodesFrom_at _ W b off _ 0 fun j hj => ?_
          have hj' : j < l := by simpa using hj
          obtain ⟨⟨a0, a1, a2, a3, a4, a5, a6⟩, ha, hk, _⟩ := hF j hj'
          simp only [add_plain] at a0 a1 a2 a3 a4 a5 a6
          simp only [List.getElem_map, List.getElem_range, Nat.zero_add]
          exact ⟨⟨a0, a1, a2, a3, a4, a5, a6⟩, ha, hk⟩
      · refine fits_of _ fun q hq => ?_
        obtain ⟨i, hi1, rfl⟩ := List.mem_map.1 hq
        obtain ⟨_, _, _, h1, h2, h3⟩ := hF i (by simpa using hi1)
        exact ⟨h1, h2, h3⟩
/-- Nodes that came in. -/
theorem nodes_open {v : Value} {d : DataW H} {ps : List MemPlace} (h : DataW.Trod enc Try.prog W base spare held 31 v d ps) (hv : ∃ p l c, v = .slice p l c) : ∃ f, NodesP (fun _ => True) W v f ∧ f.fits ∧ f.len ≤ maxLen := by
  obtain ⟨fuel, hf⟩ := h
  obtain ⟨p, l, c, rfl⟩ := hv
  obtain ⟨v', f, hc, h1, h2, h3⟩ := nodes_trod fuel _ _ hf
  have : v' = .slice p l c := by simpa [Value.cells] using hc.symm
  subst this
  exact ⟨f, h1, h2, h3⟩
end
end Go.Proofs.Ytkoijkdhmfnlbaa
