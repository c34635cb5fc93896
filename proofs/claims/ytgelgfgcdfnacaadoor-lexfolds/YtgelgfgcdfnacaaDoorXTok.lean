/-
  Rows of tokens in memory. No program is walked.
-/
import Derived.Test.YtgelgfgcdfnacaaDoorXLex
import Derived.Deep.AppendLies
import Derived.Laws.OwnMore
import Derived.Lib.SmallJoins
namespace Go.Proofs.YtgelgfgcdfnacaaDoor
open Go.RowKit

/-- A token's five cells, its row of attributes given. -/
def tokCell (q : Tok × Value) : List Value := [.int .i64 q.1.kind, .string ⟨q.1.name.toArray⟩, q.2, .bool q.1.self, .string ⟨q.1.text.toArray⟩]
def tokCells (qs : List (Tok × Value)) : List Value := qs.flatMap tokCell
theorem tokCells_snoc (qs : List (Tok × Value)) (q : Tok × Value) : tokCells (qs ++ [q]) = tokCells qs ++ tokCell q := by
  unfold tokCells
  rw [List.flatMap_append]
  simp
theorem tokCells_at : ∀ (qs : List (Tok × Value)) (j i : Nat) (hj : j < qs.length), i < 5 → (tokCells qs)[j * 5 + i]? = (tokCell qs[j])[i]?
  | [], j, _, hj, _ => absurd hj (by simp)
  | q :: r, 0, i, _, hi => by
    show (tokCell q ++ tokCells r)[0 * 5 + i]? = _
    rw [List.getElem?_append_left (by simp [tokCell]; omega), Nat.zero_mul, Nat.zero_add]
    rfl
  | q :: r, j + 1, i, hj, hi => by
    have h := tokCells_at r j i (by simpa using hj) hi
    show (tokCell q ++ tokCells r)[(j + 1) * 5 + i]? = _
    rw [List.getElem?_append_right (by simp [tokCell]; omega), show (j + 1) * 5 + i - (tokCell q).length = j * 5 + i by simp [tokCell]; omega, h]
    rfl
/-- The slice v holds the tokens ts in w. -/
def TokensAt (w : World) (v : Value) (ts : List Tok) : Prop :=
  ∃ p cap, v = .slice p ts.length cap ∧ ∀ j (hj : j < ts.length), ∃ g x, p = some ⟨g, 0, none⟩ ∧ g < w.heap.size ∧ AttrsAt w x ts[j].attrs ∧ ∀ i, i < 5 → w.cell? ⟨g, j * 5 + i, none⟩ = (tokCell (ts[j], x))[i]?
theorem TokensAt.below {w w' : World} {v : Value} {ts : List Tok} (h : TokensAt w v ts) (hb : Below w.heap.size w w') : TokensAt w' v ts := by
  obtain ⟨p, cap, rfl, h⟩ := h
  refine ⟨p, cap, rfl, fun j hj => ?_⟩
  obtain ⟨g, x, hp, hg, ha, hc⟩ := h j hj
  exact ⟨g, x, hp, Nat.lt_of_lt_of_le hg hb.size, ha.below hb, fun i hi => (hb.cell (p := ⟨g, j * 5 + i, none⟩) hg).trans (hc i hi)⟩
theorem TokensAt.of_row {w : World} {base : Nat} {v : Value} {qs : List (Tok × Value)} (h : w.ownsRow base 27 5 v qs.length (tokCells qs)) (ha : ∀ q ∈ qs, AttrsAt w q.2 q.1.attrs) : TokensAt w v (qs.map (·.1)) := by
  rcases Joins.ownsRow_forms h with ⟨rfl, h0⟩ | ⟨g, cap, rfl⟩
  · exact ⟨none, 0, by rw [List.length_map, h0], fun j hj => absurd hj (by rw [List.length_map]; omega)⟩
  · refine ⟨some ⟨g, 0, none⟩, cap, by rw [List.length_map], fun j hj => ?_⟩
    rw [List.length_map] at hj
    refine ⟨g, qs[j].2, rfl, (h.lt g rfl).2, ?_, fun i hi => ?_⟩
    · rw [List.getElem_map]; exact ha _ (List.getElem_mem hj)
    · rw [h.cellAt (j * 5 + i) (by omega), tokCells_at qs j i hj hi, List.getElem_map]
/-- What All tells. -/
def ToksOut (ts : List Tok) (w : World) (e : Ending) (w' : World) : Prop := ∃ v, e = .returned v ∧ TokensAt w' v ts ∧ Below w.heap.size w w'
theorem info_tok : ∃ i, Tryd.prog.info? 27 = some i ∧ i.zero = some (.agg #[.int .i64 0, .string ByteArray.empty, .slice none 0 0, .bool false, .string ByteArray.empty]) ∧ i.size = 5 ∧ i.bytes = 72 := by
  have hi9 : (Tryd.prog.info? 27).map (fun i => (i.zero, i.size, i.bytes)) = some (some (.agg #[.int .i64 0, .string ByteArray.empty, .slice none 0 0, .bool false, .string ByteArray.empty]), 5, 72) := by kernel_rfl
  obtain ⟨i0, hi, hx⟩ := Option.map_eq_some_iff.1 hi9
  simp only [Prod.mk.injEq] at hx
  exact ⟨i0, hi, hx.1, hx.2.1, hx.2.2⟩
/-- A row of tokens that is being made: its cells, and its tokens' attributes. -/
structure RowW (w : World) (v : Value) (qs : List (Tok × Value)) (W : World) : Prop where
  row : W.ownsRow w.heap.size 27 5 v qs.length (tokCells qs)
  attrs : ∀ q ∈ qs, AttrsAt W q.2 q.1.attrs
  below : Below w.heap.size w W
  nil : qs = [] → v = .slice none 0 0
theorem RowW.start (w : World) : RowW w (.slice none 0 0) [] w := ⟨⟨rfl, Or.inl ⟨rfl, rfl⟩⟩, fun _ h => absurd h (by simp), Below.refl _ _, fun _ => rfl⟩
theorem RowW.on {w W W' : World} {v : Value} {qs : List (Tok × Value)} (h : RowW w v qs W) (hb : Below W.heap.size W W') : RowW w v qs W' :=
  ⟨h.row.kept (row := none) ⟨hb.os, hb.tape, hb.output, hb.size, fun i hi _ => hb.block i hi⟩ (by cases v.ownBlock <;> simp), fun q hq => (h.attrs q hq).below hb, h.below.trans (hb.mono h.below.size), h.nil⟩
theorem AttrsAt.grown {W W' : World} {x : Value} {rs : List (List UInt8 × List UInt8)} {w : World} {v : Value} {qs : List (Tok × Value)} (h : AttrsAt W x rs) (hr : RowW w v qs W) (hg : W.grownBy W' v.ownBlock) : AttrsAt W' x rs := by
  obtain ⟨p, cap, rfl, h⟩ := h
  refine ⟨p, cap, rfl, fun j hj => ?_⟩
  obtain ⟨g, hp, hgl, h0, h1⟩ := h j hj
  have hne : some g ≠ v.ownBlock := by
    intro e
    have hl := (hr.row.lt g e.symm)
    obtain ⟨g', hp', _, h0', _⟩ := h 0 (by omega)
    rw [hp] at hp'
    have e2 : g = g' := by injection hp' with hp'; injection hp'
    subst e2
    rcases Joins.ownsRow_forms hr.row with ⟨rfl, _⟩ | ⟨g2, cap2, rfl⟩
    · cases e
    · have e3 : g = g2 := by simpa [Value.ownBlock] using e
      subst e3
      cases qs with
      | nil =>
        have := hr.nil rfl
        simp at this
      | cons q r =>
        have h5 := hr.row.cellAt 0 (by simp)
        rw [Nat.zero_mul, h5] at h0'
        simp [tokCells, tokCell] at h0'
  exact ⟨g, hp, Nat.lt_of_lt_of_le hgl hg.size, (hg.cell_far ⟨g, j * 2, none⟩ hgl hne).trans h0, (hg.cell_far ⟨g, j * 2 + 1, none⟩ hgl hne).trans h1⟩
/-- One more token. -/
theorem RowW.more {w W W' : World} {v v' : Value} {qs : List (Tok × Value)} {q : Tok × Value} (h : RowW w v qs W) (ha : AttrsAt W q.2 q.1.attrs) (hg : W.grownBy W' v.ownBlock) (hr : W'.ownsRow w.heap.size 27 5 v' (qs.length + 1) (tokCells qs ++ tokCell q)) : RowW w v' (qs ++ [q]) W' := by
  refine ⟨?_, ?_, h.below.grown hg h.below.size (fun k hk => (h.row.lt k hk).1), fun e => absurd e (by simp)⟩
  · rw [List.length_append, tokCells_snoc]
    exact hr
  · intro x hx
    rw [List.mem_append] at hx
    rcases hx with hx | hx
    · exact (h.attrs x hx).grown h hg
    · rw [List.mem_singleton] at hx
      subst hx
      exact ha.grown h hg
end Go.Proofs.YtgelgfgcdfnacaaDoor
