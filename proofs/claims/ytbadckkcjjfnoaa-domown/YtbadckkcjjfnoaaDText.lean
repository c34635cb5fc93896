/-
  The walk of the reference's Texts. Any nodes, not too many.
-/
import Derived.Test.YtbadckkcjjfnoaaDSame
import Derived.Laws.AppendOwnNone
namespace Go.Proofs.Ytbadckkcjjfnoaa
open Go.RowKit

/-- The slice v holds the texts ws in w, in a block of P. -/
def TextsP (P : Nat → Prop) (w : World) (v : Value) (ws : List (List UInt8)) : Prop :=
  ∃ p cap, v = .slice p ws.length cap ∧ (0 < ws.length → ∃ g o, p = some ⟨g, o, none⟩ ∧ P g ∧ g < w.heap.size ∧ ∀ j (hj : j < ws.length), w.cell? ⟨g, o + j, none⟩ = some (strV ws[j]))
theorem TextsP.kept {P : Nat → Prop} {w w' : World} {v : Value} {ws : List (List UInt8)} (h : TextsP P w v ws) (hk : Kept P w w') : TextsP P w' v ws := by
  obtain ⟨p, cap, rfl, h⟩ := h
  refine ⟨p, cap, rfl, fun h0 => ?_⟩
  obtain ⟨g, o, rfl, hp, hg, hc⟩ := h h0
  exact ⟨g, o, rfl, hp, Nat.lt_of_lt_of_le hg hk.size, fun j hj => (hk.cell hp hg).trans (hc j hj)⟩
theorem info_str : ∃ i, Try.prog.info? 9 = some i ∧ i.zero = some (.string ByteArray.empty) ∧ i.size = 1 ∧ i.bytes = 16 := by
  have hi9 : (Try.prog.info? 9).map (fun i => (i.zero, i.size, i.bytes)) = some (some (.string ByteArray.empty), 1, 16) := by kernel_rfl
  obtain ⟨i0, hi, hx⟩ := Option.map_eq_some_iff.1 hi9
  simp only [Prod.mk.injEq] at hx
  exact ⟨i0, hi, hx.1, hx.2.1, hx.2.2⟩
/-- A row of texts that is being made. -/
structure RowT (w : World) (v : Value) (ws : List (List UInt8)) (W : World) : Prop where
  row : W.ownsRow w.heap.size 9 1 v ws.length (ws.map strV)
  below : Below w.heap.size w W
  nil : ws = [] → v = .slice none 0 0
theorem RowT.start (w : World) : RowT w (.slice none 0 0) [] w := ⟨⟨rfl, Or.inl ⟨rfl, rfl⟩⟩, Below.refl _ _, fun _ => rfl⟩
theorem RowT.on {w W W' : World} {v : Value} {ws : List (List UInt8)} (h : RowT w v ws W) (hb : Below W.heap.size W W') : RowT w v ws W' :=
  ⟨h.row.kept (row := none) ⟨hb.os, hb.tape, hb.output, hb.size, fun i hi _ => hb.block i hi⟩ (by cases v.ownBlock <;> simp), h.below.trans (hb.mono h.below.size), h.nil⟩
theorem RowT.told {w W : World} {v : Value} {ws : List (List UInt8)} (h : RowT w v ws W) : TextsP (fun b => w.heap.size ≤ b) W v ws := by
  rcases Joins.ownsRow_forms h.row with ⟨rfl, h0⟩ | ⟨g, cap, rfl⟩
  · exact ⟨none, 0, by rw [h0], fun hp => absurd hp (by omega)⟩
  · refine ⟨some ⟨g, 0, none⟩, cap, rfl, fun _ => ⟨g, 0, rfl, (h.row.lt g rfl).1, (h.row.lt g rfl).2, fun j hj => ?_⟩⟩
    rw [Nat.zero_add, h.row.cellAt j (by omega), List.getElem?_map, List.getElem?_eq_getElem hj]
    rfl
theorem RowT.form {w W : World} {v : Value} {ws : List (List UInt8)} (h : RowT w v ws W) : ∃ p cap, v = .slice p ws.length cap := by
  rcases Joins.ownsRow_forms h.row with ⟨rfl, h0⟩ | ⟨g, cap, rfl⟩
  · exact ⟨none, 0, by rw [h0]⟩
  · exact ⟨_, cap, rfl⟩
theorem RowT.more {w W W' : World} {v : Value} {g n cap : Nat} {ws us : List (List UInt8)} (h : RowT w v ws W) (hg : W.grownBy W' v.ownBlock) (hr : W'.ownsRow w.heap.size 9 1 (.slice (some ⟨g, 0, none⟩) n cap) (ws.length + us.length) (ws.map strV ++ us.map strV)) (hu : us ≠ []) : RowT w (.slice (some ⟨g, 0, none⟩) n cap) (ws ++ us) W' := by
  refine ⟨?_, h.below.grown hg h.below.size (fun k hk => (h.row.lt k hk).1), fun e => absurd (List.append_eq_nil_iff.1 e).2 hu⟩
  rw [List.length_append, List.map_append]
  exact hr
theorem row_news {W : World} {base : Nat} {g n cap : Nat} {ws : List (List UInt8)} (h : W.ownsRow base 9 1 (.slice (some ⟨g, 0, none⟩) n cap) n (ws.map strV)) : ∀ j u, (ws.map strV)[j]? = some u → W.cell? ((⟨g, 0, none⟩ : Addr).add j) = some u := by
  intro j u hu
  have hj : j < n * 1 := by
    have h1 := lt_of_some hu
    have h2 := h.1
    omega
  have := h.cellAt j hj
  rw [hu] at this
  rw [WideShapes.add_plain, Nat.zero_add]
  exact this
/-- What Texts tells. -/
def TextsOut (ws : List (List UInt8)) (w : World) (e : Ending) (w' : World) : Prop := ∃ v, e = .returned v ∧ RowT w v ws w'

end Go.Proofs.Ytbadckkcjjfnoaa
