/-
  The reference's nodes by numbers behind a text that grew. Any nodes, not too many.
-/
import Derived.Test.YtkoijkdhmfnlbaaDRefD
namespace Go.Proofs.Ytkoijkdhmfnlbaa
open Go.RowKit

theorem nodeCells_put : ∀ (qs : List (Nd × Value × Value)) (j i : Nat) (u : Value) (q : Nd × Value × Value) (hj : j < qs.length), i < 7 → nodeCell q = (nodeCell qs[j]).set i u → (nodeCells qs).set (j * 7 + i) u = nodeCells (qs.set j q)
  | [], j, _, _, _, hj, _, _ => absurd hj (by simp)
  | p :: r, 0, i, u, q, _, hi, h => by
    show (nodeCell p ++ nodeCells r).set (0 * 7 + i) u = nodeCell q ++ nodeCells r
    rw [Nat.zero_mul, Nat.zero_add, List.set_append_left _ _ (by simp [nodeCell]; omega)]
    have h' : nodeCell q = (nodeCell p).set i u := h
    rw [h']
  | p :: r, j + 1, i, u, q, hj, hi, h => by
    show (nodeCell p ++ nodeCells r).set ((j + 1) * 7 + i) u = nodeCell p ++ nodeCells (r.set j q)
    rw [List.set_append_right _ _ (by simp [nodeCell]; omega), show (j + 1) * 7 + i - (nodeCell p).length = j * 7 + i by simp [nodeCell]; omega, nodeCells_put r j i u q (by simpa using hj) hi h]
theorem addText_at {S : List Cl} {k j : Nat} {s : List UInt8} (hj : j < S.length) : ∃ h : j < (addText S k s).length, (addText S k s)[j] = ⟨if k = j then { S[j].d with text := S[j].d.text ++ s } else S[j].d, S[j].up, S[j].row⟩ := by
  have h := addText_get k s (List.getElem?_eq_getElem hj)
  have hl : j < (addText S k s).length := by rw [addText_len]; exact hj
  exact ⟨hl, by rw [List.getElem?_eq_getElem hl] at h; exact Option.some.inj h⟩
theorem upsV_text {S : List Cl} {k : Nat} {s : List UInt8} : upsV (addText S k s) = upsV S := by
  unfold upsV
  apply List.ext_getElem
  · simp [addText_len]
  · intro j h1 h2
    have hj : j < S.length := by simpa using h2
    obtain ⟨hl, e⟩ := addText_at (k := k) (s := s) hj
    rw [List.getElem_map, e, List.getElem_map]
theorem nodes_text {S : List Cl} {k : Nat} {s : List UInt8} (hk : k < S.length) : (addText S k s).map (·.d) = (S.map (·.d)).set k { S[k].d with text := S[k].d.text ++ s } := by
  apply List.ext_getElem
  · simp [addText_len]
  · intro j h1 h2
    have hj : j < S.length := by simpa using h2
    obtain ⟨hl, e⟩ := addText_at (k := k) (s := s) hj
    rw [List.getElem_map, e, List.getElem_set]
    by_cases hkj : k = j
    · subst hkj
      rw [if_pos rfl, if_pos rfl]
    · rw [if_neg hkj, if_neg hkj, List.getElem_map]
/-- The text of node k is stored, longer. -/
theorem RefQ6.texted {M P : Nat → Prop} {w : World} {B gN cN k : Nat} {S : List Cl} {vU vR : Value} {qs : List (Nd × Value × Value)} {rv : List Value} (h : RefQ6 M P w B S (.slice (some ⟨gN, 0, none⟩) S.length cN) vU vR qs rv) (hk : k < S.length) (s : List UInt8) :
    RStep6 w M P B (addText S k s) (w.setCell ⟨gN, k * 7 + 4, none⟩ (.string ⟨(S[k].d.text ++ s).toArray⟩)) := by
  obtain ⟨hq, hd⟩ := h.node k hk
  have m1 : M gN := by
    rcases h.own.mN gN rfl with q | q
    · exact q
    · have := (h.own.rN.lt gN rfl).2; omega
  obtain ⟨r2, g2⟩ := h.own.rN.stored (k * 7 + 4) (.string ⟨(S[k].d.text ++ s).toArray⟩)
  rw [nodeCells_put qs k 4 _ ({ S[k].d with text := S[k].d.text ++ s }, qs[k].2) hq (by omega) (by rw [← hd]; rfl)] at r2
  have h2 := h.own.growN r2 g2 rfl (.inl rfl)
  have t1 : Turns M w (w.setCell ⟨gN, k * 7 + 4, none⟩ (.string ⟨(S[k].d.text ++ s).toArray⟩)) := (Turns.refl M w).setCell (.inl m1) _ _
  have hkp : Kept P w (w.setCell ⟨gN, k * 7 + 4, none⟩ (.string ⟨(S[k].d.text ++ s).toArray⟩)) := t1.kept fun b _ q => h.pM b q
  refine ⟨M, P, ⟨.slice (some ⟨gN, 0, none⟩) S.length cN, vU, vR, qs.set k ({ S[k].d with text := S[k].d.text ++ s }, qs[k].2), rv, ?_, h.mB, fun b q => ?_, fun b q => ?_, h.pM, ?_, ?_, ?_, fun q hq2 => ?_, ?_, fun j hj => ?_⟩, fun _ _ q => q, fun _ _ q => q, t1⟩
  · rw [addText_len, upsV_text]
    exact h2.rebase fun b q1 q2 => by
      rcases q2 with q2 | q2
      · exact q2
      · simp at q1; omega
  · have := h.min b q; simpa using this
  · have := h.pin b q; simpa using this
  · rw [addText_len]; exact h.pos
  · rw [addText_len]; exact h.len
  · rw [nodes_text hk, List.map_set, h.nodes]
  · obtain ⟨j, hj, rfl⟩ := List.mem_iff_getElem.1 hq2
    rw [List.length_set] at hj
    rw [List.getElem_set]
    split
    · have := h.attrs qs[k] (List.getElem_mem hq)
      refine ⟨?_, this.2⟩
      have h3 := this.1.kept hkp
      rw [hd] at h3
      exact h3
    · have := h.attrs qs[j] (List.getElem_mem hj)
      exact ⟨this.1.kept hkp, this.2⟩
  · rw [addText_len]; exact h.rlen
  · rw [addText_len] at hj
    obtain ⟨hl, e⟩ := addText_at (k := k) (s := s) hj
    rw [e]
    obtain ⟨v, hv, hr⟩ := h.rows j hj
    exact ⟨v, hv, hr.kept hkp⟩
end Go.Proofs.Ytkoijkdhmfnlbaa
