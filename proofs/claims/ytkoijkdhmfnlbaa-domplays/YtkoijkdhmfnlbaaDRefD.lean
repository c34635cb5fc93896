/-
  The reference's Put for nodes by numbers. Any nodes, not too many.
-/
import Derived.Test.YtkoijkdhmfnlbaaRfB
import Derived.Test.YtkoijkdhmfnlbaaDRefB
import Derived.Test.YtkoijkdhmfnlbaaDRefC
namespace Go.Proofs.Ytkoijkdhmfnlbaa
open Go.RowKit

theorem link_at {S : List Cl} {n u i j : Nat} (hj : j < S.length) : ∃ h : j < (link S n u i).length, (link S n u i)[j] = ⟨S[j].d, if n = j then some u else S[j].up, if u = j then S[j].row.take i ++ [n] ++ S[j].row.drop i else S[j].row⟩ := by
  have h := link_get n u i (List.getElem?_eq_getElem hj)
  have hl : j < (link S n u i).length := by rw [link_len]; exact hj
  exact ⟨hl, by rw [List.getElem?_eq_getElem hl] at h; exact Option.some.inj h⟩
theorem upsV_link {S : List Cl} {n u i : Nat} : upsV (link S n u i) = (upsV S).set n (.int .i64 (u : Int)) := by
  unfold upsV
  apply List.ext_getElem
  · simp [link_len]
  · intro j h1 h2
    have hj : j < S.length := by simpa using h2
    obtain ⟨hl, e⟩ := link_at (n := n) (u := u) (i := i) hj
    rw [List.getElem_map, e, List.getElem_set]
    by_cases hnj : n = j
    · rw [if_pos hnj, if_pos hnj]
      rfl
    · rw [if_neg hnj, if_neg hnj, List.getElem_map]
theorem nodes_link {S : List Cl} {n u i : Nat} : (link S n u i).map (·.d) = S.map (·.d) := by
  apply List.ext_getElem
  · simp [link_len]
  · intro j h1 h2
    have hj : j < S.length := by simpa using h2
    obtain ⟨hl, e⟩ := link_at (n := n) (u := u) (i := i) hj
    rw [List.getElem_map, e, List.getElem_map]
theorem intsV_app (a b : List Nat) : intsV (a ++ b) = intsV a ++ intsV b := by simp [intsV]
theorem RefQ6.linked {M P : Nat → Prop} {w w1 : World} {B gN gU gR cN cU cR n u i c' : Nat} {S : List Cl} {p' : Option Addr} {qs : List (Nd × Value × Value)} {rv : List Value} (h : RefQ6 M P w B S (.slice (some ⟨gN, 0, none⟩) S.length cN) (.slice (some ⟨gU, 0, none⟩) S.length cU) (.slice (some ⟨gR, 0, none⟩) S.length cR) qs rv)
    (hu : u < S.length) (L : List Nat) (hL : L = S[u].row.take i ++ [n] ++ S[u].row.drop i) (hx : RowX w w1 (.slice p' L.length c') L.length (intsV L) []) :
    RStep6 w M P B (link S n u i) ((w1.setCell ⟨gR, u, none⟩ (.slice p' L.length c')).setCell ⟨gU, n, none⟩ (.int .i64 (u : Int))) := by
  have hb := hx.below
  have z := hb.size
  have h1 := (h.on hb).own
  have m1 : M gU := by
    rcases h.own.mU gU rfl with k | k
    · exact k
    · have := (h.own.rU.lt gU rfl).2; omega
  have m2 : M gR := by
    rcases h.own.mR gR rfl with k | k
    · exact k
    · have := (h.own.rR.lt gR rfl).2; omega
  obtain ⟨r2, g2⟩ := h1.rR.stored u (.slice p' L.length c')
  have h2 := h1.growR r2 g2 rfl (.inl rfl)
  obtain ⟨r3, g3⟩ := h2.rU.stored n (.int .i64 (u : Int))
  have h3 := h2.growU r3 g3 rfl (.inl rfl)
  have t3 : Turns M w ((w1.setCell ⟨gR, u, none⟩ (.slice p' L.length c')).setCell ⟨gU, n, none⟩ (.int .i64 (u : Int))) := ((Turns.of_below hb).setCell (.inl m2) u _).setCell (.inl m1) n _
  have t13 : Turns M w1 ((w1.setCell ⟨gR, u, none⟩ (.slice p' L.length c')).setCell ⟨gU, n, none⟩ (.int .i64 (u : Int))) := ((Turns.refl M w1).setCell (.inl m2) u _).setCell (.inl m1) n _
  have zz : ((w1.setCell ⟨gR, u, none⟩ (.slice p' L.length c')).setCell ⟨gU, n, none⟩ (.int .i64 (u : Int))).heap.size = w1.heap.size := by simp
  have hP : ∀ b, NewP6 P w w1 b → ¬ M b := by
    rintro b (k | k) q
    · exact h.pM b k q
    · have := h.min b q; omega
  have hk : Kept P w ((w1.setCell ⟨gR, u, none⟩ (.slice p' L.length c')).setCell ⟨gU, n, none⟩ (.int .i64 (u : Int))) := t3.kept fun b _ k => h.pM b k
  refine ⟨M, NewP6 P w w1, ⟨.slice (some ⟨gN, 0, none⟩) S.length cN, .slice (some ⟨gU, 0, none⟩) S.length cU, .slice (some ⟨gR, 0, none⟩) S.length cR, qs, rv.set u (.slice p' L.length c'), ?_, h.mB, fun b k => ?_, ?_, hP, ?_, ?_, ?_, fun q hq => ⟨((h.attrs q hq).1.kept hk).mono fun b k _ => .inl k, (h.attrs q hq).2⟩, ?_, fun j hj => ?_⟩, fun _ _ k => k, ?_, t3⟩
  · rw [link_len, upsV_link]
    exact h3.rebase fun b k1 k2 => by
      rcases k2 with k2 | k2
      · exact k2
      · rw [zz] at k1; omega
  · have := h.min b k; rw [zz]; omega
  · rintro b (k | k)
    · have := h.pin b k; rw [zz]; omega
    · rw [zz]; exact k.2
  · rw [link_len]; exact h.pos
  · rw [link_len]; exact h.len
  · rw [nodes_link]; exact h.nodes
  · rw [List.length_set, link_len]; exact h.rlen
  · rw [link_len] at hj
    obtain ⟨hl, e⟩ := link_at (n := n) (u := u) (i := i) hj
    rw [e]
    by_cases huj : u = j
    · subst huj
      refine ⟨.slice p' L.length c', by rw [List.getElem?_set_self (by rw [h.rlen]; exact hu)], ?_⟩
      rw [if_pos rfl, ← hL]
      have hnum := NumsP.of_row (l := L) hx.row
      refine (hnum.mono (Q := fun b => w.heap.size ≤ b ∧ b < w1.heap.size) fun b k hb => ⟨k, hb⟩).kept (t13.kept fun b hb k q => ?_) |>.mono fun b k _ => .inr k
      have := h.min b q
      omega
    · obtain ⟨v, hv, hr⟩ := h.rows j hj
      refine ⟨v, by rw [List.getElem?_set_ne huj]; exact hv, ?_⟩
      rw [if_neg huj]
      exact (hr.kept hk).mono fun b k _ => .inl k
  · rintro b hb2 (k | k)
    · exact k
    · omega
theorem RStep6.same {M P : Nat → Prop} {w : World} {B : Nat} {S : List Cl} (h : RefD M P w B S) : RStep6 w M P B S w := ⟨M, P, h, fun _ _ k => k, fun _ _ k => k, Turns.refl _ _⟩
end Go.Proofs.Ytkoijkdhmfnlbaa
