/-
  The reference's nodes by numbers: one number of Ups is turned, one row is laid anew.
-/
import Derived.Test.YtkoijkdhmfnlbaaDRefX
namespace Go.Proofs.Ytkoijkdhmfnlbaa
open Go.RowKit

def setUp (S : List Cl) (n : Nat) (x : Option Nat) : List Cl := S.modify n fun c => { c with up := x }
def setRow (S : List Cl) (u : Nat) (L : List Nat) : List Cl := S.modify u fun c => { c with row := L }
theorem setUp_len (S : List Cl) (n : Nat) (x : Option Nat) : (setUp S n x).length = S.length := by simp [setUp]
theorem setRow_len (S : List Cl) (n : Nat) (x : List Nat) : (setRow S n x).length = S.length := by simp [setRow]
theorem setUp_at {S : List Cl} {n j : Nat} {x : Option Nat} (hj : j < S.length) : ∃ h : j < (setUp S n x).length, (setUp S n x)[j] = ⟨S[j].d, if n = j then x else S[j].up, S[j].row⟩ := by
  refine ⟨by rw [setUp_len]; exact hj, ?_⟩
  unfold setUp
  rw [List.getElem_modify]
  split <;> rfl
theorem setRow_at {S : List Cl} {u j : Nat} {L : List Nat} (hj : j < S.length) : ∃ h : j < (setRow S u L).length, (setRow S u L)[j] = ⟨S[j].d, S[j].up, if u = j then L else S[j].row⟩ := by
  refine ⟨by rw [setRow_len]; exact hj, ?_⟩
  unfold setRow
  rw [List.getElem_modify]
  split <;> rfl
theorem upsV_setUp {S : List Cl} {n : Nat} {x : Option Nat} : upsV (setUp S n x) = (upsV S).set n (.int .i64 (upI x)) := by
  unfold upsV
  apply List.ext_getElem
  · simp [setUp_len]
  · intro j h1 h2
    have hj : j < S.length := by simpa using h2
    obtain ⟨hl, e⟩ := setUp_at (n := n) (x := x) hj
    rw [List.getElem_map, e, List.getElem_set]
    by_cases hnj : n = j
    · rw [if_pos hnj, if_pos hnj]
    · rw [if_neg hnj, if_neg hnj, List.getElem_map]
theorem upsV_setRow {S : List Cl} {n : Nat} {x : List Nat} : upsV (setRow S n x) = upsV S := by
  unfold upsV
  apply List.ext_getElem
  · simp [setRow_len]
  · intro j h1 h2
    have hj : j < S.length := by simpa using h2
    obtain ⟨hl, e⟩ := setRow_at (u := n) (L := x) hj
    rw [List.getElem_map, e, List.getElem_map]
theorem nodes_setUp {S : List Cl} {n : Nat} {x : Option Nat} : (setUp S n x).map (·.d) = S.map (·.d) := by
  apply List.ext_getElem
  · simp [setUp_len]
  · intro j h1 h2
    have hj : j < S.length := by simpa using h2
    obtain ⟨hl, e⟩ := setUp_at (n := n) (x := x) hj
    rw [List.getElem_map, e, List.getElem_map]
theorem nodes_setRow {S : List Cl} {n : Nat} {x : List Nat} : (setRow S n x).map (·.d) = S.map (·.d) := by
  apply List.ext_getElem
  · simp [setRow_len]
  · intro j h1 h2
    have hj : j < S.length := by simpa using h2
    obtain ⟨hl, e⟩ := setRow_at (u := n) (L := x) hj
    rw [List.getElem_map, e, List.getElem_map]
theorem RefQ6.setUp {M P : Nat → Prop} {w : World} {B gU cU l : Nat} {S : List Cl} {vN vR : Value} {qs : List (Nd × Value × Value)} {rv : List Value} (h : RefQ6 M P w B S vN (.slice (some ⟨gU, 0, none⟩) l cU) vR qs rv) (n : Nat) (x : Option Nat) :
    RefQ6 M P (w.setCell ⟨gU, n, none⟩ (.int .i64 (upI x))) B (setUp S n x) vN (.slice (some ⟨gU, 0, none⟩) l cU) vR qs rv ∧ Turns M w (w.setCell ⟨gU, n, none⟩ (.int .i64 (upI x))) := by
  have m1 : M gU := by
    rcases h.own.mU gU rfl with k | k
    · exact k
    · have := (h.own.rU.lt gU rfl).2; omega
  have hr := h.own.rU
  have e0 : l = S.length := by
    rcases Joins.ownsRow_forms hr with ⟨k, _⟩ | ⟨g, c, e⟩
    · cases k
    · injection e
  subst e0
  obtain ⟨r3, g3⟩ := h.own.rU.stored n (.int .i64 (upI x))
  have h3 := h.own.growU r3 g3 rfl (.inl rfl)
  have t3 : Turns M w (w.setCell ⟨gU, n, none⟩ (.int .i64 (upI x))) := (Turns.refl M w).setCell (.inl m1) n _
  have zz : (w.setCell ⟨gU, n, none⟩ (.int .i64 (upI x))).heap.size = w.heap.size := by simp
  have hk : Kept P w (w.setCell ⟨gU, n, none⟩ (.int .i64 (upI x))) := t3.kept fun b _ k => h.pM b k
  refine ⟨⟨?_, h.mB, fun b k => ?_, fun b k => ?_, h.pM, ?_, ?_, ?_, fun q hq => ⟨(h.attrs q hq).1.kept hk, (h.attrs q hq).2⟩, ?_, fun j hj => ?_⟩, t3⟩
  · rw [setUp_len, upsV_setUp]
    exact h3.rebase fun b k1 k2 => by
      rcases k2 with k2 | k2
      · exact k2
      · rw [zz] at k1; omega
  · have := h.min b k; rw [zz]; omega
  · have := h.pin b k; rw [zz]; omega
  · rw [setUp_len]; exact h.pos
  · rw [setUp_len]; exact h.len
  · rw [nodes_setUp]; exact h.nodes
  · rw [setUp_len]; exact h.rlen
  · rw [setUp_len] at hj
    obtain ⟨hl, e⟩ := setUp_at (n := n) (x := x) hj
    rw [e]
    obtain ⟨v, hv, hr⟩ := h.rows j hj
    exact ⟨v, hv, hr.kept hk⟩
theorem RefQ6.setRow {M P : Nat → Prop} {w w1 : World} {B gR cR u c' l : Nat} {S : List Cl} {vN vU : Value} {p' : Option Addr} {qs : List (Nd × Value × Value)} {rv : List Value} (h : RefQ6 M P w B S vN vU (.slice (some ⟨gR, 0, none⟩) l cR) qs rv)
    (hu : u < S.length) (L : List Nat) (hx : RowX w w1 (.slice p' L.length c') L.length (intsV L) []) :
    RefQ6 M (NewP6 P w w1) (w1.setCell ⟨gR, u, none⟩ (.slice p' L.length c')) B (setRow S u L) vN vU (.slice (some ⟨gR, 0, none⟩) l cR) qs (rv.set u (.slice p' L.length c')) ∧ Turns M w (w1.setCell ⟨gR, u, none⟩ (.slice p' L.length c')) := by
  have hb := hx.below
  have z := hb.size
  have h1 := (h.on hb).own
  have m2 : M gR := by
    rcases h.own.mR gR rfl with k | k
    · exact k
    · have := (h.own.rR.lt gR rfl).2; omega
  have e0 : l = S.length := by
    rcases Joins.ownsRow_forms h.own.rR with ⟨k, _⟩ | ⟨g, c, e⟩
    · cases k
    · injection e
  subst e0
  obtain ⟨r2, g2⟩ := h1.rR.stored u (.slice p' L.length c')
  have h2 := h1.growR r2 g2 rfl (.inl rfl)
  have t3 : Turns M w (w1.setCell ⟨gR, u, none⟩ (.slice p' L.length c')) := (Turns.of_below hb).setCell (.inl m2) u _
  have t13 : Turns M w1 (w1.setCell ⟨gR, u, none⟩ (.slice p' L.length c')) := (Turns.refl M w1).setCell (.inl m2) u _
  have zz : (w1.setCell ⟨gR, u, none⟩ (.slice p' L.length c')).heap.size = w1.heap.size := by simp
  have hP : ∀ b, NewP6 P w w1 b → ¬ M b := by
    rintro b (k | k) q
    · exact h.pM b k q
    · have := h.min b q; omega
  have hk : Kept P w (w1.setCell ⟨gR, u, none⟩ (.slice p' L.length c')) := t3.kept fun b _ k => h.pM b k
  refine ⟨⟨?_, h.mB, fun b k => ?_, ?_, hP, ?_, ?_, ?_, fun q hq => ⟨((h.attrs q hq).1.kept hk).mono fun b k _ => .inl k, (h.attrs q hq).2⟩, ?_, fun j hj => ?_⟩, t3⟩
  · rw [setRow_len, upsV_setRow]
    exact h2.rebase fun b k1 k2 => by
      rcases k2 with k2 | k2
      · exact k2
      · rw [zz] at k1; omega
  · have := h.min b k; rw [zz]; omega
  · rintro b (k | k)
    · have := h.pin b k; rw [zz]; omega
    · rw [zz]; exact k.2
  · rw [setRow_len]; exact h.pos
  · rw [setRow_len]; exact h.len
  · rw [nodes_setRow]; exact h.nodes
  · rw [List.length_set, setRow_len]; exact h.rlen
  · rw [setRow_len] at hj
    obtain ⟨hl, e⟩ := setRow_at (u := u) (L := L) hj
    rw [e]
    by_cases huj : u = j
    · subst huj
      refine ⟨.slice p' L.length c', by rw [List.getElem?_set_self (by rw [h.rlen]; exact hu)], ?_⟩
      rw [if_pos rfl]
      have hnum := NumsP.of_row (l := L) hx.row
      refine (hnum.mono (Q := fun b => w.heap.size ≤ b ∧ b < w1.heap.size) fun b k hb => ⟨k, hb⟩).kept (t13.kept fun b hb k q => ?_) |>.mono fun b k _ => .inr k
      have := h.min b q
      omega
    · obtain ⟨v, hv, hr⟩ := h.rows j hj
      refine ⟨v, by rw [List.getElem?_set_ne huj]; exact hv, ?_⟩
      rw [if_neg huj]
      exact (hr.kept hk).mono fun b k _ => .inl k
theorem unlink_sets {S : List Cl} {n u i : Nat} {c : Cl} (hu : S[u]? = some c) : unlink S n u i = setUp (setRow S u (c.row.take i ++ c.row.drop (i + 1))) n none := by
  have h : S.modify u (fun c => { c with row := c.row.take i ++ c.row.drop (i + 1) }) = setRow S u (c.row.take i ++ c.row.drop (i + 1)) := by
    obtain ⟨hl, rfl⟩ := List.getElem?_eq_some_iff.1 hu
    apply List.ext_getElem
    · simp [setRow]
    · intro j h1 h2
      obtain ⟨_, e⟩ := setRow_at (u := u) (L := S[u].row.take i ++ S[u].row.drop (i + 1)) (j := j) (by simpa using h1)
      rw [e, List.getElem_modify]
      split
      · rename_i k; subst k; rfl
      · rfl
  unfold unlink setUp
  rw [h]
/-- What a call that turns one row and one number of Ups brings. -/
theorem RStep6.ofQ {M P P' : Nat → Prop} {w w' : World} {B : Nat} {S : List Cl} {vN vU vR : Value} {qs : List (Nd × Value × Value)} {rv : List Value} (h : RefQ6 M P' w' B S vN vU vR qs rv) (hp : ∀ b, b < w.heap.size → P' b → P b) (t : Turns M w w') : RStep6 w M P B S w' :=
  ⟨M, P', ⟨vN, vU, vR, qs, rv, h⟩, fun _ _ k => k, hp, t⟩
theorem NewP6.old {P : Nat → Prop} {w w1 : World} {b : Nat} (hb : b < w.heap.size) (h : NewP6 P w w1 b) : P b := by
  rcases h with k | k
  · exact k
  · omega
end Go.Proofs.Ytkoijkdhmfnlbaa
