/-
  What the walk of the program's Tree keeps. Any nodes, not too many.
-/
import Derived.Test.YtbadckkcjjfnoaaDPTree
namespace Go.Proofs.Ytbadckkcjjfnoaa
open Go.RowKit

theorem pBfs_head {S : List PN} {kf : Nat} : ∀ (f : Nat) (row : List Int) (ends : List Nat) (i : Nat) (R : List Int) (E : List Nat) (x : Nat), pBfs S kf f row ends i = some (R, E) → ends[0]? = some x → E[0]? = some x
  | 0, _, _, _, _, _, _, h, _ => by cases h
  | f + 1, row, ends, i, R, E, x, h, hx => by
    unfold pBfs at h
    split at h
    · injection h with h; injection h with h1 h2; subst h2; exact hx
    · split at h
      · split at h
        · cases h
        · exact pBfs_head f _ _ _ _ _ x h (by rw [List.getElem?_append_left (lt_of_some hx)]; exact hx)
      · cases h
def natCells (l : List Nat) : List Value := l.map fun (k : Nat) => .int .i64 (k : Int)
/-- The two rows that Tree makes first. -/
structure T1 (w wr : World) (v5 v6 : Value) (row : List Int) (ends : List Nat) : Prop where
  r5 : wr.ownsRow w.heap.size 3 1 v5 row.length (intCells row)
  r6 : wr.ownsRow w.heap.size 3 1 v6 ends.length (natCells ends)
  ne : ∀ g, v5.ownBlock = some g → v6.ownBlock ≠ some g
  below : Below w.heap.size w wr
theorem ownsRow_base {w : World} {B s n : Nat} {e : TypeId} {v : Value} {xs : List Value} (h : w.ownsRow 0 e s v n xs) (hb : ∀ g, v.ownBlock = some g → B ≤ g) : w.ownsRow B e s v n xs := by
  refine ⟨h.1, ?_⟩
  rcases h.2 with h | ⟨g, cap, cur, rfl, _, r⟩
  · exact .inl h
  · exact .inr ⟨g, cap, cur, rfl, hb g rfl, r⟩
theorem ownsRow_zero {w : World} {B s n : Nat} {e : TypeId} {v : Value} {xs : List Value} (h : w.ownsRow B e s v n xs) : w.ownsRow 0 e s v n xs := by
  refine ⟨h.1, ?_⟩
  rcases h.2 with h | ⟨g, cap, cur, rfl, _, r⟩
  · exact .inl h
  · exact .inr ⟨g, cap, cur, rfl, Nat.zero_le _, r⟩

theorem T1.kids {w wr w3 : World} {v5 v6 v3 : Value} {row ks : List Int} {ends : List Nat} (h : T1 w wr v5 v6 row ends) (hR : RowI wr v5 w3 v3 (row ++ ks)) : T1 w w3 v3 v6 (row ++ ks) ends := by
  refine ⟨ownsRow_base hR.row ?_, ?_, ?_, ?_⟩
  · intro g e
    rcases hR.own g e with k | k
    · exact (h.r5.lt g k).1
    · have := h.below.size; omega
  · exact ownsRow_kept h.r6 hR.turns (fun g e k => h.ne g k.symm e)
  · intro g e k
    rcases hR.own g e with q | q
    · exact h.ne g q k
    · have := (h.r6.lt g k).2; omega
  · exact h.below.trans ((hR.turns.below h.below.size (fun b hb e => by have := (h.r5.lt b e.symm).1; omega)))
theorem T1.ends {w wr w3 : World} {v5 : Value} {p2 : Option Addr} {c2 g c x : Nat} {row : List Int} {ends : List Nat} (h : T1 w wr v5 (.slice p2 ends.length c2) row ends) (hr : w3.ownsRow w.heap.size 3 1 (.slice (some ⟨g, 0, none⟩) (ends.length + 1) c) (ends.length + 1) (natCells ends ++ [.int .i64 (x : Int)])) (hg : (wr.alloc (.cells #[.int .i64 (x : Int)] 3)).grownBy w3 (Value.slice p2 ends.length c2).ownBlock) (ho : (Value.slice p2 ends.length c2).ownBlock = some g ∨ g = wr.heap.size + 1) :
    T1 w w3 v5 (.slice (some ⟨g, 0, none⟩) (ends.length + 1) c) row (ends ++ [x]) := by
  have hT : Turns (fun b => some b = (Value.slice p2 ends.length c2).ownBlock) wr w3 := (Turns.of_below ((Below.refl _ wr).alloc (Nat.le_refl _) (.cells #[.int .i64 (x : Int)] 3))).trans ((Turns.of_grown hg (fun q e => e.symm)).mono (fun b _ k => .inl k))
  refine ⟨?_, ?_, ?_, ?_⟩
  · exact ownsRow_kept h.r5 hT (fun q e k => h.ne q e k.symm)
  · rw [List.length_append]
    have : natCells (ends ++ [x]) = natCells ends ++ [.int .i64 (x : Int)] := by simp [natCells]
    rw [this]
    exact hr
  · intro q e k
    injection k with k
    subst k
    rcases ho with k | k
    · exact h.ne _ e k
    · have : g < wr.heap.size := (h.r5.lt _ e).2
      omega
  · exact h.below.trans (hT.below h.below.size (fun b hb e => by have := (h.r6.lt b e.symm).1; omega))
/-- The row of nodes that Tree makes: the first k are done. -/
structure T2 (w : World) (S : List PN) (row : List Int) (ends : List Nat) (v5 v6 : Value) (g k : Nat) (W : World) : Prop where
  t1 : T1 w W v5 v6 row ends
  own : ∃ xs, W.ownsRow w.heap.size 48 7 (.slice (some ⟨g, 0, none⟩) row.length row.length) row.length xs
  n5 : v5.ownBlock ≠ some g
  n6 : v6.ownBlock ≠ some g
  done : ∀ i, i < k → ∃ va, Cells7 W g (i * 7) (ndP (pget S (row.getD i 0))) va (pieceV g (ends.getD i 0) (ends.getD (i + 1) 0)) ∧ AttrsP (fun b => w.heap.size ≤ b ∧ b ≠ g) W va (ndP (pget S (row.getD i 0))).attrs
theorem T2.lt {w W : World} {S : List PN} {row : List Int} {ends : List Nat} {v5 v6 : Value} {g k : Nat} (h : T2 w S row ends v5 v6 g k W) : w.heap.size ≤ g ∧ g < W.heap.size := by
  obtain ⟨xs, hx⟩ := h.own
  exact hx.lt g rfl
theorem T2.on {w W W' : World} {S : List PN} {row : List Int} {ends : List Nat} {v5 v6 : Value} {g k : Nat} (h : T2 w S row ends v5 v6 g k W) (hb : Below W.heap.size W W') : T2 w S row ends v5 v6 g k W' := by
  obtain ⟨xs, hx⟩ := h.own
  have ht : Turns (fun _ => False) W W' := .of_below hb
  refine ⟨⟨ownsRow_kept h.t1.r5 ht (fun _ _ k => k), ownsRow_kept h.t1.r6 ht (fun _ _ k => k), h.t1.ne, h.t1.below.trans (hb.mono h.t1.below.size)⟩, ⟨xs, ownsRow_kept hx ht (fun _ _ k => k)⟩, h.n5, h.n6, fun i hi => ?_⟩
  obtain ⟨va, h7, ha⟩ := h.done i hi
  exact ⟨va, h7.kept (P := fun _ => True) (.of_below hb) trivial h.lt.2, ha.kept (.of_below hb)⟩
theorem T2.cell {w W : World} {S : List PN} {row : List Int} {ends : List Nat} {v5 v6 : Value} {g k : Nat} (h : T2 w S row ends v5 v6 g k W) (o : Nat) (ho : o < row.length * 7) : (∃ u, W.cell? ⟨g, o, none⟩ = some u) ∧ W.frozen? ⟨g, o, none⟩ = false := by
  obtain ⟨xs, hx⟩ := h.own
  refine ⟨⟨xs[o]'(by rw [hx.1]; exact ho), ?_⟩, hx.frozenAt o⟩
  rw [hx.cellAt o ho, List.getElem?_eq_getElem]
theorem T2.set {w W : World} {S : List PN} {row : List Int} {ends : List Nat} {v5 v6 : Value} {g k : Nat} (h : T2 w S row ends v5 v6 g k W) (o : Nat) (u : Value) (ho : k * 7 ≤ o) : T2 w S row ends v5 v6 g k (W.setCell ⟨g, o, none⟩ u) := by
  obtain ⟨xs, hx⟩ := h.own
  obtain ⟨hx2, hg2⟩ := hx.stored o u
  have ht : Turns (fun b => b = g) W (W.setCell ⟨g, o, none⟩ u) := .of_grown hg2 (fun x e => by injection e with e; exact e.symm)
  refine ⟨⟨ownsRow_kept h.t1.r5 ht (fun q e k => by subst k; exact h.n5 e), ownsRow_kept h.t1.r6 ht (fun q e k => by subst k; exact h.n6 e), h.t1.ne, h.t1.below.setCell h.lt.1 u⟩, ⟨_, hx2⟩, h.n5, h.n6, fun i hi => ?_⟩
  obtain ⟨va, h7, ha⟩ := h.done i hi
  have hc : ∀ j, j < 7 → (W.setCell ⟨g, o, none⟩ u).cell? ⟨g, i * 7 + j, none⟩ = W.cell? ⟨g, i * 7 + j, none⟩ := fun j hj => World.cell?_setCell_other _ _ _ _ (by intro e; injection e with _ e; omega)
  exact ⟨va, ⟨(hc 0 (by omega)).trans h7.c0, (hc 1 (by omega)).trans h7.c1, (hc 2 (by omega)).trans h7.c2, (hc 3 (by omega)).trans h7.c3, (hc 4 (by omega)).trans h7.c4, (hc 5 (by omega)).trans h7.c5, (hc 6 (by omega)).trans h7.c6⟩, ha.kept (ht.kept (fun b _ k e => k.2 e))⟩
/-- One node more, without its kids. -/
structure Half (w : World) (S : List PN) (row : List Int) (g k : Nat) (va : Value) (W : World) : Prop where
  c0 : W.cell? ⟨g, k * 7, none⟩ = some (.int .i64 (pget S (row.getD k 0)).kind)
  c1 : W.cell? ⟨g, k * 7 + 1, none⟩ = some (.int .i64 (pget S (row.getD k 0)).space)
  c2 : W.cell? ⟨g, k * 7 + 2, none⟩ = some (.string ⟨(pget S (row.getD k 0)).name.toArray⟩)
  c3 : W.cell? ⟨g, k * 7 + 3, none⟩ = some va
  c4 : W.cell? ⟨g, k * 7 + 4, none⟩ = some (.string ⟨(pget S (row.getD k 0)).text.toArray⟩)
  c5 : W.cell? ⟨g, k * 7 + 5, none⟩ = some (.int .i64 0)
  attrs : AttrsP (fun b => w.heap.size ≤ b ∧ b ≠ g) W va (pget S (row.getD k 0)).attrs
theorem Half.set {w W : World} {S : List PN} {row : List Int} {g k : Nat} {va : Value} (h : Half w S row g k va W) (u : Value) : Half w S row g k va (W.setCell ⟨g, k * 7 + 6, none⟩ u) := by
  have hc : ∀ j, j < 6 → (W.setCell ⟨g, k * 7 + 6, none⟩ u).cell? ⟨g, k * 7 + j, none⟩ = W.cell? ⟨g, k * 7 + j, none⟩ := fun j hj => World.cell?_setCell_other _ _ _ _ (by intro e; injection e with _ e; omega)
  refine ⟨(hc 0 (by omega)).trans h.c0, (hc 1 (by omega)).trans h.c1, (hc 2 (by omega)).trans h.c2, (hc 3 (by omega)).trans h.c3, (hc 4 (by omega)).trans h.c4, (hc 5 (by omega)).trans h.c5, h.attrs.kept ⟨by simp, fun b hb _ => ?_⟩⟩
  exact heap_setCell_other W ⟨g, k * 7 + 6, none⟩ b u hb.2
theorem Half.drew {w W : World} {S : List PN} {row : List Int} {g k : Nat} {va : Value} (h : Half w S row g k va W) : Half w S row g k va W.drew := ⟨h.c0, h.c1, h.c2, h.c3, h.c4, h.c5, h.attrs.kept (.of_below (Below.refl _ _).drew)⟩
theorem T2.more {w W : World} {S : List PN} {row : List Int} {ends : List Nat} {v5 v6 : Value} {g k : Nat} {va : Value} (h : T2 w S row ends v5 v6 g k W) (hh : Half w S row g k va W) (hc : W.cell? ⟨g, k * 7 + 6, none⟩ = some (pieceV g (ends.getD k 0) (ends.getD (k + 1) 0))) : T2 w S row ends v5 v6 g (k + 1) W := by
  refine ⟨h.t1, h.own, h.n5, h.n6, fun i hi => ?_⟩
  rcases Nat.lt_or_ge i k with h1 | h1
  · exact h.done i h1
  · have : i = k := by omega
    subst this
    exact ⟨va, ⟨hh.c0, hh.c1, hh.c2, hh.c3, hh.c4, hh.c5, hc⟩, hh.attrs⟩
/-- The store of a node, seven cells. -/
theorem T2.node {w W : World} {S : List PN} {row : List Int} {ends : List Nat} {v5 v6 : Value} {g k : Nat} (h : T2 w S row ends v5 v6 g k W) (hk : k < row.length) (va : Value) (NM TX : ByteArray) (hN : (⟨(pget S (row.getD k 0)).name.toArray⟩ : ByteArray) = NM) (hX : (⟨(pget S (row.getD k 0)).text.toArray⟩ : ByteArray) = TX) (ha : AttrsP (fun b => w.heap.size ≤ b ∧ b ≠ g) W va (pget S (row.getD k 0)).attrs) :
    ∃ W7, (((((((W.setCell ⟨g, k * 7, none⟩ (.int .i64 (pget S (row.getD k 0)).kind)).setCell ⟨g, k * 7 + 1, none⟩ (.int .i64 (pget S (row.getD k 0)).space)).setCell ⟨g, k * 7 + 2, none⟩ (.string NM)).setCell ⟨g, k * 7 + 3, none⟩ va).setCell ⟨g, k * 7 + 4, none⟩ (.string TX)).setCell ⟨g, k * 7 + 5, none⟩ (.int .i64 0)).setCell ⟨g, k * 7 + 6, none⟩ (.slice none 0 0)) = W7 ∧ T2 w S row ends v5 v6 g k W7 ∧ Half w S row g k va W7 := by
  have stp : ∀ (a : World) (j : Nat) (u : Value), j < 7 → T2 w S row ends v5 v6 g k a ∧ AttrsP (fun b => w.heap.size ≤ b ∧ b ≠ g) a va (pget S (row.getD k 0)).attrs → (T2 w S row ends v5 v6 g k (a.setCell ⟨g, k * 7 + j, none⟩ u) ∧ AttrsP (fun b => w.heap.size ≤ b ∧ b ≠ g) (a.setCell ⟨g, k * 7 + j, none⟩ u) va (pget S (row.getD k 0)).attrs) ∧ (a.setCell ⟨g, k * 7 + j, none⟩ u).cell? ⟨g, k * 7 + j, none⟩ = some u ∧ ∀ j', j' ≠ j → (a.setCell ⟨g, k * 7 + j, none⟩ u).cell? ⟨g, k * 7 + j', none⟩ = a.cell? ⟨g, k * 7 + j', none⟩ := by
    rintro a j u hj ⟨h1, h2⟩
    obtain ⟨⟨u0, hu⟩, _⟩ := h1.cell (k * 7 + j) (by omega)
    refine ⟨⟨h1.set _ u (by omega), h2.kept ⟨by simp, fun b hb _ => heap_setCell_other a ⟨g, k * 7 + j, none⟩ b u hb.2⟩⟩, World.cell?_setCell_same _ _ _ hu, fun j' hj' => World.cell?_setCell_other _ _ _ _ (by intro e; injection e with _ e; omega)⟩
  subst hN hX
  obtain ⟨t0, s0, o0⟩ := stp W 0 (.int .i64 (pget S (row.getD k 0)).kind) (by omega) ⟨h, ha⟩
  obtain ⟨t1, s1, o1⟩ := stp _ 1 (.int .i64 (pget S (row.getD k 0)).space) (by omega) t0
  obtain ⟨t2, s2, o2⟩ := stp _ 2 (.string ⟨(pget S (row.getD k 0)).name.toArray⟩) (by omega) t1
  obtain ⟨t3, s3, o3⟩ := stp _ 3 va (by omega) t2
  obtain ⟨t4, s4, o4⟩ := stp _ 4 (.string ⟨(pget S (row.getD k 0)).text.toArray⟩) (by omega) t3
  obtain ⟨t5, s5, o5⟩ := stp _ 5 (.int .i64 0) (by omega) t4
  obtain ⟨t6, s6, o6⟩ := stp _ 6 (.slice none 0 0) (by omega) t5
  refine ⟨_, rfl, t6.1, ⟨?_, ?_, ?_, ?_, ?_, ?_, t6.2⟩⟩
  · exact ((o6 0 (by omega)).trans ((o5 0 (by omega)).trans ((o4 0 (by omega)).trans ((o3 0 (by omega)).trans ((o2 0 (by omega)).trans (o1 0 (by omega))))))).trans s0
  · exact ((o6 1 (by omega)).trans ((o5 1 (by omega)).trans ((o4 1 (by omega)).trans ((o3 1 (by omega)).trans (o2 1 (by omega)))))).trans s1
  · exact ((o6 2 (by omega)).trans ((o5 2 (by omega)).trans ((o4 2 (by omega)).trans (o3 2 (by omega))))).trans s2
  · exact ((o6 3 (by omega)).trans ((o5 3 (by omega)).trans (o4 3 (by omega)))).trans s3
  · exact ((o6 4 (by omega)).trans (o5 4 (by omega))).trans s4
  · exact (o6 5 (by omega)).trans s5
end Go.Proofs.Ytbadckkcjjfnoaa
