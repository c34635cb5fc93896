/-
  Level by level (chapter 6's Tree): what the program's rows come to; its piece. Any nodes, not too many.
  What the walk of the program's Tree keeps. Any nodes, not too many.
  The walk of the program's Tree. Any nodes, not too many.
  The walk of the laws' known (chapter 6): true, and nothing old is changed. A Doc behind calls.
  The walk of the program's Move. Any nodes, not too many.
-/
import Derived.Test.YtkoijkdhmfnlbaaDCll
namespace Go.Proofs.Ytkoijkdhmfnlbaa
open Go.RowKit

/-- A piece of a row of nodes. -/
def pieceV (g a b : Nat) : Value := if a = b then .slice none 0 0 else .slice (some ⟨g, a * 7, none⟩) (b - a) (b - a)
set_option maxHeartbeats 1000000 in
set_option maxRecDepth 100000 in
theorem dpieceP (g N cap a b : Nat) (w : World) (hab : a ≤ b) (hb : b ≤ N) (hN : N ≤ cap) : Calls Try.prog 39 #[.slice (some ⟨g, 0, none⟩) N cap, .int .i64 (a : Int), .int .i64 (b : Int)] w (Gives (pieceV g a b) w) := by
  unfold pieceV
  by_cases h : a = b
  · rw [if_pos h]
    have q : ((a : Int) == (b : Int)) = true := by simp [h]
    clear h
    go_enter Try.func39, Try.ntmps39
    go_wp2_with fail
    go_ret
    exact ⟨rfl, rfl⟩
  · rw [if_neg h]
    have q : ((a : Int) == (b : Int)) = false := by rw [beq_eq_false_iff_ne]; omega
    go_enter Try.func39, Try.ntmps39
    go_wp2_with fail
    go_ret
    exact ⟨rfl, rfl⟩

def ndP (n : PN) : Nd := ⟨n.kind, n.space, n.name, n.attrs, n.text, 0⟩
/-- The rows that Tree makes: all nodes level by level; where each one's kids end. -/
def pBfs (S : List PN) (kf : Nat) : Nat → List Int → List Nat → Nat → Option (List Int × List Nat)
  | 0, _, _, _ => none
  | f + 1, row, ends, i =>
    match row[i]? with
    | none => some (row, ends)
    | some k => if pHas S k then match pKids S kf k with
        | none => none
        | some ks => pBfs S kf f (row ++ ks) (ends ++ [row.length + ks.length]) (i + 1)
      else none
/-- What holds of them. -/
structure Bfs (S : List PN) (row : List Int) (ends : List Nat) (i : Nat) : Prop where
  len : ends.length = i + 1
  le : i ≤ row.length
  last : ends[i]? = some row.length
  at_ : ∀ j, j < i → ∃ a b, ends[j]? = some a ∧ ends[j + 1]? = some b ∧ j < a ∧ a ≤ b ∧ b ≤ row.length
  has : ∀ j k, j < i → row[j]? = some k → pHas S k = true
theorem Bfs.step {S : List PN} {row ks : List Int} {ends : List Nat} {i : Nat} {k : Int} (h : Bfs S row ends i) (hk : row[i]? = some k) (hp : pHas S k = true) : Bfs S (row ++ ks) (ends ++ [row.length + ks.length]) (i + 1) := by
  have hi := lt_of_some hk
  have hl := h.len
  refine ⟨by simp [hl], by simp; omega, ?_, ?_, ?_⟩
  · rw [List.getElem?_append_right (by omega)]
    simp [hl]
  · intro j hj
    rcases Nat.lt_or_ge j i with h1 | h1
    · obtain ⟨a, b, e1, e2, e3, e4, e5⟩ := h.at_ j h1
      exact ⟨a, b, by rw [List.getElem?_append_left (by omega)]; exact e1, by rw [List.getElem?_append_left (by omega)]; exact e2, e3, e4, by simp; omega⟩
    · have : j = i := by omega
      subst this
      refine ⟨row.length, row.length + ks.length, by rw [List.getElem?_append_left (by omega)]; exact h.last, ?_, hi, by omega, by simp⟩
      rw [List.getElem?_append_right (by omega)]
      simp [hl]
  · intro j k' hj hk'
    rcases Nat.lt_or_ge j i with h1 | h1
    · rw [List.getElem?_append_left (by omega)] at hk'
      exact h.has j k' h1 hk'
    · have : j = i := by omega
      subst this
      rw [List.getElem?_append_left hi, hk] at hk'
      injection hk' with e
      subst e
      exact hp
theorem pBfs_len {S : List PN} {kf : Nat} : ∀ (f : Nat) (row : List Int) (ends : List Nat) (i : Nat) (R : List Int) (E : List Nat), pBfs S kf f row ends i = some (R, E) → row.length ≤ R.length
  | 0, _, _, _, _, _, h => by cases h
  | f + 1, row, ends, i, R, E, h => by
    unfold pBfs at h
    split at h
    · injection h with h; injection h with h1 h2; subst h1; exact Nat.le_refl _
    · split at h
      · split at h
        · cases h
        · have := pBfs_len f _ _ _ _ _ h
          simp at this
          omega
      · cases h
/-- The nodes of a piece: c of them, from the i-th on. -/
def foF (S : List PN) (row : List Int) (ends : List Nat) : Nat → Nat → Nat → Fo
  | _, _, 0 => .nil
  | 0, _, _ + 1 => .nil
  | f + 1, i, c + 1 => .cons (ndP (pget S (row.getD i 0))) (foF S row ends f (ends.getD i 0) (ends.getD (i + 1) 0 - ends.getD i 0)) (foF S row ends f (i + 1) c)
theorem foF_len {S : List PN} {row : List Int} {ends : List Nat} : ∀ (f i c : Nat), c ≤ f → (foF S row ends f i c).len = c
  | _, _, 0, _ => by unfold foF; rfl
  | 0, _, _ + 1, h => by omega
  | f + 1, i, c + 1, h => by unfold foF; rw [Fo.len, foF_len f (i + 1) c (by omega)]
/-- Nodes that stand in one row, and lead to pieces of it. -/
theorem nodes_piece {P : Nat → Prop} {w : World} {g : Nat} {S : List PN} {row : List Int} {ends : List Nat} (hB : Bfs S row ends row.length) (hg : g < w.heap.size) (hP : P g)
    (hc : ∀ i, i < row.length → ∃ va, Cells7 w g (i * 7) (ndP (pget S (row.getD i 0))) va (pieceV g (ends.getD i 0) (ends.getD (i + 1) 0)) ∧ AttrsP P w va (ndP (pget S (row.getD i 0))).attrs) :
    ∀ (f i c o k : Nat), row.length - i < f → i + c ≤ row.length → o + k * 7 = i * 7 → NodesFrom P w (foF S row ends f i c) g o k
  | f, i, 0, o, k, _, _, _ => by unfold foF; trivial
  | 0, i, c + 1, _, _, h, _, _ => by omega
  | f + 1, i, c + 1, o, k, hf, hic, ho => by
    unfold foF
    obtain ⟨va, h7, ha⟩ := hc i (by omega)
    obtain ⟨a, b, e1, e2, e3, e4, e5⟩ := hB.at_ i (by omega)
    have ea : ends.getD i 0 = a := by rw [List.getD_eq_getElem?_getD, e1]; rfl
    have eb : ends.getD (i + 1) 0 = b := by rw [List.getD_eq_getElem?_getD, e2]; rfl
    rw [ea, eb] at h7
    rw [← ho] at h7
    refine ⟨⟨va, pieceV g a b, h7, ha, ?_⟩, nodes_piece hB hg hP hc f (i + 1) c o (k + 1) (by omega) (by omega) (by omega)⟩
    rw [ea, eb]
    have hl : (foF S row ends f a (b - a)).len = b - a := foF_len f a (b - a) (by omega)
    rw [hl]
    unfold pieceV
    by_cases hab : a = b
    · rw [if_pos hab]
      exact ⟨none, 0, by rw [show b - a = 0 by omega], fun h => absurd h (by omega)⟩
    · rw [if_neg hab]
      exact ⟨_, b - a, rfl, fun _ => ⟨g, a * 7, rfl, hP, hg, nodes_piece hB hg hP hc f a (b - a) (a * 7) 0 (by omega) (by omega) (by omega)⟩⟩
end Go.Proofs.Ytkoijkdhmfnlbaa
namespace Go.Proofs.Ytkoijkdhmfnlbaa
open Go.RowKit

theorem pBfs_head {S : List PN} {kf : Nat} : ∀ (f : Nat) (row : List Int) (ends : List Nat) (i : Nat) (R : List Int) (E : List Nat) (x : Nat), pBfs S kf f row ends i = some (R, E) → ends[0]? = some x → E[0]? = some x
  | 0, _, _, _, _, _, _, h, _ => by cases h
  | f + 1, row, ends, i, R, E, x, h, hx => by
    unfold pBfs at h
    split at h
    · injection h with h; injection h with h1 h2; subst h2; exact hx
    · split at h
      · split at h
        · cases h
        · exact pBfs_head f _ _ _ _ _ x h (by rw [List.getElem?_append_left (lt_of_some hx)]; exact hx)
      · cases h
def natCells (l : List Nat) : List Value := l.map fun (k : Nat) => .int .i64 (k : Int)
/-- The two rows that Tree makes first. -/
structure T1 (w wr : World) (v5 v6 : Value) (row : List Int) (ends : List Nat) : Prop where
  r5 : wr.ownsRow w.heap.size 3 1 v5 row.length (intCells row)
  r6 : wr.ownsRow w.heap.size 3 1 v6 ends.length (natCells ends)
  ne : ∀ g, v5.ownBlock = some g → v6.ownBlock ≠ some g
  below : Below w.heap.size w wr
theorem ownsRow_base {w : World} {B s n : Nat} {e : TypeId} {v : Value} {xs : List Value} (h : w.ownsRow 0 e s v n xs) (hb : ∀ g, v.ownBlock = some g → B ≤ g) : w.ownsRow B e s v n xs := by
  refine ⟨h.1, ?_⟩
  rcases h.2 with h | ⟨g, cap, cur, rfl, _, r⟩
  · exact .inl h
  · exact .inr ⟨g, cap, cur, rfl, hb g rfl, r⟩
theorem ownsRow_zero {w : World} {B s n : Nat} {e : TypeId} {v : Value} {xs : List Value} (h : w.ownsRow B e s v n xs) : w.ownsRow 0 e s v n xs := by
  refine ⟨h.1, ?_⟩
  rcases h.2 with h | ⟨g, cap, cur, rfl, _, r⟩
  · exact .inl h
  · exact .inr ⟨g, cap, cur, rfl, Nat.zero_le _, r⟩

theorem T1.kids {w wr w3 : World} {v5 v6 v3 : Value} {row ks : List Int} {ends : List Nat} (h : T1 w wr v5 v6 row ends) (hR : RowI wr v5 w3 v3 (row ++ ks)) : T1 w w3 v3 v6 (row ++ ks) ends := by
  refine ⟨ownsRow_base hR.row ?_, ?_, ?_, ?_⟩
  · intro g e
    rcases hR.own g e with k | k
    · exact (h.r5.lt g k).1
    · have := h.below.size; omega
  · exact ownsRow_kept h.r6 hR.turns (fun g e k => h.ne g k.symm e)
  · intro g e k
    rcases hR.own g e with q | q
    · exact h.ne g q k
    · have := (h.r6.lt g k).2; omega
  · exact h.below.trans ((hR.turns.below h.below.size (fun b hb e => by have := (h.r5.lt b e.symm).1; omega)))
theorem T1.ends {w wr w3 : World} {v5 : Value} {p2 : Option Addr} {c2 g c x : Nat} {row : List Int} {ends : List Nat} (h : T1 w wr v5 (.slice p2 ends.length c2) row ends) (hr : w3.ownsRow w.heap.size 3 1 (.slice (some ⟨g, 0, none⟩) (ends.length + 1) c) (ends.length + 1) (natCells ends ++ [.int .i64 (x : Int)])) (hg : (wr.alloc (.cells #[.int .i64 (x : Int)] 3)).grownBy w3 (Value.slice p2 ends.length c2).ownBlock) (ho : (Value.slice p2 ends.length c2).ownBlock = some g ∨ g = wr.heap.size + 1) :
    T1 w w3 v5 (.slice (some ⟨g, 0, none⟩) (ends.length + 1) c) row (ends ++ [x]) := by
  have hT : Turns (fun b => some b = (Value.slice p2 ends.length c2).ownBlock) wr w3 := (Turns.of_below ((Below.refl _ wr).alloc (Nat.le_refl _) (.cells #[.int .i64 (x : Int)] 3))).trans ((Turns.of_grown hg (fun q e => e.symm)).mono (fun b _ k => .inl k))
  refine ⟨?_, ?_, ?_, ?_⟩
  · exact ownsRow_kept h.r5 hT (fun q e k => h.ne q e k.symm)
  · rw [List.length_append]
    have : natCells (ends ++ [x]) = natCells ends ++ [.int .i64 (x : Int)] := by simp [natCells]
    rw [this]
    exact hr
  · intro q e k
    injection k with k
    subst k
    rcases ho with k | k
    · exact h.ne _ e k
    · have : g < wr.heap.size := (h.r5.lt _ e).2
      omega
  · exact h.below.trans (hT.below h.below.size (fun b hb e => by have := (h.r6.lt b e.symm).1; omega))
/-- The row of nodes that Tree makes: the first k are done. -/
structure T2 (w : World) (S : List PN) (row : List Int) (ends : List Nat) (v5 v6 : Value) (g k : Nat) (W : World) : Prop where
  t1 : T1 w W v5 v6 row ends
  own : ∃ xs, W.ownsRow w.heap.size 43 7 (.slice (some ⟨g, 0, none⟩) row.length row.length) row.length xs
  n5 : v5.ownBlock ≠ some g
  n6 : v6.ownBlock ≠ some g
  done : ∀ i, i < k → ∃ va, Cells7 W g (i * 7) (ndP (pget S (row.getD i 0))) va (pieceV g (ends.getD i 0) (ends.getD (i + 1) 0)) ∧ AttrsP (fun b => w.heap.size ≤ b ∧ b ≠ g) W va (ndP (pget S (row.getD i 0))).attrs
theorem T2.lt {w W : World} {S : List PN} {row : List Int} {ends : List Nat} {v5 v6 : Value} {g k : Nat} (h : T2 w S row ends v5 v6 g k W) : w.heap.size ≤ g ∧ g < W.heap.size := by
  obtain ⟨xs, hx⟩ := h.own
  exact hx.lt g rfl
theorem T2.on {w W W' : World} {S : List PN} {row : List Int} {ends : List Nat} {v5 v6 : Value} {g k : Nat} (h : T2 w S row ends v5 v6 g k W) (hb : Below W.heap.size W W') : T2 w S row ends v5 v6 g k W' := by
  obtain ⟨xs, hx⟩ := h.own
  have ht : Turns (fun _ => False) W W' := .of_below hb
  refine ⟨⟨ownsRow_kept h.t1.r5 ht (fun _ _ k => k), ownsRow_kept h.t1.r6 ht (fun _ _ k => k), h.t1.ne, h.t1.below.trans (hb.mono h.t1.below.size)⟩, ⟨xs, ownsRow_kept hx ht (fun _ _ k => k)⟩, h.n5, h.n6, fun i hi => ?_⟩
  obtain ⟨va, h7, ha⟩ := h.done i hi
  exact ⟨va, h7.kept (P := fun _ => True) (.of_below hb) trivial h.lt.2, ha.kept (.of_below hb)⟩
theorem T2.cell {w W : World} {S : List PN} {row : List Int} {ends : List Nat} {v5 v6 : Value} {g k : Nat} (h : T2 w S row ends v5 v6 g k W) (o : Nat) (ho : o < row.length * 7) : (∃ u, W.cell? ⟨g, o, none⟩ = some u) ∧ W.frozen? ⟨g, o, none⟩ = false := by
  obtain ⟨xs, hx⟩ := h.own
  refine ⟨⟨xs[o]'(by rw [hx.1]; exact ho), ?_⟩, hx.frozenAt o⟩
  rw [hx.cellAt o ho, List.getElem?_eq_getElem]
theorem T2.set {w W : World} {S : List PN} {row : List Int} {ends : List Nat} {v5 v6 : Value} {g k : Nat} (h : T2 w S row ends v5 v6 g k W) (o : Nat) (u : Value) (ho : k * 7 ≤ o) : T2 w S row ends v5 v6 g k (W.setCell ⟨g, o, none⟩ u) := by
  obtain ⟨xs, hx⟩ := h.own
  obtain ⟨hx2, hg2⟩ := hx.stored o u
  have ht : Turns (fun b => b = g) W (W.setCell ⟨g, o, none⟩ u) := .of_grown hg2 (fun x e => by injection e with e; exact e.symm)
  refine ⟨⟨ownsRow_kept h.t1.r5 ht (fun q e k => by subst k; exact h.n5 e), ownsRow_kept h.t1.r6 ht (fun q e k => by subst k; exact h.n6 e), h.t1.ne, h.t1.below.setCell h.lt.1 u⟩, ⟨_, hx2⟩, h.n5, h.n6, fun i hi => ?_⟩
  obtain ⟨va, h7, ha⟩ := h.done i hi
  have hc : ∀ j, j < 7 → (W.setCell ⟨g, o, none⟩ u).cell? ⟨g, i * 7 + j, none⟩ = W.cell? ⟨g, i * 7 + j, none⟩ := fun j hj => World.cell?_setCell_other _ _ _ _ (by intro e; injection e with _ e; omega)
  exact ⟨va, ⟨(hc 0 (by omega)).trans h7.c0, (hc 1 (by omega)).trans h7.c1, (hc 2 (by omega)).trans h7.c2, (hc 3 (by omega)).trans h7.c3, (hc 4 (by omega)).trans h7.c4, (hc 5 (by omega)).trans h7.c5, (hc 6 (by omega)).trans h7.c6⟩, ha.kept (ht.kept (fun b _ k e => k.2 e))⟩
/-- One node more, without its kids. -/
structure Half (w : World) (S : List PN) (row : List Int) (g k : Nat) (va : Value) (W : World) : Prop where
  c0 : W.cell? ⟨g, k * 7, none⟩ = some (.int .i64 (pget S (row.getD k 0)).kind)
  c1 : W.cell? ⟨g, k * 7 + 1, none⟩ = some (.int .i64 (pget S (row.getD k 0)).space)
  c2 : W.cell? ⟨g, k * 7 + 2, none⟩ = some (.string ⟨(pget S (row.getD k 0)).name.toArray⟩)
  c3 : W.cell? ⟨g, k * 7 + 3, none⟩ = some va
  c4 : W.cell? ⟨g, k * 7 + 4, none⟩ = some (.string ⟨(pget S (row.getD k 0)).text.toArray⟩)
  c5 : W.cell? ⟨g, k * 7 + 5, none⟩ = some (.int .i64 0)
  attrs : AttrsP (fun b => w.heap.size ≤ b ∧ b ≠ g) W va (pget S (row.getD k 0)).attrs
theorem Half.set {w W : World} {S : List PN} {row : List Int} {g k : Nat} {va : Value} (h : Half w S row g k va W) (u : Value) : Half w S row g k va (W.setCell ⟨g, k * 7 + 6, none⟩ u) := by
  have hc : ∀ j, j < 6 → (W.setCell ⟨g, k * 7 + 6, none⟩ u).cell? ⟨g, k * 7 + j, none⟩ = W.cell? ⟨g, k * 7 + j, none⟩ := fun j hj => World.cell?_setCell_other _ _ _ _ (by intro e; injection e with _ e; omega)
  refine ⟨(hc 0 (by omega)).trans h.c0, (hc 1 (by omega)).trans h.c1, (hc 2 (by omega)).trans h.c2, (hc 3 (by omega)).trans h.c3, (hc 4 (by omega)).trans h.c4, (hc 5 (by omega)).trans h.c5, h.attrs.kept ⟨by simp, fun b hb _ => ?_⟩⟩
  exact heap_setCell_other W ⟨g, k * 7 + 6, none⟩ b u hb.2
theorem Half.drew {w W : World} {S : List PN} {row : List Int} {g k : Nat} {va : Value} (h : Half w S row g k va W) : Half w S row g k va W.drew := ⟨h.c0, h.c1, h.c2, h.c3, h.c4, h.c5, h.attrs.kept (.of_below (Below.refl _ _).drew)⟩
theorem T2.more {w W : World} {S : List PN} {row : List Int} {ends : List Nat} {v5 v6 : Value} {g k : Nat} {va : Value} (h : T2 w S row ends v5 v6 g k W) (hh : Half w S row g k va W) (hc : W.cell? ⟨g, k * 7 + 6, none⟩ = some (pieceV g (ends.getD k 0) (ends.getD (k + 1) 0))) : T2 w S row ends v5 v6 g (k + 1) W := by
  refine ⟨h.t1, h.own, h.n5, h.n6, fun i hi => ?_⟩
  rcases Nat.lt_or_ge i k with h1 | h1
  · exact h.done i h1
  · have : i = k := by omega
    subst this
    exact ⟨va, ⟨hh.c0, hh.c1, hh.c2, hh.c3, hh.c4, hh.c5, hc⟩, hh.attrs⟩
/-- The store of a node, seven cells. -/
theorem T2.node {w W : World} {S : List PN} {row : List Int} {ends : List Nat} {v5 v6 : Value} {g k : Nat} (h : T2 w S row ends v5 v6 g k W) (hk : k < row.length) (va : Value) (NM TX : ByteArray) (hN : (⟨(pget S (row.getD k 0)).name.toArray⟩ : ByteArray) = NM) (hX : (⟨(pget S (row.getD k 0)).text.toArray⟩ : ByteArray) = TX) (ha : AttrsP (fun b => w.heap.size ≤ b ∧ b ≠ g) W va (pget S (row.getD k 0)).attrs) :
    ∃ W7, (((((((W.setCell ⟨g, k * 7, none⟩ (.int .i64 (pget S (row.getD k 0)).kind)).setCell ⟨g, k * 7 + 1, none⟩ (.int .i64 (pget S (row.getD k 0)).space)).setCell ⟨g, k * 7 + 2, none⟩ (.string NM)).setCell ⟨g, k * 7 + 3, none⟩ va).setCell ⟨g, k * 7 + 4, none⟩ (.string TX)).setCell ⟨g, k * 7 + 5, none⟩ (.int .i64 0)).setCell ⟨g, k * 7 + 6, none⟩ (.slice none 0 0)) = W7 ∧ T2 w S row ends v5 v6 g k W7 ∧ Half w S row g k va W7 := by
  have stp : ∀ (a : World) (j : Nat) (u : Value), j < 7 → T2 w S row ends v5 v6 g k a ∧ AttrsP (fun b => w.heap.size ≤ b ∧ b ≠ g) a va (pget S (row.getD k 0)).attrs → (T2 w S row ends v5 v6 g k (a.setCell ⟨g, k * 7 + j, none⟩ u) ∧ AttrsP (fun b => w.heap.size ≤ b ∧ b ≠ g) (a.setCell ⟨g, k * 7 + j, none⟩ u) va (pget S (row.getD k 0)).attrs) ∧ (a.setCell ⟨g, k * 7 + j, none⟩ u).cell? ⟨g, k * 7 + j, none⟩ = some u ∧ ∀ j', j' ≠ j → (a.setCell ⟨g, k * 7 + j, none⟩ u).cell? ⟨g, k * 7 + j', none⟩ = a.cell? ⟨g, k * 7 + j', none⟩ := by
    rintro a j u hj ⟨h1, h2⟩
    obtain ⟨⟨u0, hu⟩, _⟩ := h1.cell (k * 7 + j) (by omega)
    refine ⟨⟨h1.set _ u (by omega), h2.kept ⟨by simp, fun b hb _ => heap_setCell_other a ⟨g, k * 7 + j, none⟩ b u hb.2⟩⟩, World.cell?_setCell_same _ _ _ hu, fun j' hj' => World.cell?_setCell_other _ _ _ _ (by intro e; injection e with _ e; omega)⟩
  subst hN hX
  obtain ⟨t0, s0, o0⟩ := stp W 0 (.int .i64 (pget S (row.getD k 0)).kind) (by omega) ⟨h, ha⟩
  obtain ⟨t1, s1, o1⟩ := stp _ 1 (.int .i64 (pget S (row.getD k 0)).space) (by omega) t0
  obtain ⟨t2, s2, o2⟩ := stp _ 2 (.string ⟨(pget S (row.getD k 0)).name.toArray⟩) (by omega) t1
  obtain ⟨t3, s3, o3⟩ := stp _ 3 va (by omega) t2
  obtain ⟨t4, s4, o4⟩ := stp _ 4 (.string ⟨(pget S (row.getD k 0)).text.toArray⟩) (by omega) t3
  obtain ⟨t5, s5, o5⟩ := stp _ 5 (.int .i64 0) (by omega) t4
  obtain ⟨t6, s6, o6⟩ := stp _ 6 (.slice none 0 0) (by omega) t5
  refine ⟨_, rfl, t6.1, ⟨?_, ?_, ?_, ?_, ?_, ?_, t6.2⟩⟩
  · exact ((o6 0 (by omega)).trans ((o5 0 (by omega)).trans ((o4 0 (by omega)).trans ((o3 0 (by omega)).trans ((o2 0 (by omega)).trans (o1 0 (by omega))))))).trans s0
  · exact ((o6 1 (by omega)).trans ((o5 1 (by omega)).trans ((o4 1 (by omega)).trans ((o3 1 (by omega)).trans (o2 1 (by omega)))))).trans s1
  · exact ((o6 2 (by omega)).trans ((o5 2 (by omega)).trans ((o4 2 (by omega)).trans (o3 2 (by omega))))).trans s2
  · exact ((o6 3 (by omega)).trans ((o5 3 (by omega)).trans (o4 3 (by omega)))).trans s3
  · exact ((o6 4 (by omega)).trans (o5 4 (by omega))).trans s4
  · exact (o6 5 (by omega)).trans s5
end Go.Proofs.Ytkoijkdhmfnlbaa
namespace Go.Proofs.Ytkoijkdhmfnlbaa
open Go.RowKit

set_option maxHeartbeats 1000000 in
set_option maxRecDepth 100000 in
theorem dtreeP (S : List PN) (B : Nat) (M : Nat → Prop) (w : World) (kf f : Nat) (n : Int) (r0 row : List Int) (ends : List Nat) (h : DocM M w B S) (hM : ∀ b, M b → b < w.heap.size) (hk : pKidsA S kf n = some r0) (hb : pBfs S kf f r0 [r0.length] 0 = some (row, ends)) (hs : row.length ≤ 4294967296) (ha : ∀ x ∈ S, x.attrs.length ≤ 4294967296) :
    Calls Try.prog 11 #[.pointer (some ⟨B, 0, none⟩), .int .i64 n] w (fun e w' => ∃ v, e = .returned v ∧ NodesP (fun b => w.heap.size ≤ b) w' v (foF S row ends (row.length + 1) 0 r0.length) ∧ Below w.heap.size w w') := by
  have hle := pBfs_len f _ _ _ _ _ hb
  have hhead := pBfs_head f _ _ _ _ _ r0.length hb rfl
  have HK := Lib.hid (dkidsP S B M w kf n r0 h hM hk (by omega))
  have HDM := Lib.hid h
  have HMM := Lib.hid hM
  have HBF := Lib.hid hb
  obtain ⟨i0, hi0, hz0, hz1, hz2⟩ := info_int
  have HI := Lib.hid (And.intro hi0 (And.intro hz0 (And.intro hz1 hz2)))
  clear h hM hb hk hi0 hz0 hz1 hz2
  go_enter Try.func11, Try.ntmps11
  go_wp2_with fail
  refine HK.out.mono ?_
  rintro e w1 ⟨v5, rfl, hR⟩
  obtain ⟨p5, c5, rfl⟩ := row_form hR.row
  have HR := Lib.hid hR
  clear hR
  go_wp2_with fail
  have HT0 : Hid (T1 w (w1.alloc (.cells #[.int .i64 (r0.length : Int)] 3)) (.slice p5 r0.length c5) (.slice (some ⟨w1.heap.size, 0, none⟩) 1 1) r0 [r0.length]) := by
    refine Lib.hid ⟨?_, ?_, ?_, ?_⟩
    · refine (ownsRow_base HR.out.row ?_).alloc _
      intro g e
      rcases HR.out.own g e with k | k
      · cases k
      · exact k
    · refine ⟨rfl, .inr ⟨w1.heap.size, 1, _, rfl, HR.out.turns.size, heap_alloc_new w1 _, Nat.le_refl _, by unfold maxLen; omega, rfl, rfl⟩⟩
    · intro g e k
      injection k with k
      have := (HR.out.row.lt g e).2
      simp at k
      omega
    · exact (HR.out.turns.below (Nat.le_refl _) (fun b _ e => by cases e)).alloc HR.out.turns.size _
  generalize w1.alloc (.cells #[.int .i64 (r0.length : Int)] 3) = w2 at *
  go_loopw [5, 6, 7] (fun a b i wr => ∃ (rk : List Int) (ek : List Nat) (k fk : Nat), i = .int .i64 (k : Int) ∧ pBfs S kf fk rk ek k = some (row, ends) ∧ Bfs S rk ek k ∧ T1 w wr a b rk ek) (fun _ _ i _ => row.length - (intOf i).toNat)
  case atStart => exact ⟨r0, [r0.length], 0, f, rfl, HBF.out, ⟨rfl, Nat.zero_le _, rfl, fun j h => absurd h (by omega), fun j _ h => absurd h (by omega)⟩, HT0.out⟩
  case round =>
    obtain ⟨rk, ek, k, fk, rfl, hb, hB, hT⟩ := hrel
    obtain ⟨p1, c1, rfl⟩ := row_form hT.r5
    obtain ⟨p2, c2, rfl⟩ := row_form hT.r6
    have hle2 := pBfs_len fk _ _ _ _ _ hb
    have HB := Lib.hid hB
    have HT := Lib.hid hT
    have hkl := hB.le
    have hel : ek.length ≤ 4294967297 := by have := hB.len; omega
    cases fk with
    | zero => cases hb
    | succ fk =>
      unfold pBfs at hb
      by_cases hlt : k < rk.length
      · rw [List.getElem?_eq_getElem hlt] at hb
        simp only at hb
        cases hp : pHas S rk[k]
        · rw [hp] at hb; cases hb
        · rw [hp, if_pos rfl] at hb
          cases hks : pKids S kf rk[k] with
          | none => rw [hks] at hb; cases hb
          | some ks =>
            rw [hks] at hb
            simp only at hb
            have hle3 := pBfs_len fk _ _ _ _ _ hb
            rw [List.length_append] at hle3
            have HBS := Lib.hid (HB.out.step (ks := ks) (List.getElem?_eq_getElem hlt) hp)
            have HBF2 := Lib.hid hb
            have hcell : ∃ g, p1 = some ⟨g, 0, none⟩ ∧ wr.cell? ⟨g, k, none⟩ = some (.int .i64 rk[k]) ∧ g < wr.heap.size := by
              rcases hT.r5.2 with ⟨e, e2⟩ | ⟨g, cap, cur, e, _⟩
              · omega
              · injection e with e1 e2 e3
                subst e1
                refine ⟨g, rfl, ?_, (hT.r5.lt g rfl).2⟩
                have h5 := hT.r5
                rw [h5.cellAt k (by omega)]
                simp [intCells, hlt]
            obtain ⟨g1, rfl, hc1, hg1⟩ := hcell
            have HW : Hid (∃ (d : DocM M wr B S), True) := Lib.hid ⟨HDM.out.on (L := fun b => w.heap.size ≤ b) ⟨hT.below.os, hT.below.tape, hT.below.output, hT.below.size, fun b hb hl => hT.below.block b hb⟩ (fun b _ k l => by have := HMM.out b k; omega), trivial⟩
            have HK1 := Lib.hid (dwithKidsP S B M wr kf rk[k] (.slice (some ⟨g1, 0, none⟩) rk.length c1) rk ks HW.out.1 (fun b q => Nat.lt_of_lt_of_le (HMM.out b q) hT.below.size) hp hks (ownsRow_zero hT.r5) (fun g e q => by have := (hT.r5.lt g e).1; have := HMM.out g q; omega) (by omega))
            have k0 : (0 : Int) ≤ (k : Int) := by omega
            have k1 : (k : Int) < (rk.length : Int) := by omega
            clear hb hks hp hB hT
            generalize rk[k] = x at *
            go_wp2_with fail
            refine HK1.out.mono ?_
            rintro e w3 ⟨v3, rfl, hR3⟩
            obtain ⟨p3, c3, rfl⟩ := row_form hR3.row
            have HT3 := Lib.hid (HT.out.kids hR3)
            clear hR3
            rw [List.length_append] at HT3 ⊢
            go_wp2_with (first
              | (at_builtin; refine wpList_append_lies _ rfl _ _ 32 rfl w.heap.size 3 i0 (.int .i64 0) 1 8 Try.underlying32 HI.out.1 HI.out.2.1 HI.out.2.2.1 HI.out.2.2.2 rfl (by omega) (.slice p2 ek.length c2) ek.length (natCells ek) rfl (HT3.out.r6.alloc _) ⟨w3.heap.size, 0, none⟩ 1 1 [.int .i64 ((rk.length + ks.length : Nat) : Int)] rfl rfl (World.news_of_block (cs := #[.int .i64 ((rk.length + ks.length : Nat) : Int)]) (t := 3) (fr := (0, 0)) (heap_alloc_new w3 _)) (by simp [Value.oneCell']) (by omega) (by unfold maxLen; omega) (by omega) (by have := HT3.out.below.size; simp; omega) (w3.heap.size + 1) (by simp) ?_; intro g4 c4 w4 hr4 hg4 hor4 _; have HT4 := Lib.hid (HT3.out.ends hr4 hg4 hor4); clear hr4 hg4 hor4)
              | fail)
            refine ⟨⟨rk ++ ks, ek ++ [rk.length + ks.length], k + 1, fk, by go_num, HBF2.out, HBS.out, ?_⟩, by simp [intOf]; omega⟩
            exact HT4.out
      · rw [List.getElem?_eq_none (by omega)] at hb
        simp only at hb
        injection hb with hb
        injection hb with hb1 hb2
        subst hb1 hb2
        have hkr : k = rk.length := by omega
        subst hkr
        obtain ⟨i7, hi7, hz7, hs7, hb7⟩ := info_node
        obtain ⟨w5, hmk, hown5, hgr5⟩ := run_make_full (P := Try.prog) wr w.heap.size 31 43 i7 _ 7 Try.underlying31 hi7 hz7 hs7 .i64 .i64 rk.length (by rw [hb7]; omega) (by unfold maxLen; omega) hT.below.size
        have hb5 : Below wr.heap.size wr w5 := ⟨hgr5.os, hgr5.tape, hgr5.output, hgr5.size, fun q hq => hgr5.block q hq (by simp)⟩
        have HT5 : Hid (T2 w S rk ek (.slice p1 rk.length c1) (.slice p2 ek.length c2) wr.heap.size 0 w5) := by
          have ht : Turns (fun _ => False) wr w5 := .of_below hb5
          refine Lib.hid ⟨⟨ownsRow_kept hT.r5 ht (fun _ _ k => k), ownsRow_kept hT.r6 ht (fun _ _ k => k), hT.ne, hT.below.trans (hb5.mono hT.below.size)⟩, ⟨_, hown5⟩, fun e => ?_, fun e => ?_, fun i hi => absurd hi (by omega)⟩
          · have := (hT.r5.lt _ e).2; omega
          · have := (hT.r6.lt _ e).2; omega
        have hp2 : ∃ g6, p2 = some ⟨g6, 0, none⟩ := by
          rcases hT.r6.2 with ⟨e, e2⟩ | ⟨g, cap, cur, e, _⟩
          · have := hB.len; omega
          · injection e with e1; exact ⟨g, e1⟩
        obtain ⟨g6, rfl⟩ := hp2
        have HBB := Lib.hid hB
        have HHEAD := Lib.hid hhead
        clear hT hB hown5 hgr5 hb5 hi7 hz7 hs7 hb7 hhead
        generalize wr.heap.size = G at *
        go_wp2_with fail
        go_loopw [40] (fun i wq => ∃ k : Nat, k ≤ rk.length ∧ i = .int .i64 (k : Int) ∧ T2 w S rk ek (.slice p1 rk.length c1) (.slice (some ⟨g6, 0, none⟩) ek.length c2) G k wq) (fun i _ => rk.length - (intOf i).toNat)
        case atStart => exact ⟨0, Nat.zero_le _, rfl, HT5.out⟩
        case round =>
          obtain ⟨k, hk, rfl, hT2⟩ := hrel
          have HT2 := Lib.hid hT2
          obtain ⟨wq, hwq⟩ : ∃ wq, wq = wr := ⟨_, rfl⟩
          subst hwq
          by_cases hlt2 : k < rk.length
          · obtain ⟨a, b, ea, eb, hka, hab, hbl⟩ := HBB.out.at_ k hlt2
            have hx := HBB.out.has k rk[k] hlt2 (List.getElem?_eq_getElem hlt2)
            obtain ⟨j, hj0, hj⟩ := pHas_nat hx
            have hget : pget S (rk.getD k 0) = S[j] := by rw [List.getD_eq_getElem?_getD, List.getElem?_eq_getElem hlt2]; show pget S rk[k] = _; rw [hj0, pget_nat hj]
            have hcx : ∃ g5, p1 = some ⟨g5, 0, none⟩ ∧ wq.cell? ⟨g5, k, none⟩ = some (.int .i64 (j : Int)) ∧ g5 < wq.heap.size := by
              rcases hT2.t1.r5.2 with ⟨_, e2⟩ | ⟨g, cap, cur, e, _⟩
              · omega
              · injection e with e1 e2 e3
                subst e1
                refine ⟨g, rfl, ?_, (hT2.t1.r5.lt g rfl).2⟩
                rw [hT2.t1.r5.cellAt k (by omega)]
                simp [intCells, hlt2, hj0]
            obtain ⟨g5, rfl, hc5, hg5⟩ := hcx
            have hcE : ∀ W, T2 w S rk ek (.slice (some ⟨g5, 0, none⟩) rk.length c1) (.slice (some ⟨g6, 0, none⟩) ek.length c2) G k W → W.cell? ⟨g6, k, none⟩ = some (.int .i64 (a : Int)) ∧ W.cell? ⟨g6, k + 1, none⟩ = some (.int .i64 (b : Int)) := by
              intro W hW
              have h1 := lt_of_some ea
              have h2 := lt_of_some eb
              rw [hW.t1.r6.cellAt k (by omega), hW.t1.r6.cellAt (k + 1) (by omega)]
              unfold natCells
              rw [List.getElem?_map, List.getElem?_map, ea, eb]
              exact ⟨rfl, rfl⟩
            have hDM : DocM M wq B S := HDM.out.on (L := fun b => w.heap.size ≤ b) ⟨hT2.t1.below.os, hT2.t1.below.tape, hT2.t1.below.output, hT2.t1.below.size, fun b hb _ => hT2.t1.below.block b hb⟩ (fun b _ q l => by have := HMM.out b q; omega)
            have HND := Lib.hid (dnodeP S B M wq j hDM hj (ha _ (List.getElem_mem hj)))
            have hGlt := hT2.lt
            have hsz := hT2.t1.below.size
            obtain ⟨NM, hNM⟩ : ∃ NM : ByteArray, (⟨S[j].name.toArray⟩ : ByteArray) = NM := ⟨_, rfl⟩
            obtain ⟨TX, hTX⟩ : ∃ TX : ByteArray, (⟨S[j].text.toArray⟩ : ByteArray) = TX := ⟨_, rfl⟩
            unfold NodeOut at HND
            rw [hNM, hTX] at HND
            have HPUT : Hid (∀ (w6 : World) (p6 : Option Addr) (c6 : Nat), AttrsP (fun b => wq.heap.size ≤ b) w6 (.slice p6 S[j].attrs.length c6) S[j].attrs → Below wq.heap.size wq w6 → ∃ W7, (((((((w6.setCell ⟨G, k * 7, none⟩ (.int .i64 S[j].kind)).setCell ⟨G, k * 7 + 1, none⟩ (.int .i64 S[j].space)).setCell ⟨G, k * 7 + 2, none⟩ (.string NM)).setCell ⟨G, k * 7 + 3, none⟩ (.slice p6 S[j].attrs.length c6)).setCell ⟨G, k * 7 + 4, none⟩ (.string TX)).setCell ⟨G, k * 7 + 5, none⟩ (.int .i64 0)).setCell ⟨G, k * 7 + 6, none⟩ (.slice none 0 0)) = W7 ∧ T2 w S rk ek (.slice (some ⟨g5, 0, none⟩) rk.length c1) (.slice (some ⟨g6, 0, none⟩) ek.length c2) G k W7 ∧ Half w S rk G k (.slice p6 S[j].attrs.length c6) W7) := by
              refine Lib.hid fun w6 p6 c6 hA6 hb6 => ?_
              have := (hT2.on hb6).node hlt2 (.slice p6 S[j].attrs.length c6) NM TX (by rw [hget]; exact hNM) (by rw [hget]; exact hTX) (by rw [hget]; exact hA6.mono (fun q hq _ => ⟨by omega, by omega⟩))
              rw [hget] at this
              exact this
            have HCL : Hid (∀ w6, Below wq.heap.size wq w6 → ∀ o, o < rk.length * 7 → (∃ u, w6.cell? ⟨G, o, none⟩ = some u) ∧ w6.frozen? ⟨G, o, none⟩ = false) := Lib.hid fun w6 hb6 o ho => (hT2.on hb6).cell o ho
            have HKY : ∀ (va : Value), Hid (∀ W, T2 w S rk ek (.slice (some ⟨g5, 0, none⟩) rk.length c1) (.slice (some ⟨g6, 0, none⟩) ek.length c2) G k W → Half w S rk G k va W → W.cell? ⟨g6, k, none⟩ = some (.int .i64 (a : Int)) ∧ W.cell? ⟨g6, k + 1, none⟩ = some (.int .i64 (b : Int)) ∧ T2 w S rk ek (.slice (some ⟨g5, 0, none⟩) rk.length c1) (.slice (some ⟨g6, 0, none⟩) ek.length c2) G k W ∧ Half w S rk G k va W) := fun va => Lib.hid fun W h1 h2 => ⟨(hcE W h1).1, (hcE W h1).2, h1, h2⟩
            have HPC := Lib.hid (fun W => dpieceP G rk.length rk.length a b W hab hbl (Nat.le_refl _))
            obtain ⟨pp, pl, pc, hpv⟩ : ∃ pp pl pc, pieceV G a b = .slice pp pl pc := by unfold pieceV; split <;> exact ⟨_, _, _, rfl⟩
            rw [hpv] at HPC
            have hea : ek.getD k 0 = a := by rw [List.getD_eq_getElem?_getD, ea]; rfl
            have heb : ek.getD (k + 1) 0 = b := by rw [List.getD_eq_getElem?_getD, eb]; rfl
            have HPV : Hid (pieceV G (ek.getD k 0) (ek.getD (k + 1) 0) = .slice pp pl pc) := Lib.hid (by rw [hea, heb]; exact hpv)
            have hekl : k + 1 < ek.length := lt_of_some eb
            have k0 : (0 : Int) ≤ (k : Int) := by omega
            have k1 : (k : Int) < (rk.length : Int) := by omega
            have k2 : (k : Int) < (ek.length : Int) := by omega
            have k3 : (k : Int) + 1 < (ek.length : Int) := by omega
            have k4 : (0 : Int) ≤ (k : Int) + 1 := by omega
            have k5 : IntKind.i64.wrap ((k : Int) + 1) = ((k + 1 : Nat) : Int) := by rw [IntWalk.i64_in _ (by omega)]; omega
            have k6 : ((k + 1 : Nat) : Int) < (ek.length : Int) := by omega
            have k7 : (0 : Int) ≤ ((k + 1 : Nat) : Int) := by omega
            have k8 : ((k : Int) + 1).toNat = k + 1 := by omega
            clear hT2 hcE hDM hpv hea heb ea eb hx hj0 hget hNM hTX
            go_wp2_with fail
            refine HND.out.mono ?_
            rintro e w6 ⟨p6, c6, rfl, hA6, hb6⟩
            obtain ⟨W7, hW7, hT7, hH7⟩ := HPUT.out w6 p6 c6 hA6 hb6
            obtain ⟨⟨u0, hu0⟩, hf0⟩ := HCL.out w6 hb6 (k * 7) (by omega)
            obtain ⟨⟨u1, hu1⟩, hf1⟩ := HCL.out w6 hb6 (k * 7 + 1) (by omega)
            obtain ⟨⟨u2, hu2⟩, hf2⟩ := HCL.out w6 hb6 (k * 7 + 2) (by omega)
            obtain ⟨⟨u3, hu3⟩, hf3⟩ := HCL.out w6 hb6 (k * 7 + 3) (by omega)
            obtain ⟨⟨u4, hu4⟩, hf4⟩ := HCL.out w6 hb6 (k * 7 + 4) (by omega)
            obtain ⟨⟨u5, hu5⟩, hf5⟩ := HCL.out w6 hb6 (k * 7 + 5) (by omega)
            obtain ⟨⟨u6, hu6⟩, hf6⟩ := HCL.out w6 hb6 (k * 7 + 6) (by omega)
            have HKY := HKY (.slice p6 S[j].attrs.length c6)
            have HT7 := Lib.hid hT7
            have HH7 := Lib.hid hH7
            clear hA6 hb6 hT7 hH7
            go_wp2_with fail
            have hS0 := HKY.out W7.drew (HT7.out.on (Below.refl _ _).drew) (HH7.out.drew)
            clear hu0 hu1 hu2 hu3 hu4 hu5 hu6 hf0 hf1 hf2 hf3 hf4 hf5 hf6 hW7
            refine wp_region_held_drew (S := (fun w' => w'.cell? ⟨g6, k, none⟩ = some (.int .i64 (a : Int)) ∧ w'.cell? ⟨g6, k + 1, none⟩ = some (.int .i64 (b : Int)) ∧ T2 w S rk ek (.slice (some ⟨g5, 0, none⟩) rk.length c1) (.slice (some ⟨g6, 0, none⟩) ek.length c2) G k w' ∧ Half w S rk G k (.slice p6 S[j].attrs.length c6) w')) (by kernel_rfl) (by exact hS0) (fun hHeld => ?_)
            refine wpAnyH_take (i := 0) (oi := { dst := some 51, op := Op.move (Operand.tmp 8), type := 31, pos := "dom.go:213", after := #[], guard := none }) (v := ?_) rfl (by kernel_rfl) (by kernel_rfl) (by kernel_rfl) (fun _ _ _ h => h) (Or.inl ⟨by rfl, ?_⟩) (by assumption) ?_
            rotate_left
            focus (intro w hSw; (try dsimp only at hSw); go_simp; (try with_reducible rfl))
            try simp only [Act.put, List.setIfInBounds_toArray, List.set_cons_zero, List.set_cons_succ]
            refine wpAnyH_take (i := 1) (oi := { dst := some 52, op := Op.move (Operand.tmp 9), type := 3, pos := "dom.go:213", after := #[], guard := none }) (v := ?_) rfl (by kernel_rfl) (by kernel_rfl) (by kernel_rfl) (fun _ _ _ h => h) (Or.inl ⟨by rfl, ?_⟩) (by assumption) ?_
            rotate_left
            focus (intro w hSw; (try dsimp only at hSw); go_simp; (try with_reducible rfl))
            try simp only [Act.put, List.setIfInBounds_toArray, List.set_cons_zero, List.set_cons_succ]
            refine wpAnyH_take (i := 2) (oi := { dst := some 53, op := Op.move (Operand.tmp 8), type := 31, pos := "dom.go:213", after := #[], guard := none }) (v := ?_) rfl (by kernel_rfl) (by kernel_rfl) (by kernel_rfl) (fun _ _ _ h => h) (Or.inl ⟨by rfl, ?_⟩) (by assumption) ?_
            rotate_left
            focus (intro w hSw; (try dsimp only at hSw); go_simp; (try with_reducible rfl))
            try simp only [Act.put, List.setIfInBounds_toArray, List.set_cons_zero, List.set_cons_succ]
            refine wpAnyH_take (i := 3) (oi := { dst := some 54, op := Op.move (Operand.tmp 6), type := 32, pos := "dom.go:213", after := #[], guard := none }) (v := ?_) rfl (by kernel_rfl) (by kernel_rfl) (by kernel_rfl) (fun _ _ _ h => h) (Or.inl ⟨by rfl, ?_⟩) (by assumption) ?_
            rotate_left
            focus (intro w hSw; (try dsimp only at hSw); go_simp; (try with_reducible rfl))
            try simp only [Act.put, List.setIfInBounds_toArray, List.set_cons_zero, List.set_cons_succ]
            refine wpAnyH_take (i := 4) (oi := { dst := some 55, op := Op.move (Operand.tmp 9), type := 3, pos := "dom.go:213", after := #[], guard := none }) (v := ?_) rfl (by kernel_rfl) (by kernel_rfl) (by kernel_rfl) (fun _ _ _ h => h) (Or.inl ⟨by rfl, ?_⟩) (by assumption) ?_
            rotate_left
            focus (intro w hSw; (try dsimp only at hSw); go_simp; (try with_reducible rfl))
            try simp only [Act.put, List.setIfInBounds_toArray, List.set_cons_zero, List.set_cons_succ]
            refine wpAnyH_take (i := 5) (oi := { dst := some 56, op := Op.indexAddr 32 (Operand.tmp 54) (Operand.tmp 55), type := 0, pos := "dom.go:213", after := #[{ on := 3, ground := Ground.data }, { on := 4, ground := Ground.data }], guard := none }) (v := ?_) rfl (by kernel_rfl) (by kernel_rfl) (by kernel_rfl) (fun _ _ _ h => h) (Or.inl ⟨by rfl, ?_⟩) (by assumption) ?_
            rotate_left
            focus (intro w hSw; (try dsimp only at hSw); go_simp; (try with_reducible rfl))
            try simp only [Act.put, List.setIfInBounds_toArray, List.set_cons_zero, List.set_cons_succ]
            refine wpAnyH_take (i := 6) (oi := { dst := some 57, op := Op.load 3 (Operand.tmp 56), type := 3, pos := "dom.go:213", after := #[{ on := 5, ground := Ground.data }], guard := none }) (v := ?_) rfl (by kernel_rfl) (by kernel_rfl) (by kernel_rfl) (fun _ _ _ h => h) (Or.inl ⟨by rfl, ?_⟩) (by assumption) ?_
            rotate_left
            focus (intro w hSw; (try dsimp only at hSw); go_simp; (try with_reducible rfl))
            try simp only [Act.put, List.setIfInBounds_toArray, List.set_cons_zero, List.set_cons_succ]
            refine wpAnyH_take (i := 7) (oi := { dst := some 58, op := Op.move (Operand.tmp 6), type := 32, pos := "dom.go:213", after := #[], guard := none }) (v := ?_) rfl (by kernel_rfl) (by kernel_rfl) (by kernel_rfl) (fun _ _ _ h => h) (Or.inl ⟨by rfl, ?_⟩) (by assumption) ?_
            rotate_left
            focus (intro w hSw; (try dsimp only at hSw); go_simp; (try with_reducible rfl))
            try simp only [Act.put, List.setIfInBounds_toArray, List.set_cons_zero, List.set_cons_succ]
            refine wpAnyH_take (i := 8) (oi := { dst := some 59, op := Op.move (Operand.tmp 9), type := 3, pos := "dom.go:213", after := #[], guard := none }) (v := ?_) rfl (by kernel_rfl) (by kernel_rfl) (by kernel_rfl) (fun _ _ _ h => h) (Or.inl ⟨by rfl, ?_⟩) (by assumption) ?_
            rotate_left
            focus (intro w hSw; (try dsimp only at hSw); go_simp; (try with_reducible rfl))
            try simp only [Act.put, List.setIfInBounds_toArray, List.set_cons_zero, List.set_cons_succ]
            refine wpAnyH_take (i := 9) (oi := { dst := some 60, op := Op.binOp BinOp.add 3 (Operand.tmp 59) (Operand.const (Value.int IntKind.i64 1)) 3, type := 3, pos := "dom.go:213", after := #[{ on := 8, ground := Ground.data }], guard := none }) (v := ?_) rfl (by kernel_rfl) (by kernel_rfl) (by kernel_rfl) (fun _ _ _ h => h) (Or.inl ⟨by rfl, ?_⟩) (by assumption) ?_
            rotate_left
            focus (intro w hSw; (try dsimp only at hSw); go_simp; (try with_reducible rfl))
            try simp only [Act.put, List.setIfInBounds_toArray, List.set_cons_zero, List.set_cons_succ]
            refine wpAnyH_take (i := 10) (oi := { dst := some 61, op := Op.indexAddr 32 (Operand.tmp 58) (Operand.tmp 60), type := 0, pos := "dom.go:213", after := #[{ on := 7, ground := Ground.data }, { on := 9, ground := Ground.data }], guard := none }) (v := ?_) rfl (by kernel_rfl) (by kernel_rfl) (by kernel_rfl) (fun _ _ _ h => h) (Or.inl ⟨by rfl, ?_⟩) (by assumption) ?_
            rotate_left
            focus (intro w hSw; (try dsimp only at hSw); go_simp; (try with_reducible rfl))
            try simp only [Act.put, List.setIfInBounds_toArray, List.set_cons_zero, List.set_cons_succ]
            refine wpAnyH_take (i := 11) (oi := { dst := some 62, op := Op.load 3 (Operand.tmp 61), type := 3, pos := "dom.go:213", after := #[{ on := 10, ground := Ground.data }], guard := none }) (v := ?_) rfl (by kernel_rfl) (by kernel_rfl) (by kernel_rfl) (fun _ _ _ h => h) (Or.inl ⟨by rfl, ?_⟩) (by assumption) ?_
            rotate_left
            focus (intro w hSw; (try dsimp only at hSw); go_simp; (try with_reducible rfl))
            try simp only [Act.put, List.setIfInBounds_toArray, List.set_cons_zero, List.set_cons_succ]
            refine wpAnyH_ready (rs := [12]) (by kernel_rfl) (by simp) ?_
            refine AllReadyH.cons (o := { dst := some 63, op := Op.call { callee := Callee.value (Operand.func 39), args := #[Operand.tmp 53, Operand.tmp 57, Operand.tmp 62], argTypes := #[ 31, 3, 3 ] }, type := 31, pos := "dom.go:213", after := #[{ on := 2, ground := Ground.data }, { on := 6, ground := Ground.data }, { on := 11, ground := Ground.data }], guard := none }) rfl (fun K hK => ?_) AllReadyH.nil
            go_simp
            refine (HPC.out _).mono ?_; rintro e w9 ⟨rfl, rfl⟩
            go_wp2_with fail
            refine hK.out _ _ (by exact hHeld) (fun hHeld => ?_)
            clear hK K
            try simp only [Act.put, List.setIfInBounds_toArray, List.set_cons_zero, List.set_cons_succ]
            refine wpAnyH_take (i := 13) (oi := { dst := some 64, op := Op.indexAddr 31 (Operand.tmp 51) (Operand.tmp 52), type := 0, pos := "dom.go:213", after := #[{ on := 0, ground := Ground.data }, { on := 1, ground := Ground.data }, { on := 0, ground := Ground.phase }, { on := 1, ground := Ground.phase }, { on := 2, ground := Ground.phase }, { on := 3, ground := Ground.phase }, { on := 4, ground := Ground.phase }, { on := 5, ground := Ground.phase }, { on := 6, ground := Ground.phase }, { on := 7, ground := Ground.phase }, { on := 8, ground := Ground.phase }, { on := 9, ground := Ground.phase }, { on := 10, ground := Ground.phase }, { on := 11, ground := Ground.phase }, { on := 12, ground := Ground.phase }], guard := none }) (v := ?_) rfl (by kernel_rfl) (by kernel_rfl) (by kernel_rfl) (fun _ _ _ h => h) (Or.inl ⟨by rfl, ?_⟩) (by assumption) ?_
            rotate_left
            focus (intro w hSw; (try dsimp only at hSw); go_simp; (try with_reducible rfl))
            try simp only [Act.put, List.setIfInBounds_toArray, List.set_cons_zero, List.set_cons_succ]
            refine wpAnyH_take (i := 14) (oi := { dst := some 65, op := Op.fieldAddr 43 (Operand.tmp 64) 6, type := 0, pos := "dom.go:213", after := #[{ on := 13, ground := Ground.data }, { on := 0, ground := Ground.phase }, { on := 1, ground := Ground.phase }, { on := 2, ground := Ground.phase }, { on := 3, ground := Ground.phase }, { on := 4, ground := Ground.phase }, { on := 5, ground := Ground.phase }, { on := 6, ground := Ground.phase }, { on := 7, ground := Ground.phase }, { on := 8, ground := Ground.phase }, { on := 9, ground := Ground.phase }, { on := 10, ground := Ground.phase }, { on := 11, ground := Ground.phase }, { on := 12, ground := Ground.phase }], guard := none }) (v := ?_) rfl (by kernel_rfl) (by kernel_rfl) (by kernel_rfl) (fun _ _ _ h => h) (Or.inl ⟨by rfl, ?_⟩) (by assumption) ?_
            rotate_left
            focus (intro w hSw; (try dsimp only at hSw); go_simp; (try with_reducible rfl))
            try simp only [Act.put, List.setIfInBounds_toArray, List.set_cons_zero, List.set_cons_succ]
            refine wpAnyH_ready (rs := [15]) (by kernel_rfl) (by simp) ?_
            refine AllReadyH.cons (o := { dst := none, op := Op.store 31 (Operand.tmp 65) (Operand.tmp 63), type := 0, pos := "dom.go:213", after := #[{ on := 14, ground := Ground.data }, { on := 12, ground := Ground.data }, { on := 12, ground := Ground.chain }, { on := 0, ground := Ground.phase }, { on := 1, ground := Ground.phase }, { on := 2, ground := Ground.phase }, { on := 3, ground := Ground.phase }, { on := 4, ground := Ground.phase }, { on := 5, ground := Ground.phase }, { on := 6, ground := Ground.phase }, { on := 7, ground := Ground.phase }, { on := 8, ground := Ground.phase }, { on := 9, ground := Ground.phase }, { on := 10, ground := Ground.phase }, { on := 11, ground := Ground.phase }, { on := 12, ground := Ground.phase }], guard := none }) rfl (fun K hK => ?_) AllReadyH.nil
            have hH := hHeld
            obtain ⟨_, _, hT8, hH8⟩ := hH
            obtain ⟨⟨u8, hu8⟩, hf8⟩ := hT8.cell (k * 7 + 6) (by omega)
            have HT9 := Lib.hid (hT8.set (k * 7 + 6) (.slice pp pl pc) (by omega))
            have HH9 := Lib.hid (hH8.set (.slice pp pl pc))
            have hc9 := World.cell?_setCell_same _ _ (.slice pp pl pc) hu8
            obtain ⟨w9, hw9⟩ : ∃ w9, W7.drew.setCell ⟨G, k * 7 + 6, none⟩ (.slice pp pl pc) = w9 := ⟨_, rfl⟩
            rw [hw9] at HT9 HH9 hc9
            clear hT8 hH8
            go_simp
            have HS9 := Lib.hid (HKY.out w9 HT9.out HH9.out)
            refine hK.out _ _ (by exact HS9.out) (fun hHeld => ?_)
            clear hK K
            refine wpAnyH_done (by kernel_rfl) ?_ _
            have HTM := Lib.hid (HT9.out.more HH9.out (by rw [hc9, HPV.out]))
            go_wp2_with fail
            exact ⟨⟨k + 1, by omega, by go_num, HTM.out⟩, by simp [intOf]; omega⟩
          · have hkr : k = rk.length := by omega
            subst hkr
            have hc6 : wq.cell? ⟨g6, 0, none⟩ = some (.int .i64 (r0.length : Int)) := by
              have h1 := lt_of_some HHEAD.out
              rw [hT2.t1.r6.cellAt 0 (by omega)]
              unfold natCells
              rw [List.getElem?_map, HHEAD.out]
              rfl
            have hg6 := (hT2.t1.r6.lt g6 rfl).2
            have hekl := lt_of_some HHEAD.out
            have k2 : (0 : Int) < (ek.length : Int) := by omega
            have HPC := Lib.hid (dpieceP G rk.length rk.length 0 r0.length wq (Nat.zero_le _) hle (Nat.le_refl _))
            have HNP : Hid (NodesP (fun b => w.heap.size ≤ b) wq (pieceV G 0 r0.length) (foF S rk ek (rk.length + 1) 0 r0.length)) := by
              refine Lib.hid ?_
              have hl : (foF S rk ek (rk.length + 1) 0 r0.length).len = r0.length := foF_len _ _ _ (by omega)
              have hall := nodes_piece (P := fun b => w.heap.size ≤ b) (w := wq) (g := G) HBB.out hT2.lt.2 hT2.lt.1 (fun i hi => by obtain ⟨va, h7, ha7⟩ := hT2.done i hi; exact ⟨va, h7, ha7.mono (fun q hq _ => hq.1)⟩) (rk.length + 1) 0 r0.length 0 0 (by omega) (by omega) (by omega)
              unfold pieceV
              by_cases hz : 0 = r0.length
              · rw [if_pos hz]
                exact ⟨none, 0, by rw [hl, ← hz], fun h => absurd h (by omega)⟩
              · rw [if_neg hz]
                exact ⟨_, r0.length - 0, by rw [hl]; rfl, fun _ => ⟨G, 0 * 7, rfl, hT2.lt.1, hT2.lt.2, by rw [Nat.zero_mul]; exact hall⟩⟩
            have HBL := Lib.hid hT2.t1.below
            obtain ⟨pp, pl, pc, hpv⟩ : ∃ pp pl pc, pieceV G 0 r0.length = .slice pp pl pc := by unfold pieceV; split <;> exact ⟨_, _, _, rfl⟩
            rw [hpv] at HPC HNP
            clear hT2 hpv
            go_wp2_with fail
            refine HPC.out.mono ?_
            rintro e w9 ⟨rfl, rfl⟩
            go_wp2_with fail
            go_ret
            exact ⟨_, rfl, HNP.out, HBL.out⟩
end Go.Proofs.Ytkoijkdhmfnlbaa
namespace Go.Proofs.Ytkoijkdhmfnlbaa
open Go.RowKit

/-- A Doc that was made since w0. -/
structure DocB (w0 W : World) (B : Nat) (S : List PN) : Prop where
  doc : DocM (fun b => w0.heap.size ≤ b ∧ b < W.heap.size) W B S
  below : Below w0.heap.size w0 W
theorem DocB.adds {w0 W W' : World} {B : Nat} {S S' : List PN} {v : Value} {e : Ending} (h : DocB w0 W B S) (ha : Adds (fun b => w0.heap.size ≤ b ∧ b < W.heap.size) W B S' v e W') : e = .returned v ∧ DocB w0 W' B S' := by
  obtain ⟨he, d, t⟩ := ha
  refine ⟨he, d.mono ?_, h.below.trans (t.below h.below.size (fun b hb k => by omega))⟩
  rintro b hb (k | k)
  · exact ⟨k.1, hb⟩
  · exact ⟨by have := h.below.size; omega, hb⟩
theorem DocB.ties {w0 W W' : World} {B : Nat} {S S' : List PN} {v : Value} {e : Ending} (h : DocB w0 W B S) (ha : Ties (fun b => w0.heap.size ≤ b ∧ b < W.heap.size) W B S' v e W') : e = .returned v ∧ DocB w0 W' B S' := by
  obtain ⟨he, d, t⟩ := ha
  exact ⟨he, d.mono (fun _ hb k => ⟨k.1, hb⟩), h.below.trans (t.below h.below.size (fun b hb k => by omega))⟩
theorem DocB.on {w0 W W' : World} {B : Nat} {S : List PN} (h : DocB w0 W B S) (hb : Below W.heap.size W W') : DocB w0 W' B S :=
  ⟨(h.doc.below hb).mono (fun _ hl k => ⟨k.1, hl⟩), h.below.trans (hb.mono h.below.size)⟩
theorem bnew (w : World) : Calls Try.prog 5 #[] w (fun e w' => ∃ B, e = .returned (.pointer (some ⟨B, 0, none⟩)) ∧ DocB w w' B [elemPN 1 [] []]) := by
  refine (dnewP w).mono ?_
  rintro e w1 ⟨B, rfl, d, b⟩
  exact ⟨B, rfl, d.mono (fun _ hx k => ⟨k, hx⟩), b⟩
theorem bwrite {w0 W : World} {B : Nat} {S : List PN} (h : DocB w0 W B S) (s : List UInt8) (up ahead : Int) (hs : S.length ≤ 4294967296) (hl : s.length ≤ 4294967296) (ht : ∀ x ∈ S, x.text.length ≤ 4294967296) (h0 : 0 < S.length) (ho : okWrite S s up ahead = true) :
    Calls Try.prog 10 #[.pointer (some ⟨B, 0, none⟩), .string ⟨s.toArray⟩, .int .i64 up, .int .i64 ahead] W (fun e w' => e = .returned (.bool (pWrite S s up ahead).2) ∧ DocB w0 w' B (pWrite S s up ahead).1) :=
  (dwriteP S B _ W s up ahead h.doc (fun _ k => k.2) hs hl ht h0 ho).mono fun _ _ k => h.adds k
theorem belem {w0 W : World} {B : Nat} {S : List PN} (h : DocB w0 W B S) (P : Nat → Prop) (sp : Int) (nm : List UInt8) (l : List (List UInt8 × List UInt8)) (v : Value) (hs : S.length ≤ 4294967296) (ha : AttrsP P W v l) (hl : l.length ≤ 4294967296) :
    Calls Try.prog 14 #[.pointer (some ⟨B, 0, none⟩), .int .i64 sp, .string ⟨nm.toArray⟩, v] W (fun e w' => e = .returned (.int .i64 (S.length : Int)) ∧ DocB w0 w' B (S ++ [elemPN sp nm l])) :=
  (delemNewP S B _ P W sp nm l v h.doc (fun _ k => k.2) hs ha hl).mono fun _ _ k => h.adds k
theorem bnote {w0 W : World} {B : Nat} {S : List PN} (h : DocB w0 W B S) (s : List UInt8) (hs : S.length ≤ 4294967296) (hl : s.length ≤ 4294967296) :
    Calls Try.prog 17 #[.pointer (some ⟨B, 0, none⟩), .string ⟨s.toArray⟩] W (fun e w' => e = .returned (.int .i64 (S.length : Int)) ∧ DocB w0 w' B (S ++ [notePN 3 s])) :=
  (dnoteP S B _ W s h.doc (fun _ k => k.2) hs hl).mono fun _ _ k => h.adds k
theorem bput {w0 W : World} {B : Nat} {S : List PN} (h : DocB w0 W B S) (f : Nat) (n up ahead : Int) (b : Bool) (h0 : 0 < S.length) (ho : okPut S f n up ahead b = true) :
    Calls Try.prog 12 #[.pointer (some ⟨B, 0, none⟩), .int .i64 n, .int .i64 up, .int .i64 ahead] W (fun e w' => e = .returned (.bool (pPut S n up ahead b).2) ∧ DocB w0 w' B (pPut S n up ahead b).1) :=
  (dputP S B _ W f n up ahead b h.doc h0 ho).mono fun _ _ k => h.ties k
theorem btake {w0 W : World} {B : Nat} {S : List PN} (h : DocB w0 W B S) (n : Int) (h0 : 0 < S.length) (ho : pUp S n = -1 ∨ okUnlink S n = true) :
    Calls Try.prog 19 #[.pointer (some ⟨B, 0, none⟩), .int .i64 n] W (fun e w' => e = .returned (.bool (pTake S n).2) ∧ DocB w0 w' B (pTake S n).1) :=
  (dtakeP S B _ W n h.doc h0 ho).mono fun _ _ k => h.ties k
theorem bsize {w0 W : World} {B : Nat} {S : List PN} (h : DocB w0 W B S) : Calls Try.prog 13 #[.pointer (some ⟨B, 0, none⟩)] W (Gives (.int .i64 (S.length : Int)) W) := by
  obtain ⟨p, cap, hr⟩ := h.doc.reads
  exact dsizeP S B W p cap hr
theorem bup {w0 W : World} {B : Nat} {S : List PN} (h : DocB w0 W B S) (n : Int) : Calls Try.prog 29 #[.pointer (some ⟨B, 0, none⟩), .int .i64 n] W (Gives (.int .i64 (pUp S n)) W) := by
  obtain ⟨p, cap, hr⟩ := h.doc.reads
  exact dupP S B W p cap n hr
theorem btree {w0 W : World} {B : Nat} {S : List PN} (h : DocB w0 W B S) (kf f : Nat) (n : Int) (r0 row : List Int) (ends : List Nat) (hk : pKidsA S kf n = some r0) (hb : pBfs S kf f r0 [r0.length] 0 = some (row, ends)) (hs : row.length ≤ 4294967296) (ha : ∀ x ∈ S, x.attrs.length ≤ 4294967296) :
    Calls Try.prog 11 #[.pointer (some ⟨B, 0, none⟩), .int .i64 n] W (fun e w' => ∃ v, e = .returned v ∧ NodesP (fun b => W.heap.size ≤ b) w' v (foF S row ends (row.length + 1) 0 r0.length) ∧ Below W.heap.size W w') :=
  dtreeP S B _ W kf f n r0 row ends h.doc (fun _ k => k.2) hk hb hs ha

def kn0 : List PN := [elemPN 1 [] []]
def kn1 : List PN := (pWrite kn0 [97] 0 (-1)).1
def kn2 : List PN := (pWrite kn1 [98] 0 (-1)).1
set_option maxHeartbeats 1000000 in
set_option maxRecDepth 100000 in
theorem known6_yes (w : World) : Calls Try.prog 4 #[] w (Yes w) := by
  have HN := Lib.hid (bnew w)
  have HW1 : Hid (∀ W B, DocB w W B kn0 → Calls Try.prog 10 #[.pointer (some ⟨B, 0, none⟩), .string ⟨#[97]⟩, .int .i64 0, .int .i64 (-1)] W (fun e w' => e = .returned (.bool true) ∧ DocB w w' B kn1)) := Lib.hid fun W B h => (bwrite h [97] 0 (-1) (by decide) (by decide) (by decide) (by decide) (by decide)).mono fun _ _ k => k
  have HW2 : Hid (∀ W B, DocB w W B kn1 → Calls Try.prog 10 #[.pointer (some ⟨B, 0, none⟩), .string ⟨#[98]⟩, .int .i64 0, .int .i64 (-1)] W (fun e w' => e = .returned (.bool true) ∧ DocB w w' B kn2)) := Lib.hid fun W B h => (bwrite h [98] 0 (-1) (by decide) (by decide) (by decide) (by decide) (by decide)).mono fun _ _ k => k
  have HT : Hid (∀ W B, DocB w W B kn2 → Calls Try.prog 11 #[.pointer (some ⟨B, 0, none⟩), .int .i64 0] W (fun e w' => ∃ g o c, e = .returned (.slice (some ⟨g, o, none⟩) 1 c) ∧ w'.cell? ⟨g, o + 4, none⟩ = some (.string ⟨#[97, 98]⟩) ∧ W.heap.size ≤ g ∧ g < w'.heap.size ∧ DocB w w' B kn2)) := by
    refine Lib.hid fun W B h => (btree h 9 9 0 [1] [1] [1, 1] (by decide) (by decide) (by decide) (by decide)).mono ?_
    rintro e w' ⟨v, rfl, hn, hb⟩
    obtain ⟨p, cap, rfl, ht⟩ := hn
    obtain ⟨g, o, va, vk, rfl, hP, hg, h7, _⟩ := ht.head
    exact ⟨g, o, cap, rfl, h7.c4, hP, hg, h.on hb⟩
  have HP : Hid (∀ W B, DocB w W B kn2 → Calls Try.prog 12 #[.pointer (some ⟨B, 0, none⟩), .int .i64 0, .int .i64 0, .int .i64 (-1)] W (fun e w' => e = .returned (.bool false) ∧ DocB w w' B kn2)) := Lib.hid fun W B h => (bput h 9 0 0 (-1) false (by decide) (by decide)).mono fun _ _ k => k
  have HS : Hid (∀ W B, DocB w W B kn2 → Calls Try.prog 13 #[.pointer (some ⟨B, 0, none⟩)] W (Gives (.int .i64 2) W)) := Lib.hid fun W B h => bsize h
  go_enter Try.func4, Try.ntmps4
  go_wp2_with fail
  refine HN.out.mono ?_
  rintro e w1 ⟨B, rfl, h1⟩
  have H1 := Lib.hid h1
  clear h1
  go_wp2_with fail
  refine (HW1.out w1 B H1.out).mono ?_
  rintro e w2 ⟨rfl, h2⟩
  have H2 := Lib.hid h2
  clear h2
  go_wp2_with fail
  refine (HW2.out w2 B H2.out).mono ?_
  rintro e w3 ⟨rfl, h3⟩
  have H3 := Lib.hid h3
  clear h3
  go_wp2_with fail
  refine (HT.out w3 B H3.out).mono ?_
  rintro e w4 ⟨g, o, c, rfl, hc, hg, hg2, h4⟩
  have H4 := Lib.hid h4
  clear h4
  go_wp2_with fail
  refine (HP.out w4 B H4.out).mono ?_
  rintro e w5 ⟨rfl, h5⟩
  have H5 := Lib.hid h5
  clear h5
  go_wp2_with fail
  refine (HS.out w5 B H5.out).mono ?_
  rintro e w6 ⟨rfl, rfl⟩
  go_wp2_with fail
  go_ret
  exact ⟨rfl, H5.out.below⟩
end Go.Proofs.Ytkoijkdhmfnlbaa
namespace Go.Proofs.Ytkoijkdhmfnlbaa
open Go.RowKit

theorem least_is {p : Nat → Prop} : ∀ n, p n → ∃ m, p m ∧ ∀ k, p k → m ≤ k := by
  intro n
  induction n using Nat.strongRecOn with
  | ind n ih =>
    intro hn
    by_cases h : ∃ k, k < n ∧ p k
    · obtain ⟨k, hk, hpk⟩ := h
      exact ih k hk hpk
    · exact ⟨n, hn, fun k hk => Nat.le_of_not_lt fun q => h ⟨k, q, hk⟩⟩
open Classical in
/-- The least number that p holds of; 0, if it holds of none. -/
noncomputable def least (p : Nat → Prop) : Nat := if h : ∃ m, p m ∧ ∀ k, p k → m ≤ k then h.choose else 0
theorem least_le {p : Nat → Prop} {n : Nat} (h : p n) : p (least p) ∧ least p ≤ n := by
  have hx := least_is n h
  unfold least
  rw [dif_pos hx]
  exact ⟨hx.choose_spec.1, hx.choose_spec.2 n h⟩
/-- Kid by kid. -/
def pShift (S : List PN) (from_ to_ : Int) : Nat → Option (List PN)
  | 0 => none
  | f + 1 => if (pget S from_).first = -1 then some S
    else if okUnlink S (pget S from_).first && okLink (pUnlink S (pget S from_).first) (pget S from_).first to_ (-1) then pShift (pLink (pUnlink S (pget S from_).first) (pget S from_).first to_ (-1)) from_ to_ f
    else none
def pMove (S S2 : List PN) (from_ to_ : Int) (b : Bool) : List PN × Bool := if pElem S from_ && pElem S to_ && !b then (S2, true) else (S, false)
theorem pElem_has {S : List PN} {n : Int} (h : pElem S n = true) : pHas S n = true := by
  unfold pElem at h
  rw [Bool.and_eq_true] at h
  exact h.1
set_option maxHeartbeats 1000000 in
set_option maxRecDepth 100000 in
theorem dmoveP (S S2 : List PN) (B : Nat) (M : Nat → Prop) (w : World) (f : Nat) (x y : Int) (b : Bool) (h : DocM M w B S) (h0 : 0 < S.length) (hb : pElem S x = true → pElem S y = true → pWithin S f y x = some b) (hs : pElem S x = true → pElem S y = true → b = false → pShift S x y f = some S2) :
    Calls Try.prog 21 #[.pointer (some ⟨B, 0, none⟩), .int .i64 x, .int .i64 y] w (Ties M w B (pMove S S2 x y b).1 (.bool (pMove S S2 x y b).2)) := by
  obtain ⟨g, cap, hr⟩ := h.reads_pos h0
  have HX := Lib.hid (delemP S B w _ cap x hr)
  have HY := Lib.hid (delemP S B w _ cap y hr)
  unfold pMove
  cases ex : pElem S x
  · rw [ex] at HX
    rw [if_neg (by simp)]
    have HD := Lib.hid h
    clear h hr hb hs
    go_enter Try.func21, Try.ntmps21
    go_wp2_with fail
    refine HX.out.mono ?_
    rintro e w1 ⟨rfl, rfl⟩
    go_wp2_with fail
    go_ret
    exact ⟨rfl, HD.out, Turns.refl _ _⟩
  · rw [ex] at HX
    cases ey : pElem S y
    · rw [ey] at HY
      rw [if_neg (by simp)]
      have HD := Lib.hid h
      clear h hr hb hs
      go_enter Try.func21, Try.ntmps21
      go_wp2_with fail
      refine HX.out.mono ?_
      rintro e w1 ⟨rfl, rfl⟩
      go_wp2_with fail
      refine HY.out.mono ?_
      rintro e w1 ⟨rfl, rfl⟩
      go_wp2_with fail
      go_ret
      exact ⟨rfl, HD.out, Turns.refl _ _⟩
    · rw [ey] at HY
      have HW := Lib.hid (dwithinP S B w _ cap f y x b hr (pElem_has ex) (hb ex ey))
      cases hbb : b
      · rw [hbb] at HW
        rw [if_pos (by simp)]
        have hs2 := hs ex ey hbb
        have hx := pElem_has ex
        have HD := Lib.hid h
        have HS2 := Lib.hid hs2
        clear h hr hb hs hs2
        go_enter Try.func21, Try.ntmps21
        go_wp2_with fail
        refine HX.out.mono ?_
        rintro e w1 ⟨rfl, rfl⟩
        go_wp2_with fail
        refine HY.out.mono ?_
        rintro e w1 ⟨rfl, rfl⟩
        go_wp2_with fail
        refine HW.out.mono ?_
        rintro e w1 ⟨rfl, rfl⟩
        go_wp2_with fail
        go_loopw [] (fun wr => ∃ n, (∃ T, DocM M wr B T ∧ T.length = S.length ∧ pShift T x y n = some S2) ∧ Turns M w wr) (fun wr => least (fun n => ∃ T, DocM M wr B T ∧ T.length = S.length ∧ pShift T x y n = some S2))
        case atStart => exact ⟨f, ⟨S, HD.out, rfl, HS2.out⟩, Turns.refl _ _⟩
        case round =>
          obtain ⟨n0, hT0, hTu⟩ := hrel
          obtain ⟨⟨T, hD, hL, hP⟩, _⟩ := least_le (p := fun n => ∃ T, DocM M wr B T ∧ T.length = S.length ∧ pShift T x y n = some S2) hT0
          obtain ⟨g1, cap1, hr1⟩ := hD.reads_pos (by omega)
          have hxT : pHas T x = true := by unfold pHas at hx ⊢; rw [hL]; exact hx
          obtain ⟨j, rfl, hj⟩ := pHas_nat hxT
          obtain ⟨_, va, vt, e, hg, hc⟩ := hr1.node j hj
          injection e with e; injection e with e; subst e
          have hc0 := hr1.cell
          have c8 := hc.c8
          have j0 : (0 : Int) ≤ (j : Int) := by omega
          have j1 : (j : Int) < (T.length : Int) := by omega
          have HTU := Lib.hid hTu
          have HDT := Lib.hid hD
          have HLE := Lib.hid hL
          generalize least (fun n => ∃ T, DocM M wr B T ∧ T.length = S.length ∧ pShift T (j : Int) y n = some S2) = n at *
          cases n with
          | zero => cases hP
          | succ n =>
            unfold pShift at hP
            rw [pget_nat hj] at hP
            by_cases a : T[j].first = -1
            · rw [if_pos a] at hP
              have q1 : (T[j].first != -1) = false := by simp [a]
              have hTS := Option.some.inj hP
              subst hTS
              clear hP a hD hr1 hc
              go_wp2_with fail
              go_ret
              exact ⟨rfl, HDT.out, HTU.out⟩
            · rw [if_neg a] at hP
              have q1 : (T[j].first != -1) = true := by simp [a]
              cases hok : (okUnlink T T[j].first && okLink (pUnlink T T[j].first) T[j].first y (-1))
              · rw [hok] at hP; cases hP
              · rw [hok, if_pos rfl] at hP
                rw [Bool.and_eq_true] at hok
                have HU := Lib.hid (dunlinkP T B M wr g1 cap1 _ hD hr1 hok.1)
                have HL : Hid (∀ W, DocM M W B (pUnlink T T[j].first) → Reads W B (pUnlink T T[j].first) (some ⟨g1, 0, none⟩) cap1 → Calls Try.prog 36 #[.pointer (some ⟨B, 0, none⟩), .int .i64 T[j].first, .int .i64 y, .int .i64 (-1)] W (Sets M W B (pLink (pUnlink T T[j].first) T[j].first y (-1)) g1 cap1 (.tuple #[]))) := Lib.hid fun W d r => dlinkP _ B M W g1 cap1 _ y (-1) d r hok.2
                have HP := Lib.hid hP
                have HLL : Hid ((pLink (pUnlink T T[j].first) T[j].first y (-1)).length = T.length) := Lib.hid (by rw [pLink_len, pUnlink_len])
                clear hP a hD hr1 hc hok hTu hL
                generalize T[j].first = k at *
                go_wp2_with fail
                refine HU.out.mono ?_
                rintro e w2 ⟨rfl, d2, r2, t2⟩
                have HL2 := Lib.hid (HL.out w2 d2 r2)
                have HT2 := Lib.hid t2
                clear d2 r2 t2
                go_wp2_with fail
                refine HL2.out.mono ?_
                rintro e w3 ⟨rfl, d3, r3, t3⟩
                have HT3 := Lib.hid (HTU.out.trans ((HT2.out.trans (t3.mono fun b _ k => .inl k)).mono fun b _ k => .inl k))
                have HD3 := Lib.hid d3
                clear d3 r3 t3
                go_wp2_with fail
                have hw : ∃ T', DocM M w3 B T' ∧ T'.length = S.length ∧ pShift T' (j : Int) y n = some S2 := ⟨_, HD3.out, by rw [HLL.out, HLE.out], HP.out⟩
                refine ⟨⟨n, hw, HT3.out⟩, ?_⟩
                have := (least_le (p := fun n => ∃ T, DocM M w3 B T ∧ T.length = S.length ∧ pShift T (j : Int) y n = some S2) hw).2
                omega
      · rw [hbb] at HW
        rw [if_neg (by simp)]
        have HD := Lib.hid h
        clear h hr hb hs
        go_enter Try.func21, Try.ntmps21
        go_wp2_with fail
        refine HX.out.mono ?_
        rintro e w1 ⟨rfl, rfl⟩
        go_wp2_with fail
        refine HY.out.mono ?_
        rintro e w1 ⟨rfl, rfl⟩
        go_wp2_with fail
        refine HW.out.mono ?_
        rintro e w1 ⟨rfl, rfl⟩
        go_wp2_with fail
        go_ret
        exact ⟨rfl, HD.out, Turns.refl _ _⟩
end Go.Proofs.Ytkoijkdhmfnlbaa
