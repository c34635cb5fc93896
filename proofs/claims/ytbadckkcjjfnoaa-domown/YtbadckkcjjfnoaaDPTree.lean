/-
  Level by level (chapter 6's Tree): what the program's rows come to; its piece. Any nodes, not too many.
-/
import Derived.Test.YtbadckkcjjfnoaaDPNode
namespace Go.Proofs.Ytbadckkcjjfnoaa
open Go.RowKit

/-- A piece of a row of nodes. -/
def pieceV (g a b : Nat) : Value := if a = b then .slice none 0 0 else .slice (some ⟨g, a * 7, none⟩) (b - a) (b - a)
set_option maxHeartbeats 1000000 in
set_option maxRecDepth 100000 in
theorem dpieceP (g N cap a b : Nat) (w : World) (hab : a ≤ b) (hb : b ≤ N) (hN : N ≤ cap) : Calls Try.prog 80 #[.slice (some ⟨g, 0, none⟩) N cap, .int .i64 (a : Int), .int .i64 (b : Int)] w (Gives (pieceV g a b) w) := by
  unfold pieceV
  by_cases h : a = b
  · rw [if_pos h]
    have q : ((a : Int) == (b : Int)) = true := by simp [h]
    clear h
    go_enter Try.func80, Try.ntmps80
    go_wp2_with fail
    go_ret
    exact ⟨rfl, rfl⟩
  · rw [if_neg h]
    have q : ((a : Int) == (b : Int)) = false := by rw [beq_eq_false_iff_ne]; omega
    go_enter Try.func80, Try.ntmps80
    go_wp2_with fail
    go_ret
    exact ⟨rfl, rfl⟩

def ndP (n : PN) : Nd := ⟨n.kind, n.space, n.name, n.attrs, n.text, 0⟩
/-- The rows that Tree makes: all nodes level by level; where each one's kids end. -/
def pBfs (S : List PN) (kf : Nat) : Nat → List Int → List Nat → Nat → Option (List Int × List Nat)
  | 0, _, _, _ => none
  | f + 1, row, ends, i =>
    match row[i]? with
    | none => some (row, ends)
    | some k => if pHas S k then match pKids S kf k with
        | none => none
        | some ks => pBfs S kf f (row ++ ks) (ends ++ [row.length + ks.length]) (i + 1)
      else none
/-- What holds of them. -/
structure Bfs (S : List PN) (row : List Int) (ends : List Nat) (i : Nat) : Prop where
  len : ends.length = i + 1
  le : i ≤ row.length
  last : ends[i]? = some row.length
  at_ : ∀ j, j < i → ∃ a b, ends[j]? = some a ∧ ends[j + 1]? = some b ∧ j < a ∧ a ≤ b ∧ b ≤ row.length
  has : ∀ j k, j < i → row[j]? = some k → pHas S k = true
theorem Bfs.step {S : List PN} {row ks : List Int} {ends : List Nat} {i : Nat} {k : Int} (h : Bfs S row ends i) (hk : row[i]? = some k) (hp : pHas S k = true) : Bfs S (row ++ ks) (ends ++ [row.length + ks.length]) (i + 1) := by
  have hi := lt_of_some hk
  have hl := h.len
  refine ⟨by simp [hl], by simp; omega, ?_, ?_, ?_⟩
  · rw [List.getElem?_append_right (by omega)]
    simp [hl]
  · intro j hj
    rcases Nat.lt_or_ge j i with h1 | h1
    · obtain ⟨a, b, e1, e2, e3, e4, e5⟩ := h.at_ j h1
      exact ⟨a, b, by rw [List.getElem?_append_left (by omega)]; exact e1, by rw [List.getElem?_append_left (by omega)]; exact e2, e3, e4, by simp; omega⟩
    · have : j = i := by omega
      subst this
      refine ⟨row.length, row.length + ks.length, by rw [List.getElem?_append_left (by omega)]; exact h.last, ?_, hi, by omega, by simp⟩
      rw [List.getElem?_append_right (by omega)]
      simp [hl]
  · intro j k' hj hk'
    rcases Nat.lt_or_ge j i with h1 | h1
    · rw [List.getElem?_append_left (by omega)] at hk'
      exact h.has j k' h1 hk'
    · have : j = i := by omega
      subst this
      rw [List.getElem?_append_left hi, hk] at hk'
      injection hk' with e
      subst e
      exact hp
theorem pBfs_len {S : List PN} {kf : Nat} : ∀ (f : Nat) (row : List Int) (ends : List Nat) (i : Nat) (R : List Int) (E : List Nat), pBfs S kf f row ends i = some (R, E) → row.length ≤ R.length
  | 0, _, _, _, _, _, h => by cases h
  | f + 1, row, ends, i, R, E, h => by
    unfold pBfs at h
    split at h
    · injection h with h; injection h with h1 h2; subst h1; exact Nat.le_refl _
    · split at h
      · split at h
        · cases h
        · have := pBfs_len f _ _ _ _ _ h
          simp at this
          omega
      · cases h
/-- The nodes of a piece: c of them, from the i-th on. -/
def foF (S : List PN) (row : List Int) (ends : List Nat) : Nat → Nat → Nat → Fo
  | _, _, 0 => .nil
  | 0, _, _ + 1 => .nil
  | f + 1, i, c + 1 => .cons (ndP (pget S (row.getD i 0))) (foF S row ends f (ends.getD i 0) (ends.getD (i + 1) 0 - ends.getD i 0)) (foF S row ends f (i + 1) c)
theorem foF_len {S : List PN} {row : List Int} {ends : List Nat} : ∀ (f i c : Nat), c ≤ f → (foF S row ends f i c).len = c
  | _, _, 0, _ => by unfold foF; rfl
  | 0, _, _ + 1, h => by omega
  | f + 1, i, c + 1, h => by unfold foF; rw [Fo.len, foF_len f (i + 1) c (by omega)]
/-- Nodes that stand in one row, and lead to pieces of it. -/
theorem nodes_piece {P : Nat → Prop} {w : World} {g : Nat} {S : List PN} {row : List Int} {ends : List Nat} (hB : Bfs S row ends row.length) (hg : g < w.heap.size) (hP : P g)
    (hc : ∀ i, i < row.length → ∃ va, Cells7 w g (i * 7) (ndP (pget S (row.getD i 0))) va (pieceV g (ends.getD i 0) (ends.getD (i + 1) 0)) ∧ AttrsP P w va (ndP (pget S (row.getD i 0))).attrs) :
    ∀ (f i c o k : Nat), row.length - i < f → i + c ≤ row.length → o + k * 7 = i * 7 → NodesFrom P w (foF S row ends f i c) g o k
  | f, i, 0, o, k, _, _, _ => by unfold foF; trivial
  | 0, i, c + 1, _, _, h, _, _ => by omega
  | f + 1, i, c + 1, o, k, hf, hic, ho => by
    unfold foF
    obtain ⟨va, h7, ha⟩ := hc i (by omega)
    obtain ⟨a, b, e1, e2, e3, e4, e5⟩ := hB.at_ i (by omega)
    have ea : ends.getD i 0 = a := by rw [List.getD_eq_getElem?_getD, e1]; rfl
    have eb : ends.getD (i + 1) 0 = b := by rw [List.getD_eq_getElem?_getD, e2]; rfl
    rw [ea, eb] at h7
    rw [← ho] at h7
    refine ⟨⟨va, pieceV g a b, h7, ha, ?_⟩, nodes_piece hB hg hP hc f (i + 1) c o (k + 1) (by omega) (by omega) (by omega)⟩
    rw [ea, eb]
    have hl : (foF S row ends f a (b - a)).len = b - a := foF_len f a (b - a) (by omega)
    rw [hl]
    unfold pieceV
    by_cases hab : a = b
    · rw [if_pos hab]
      exact ⟨none, 0, by rw [show b - a = 0 by omega], fun h => absurd h (by omega)⟩
    · rw [if_neg hab]
      exact ⟨_, b - a, rfl, fun _ => ⟨g, a * 7, rfl, hP, hg, nodes_piece hB hg hP hc f a (b - a) (a * 7) 0 (by omega) (by omega) (by omega)⟩⟩
end Go.Proofs.Ytbadckkcjjfnoaa
