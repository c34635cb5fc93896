/-
  Rows of nodes that are made beside a tape; what is sound of them. No program is walked.
-/
import Derived.Test.YtbadckkcjjfnoaaDTape
namespace Go.Proofs.Ytbadckkcjjfnoaa
open Go.RowKit

/-- Is the last of a row a text? -/
def lastText : List (Nd × Fo) → Bool → Bool
  | [], b => b
  | x :: r, _ => lastText r (decide (x.1.kind = 2))
theorem sound_snoc (d : Nd) (k : Fo) : ∀ (l : List (Nd × Fo)) (b : Bool), (Fo.ofList (l ++ [(d, k)])).sound b = ((Fo.ofList l).sound b && Fo.okNode d k.len (k.sound false) (lastText l b))
  | [], b => by simp [Fo.ofList, Fo.sound, lastText]
  | x :: r, b => by
    rw [List.cons_append, Fo.ofList, Fo.ofList, Fo.sound, Fo.sound, sound_snoc d k r, lastText, Bool.and_assoc]
theorem lastText_snoc (x : Nd × Fo) : ∀ (l : List (Nd × Fo)) (b : Bool), lastText (l ++ [x]) b = decide (x.1.kind = 2)
  | [], _ => rfl
  | y :: r, b => by rw [List.cons_append, lastText, lastText_snoc x r]
theorem wt_snoc (d : Nd) (k : Fo) : ∀ l : List (Nd × Fo), (Fo.ofList (l ++ [(d, k)])).wt = (Fo.ofList l).wt + (1 + d.attrs.length + k.wt)
  | [] => by simp [Fo.ofList, Fo.wt]
  | x :: r => by
    rw [List.cons_append, Fo.ofList, Fo.ofList, Fo.wt, Fo.wt, wt_snoc d k r]
    omega
/-- How much may be made, so many levels left. -/
def mb : Nat → Nat
  | 0 => 12
  | j + 1 => 4 * (3 + mb j)
theorem mb_le : ∀ j, j ≤ 6 → mb j ≤ 65532 := by decide

/-- A row of nodes that is being made: its cells; what its nodes lead to lies beside it, behind the base. -/
structure RowM (base : Nat) (v : Value) (qs : List ((Nd × Value × Value) × Fo)) (W : World) : Prop where
  row : W.ownsRow base 48 7 v qs.length (nodeCells (qs.map (·.1)))
  attrs : ∀ q ∈ qs, AttrsP (fun b => base ≤ b ∧ some b ≠ v.ownBlock) W q.1.2.1 q.1.1.attrs
  kids : ∀ q ∈ qs, NodesP (fun b => base ≤ b ∧ some b ≠ v.ownBlock) W q.1.2.2 q.2
theorem RowM.start (base : Nat) (w : World) : RowM base (.slice none 0 0) [] w := ⟨⟨rfl, Or.inl ⟨rfl, rfl⟩⟩, fun _ h => absurd h (by simp), fun _ h => absurd h (by simp)⟩
/-- What turns a block below the base, and makes new ones, leaves it. -/
theorem RowM.on {base B : Nat} {W W' : World} {v : Value} {qs : List ((Nd × Value × Value) × Fo)} (h : RowM base v qs W) (hg : W.grownBy W' (some B)) (hB : B < base) : RowM base v qs W' := by
  have hob : ∀ b, some b = v.ownBlock → base ≤ b := fun b e => (h.row.lt b e.symm).1
  refine ⟨h.row.kept hg ?_, fun q hq => (h.attrs q hq).kept (.of_grown hg fun b hb e => ?_), fun q hq => (h.kids q hq).kept (.of_grown hg fun b hb e => ?_)⟩
  · by_cases hn : v.ownBlock = none
    · exact Or.inl hn
    · right
      intro e
      have := hob B e.symm
      omega
  · injection e with e; omega
  · injection e with e; omega
theorem RowM.more {base : Nat} {W W' : World} {v : Value} {g n cap : Nat} {qs : List ((Nd × Value × Value) × Fo)} {q : (Nd × Value × Value) × Fo} (h : RowM base v qs W)
    (ha : AttrsP (fun b => base ≤ b ∧ some b ≠ v.ownBlock) W q.1.2.1 q.1.1.attrs) (hk : NodesP (fun b => base ≤ b ∧ some b ≠ v.ownBlock) W q.1.2.2 q.2)
    (hg : W.grownBy W' v.ownBlock) (hr : W'.ownsRow base 48 7 (.slice (some ⟨g, 0, none⟩) n cap) (qs.length + 1) (nodeCells (qs.map (·.1)) ++ nodeCell q.1)) (hat : v.ownBlock = some g ∨ g = W.heap.size) : RowM base (.slice (some ⟨g, 0, none⟩) n cap) (qs ++ [q]) W' := by
  have h1 : ∀ b, (base ≤ b ∧ some b ≠ v.ownBlock) → b < W.heap.size → (base ≤ b ∧ some b ≠ v.ownBlock ∧ b < W.heap.size) := fun b hb hl => ⟨hb.1, hb.2, hl⟩
  have h2 : Kept (fun b => base ≤ b ∧ some b ≠ v.ownBlock ∧ b < W.heap.size) W W' := .of_grown hg (fun b hb => hb.2.1)
  have h3 : ∀ b, (base ≤ b ∧ some b ≠ v.ownBlock ∧ b < W.heap.size) → b < W'.heap.size → (base ≤ b ∧ some b ≠ (Value.slice (some ⟨g, 0, none⟩) n cap).ownBlock) := by
    intro b hb _
    refine ⟨hb.1, ?_⟩
    show some b ≠ some g
    rcases hat with h1 | h1
    · rw [← h1]; exact hb.2.1
    · intro e; injection e with e; omega
  refine ⟨?_, ?_, ?_⟩
  · rw [List.length_append, List.map_append, List.map_singleton, nodeCells_snoc]
    exact hr
  · intro x hx
    rcases List.mem_append.1 hx with hx | hx
    · exact (((h.attrs x hx).mono h1).kept h2).mono h3
    · rw [List.mem_singleton] at hx
      subst hx
      exact ((ha.mono h1).kept h2).mono h3
  · intro x hx
    rcases List.mem_append.1 hx with hx | hx
    · exact (((h.kids x hx).mono h1).kept h2).mono h3
    · rw [List.mem_singleton] at hx
      subst hx
      exact ((hk.mono h1).kept h2).mono h3
theorem RowM.told {base : Nat} {W : World} {v : Value} {qs : List ((Nd × Value × Value) × Fo)} (h : RowM base v qs W) : NodesP (fun b => base ≤ b) W v (Fo.ofList (qs.map fun q => (q.1.1, q.2))) := by
  rcases Joins.ownsRow_forms h.row with ⟨rfl, h0⟩ | ⟨g, cap, rfl⟩
  · have : qs = [] := List.eq_nil_of_length_eq_zero h0
    subst this
    exact NodesP.nil _ _ _ _
  · have hw : ∀ b, (base ≤ b ∧ some b ≠ (Value.slice (some ⟨g, 0, none⟩) qs.length cap).ownBlock) → b < W.heap.size → base ≤ b := fun b hb _ => hb.1
    refine ⟨some ⟨g, 0, none⟩, cap, by rw [Fo.of_len, List.length_map], fun _ => ⟨g, 0, rfl, (h.row.lt g rfl).1, (h.row.lt g rfl).2, nodesFrom_of _ W g qs 0 fun j hj => ?_⟩⟩
    refine ⟨?_, (h.attrs _ (List.getElem_mem hj)).mono hw, (h.kids _ (List.getElem_mem hj)).mono hw⟩
    have key : ∀ i, i < 7 → W.cell? ⟨g, 0 + (0 + j) * 7 + i, none⟩ = (nodeCell qs[j].1)[i]? := by
      intro i hi
      have hj' : j < (qs.map (·.1)).length := by simpa using hj
      rw [show 0 + (0 + j) * 7 + i = j * 7 + i by omega, h.row.cellAt (j * 7 + i) (by omega), nodeCells_at (qs.map (·.1)) j i hj' hi, List.getElem_map]
    exact ⟨key 0 (by omega), key 1 (by omega), key 2 (by omega), key 3 (by omega), key 4 (by omega), key 5 (by omega), key 6 (by omega)⟩
theorem RowM.form {base : Nat} {W : World} {v : Value} {qs : List ((Nd × Value × Value) × Fo)} (h : RowM base v qs W) : ∃ p cap, v = .slice p qs.length cap := by
  rcases Joins.ownsRow_forms h.row with ⟨rfl, h0⟩ | ⟨g, cap, rfl⟩
  · exact ⟨none, 0, by rw [h0]⟩
  · exact ⟨_, cap, rfl⟩
theorem TapeAt.grown {w : World} {v : Value} {n B : Nat} {W W' : World} {row : Option Nat} (h : TapeAt w v n B W) (hg : W.grownBy W' row) (hB : B < W.heap.size) (hne : some B ≠ row) (hr : ∀ k, row = some k → w.heap.size ≤ k) : TapeAt w v n B W' := by
  obtain ⟨a, ha, hc⟩ := h.at_
  exact ⟨h.ints, h.new, (hg.cell_far ⟨B, 0, none⟩ hB hne).trans h.row, ⟨a, ha, (hg.cell_far ⟨B, 1, none⟩ hB hne).trans hc⟩, (hg.frozen_far ⟨B, 1, none⟩ hB hne).trans h.free, h.below.grown hg h.below.size hr⟩
theorem Stepped.grown {B : Nat} {W W' : World} (h : Stepped B W W') : W.grownBy W' (some B) := by
  obtain ⟨q1, q2, rfl | ⟨u, rfl⟩⟩ := h
  · exact ⟨rfl, rfl, rfl, by simp, fun _ _ _ => rfl⟩
  · exact ⟨rfl, rfl, rfl, by simp, fun b _ hne => Below.heap_setCell _ _ _ _ (fun e => hne (by rw [e]))⟩
/-- What made tells: nodes that are sound, not too many; the tape stands. -/
def MadeOut (j : Nat) (w0 : World) (v : Value) (n B : Nat) (w : World) (e : Ending) (w' : World) : Prop :=
  ∃ u f, e = .returned u ∧ NodesP (fun b => w.heap.size ≤ b) w' u f ∧ f.sound false = true ∧ f.wt ≤ mb j ∧ w.grownBy w' (some B) ∧ TapeAt w0 v n B w'
end Go.Proofs.Ytbadckkcjjfnoaa
