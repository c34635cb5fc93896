/-
  How much there is in the tree: no more than there are nodes and attributes. No program is walked.
-/
import Derived.Test.YtkoijkdhmfnlbaaDLike6
import Derived.Test.YtkoijkdhmfnlbaaDAll
namespace Go.Proofs.Ytkoijkdhmfnlbaa

/-- How much a row of nodes is, each with g of it below. -/
def sumW (C : List Cl) (g : Nat → Nat) : List Nat → Nat
  | [] => 0
  | k :: r => 1 + (ndOf C k).attrs.length + g k + sumW C g r
theorem sumW_app (C : List Cl) (g : Nat → Nat) (b : List Nat) : ∀ a, sumW C g (a ++ b) = sumW C g a + sumW C g b
  | [] => by simp [sumW]
  | k :: r => by rw [List.cons_append, sumW, sumW, sumW_app C g b r]; omega
theorem wt_ofList (C : List Cl) (g : Nat → Fo) : ∀ l : List Nat, (Fo.ofList (l.map fun k => (ndOf C k, g k))).wt = sumW C (fun k => (g k).wt) l
  | [] => rfl
  | k :: r => by
    rw [List.map_cons, Fo.ofList, Fo.wt, wt_ofList C g r, sumW]
theorem lvl_wt {C : List Cl} {h : Nat → Nat} (hi : InvH C h) {n M : Nat} (hM : ∀ k, k < C.length → h k ≤ M) (ha : ∀ c ∈ C, c.d.attrs.length ≤ 1) {r0 : List Nat} :
    ∀ (d i : Nat) (R ends : List Nat), C.length - i ≤ d → Lvl C h n r0 R ends i → sumW C (fun k => (treeF C (M + 1) k).wt) (R.drop i) ≤ 2 * d := by
  intro d
  induction d with
  | zero =>
    intro i R ends hd H
    have h1 := H.size
    have h2 := H.le
    rw [List.drop_eq_nil_of_le (by omega)]
    exact Nat.zero_le _
  | succ d ih =>
    intro i R ends hd H
    rcases Nat.lt_or_ge i R.length with hl | hl
    · have hk : R[i]? = some R[i] := List.getElem?_eq_getElem hl
      obtain ⟨hkC, _⟩ := H.lt R[i] (List.getElem_mem hl)
      obtain ⟨ck, hc⟩ : ∃ c, C[R[i]]? = some c := ⟨_, List.getElem?_eq_getElem hkC⟩
      have h1 := ih (i + 1) _ _ (by omega) (H.step hi hk hc)
      rw [List.drop_append_of_le_length (by omega), sumW_app] at h1
      have h2 : (treeF C (M + 1) R[i]).wt = sumW C (fun k => (treeF C (M + 1) k).wt) ck.row := by
        rw [treeF_at hc, wt_ofList]
        have : ∀ l : List Nat, (∀ x ∈ l, h x < h R[i]) → (∀ x ∈ l, x < C.length) → sumW C (fun k => (treeF C M k).wt) l = sumW C (fun k => (treeF C (M + 1) k).wt) l := by
          intro l
          induction l with
          | nil => intros; rfl
          | cons x l ih =>
            intro q q2
            have e1 := q x (List.mem_cons_self ..)
            have e2 := hM R[i] hkC
            rw [sumW, sumW, ih (fun y hy => q y (List.mem_cons_of_mem _ hy)) (fun y hy => q2 y (List.mem_cons_of_mem _ hy)), treeF_fuel hi M (M + 1) x (by omega) (by omega)]
        exact this _ (fun x hx => (hi.row_h hc hx).2) (fun x hx => (hi.row_h hc hx).1)
      have h3 : (ndOf C R[i]).attrs.length ≤ 1 := by
        unfold ndOf
        rw [hc]
        exact ha ck (List.mem_of_getElem? hc)
      rw [List.drop_eq_getElem_cons hl, sumW, h2]
      omega
    · rw [List.drop_eq_nil_of_le hl]
      exact Nat.zero_le _
/-- The tree is no more than twice the nodes. -/
theorem tree_wt {C : List Cl} {h : Nat → Nat} (hi : InvH C h) {M n : Nat} (hM : ∀ k, k < C.length → h k ≤ M) (ha : ∀ c ∈ C, c.d.attrs.length ≤ 1) (hn : n < C.length) : (treeF C (M + 1) n).wt ≤ 2 * C.length := by
  obtain ⟨cn, hc⟩ : ∃ c, C[n]? = some c := ⟨_, List.getElem?_eq_getElem hn⟩
  have h1 := lvl_wt hi hM ha C.length 0 _ _ (by omega) (Lvl.start hi hc)
  rw [List.drop_zero] at h1
  rw [treeF_at hc, wt_ofList]
  have : ∀ l : List Nat, (∀ x ∈ l, h x < h n) → (∀ x ∈ l, x < C.length) → sumW C (fun k => (treeF C M k).wt) l = sumW C (fun k => (treeF C (M + 1) k).wt) l := by
    intro l
    induction l with
    | nil => intros; rfl
    | cons x l ih =>
      intro q q2
      have e1 := q x (List.mem_cons_self ..)
      have e2 := hM n hn
      rw [sumW, sumW, ih (fun y hy => q y (List.mem_cons_of_mem _ hy)) (fun y hy => q2 y (List.mem_cons_of_mem _ hy)), treeF_fuel hi M (M + 1) x (by omega) (by omega)]
  rw [this _ (fun x hx => (hi.row_h hc hx).2) (fun x hx => (hi.row_h hc hx).1)]
  exact h1
end Go.Proofs.Ytkoijkdhmfnlbaa
