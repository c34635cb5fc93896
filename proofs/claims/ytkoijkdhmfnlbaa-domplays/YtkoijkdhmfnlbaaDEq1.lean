/-
  Both Docs side by side: what is read of them is the same.
-/
import Derived.Test.YtkoijkdhmfnlbaaDTwoA
import Derived.Test.YtkoijkdhmfnlbaaDNodeN
import Derived.Test.YtkoijkdhmfnlbaaDLike7
import Derived.Test.YtkoijkdhmfnlbaaDSame
namespace Go.Proofs.Ytkoijkdhmfnlbaa
open Go.RowKit

theorem two_size {X : Nat → Prop} {w0 W : World} {Bd Br : Nat} {S : List PN} {C : List Cl} (h : Two X w0 W Bd Br S C) : Calls Try.prog 13 #[.pointer (some ⟨Bd, 0, none⟩)] W (Gives (.int .i64 (S.length : Int)) W) := by
  obtain ⟨M, h1, _⟩ := h.reads
  obtain ⟨p, cap, hr⟩ := h1.reads
  exact dsizeP S Bd W p cap hr
theorem two_len {X : Nat → Prop} {w0 W : World} {Bd Br : Nat} {S : List PN} {C : List Cl} (h : Two X w0 W Bd Br S C) : Br < W.heap.size ∧ ∃ g c, W.cell? ⟨Br, 0, none⟩ = some (.slice (some ⟨g, 0, none⟩) C.length c) := by
  obtain ⟨Mr, Pr, hr⟩ := h.ref
  obtain ⟨f0, f1, _⟩ := hr.facts
  obtain ⟨_, gN, cN, gU, cU, gR, cR, k0, _⟩ := hr.rdoc
  exact ⟨f1 _ f0, gN, cN, k0⟩
/-- A row of nodes is told; nothing else turns. -/
def ToldF (f : Fo) (W : World) (e : Ending) (w' : World) : Prop := ∃ v, e = .returned v ∧ NodesP (fun _ => True) w' v f ∧ Below W.heap.size W w'
theorem two_tree {w0 : World} {Bd Br k : Nat} {S : List PN} {C : List Cl} (F : Fine S C k) (hk : k ≤ 1000) : ∃ f : Fo, f.wt ≤ 4294967296 ∧
    (∀ (X : Nat → Prop) (W : World), Two X w0 W Bd Br S C → Calls Try.prog 11 #[.pointer (some ⟨Bd, 0, none⟩), .int .i64 0] W (ToldF f W)) ∧
    (∀ (X : Nat → Prop) (W : World), Two X w0 W Bd Br S C → Calls Try.prog 26 #[.pointer (some ⟨Br, 0, none⟩), .int .i64 0] W (ToldF f W)) := by
  obtain ⟨hh, hi⟩ := F.inv
  obtain ⟨M, hM⟩ := h_bound hh C.length
  have hp := F.pos
  have hl := F.len
  obtain ⟨f, r0, row, ends, e1, e2, e3, e4⟩ := like_tree F.like hi hM hp
  have hw := tree_wt hi hM F.attrs hp
  refine ⟨treeF C (M + 1) 0, by omega, fun X W h => ?_, fun X W h => ?_⟩
  · obtain ⟨Md, h1, h2⟩ := h.reads
    refine (dtreeP S Bd Md W (C.length + 1) f 0 r0 row ends h1 h2 e1 e2 (by omega) (fun x hx => by have := (F.node x hx).2; omega)).mono ?_
    rintro e w' ⟨v, he, hn, hb⟩
    rw [e4] at hn
    exact ⟨v, he, hn.mono fun _ _ _ => trivial, hb⟩
  · obtain ⟨Mr, Pr, hr⟩ := h.ref
    refine (rtreeP6 C Br Mr Pr W 0 (M + 1) hh hr hi (Nat.lt_succ_of_le (hM 0 hp)) hp (F.rows hk)).mono ?_
    rintro e w' ⟨v, he, hn, hb⟩
    exact ⟨v, he, hn.mono fun _ _ _ => trivial, hb⟩
theorem two_up {w0 : World} {Bd Br k : Nat} {S : List PN} {C : List Cl} (F : Fine S C k) (n : Int) : ∃ u : Int,
    (∀ (X : Nat → Prop) (W : World), Two X w0 W Bd Br S C → Calls Try.prog 29 #[.pointer (some ⟨Bd, 0, none⟩), .int .i64 n] W (Gives (.int .i64 u) W)) ∧
    (∀ (X : Nat → Prop) (W : World), Two X w0 W Bd Br S C → Calls Try.prog 30 #[.pointer (some ⟨Br, 0, none⟩), .int .i64 n] W (Gives (.int .i64 u) W)) := by
  refine ⟨pUp S n, fun X W h => ?_, fun X W h => ?_⟩
  · obtain ⟨M, h1, _⟩ := h.reads
    obtain ⟨p, cap, hr⟩ := h1.reads
    exact dupP S Bd W p cap n hr
  · obtain ⟨Mr, Pr, hr⟩ := h.ref
    rw [like_up F.like]
    exact rup_any C Br W n hr.rdoc
/-- A row of numbers is told; nothing else turns. -/
def ToldI (l : List Nat) (W : World) (e : Ending) (w' : World) : Prop := ∃ v, e = .returned v ∧ NumsAt w' v l ∧ Below W.heap.size W w'
theorem RowI.nums {w w' : World} {v : Value} {l : List Nat} (h : RowI w (.slice none 0 0) w' v (intsI l)) : NumsAt w' v l := by
  obtain ⟨p, c, rfl⟩ := row_form h.row
  rw [intsI_len] at h
  refine ⟨p, c, by rw [intsI_len], fun h0 => ?_⟩
  rcases h.row.2 with ⟨e, e2⟩ | ⟨g, cap, cur, e, _⟩
  · rw [intsI_len] at e2
    omega
  · injection e with e1 e2 e3
    subst e1
    refine ⟨g, 0, rfl, (h.row.lt g rfl).2, fun j hj => ?_⟩
    have hr := h.row
    rw [intsI_len] at hr
    rw [Nat.zero_add, hr.cellAt j (by omega)]
    simp [intCells, intsI, hj]
theorem two_kids {w0 : World} {Bd Br k : Nat} {S : List PN} {C : List Cl} (F : Fine S C k) (hk : k ≤ 1000) (n : Int) : ∃ l : List Nat, l.length ≤ 100000 ∧
    (∀ (X : Nat → Prop) (W : World), Two X w0 W Bd Br S C → Calls Try.prog 27 #[.pointer (some ⟨Bd, 0, none⟩), .int .i64 n] W (ToldI l W)) ∧
    (∀ (X : Nat → Prop) (W : World), Two X w0 W Bd Br S C → Calls Try.prog 28 #[.pointer (some ⟨Br, 0, none⟩), .int .i64 n] W (ToldI l W)) := by
  have hr : (if isN C n then rowAt C n.toNat else []).length ≤ 100000 := by
    split
    · unfold rowAt
      cases hc : C[n.toNat]? with
      | none => exact Nat.zero_le _
      | some c => exact F.rows hk c (List.mem_of_getElem? hc)
    · exact Nat.zero_le _
  refine ⟨if isN C n then rowAt C n.toNat else [], hr, fun X W h => ?_, fun X W h => ?_⟩
  · obtain ⟨M, h1, h2⟩ := h.reads
    refine (dkidsP S Bd M W (C.length + 1) n _ h1 h2 (like_kidsA F.like F.inv.fit n) (by rw [intsI_len]; omega)).mono ?_
    rintro e w' ⟨v, he, hR⟩
    exact ⟨v, he, hR.nums, hR.turns.below (Nat.le_refl _) (fun b _ q => by cases q)⟩
  · obtain ⟨Mr, Pr, hr⟩ := h.ref
    refine (rkids_any C Br W n hr.rdoc).mono ?_
    rintro e w' ⟨v, he, hR, rfl⟩
    exact ⟨v, he, hR, Below.refl _ _⟩
/-- A node is told, without kids; nothing else turns. -/
def ToldN (x : Nd) (W : World) (e : Ending) (w' : World) : Prop := ∃ va, e = .returned (nodeV x va (.slice none 0 0)) ∧ AttrsP (fun _ => True) w' va x.attrs ∧ Below W.heap.size W w'
theorem two_node {w0 : World} {Bd Br k : Nat} {S : List PN} {C : List Cl} (F : Fine S C k) (n : Int) : ∃ x : Nd, x.attrs.length ≤ 1 ∧
    (∀ (X : Nat → Prop) (W : World), Two X w0 W Bd Br S C → Calls Try.prog 32 #[.pointer (some ⟨Bd, 0, none⟩), .int .i64 n] W (ToldN x W)) ∧
    (∀ (X : Nat → Prop) (W : World), Two X w0 W Bd Br S C → Calls Try.prog 33 #[.pointer (some ⟨Br, 0, none⟩), .int .i64 n] W (ToldN x W)) := by
  have hH := F.like.has n
  have hll := F.like.len
  cases hn : isN C n
  · rw [hn] at hH
    have hA : ∀ W : World, AttrsP (fun _ => True) W (.slice none 0 0) [] := fun W => ⟨none, 0, rfl, fun h => absurd h (by simp)⟩
    refine ⟨⟨0, 0, [], [], [], 0⟩, Nat.zero_le _, fun X W h => ?_, fun X W h => ?_⟩
    · obtain ⟨M, h1, h2⟩ := h.reads
      refine (dnodeNo S Bd M W n h1 h2 hH).mono ?_
      rintro e w' ⟨he, hb⟩
      exact ⟨.slice none 0 0, he, hA _, hb⟩
    · obtain ⟨Mr, Pr, hr⟩ := h.ref
      refine (rnodeNo C Br W n hr.rdoc hn).mono ?_
      rintro e w' ⟨he, hb⟩
      exact ⟨.slice none 0 0, he, hA _, hb⟩
  · rw [isN_iff] at hn
    obtain ⟨j, rfl⟩ : ∃ j : Nat, n = (j : Int) := ⟨n.toNat, by omega⟩
    have hj : j < C.length := by omega
    have hjS : j < S.length := by omega
    have hd := F.like.nd j C[j] (List.getElem?_eq_getElem hj)
    rw [pget_nat hjS] at hd
    have ha := F.attrs C[j] (List.getElem_mem hj)
    refine ⟨C[j].d, ha, fun X W h => ?_, fun X W h => ?_⟩
    · obtain ⟨M, h1, h2⟩ := h.reads
      refine (dnodeP S Bd M W j h1 hjS (by have := (F.node S[j] (List.getElem_mem hjS)).2; omega)).mono ?_
      rintro e w' ⟨p, c, he, hA, hb⟩
      rw [← hd]
      exact ⟨_, he, hA.mono fun _ _ _ => trivial, hb⟩
    · obtain ⟨Mr, Pr, hr⟩ := h.ref
      exact (rnodeP6 C Br W j hr.rdoc hj).mono fun e w' q => q
end Go.Proofs.Ytkoijkdhmfnlbaa
