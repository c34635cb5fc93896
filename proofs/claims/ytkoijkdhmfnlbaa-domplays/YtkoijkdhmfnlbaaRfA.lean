/-
  A drawn region with some late operations (stores at its end): a condition on the world is asked behind every operation but these, each of which waits, be it by others, for whatever is taken first by that condition. No program is walked.
  The reference's Doc in memory, with what turns when it is written: three rows of its own. Any nodes by numbers, not too many.
-/
import Derived.Deep.RegionHeld
import Derived.Test.YtkoijkdhmfnlbaaDLkA
import Derived.Test.YtkoijkdhmfnlbaaDCll
namespace Go.Proofs.Ytkoijkdhmfnlbaa
open Go

section
variable {P : Program} {ops : Array Oper} {Q : Exit → Act → World → Prop} {md : Region.Mode} {S : World → Prop} {late : List Nat}
/-- What operation k waits for. -/
def edgesL (md : Region.Mode) (ops : Array Oper) (k : Nat) : List Nat := match ops[k]? with
  | some o => (o.after.toList.filter (Region.binds md)).map (·.on)
  | none => []
theorem edgesL_mem {k i : Nat} {o : Oper} (ho : ops[k]? = some o) : i ∈ edgesL md ops k ↔ ∃ e ∈ o.after, Region.binds md e = true ∧ e.on = i := by
  unfold edgesL
  rw [ho]
  simp only [List.mem_map, List.mem_filter, Array.mem_toList_iff]
  constructor
  · rintro ⟨e, ⟨h1, h2⟩, h3⟩; exact ⟨e, h1, h2, h3⟩
  · rintro ⟨e, h1, h2, h3⟩; exact ⟨e, ⟨h1, h2⟩, h3⟩
inductive ReachL (md : Region.Mode) (ops : Array Oper) (s : Nat) : Nat → Prop
  | base {i : Nat} : i ∈ edgesL md ops s → ReachL md ops s i
  | step {k i : Nat} : ReachL md ops s k → i ∈ edgesL md ops k → ReachL md ops s i
/-- All that s waits for, be it by others: f rounds. -/
def reachL (md : Region.Mode) (ops : Array Oper) (s : Nat) : Nat → List Nat
  | 0 => edgesL md ops s
  | f + 1 => ((reachL md ops s f).flatMap (edgesL md ops)).foldl (fun acc x => if acc.contains x then acc else x :: acc) (reachL md ops s f)
theorem foldl_mem {x : Nat} : ∀ (l acc : List Nat), x ∈ l.foldl (fun acc x => if acc.contains x then acc else x :: acc) acc → x ∈ acc ∨ x ∈ l
  | [], _, h => .inl h
  | y :: l, acc, h => by
    rw [List.foldl_cons] at h
    rcases foldl_mem l _ h with h | h
    · split at h
      · exact .inl h
      · rcases List.mem_cons.1 h with rfl | h
        · exact .inr (by simp)
        · exact .inl h
    · exact .inr (by simp [h])
theorem reachL_spec {s : Nat} : ∀ (f : Nat) {i : Nat}, i ∈ reachL md ops s f → ReachL md ops s i
  | 0, _, h => .base h
  | f + 1, _, h => by
    rcases foldl_mem _ _ h with h | h
    · exact reachL_spec f h
    · obtain ⟨k, hk, hi⟩ := List.mem_flatMap.1 h
      exact .step (reachL_spec f hk) hi
/-- Each late operation waits for all of is. -/
def lateOk (md : Region.Mode) (ops : Array Oper) (late is : List Nat) (f : Nat) : Bool := late.all fun s => is.all fun i => (reachL md ops s f).contains i
theorem lateOk_spec {is : List Nat} {f : Nat} (h : lateOk md ops late is f = true) : ∀ i ∈ is, ∀ s ∈ late, ReachL md ops s i := by
  intro i hi s hs
  have := List.all_eq_true.1 (List.all_eq_true.1 h s hs) i hi
  exact reachL_spec f (by simpa using this)
/-- With an operation all that it waits for is listed. -/
def ClosedL (md : Region.Mode) (ops : Array Oper) (listed : Array Bool) : Prop := ∀ k, listed.getD k false = true → ∀ i ∈ edgesL md ops k, listed.getD i false = true
def closedB (md : Region.Mode) (ops : Array Oper) (listed : Array Bool) : Bool := (List.range listed.size).all fun k => !(listed.getD k false) || (edgesL md ops k).all fun i => listed.getD i false
theorem closedB_spec {listed : Array Bool} (h : closedB md ops listed = true) : ClosedL md ops listed := by
  intro k hk i hi
  have hlt : k < listed.size := by
    rcases Nat.lt_or_ge k listed.size with h' | h'
    · exact h'
    · simp [Array.getElem?_eq_none h'] at hk
  have h1 := List.all_eq_true.1 h k (List.mem_range.2 hlt)
  rw [hk] at h1
  simp only [Bool.not_true, Bool.false_or] at h1
  exact List.all_eq_true.1 h1 i hi
theorem ClosedL.set {listed : Array Bool} {j : Nat} (h : ClosedL md ops listed) (hj : ∀ i ∈ edgesL md ops j, listed.getD i false = true) : ClosedL md ops (listed.setIfInBounds j true) := by
  intro k hk i hi
  by_cases hkj : j = k
  · subst hkj
    exact getD_set_true (hj i hi)
  · rw [getD_set_ne false hkj] at hk
    exact getD_set_true (h k hk i hi)
theorem ReachL.listed {listed : Array Bool} {s i : Nat} (h : ReachL md ops s i) (hC : ClosedL md ops listed) (hs : ∀ i ∈ edgesL md ops s, listed.getD i false = true) : listed.getD i false = true := by
  induction h with
  | base h => exact hs _ h
  | step _ h ih => exact hC _ ih _ h
/-- Whatever order is picked from here on, and S holds behind every operation but the late ones. -/
def wpAnyL (P : Program) (md : Region.Mode) (ops : Array Oper) (Q : Exit → Act → World → Prop) (S : World → Prop) (late : List Nat) : Nat → Array Bool → Act → World → Prop
  | 0, listed, a, w => Region.ready md ops listed = [] ∧ Q .normal a w
  | fuel + 1, listed, a, w =>
    (Region.ready md ops listed = [] → Q .normal a w) ∧
    ∀ i ∈ Region.ready md ops listed, wpOp P ops Q i (fun a' w' => (i ∉ late → S w → S w') ∧ wpAnyL P md ops Q S late fuel (listed.setIfInBounds i true) a' w') a w
theorem wpAny_of_L : ∀ (fuel : Nat) (listed : Array Bool) (a : Act) (w : World), wpAnyL P md ops Q S late fuel listed a w → wpAny P md ops Q fuel listed a w
  | 0, _, _, _, h => h
  | fuel + 1, _, _, _, h => ⟨h.1, fun i hi => wpOp_mono (fun a' w' h' => wpAny_of_L fuel _ a' w' h'.2) (h.2 i hi)⟩
theorem wpAnyL_first {i : Nat} {oi : Oper} {v : Value} (hi : ops[i]? = some oi) (hsel : ∀ (j : Nat) (o : Oper) cs b, ops[j]? = some o → o.op ≠ .select cs b)
    (hQ : ∀ c a w, Q (.panic c) (a.put oi.dst v) w → Q (.panic c) a w) (hsw : ∀ s ∈ late, ReachL md ops s i) :
    ∀ (fuel : Nat) (listed : Array Bool) (a : Act) (w : World), ClosedL md ops listed →
      (∀ j oj, ops[j]? = some oj → j ≠ i → listed.getD j true = false → (∀ e ∈ oj.after, Region.binds md e = true → e.on ≠ i) → oi.apart ops oj = true) →
      i ∈ Region.ready md ops listed → YieldsIf P ops S oi v a → S w →
      wpAnyL P md ops Q S late fuel (listed.setIfInBounds i true) (a.put oi.dst v) w → wpAnyL P md ops Q S late (fuel + 1) listed a w := by
  intro fuel
  induction fuel with
  | zero =>
    intro listed a w _ _ hr hy hS H
    refine ⟨fun h => (by rw [h] at hr; cases hr), fun j hj => ?_⟩
    by_cases hji : j = i
    · subst hji; exact hy.wpOp hi hS ⟨fun _ _ => hS, H⟩
    · have := ready_mono hj hji
      rw [H.1] at this
      cases this
  | succ fuel ih =>
    intro listed a w hC hfree hr hy hS H
    refine ⟨fun h => (by rw [h] at hr; cases hr), fun j hj => ?_⟩
    by_cases hji : j = i
    · subst hji; exact hy.wpOp hi hS ⟨fun _ _ => hS, H⟩
    · have h1 := H.2 j (ready_mono hj hji)
      obtain ⟨hjun, oj, hoj, hall⟩ := mem_ready.1 hj
      have hon : ∀ k, listed.getD k false = true → k ≠ i := fun k h1 heq => by
        have h0 := (mem_ready.1 hr).1
        rw [heq] at h1
        rcases Nat.lt_or_ge i listed.size with h' | h'
        · simp [h'] at h0 h1; rw [h0] at h1; cases h1
        · simp [Array.getElem?_eq_none h'] at h1
      have hnot : ∀ e ∈ oj.after, Region.binds md e = true → e.on ≠ i := fun e he hb => hon _ (hall e he hb)
      have hedg : ∀ k ∈ edgesL md ops j, listed.getD k false = true := fun k hk => by
        obtain ⟨e, he, hb, hon⟩ := (edgesL_mem hoj).1 hk
        rw [← hon]
        exact hall e he hb
      have hjs : j ∉ late := fun hl => hon i ((hsw j hl).listed hC hedg) rfl
      have h2 := wpOp_putIf hoj (hfree j oj hoj hji hjun hnot) (fun cs b => hsel i oi cs b hi) (fun cs b => hsel j oj cs b hoj) hQ hy h1
      have hfree' : ∀ k ok, ops[k]? = some ok → k ≠ i → (listed.setIfInBounds j true).getD k true = false →
          (∀ e ∈ ok.after, Region.binds md e = true → e.on ≠ i) → oi.apart ops ok = true := fun k ok hk hki hun hno => by
        refine hfree k ok hk hki ?_ hno
        by_cases hjk : j = k
        · subst hjk; exact hjun
        · rw [getD_set_ne true hjk] at hun; exact hun
      refine wpOp_mono (fun a' w' h3 => ⟨h3.2.1, ih (listed.setIfInBounds j true) a' w' (hC.set hedg) hfree' (ready_mono hr (Ne.symm hji)) h3.1 (h3.2.1 hjs hS) ?_⟩) h2
      rw [Array.setIfInBounds_comm _ _ hji]
      exact h3.2.2
/-- An operation that computes alone may be taken first, whatever the world is. -/
theorem wpAnyL_pure {i : Nat} {oi : Oper} {v : Value} (hi : ops[i]? = some oi) (hsel : ∀ (j : Nat) (o : Oper) cs b, ops[j]? = some o → o.op ≠ .select cs b)
    (hQ : ∀ c a w, Q (.panic c) (a.put oi.dst v) w → Q (.panic c) a w) :
    ∀ (fuel : Nat) (listed : Array Bool) (a : Act) (w : World),
      (∀ j oj, ops[j]? = some oj → j ≠ i → listed.getD j true = false → (∀ e ∈ oj.after, Region.binds md e = true → e.on ≠ i) → oi.apart ops oj = true) →
      i ∈ Region.ready md ops listed → YieldsIf P ops (fun _ => True) oi v a →
      wpAnyL P md ops Q S late fuel (listed.setIfInBounds i true) (a.put oi.dst v) w → wpAnyL P md ops Q S late (fuel + 1) listed a w := by
  intro fuel
  induction fuel with
  | zero =>
    intro listed a w _ hr hy H
    refine ⟨fun h => (by rw [h] at hr; cases hr), fun j hj => ?_⟩
    by_cases hji : j = i
    · subst hji; exact hy.wpOp hi trivial ⟨fun _ k => k, H⟩
    · have := ready_mono hj hji
      rw [H.1] at this
      cases this
  | succ fuel ih =>
    intro listed a w hfree hr hy H
    refine ⟨fun h => (by rw [h] at hr; cases hr), fun j hj => ?_⟩
    by_cases hji : j = i
    · subst hji; exact hy.wpOp hi trivial ⟨fun _ k => k, H⟩
    · have h1 := H.2 j (ready_mono hj hji)
      obtain ⟨hjun, oj, hoj, hall⟩ := mem_ready.1 hj
      have hnot : ∀ e ∈ oj.after, Region.binds md e = true → e.on ≠ i := fun e he hb heq => by
        have h1 := hall e he hb
        have h0 := (mem_ready.1 hr).1
        rw [heq] at h1
        rcases Nat.lt_or_ge i listed.size with h' | h'
        · simp [h'] at h0 h1; rw [h0] at h1; cases h1
        · simp [Array.getElem?_eq_none h'] at h1
      have h2 := wpOp_putIf hoj (hfree j oj hoj hji hjun hnot) (fun cs b => hsel i oi cs b hi) (fun cs b => hsel j oj cs b hoj) hQ hy h1
      have hfree' : ∀ k ok, ops[k]? = some ok → k ≠ i → (listed.setIfInBounds j true).getD k true = false →
          (∀ e ∈ ok.after, Region.binds md e = true → e.on ≠ i) → oi.apart ops ok = true := fun k ok hk hki hun hno => by
        refine hfree k ok hk hki ?_ hno
        by_cases hjk : j = k
        · subst hjk; exact hjun
        · rw [getD_set_ne true hjk] at hun; exact hun
      refine wpOp_mono (fun a' w' h3 => ⟨h3.2.1, ih (listed.setIfInBounds j true) a' w' hfree' (ready_mono hr (Ne.symm hji)) h3.1 ?_⟩) h2
      rw [Array.setIfInBounds_comm _ _ hji]
      exact h3.2.2
theorem wpAnyL_take {i : Nat} {oi : Oper} {v : Value} {fuel : Nat} {listed : Array Bool} {a : Act} {w : World} (hi : ops[i]? = some oi)
    (hs : Region.noSelect ops = true) (hf : Region.free md ops listed i = true) (hr : (Region.ready md ops listed).contains i = true) (hC : closedB md ops listed = true) (hw : ∀ s ∈ late, ReachL md ops s i)
    (hQ : ∀ c a w, Q (.panic c) (a.put oi.dst v) w → Q (.panic c) a w) (hy : YieldsIf P ops S oi v a) (hS : S w)
    (h : wpAnyL P md ops Q S late fuel (listed.setIfInBounds i true) (a.put oi.dst v) w) : wpAnyL P md ops Q S late (fuel + 1) listed a w :=
  wpAnyL_first hi (Region.noSelect_spec hs) hQ hw fuel listed a w (closedB_spec hC) (Region.free_spec hi hf) (by simpa using hr) hy hS h
theorem wpAnyL_only {i : Nat} {oi : Oper} {v : Value} {fuel : Nat} {listed : Array Bool} {a : Act} {w : World} (hi : ops[i]? = some oi)
    (hs : Region.noSelect ops = true) (hf : Region.free md ops listed i = true) (hr : (Region.ready md ops listed).contains i = true)
    (hQ : ∀ c a w, Q (.panic c) (a.put oi.dst v) w → Q (.panic c) a w) (hy : YieldsIf P ops (fun _ => True) oi v a)
    (h : wpAnyL P md ops Q S late fuel (listed.setIfInBounds i true) (a.put oi.dst v) w) : wpAnyL P md ops Q S late (fuel + 1) listed a w :=
  wpAnyL_pure hi (Region.noSelect_spec hs) hQ fuel listed a w (Region.free_spec hi hf) (by simpa using hr) hy h
theorem wpAnyL_done {listed : Array Bool} {a : Act} {w : World} (hr : Region.ready md ops listed = []) (h : Q .normal a w) : ∀ fuel, wpAnyL P md ops Q S late fuel listed a w
  | 0 => ⟨hr, h⟩
  | _ + 1 => ⟨fun _ => h, by rw [hr]; simp⟩
def AllReadyL (P : Program) (md : Region.Mode) (ops : Array Oper) (Q : Exit → Act → World → Prop) (S : World → Prop) (late : List Nat) (fuel : Nat) (listed : Array Bool) (a : Act) (w : World) (rs : List Nat) : Prop :=
  ∀ i ∈ rs, wpOp P ops Q i (fun a' w' => (i ∉ late → S w → S w') ∧ wpAnyL P md ops Q S late fuel (listed.setIfInBounds i true) a' w') a w
theorem AllReadyL.nil {fuel : Nat} {listed : Array Bool} {a : Act} {w : World} : AllReadyL P md ops Q S late fuel listed a w [] := fun _ h => by cases h
theorem AllReadyL.cons {fuel : Nat} {listed : Array Bool} {a : Act} {w : World} {i : Nat} {o : Oper} {rs : List Nat} (ho : ops[i]? = some o)
    (h : ∀ K' : Act → World → Prop, Shut (∀ a w, S w → (S w → wpAnyL P md ops Q S late fuel (listed.setIfInBounds i true) a w) → K' a w) → if Region.wanted o (yielded ops a.tmps) = true then Oper.wp P o a w K' Q else K' (a.put o.dst undef) w)
    (hs : AllReadyL P md ops Q S late fuel listed a w rs) : AllReadyL P md ops Q S late fuel listed a w (i :: rs) := fun j hj => by
  rcases List.mem_cons.1 hj with rfl | hj
  · exact wpOp_step ho (fun K' hK => h K' (fun a w hS hW => hK a w ⟨fun _ _ => hS, hW hS⟩))
  · exact hs j hj
/-- A late one. -/
theorem AllReadyL.last {fuel : Nat} {listed : Array Bool} {a : Act} {w : World} {i : Nat} {o : Oper} {rs : List Nat} (ho : ops[i]? = some o) (hl : late.contains i = true)
    (h : ∀ K' : Act → World → Prop, Shut (∀ a w, wpAnyL P md ops Q S late fuel (listed.setIfInBounds i true) a w → K' a w) → if Region.wanted o (yielded ops a.tmps) = true then Oper.wp P o a w K' Q else K' (a.put o.dst undef) w)
    (hs : AllReadyL P md ops Q S late fuel listed a w rs) : AllReadyL P md ops Q S late fuel listed a w (i :: rs) := fun j hj => by
  rcases List.mem_cons.1 hj with rfl | hj
  · exact wpOp_step ho (fun K' hK => h K' (fun a w hW => hK a w ⟨fun k => absurd (by simpa using hl) k, hW⟩))
  · exact hs j hj
theorem wpAnyL_ready {rs : List Nat} {fuel : Nat} {listed : Array Bool} {a : Act} {w : World} (hr : Region.ready md ops listed = rs) (hne : rs ≠ [])
    (h : AllReadyL P md ops Q S late fuel listed a w rs) : wpAnyL P md ops Q S late (fuel + 1) listed a w := ⟨fun h0 => absurd (hr ▸ h0) hne, hr ▸ h⟩
theorem wp_region_heldL_drew {id : Nat} {a : Act} {w : World} (hm : P.follows .mixedOrders = true) (hS : S w.drew)
    (h : S w.drew → wpAnyL P .any ops Q S late ops.size (Array.replicate ops.size false) a w.drew) : (Code.region id ops true).wp P Q a w :=
  wp_region_any hm (wpAny_of_L _ _ _ _ (h hS))
end
end Go.Proofs.Ytkoijkdhmfnlbaa
namespace Go.Proofs.Ytkoijkdhmfnlbaa
open Go.RowKit

/-- The slice v holds the numbers l in w, in blocks of P. -/
def NumsP (P : Nat → Prop) (w : World) (v : Value) (l : List Nat) : Prop := ∃ p cap, v = .slice p l.length cap ∧ l.length ≤ cap ∧ (p = none → cap = 0) ∧ ∀ g o s, p = some ⟨g, o, s⟩ → s = none ∧ P g ∧ g < w.heap.size ∧ ∀ j (hj : j < l.length), w.cell? ⟨g, o + j, none⟩ = some (.int .i64 (l[j] : Int))
theorem NumsP.kept {P : Nat → Prop} {w w' : World} {v : Value} {l : List Nat} (h : NumsP P w v l) (hk : Kept P w w') : NumsP P w' v l := by
  obtain ⟨p, cap, rfl, h1, h0, h⟩ := h
  refine ⟨p, cap, rfl, h1, h0, fun g o s e => ?_⟩
  obtain ⟨rfl, hp, hg, hc⟩ := h g o s e
  exact ⟨rfl, hp, Nat.lt_of_lt_of_le hg hk.size, fun j hj => (hk.cell hp hg).trans (hc j hj)⟩
theorem NumsP.mono {P Q : Nat → Prop} {w : World} {v : Value} {l : List Nat} (h : NumsP P w v l) (hq : ∀ b, P b → b < w.heap.size → Q b) : NumsP Q w v l := by
  obtain ⟨p, cap, rfl, h1, h0, h⟩ := h
  refine ⟨p, cap, rfl, h1, h0, fun g o s e => ?_⟩
  obtain ⟨rfl, hp, hg, hc⟩ := h g o s e
  exact ⟨rfl, hq g hp hg, hg, hc⟩
theorem NumsP.nil (P : Nat → Prop) (w : World) : NumsP P w (.slice none 0 0) [] := ⟨none, 0, rfl, Nat.le_refl _, fun _ => rfl, fun _ _ _ e => by cases e⟩
theorem NumsP.at_ {P : Nat → Prop} {w : World} {v : Value} {l : List Nat} (h : NumsP P w v l) : NumsAt w v l := by
  obtain ⟨p, cap, rfl, h1, h0, h⟩ := h
  refine ⟨p, cap, rfl, fun hl => ?_⟩
  match p, h0, h with
  | none, h0, _ => have := h0 rfl; omega
  | some ⟨g, o, s⟩, _, h =>
    obtain ⟨rfl, _, hg, hc⟩ := h g o s rfl
    exact ⟨g, o, rfl, hg, hc⟩
/-- A row of numbers of one's own is one. -/
theorem NumsP.of_row {base : Nat} {w : World} {v : Value} {l : List Nat} (h : w.ownsRow base 3 1 v l.length (l.map fun (k : Nat) => Value.int .i64 (k : Int))) : NumsP (fun b => base ≤ b) w v l := by
  rcases Joins.ownsRow_forms h with ⟨rfl, h1⟩ | ⟨g, c, rfl⟩
  · have : l = [] := List.eq_nil_of_length_eq_zero (by omega)
    subst this
    exact .nil _ _
  · refine ⟨_, c, rfl, ?_, (fun e => by cases e), fun g' o s e => ?_⟩
    · rcases h.2 with ⟨e, _⟩ | ⟨g1, cap1, cur, e, _, _, hr⟩
      · cases e
      · injection e with _ _ e
        subst e
        exact hr.1
    · injection e with e
      injection e with e1 e2 e3
      subst e1 e2 e3
      refine ⟨rfl, (h.lt g rfl).1, (h.lt g rfl).2, fun j hj => ?_⟩
      rw [Nat.zero_add, h.cellAt j (by omega)]
      simp [hj]

/-- Three rows of one's own, apart, beside some blocks. -/
structure LayS (M : Nat → Prop) (w W : World) (vN vU vR : Value) (kN kU kR : Nat) (lN lU lR : List Value) (ex : List (Nat × Obj)) : Prop where
  rN : W.ownsRow 0 43 7 vN kN lN
  rU : W.ownsRow 0 3 1 vU kU lU
  rR : W.ownsRow 0 32 1 vR kR lR
  nNU : ∀ g, vN.ownBlock = some g → vU.ownBlock ≠ some g
  nNR : ∀ g, vN.ownBlock = some g → vR.ownBlock ≠ some g
  nUR : ∀ g, vU.ownBlock = some g → vR.ownBlock ≠ some g
  ex : ∀ p ∈ ex, W.heap[p.1]? = some p.2 ∧ vN.ownBlock ≠ some p.1 ∧ vU.ownBlock ≠ some p.1 ∧ vR.ownBlock ≠ some p.1
  mN : ∀ g, vN.ownBlock = some g → New M w g
  mU : ∀ g, vU.ownBlock = some g → New M w g
  mR : ∀ g, vR.ownBlock = some g → New M w g
  turns : Turns M w W
theorem LayS.on {M : Nat → Prop} {w W W' : World} {vN vU vR : Value} {kN kU kR : Nat} {lN lU lR : List Value} {ex : List (Nat × Obj)} (h : LayS M w W vN vU vR kN kU kR lN lU lR ex) (hb : Below W.heap.size W W') : LayS M w W' vN vU vR kN kU kR lN lU lR ex := by
  have ht : Turns (fun _ => False) W W' := .of_below hb
  refine ⟨ownsRow_kept h.rN ht (fun _ _ k => k), ownsRow_kept h.rU ht (fun _ _ k => k), ownsRow_kept h.rR ht (fun _ _ k => k), h.nNU, h.nNR, h.nUR, fun p hp => ?_, h.mN, h.mU, h.mR, h.turns.trans (.of_below hb)⟩
  obtain ⟨h0, h1, h2, h3⟩ := h.ex p hp
  exact ⟨(hb.block p.1 (heap_lt h0)).trans h0, h1, h2, h3⟩
theorem LayS.alloc {M : Nat → Prop} {w W : World} {vN vU vR : Value} {kN kU kR : Nat} {lN lU lR : List Value} {ex : List (Nat × Obj)} (h : LayS M w W vN vU vR kN kU kR lN lU lR ex) (o : Obj) : LayS M w (W.alloc o) vN vU vR kN kU kR lN lU lR ((W.heap.size, o) :: ex) := by
  have h' := h.on ((Below.refl _ W).alloc (Nat.le_refl _) o)
  refine ⟨h'.rN, h'.rU, h'.rR, h'.nNU, h'.nNR, h'.nUR, fun p hp => ?_, h'.mN, h'.mU, h'.mR, h'.turns⟩
  rcases List.mem_cons.1 hp with rfl | hp
  · exact ⟨heap_alloc_new W o, fun e => Nat.lt_irrefl _ (h.rN.lt _ e).2, fun e => Nat.lt_irrefl _ (h.rU.lt _ e).2, fun e => Nat.lt_irrefl _ (h.rR.lt _ e).2⟩
  · exact h'.ex p hp
theorem LayS.growN {M : Nat → Prop} {w W W' : World} {vN vU vR : Value} {kN kU kR ga c m H : Nat} {lN lU lR l : List Value} {ex : List (Nat × Obj)} (h : LayS M w W vN vU vR kN kU kR lN lU lR ex)
    (hr : W'.ownsRow 0 43 7 (.slice (some ⟨ga, 0, none⟩) m c) m l) (hg : W.grownBy W' vN.ownBlock) (hH : W.heap.size = H) (ho : vN.ownBlock = some ga ∨ ga = H) : LayS M w W' (.slice (some ⟨ga, 0, none⟩) m c) vU vR m kU kR l lU lR ex := by
  subst hH
  have ht : Turns (fun b => vN.ownBlock = some b) W W' := .of_grown hg fun _ e => e
  have hn : ∀ v : Value, (∀ g, vN.ownBlock = some g → v.ownBlock ≠ some g) → (∀ g, v.ownBlock = some g → g < W.heap.size) → ∀ g, (Value.slice (some ⟨ga, 0, none⟩) m c).ownBlock = some g → v.ownBlock ≠ some g := by
    intro v h1 h2 g e k
    obtain rfl : ga = g := Option.some.inj e
    rcases ho with ho | ho
    · exact h1 _ ho k
    · have := h2 _ k; omega
  refine ⟨hr, ownsRow_kept h.rU ht fun g e k => h.nNU g k e, ownsRow_kept h.rR ht fun g e k => h.nNR g k e, hn vU h.nNU fun g e => (h.rU.lt g e).2, hn vR h.nNR fun g e => (h.rR.lt g e).2, h.nUR, fun p hp => ?_, ?_, h.mU, h.mR, h.turns.trans (.of_grown hg h.mN)⟩
  · obtain ⟨h0, h1, h2, h3⟩ := h.ex p hp
    have hl := heap_lt h0
    refine ⟨(ht.block p.1 hl h1).trans h0, fun e => ?_, h2, h3⟩
    have e : ga = p.1 := Option.some.inj e
    rcases ho with ho | ho
    · exact h1 (by rw [ho, e])
    · omega
  · intro g e
    obtain rfl : ga = g := Option.some.inj e
    rcases ho with ho | ho
    · exact h.mN _ ho
    · exact .inr (by rw [ho]; exact h.turns.size)
theorem LayS.growU {M : Nat → Prop} {w W W' : World} {vN vU vR : Value} {kN kU kR ga c m H : Nat} {lN lU lR l : List Value} {ex : List (Nat × Obj)} (h : LayS M w W vN vU vR kN kU kR lN lU lR ex)
    (hr : W'.ownsRow 0 3 1 (.slice (some ⟨ga, 0, none⟩) m c) m l) (hg : W.grownBy W' vU.ownBlock) (hH : W.heap.size = H) (ho : vU.ownBlock = some ga ∨ ga = H) : LayS M w W' vN (.slice (some ⟨ga, 0, none⟩) m c) vR kN m kR lN l lR ex := by
  subst hH
  have ht : Turns (fun b => vU.ownBlock = some b) W W' := .of_grown hg fun _ e => e
  refine ⟨ownsRow_kept h.rN ht fun g e k => h.nNU g e k, hr, ownsRow_kept h.rR ht fun g e k => h.nUR g k e, fun g e k => ?_, h.nNR, fun g e k => ?_, fun p hp => ?_, h.mN, ?_, h.mR, h.turns.trans (.of_grown hg h.mU)⟩
  · obtain rfl : ga = _ := Option.some.inj k
    rcases ho with ho | ho
    · exact h.nNU _ e ho
    · have := (h.rN.lt _ e).2; omega
  · obtain rfl : ga = _ := Option.some.inj e
    rcases ho with ho | ho
    · exact h.nUR _ ho k
    · have := (h.rR.lt _ k).2; omega
  · obtain ⟨h0, h1, h2, h3⟩ := h.ex p hp
    have hl := heap_lt h0
    refine ⟨(ht.block p.1 hl h2).trans h0, h1, fun e => ?_, h3⟩
    have e : ga = p.1 := Option.some.inj e
    rcases ho with ho | ho
    · exact h2 (by rw [ho, e])
    · omega
  · intro g e
    obtain rfl : ga = g := Option.some.inj e
    rcases ho with ho | ho
    · exact h.mU _ ho
    · exact .inr (by rw [ho]; exact h.turns.size)
theorem LayS.growR {M : Nat → Prop} {w W W' : World} {vN vU vR : Value} {kN kU kR ga c m H : Nat} {lN lU lR l : List Value} {ex : List (Nat × Obj)} (h : LayS M w W vN vU vR kN kU kR lN lU lR ex)
    (hr : W'.ownsRow 0 32 1 (.slice (some ⟨ga, 0, none⟩) m c) m l) (hg : W.grownBy W' vR.ownBlock) (hH : W.heap.size = H) (ho : vR.ownBlock = some ga ∨ ga = H) : LayS M w W' vN vU (.slice (some ⟨ga, 0, none⟩) m c) kN kU m lN lU l ex := by
  subst hH
  have ht : Turns (fun b => vR.ownBlock = some b) W W' := .of_grown hg fun _ e => e
  refine ⟨ownsRow_kept h.rN ht fun g e k => h.nNR g e k, ownsRow_kept h.rU ht fun g e k => h.nUR g e k, hr, h.nNU, fun g e k => ?_, fun g e k => ?_, fun p hp => ?_, h.mN, h.mU, ?_, h.turns.trans (.of_grown hg h.mR)⟩
  · obtain rfl : ga = _ := Option.some.inj k
    rcases ho with ho | ho
    · exact h.nNR _ e ho
    · have := (h.rN.lt _ e).2; omega
  · obtain rfl : ga = _ := Option.some.inj k
    rcases ho with ho | ho
    · exact h.nUR _ e ho
    · have := (h.rU.lt _ e).2; omega
  · obtain ⟨h0, h1, h2, h3⟩ := h.ex p hp
    have hl := heap_lt h0
    refine ⟨(ht.block p.1 hl h3).trans h0, h1, h2, fun e => ?_⟩
    have e : ga = p.1 := Option.some.inj e
    rcases ho with ho | ho
    · exact h3 (by rw [ho, e])
    · omega
  · intro g e
    obtain rfl : ga = g := Option.some.inj e
    rcases ho with ho | ho
    · exact h.mR _ ho
    · exact .inr (by rw [ho]; exact h.turns.size)
/-- A cell of a block beside the rows is set. -/
theorem LayS.set {M : Nat → Prop} {w W : World} {vN vU vR : Value} {kN kU kR B i : Nat} {lN lU lR : List Value} {cs : Array Value} {ty : TypeId} (h : LayS M w W vN vU vR kN kU kR lN lU lR [(B, .cells cs ty (0, 0))]) (hB : New M w B) (v : Value) :
    LayS M w (W.setCell ⟨B, i, none⟩ v) vN vU vR kN kU kR lN lU lR [(B, .cells (cs.setIfInBounds i v) ty (0, 0))] := by
  obtain ⟨h0, h1, h2, h3⟩ := h.ex (B, .cells cs ty (0, 0)) (List.mem_singleton.2 rfl)
  have ht : Turns (fun b => b = B) W (W.setCell ⟨B, i, none⟩ v) := (Turns.refl (fun b => b = B) W).setCell (B := B) (.inl rfl) i v
  refine ⟨ownsRow_kept h.rN ht fun g e k => h1 (by rw [e, k]), ownsRow_kept h.rU ht fun g e k => h2 (by rw [e, k]), ownsRow_kept h.rR ht fun g e k => h3 (by rw [e, k]), h.nNU, h.nNR, h.nUR, fun p hp => ?_, h.mN, h.mU, h.mR, h.turns.setCell hB i v⟩
  rw [List.mem_singleton.1 hp]
  exact ⟨heap_setCell_same W _ i cs ty v h0, h1, h2, h3⟩
theorem LayS.less {M : Nat → Prop} {w W : World} {vN vU vR : Value} {kN kU kR : Nat} {lN lU lR : List Value} {ex : List (Nat × Obj)} (h : LayS M w W vN vU vR kN kU kR lN lU lR ex) {ex' : List (Nat × Obj)} (hx : ∀ p ∈ ex', p ∈ ex) : LayS M w W vN vU vR kN kU kR lN lU lR ex' :=
  ⟨h.rN, h.rU, h.rR, h.nNU, h.nNR, h.nUR, fun p hp => h.ex p (hx p hp), h.mN, h.mU, h.mR, h.turns⟩
end Go.Proofs.Ytkoijkdhmfnlbaa
