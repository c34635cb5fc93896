/-
  Add without fostering, plainly: what it leaves of other nodes, that it may be reckoned. No program is walked.
-/
import Derived.Test.YtbadckkcjjfnoaaSR1
namespace Go.Proofs.Ytbadckkcjjfnoaa

/-- The last kid of each node is one, or none; attributes are not too many. -/
def LastOk (S : List PN) : Prop := ∀ u, pHas S u = true → ((pget S u).last = -1 ∨ pHas S (pget S u).last = true) ∧ (pget S u).attrs.length ≤ 30
theorem pget_pset {S : List PN} {n m : Int} (f : PN → PN) (hm : pHas S m = true) (hn : 0 ≤ n) : pget (pset S n f) m = if n = m then f (pget S m) else pget S m := by
  obtain ⟨j, rfl, hj⟩ := pHas_nat hm
  obtain ⟨i, rfl⟩ : ∃ i : Nat, n = (i : Int) := ⟨n.toNat, by omega⟩
  unfold pget pset
  rw [Int.toNat_natCast, Int.toNat_natCast, List.getD_eq_getElem?_getD, List.getD_eq_getElem?_getD, List.getElem?_modify, List.getElem?_eq_getElem hj]
  by_cases e : i = j
  · subst e; simp
  · rw [if_neg (by omega)]
    simp [e]
theorem pget_app {S : List PN} {x : PN} {m : Int} (hm : pHas S m = true) : pget (S ++ [x]) m = pget S m := by
  obtain ⟨j, rfl, hj⟩ := pHas_nat hm
  rw [pget_nat hj, pget_nat (by simp; omega)]
  exact List.getElem_append_left hj
theorem pget_new (S : List PN) (x : PN) : pget (S ++ [x]) (S.length : Int) = x := by
  rw [pget_nat (by simp)]
  simp
theorem pHas_app {S : List PN} {x : PN} {m : Int} (h : pHas S m = true) : pHas (S ++ [x]) m = true := by
  rw [pHas_iff] at h ⊢
  simp; omega
/-- What a call leaves of each node: its name, its kind; its last kid is what it was, or N. -/
structure Kp (N : Int) (S S' : List PN) : Prop where
  len : S'.length = S.length
  name : ∀ m, pHas S m = true → (pget S' m).name = (pget S m).name
  kind : ∀ m, pHas S m = true → (pget S' m).kind = (pget S m).kind
  attrs : ∀ m, pHas S m = true → (pget S' m).attrs = (pget S m).attrs
  last : ∀ m, pHas S m = true → (pget S' m).last = (pget S m).last ∨ (pget S' m).last = N
theorem Kp.refl (N : Int) (S : List PN) : Kp N S S := ⟨rfl, fun _ _ => rfl, fun _ _ => rfl, fun _ _ => rfl, fun _ _ => .inl rfl⟩
theorem pHas_len {S S' : List PN} (h : S'.length = S.length) (m : Int) : pHas S' m = pHas S m := by unfold pHas; rw [h]
theorem Kp.trans {N : Int} {S S1 S2 : List PN} (h : Kp N S S1) (k : Kp N S1 S2) : Kp N S S2 := by
  have hh : ∀ m, pHas S m = true → pHas S1 m = true := fun m q => by rw [pHas_len h.len]; exact q
  refine ⟨k.len.trans h.len, fun m q => (k.name m (hh m q)).trans (h.name m q), fun m q => (k.kind m (hh m q)).trans (h.kind m q), fun m q => (k.attrs m (hh m q)).trans (h.attrs m q), fun m q => ?_⟩
  rcases k.last m (hh m q) with e | e
  · rw [e]; exact h.last m q
  · exact .inr e
theorem kp_pset {N : Int} {S : List PN} {n : Int} (hn : 0 ≤ n) (f : PN → PN) (h : ∀ x, (f x).name = x.name ∧ (f x).kind = x.kind ∧ (f x).attrs = x.attrs ∧ ((f x).last = x.last ∨ (f x).last = N)) : Kp N S (pset S n f) := by
  refine ⟨pset_len _ _ _, fun m q => ?_, fun m q => ?_, fun m q => ?_, fun m q => ?_⟩ <;> rw [pget_pset f q hn] <;> split
  · exact (h _).1
  · rfl
  · exact (h _).2.1
  · rfl
  · exact (h _).2.2.1
  · rfl
  · exact (h _).2.2.2
  · exact .inl rfl
theorem kp_meet {S : List PN} {up before behind : Int} (hu : 0 ≤ up) (hb : before = -1 ∨ 0 ≤ before) (hc : behind = -1 ∨ 0 ≤ behind) (N : Int) (h : behind ≠ -1 ∨ before = N) : Kp N S (pMeet S up before behind) := by
  have h1 : Kp N S (pMeet1 S up before behind) := by
    unfold pMeet1
    split
    · exact kp_pset hu _ (fun x => ⟨rfl, rfl, rfl, .inl rfl⟩)
    · rename_i e
      exact kp_pset (hb.elim (fun k => absurd k e) id) _ (fun x => ⟨rfl, rfl, rfl, .inl rfl⟩)
  refine h1.trans ?_
  unfold pMeet pMeet2
  split
  · rename_i e
    exact kp_pset hu _ (fun x => ⟨rfl, rfl, rfl, .inr (h.elim (fun k => absurd e k) id)⟩)
  · rename_i e
    exact kp_pset (hc.elim (fun k => absurd k e) id) _ (fun x => ⟨rfl, rfl, rfl, .inl rfl⟩)
theorem spot_off (fN : List UInt8 → Int) (S : List PN) (R : List EL) : spotS false fN S R = ((lastE R).n, -1) := rfl
theorem okAdd_off {S : List PN} {R : List EL} (hl : LastOk S) (ht : pHas S (lastE R).n = true) (sp : Int) (nm : List UInt8) (l : List (List UInt8 × List UInt8)) : okAdd false S R sp nm l 1 = true := by
  unfold okAdd okPut
  rw [spot_off]
  have hi := (pHas_iff _ _).1 ht
  have hn : pHas (S ++ [elemPN sp nm l]) (S.length : Int) = true := by rw [pHas_iff]; simp; omega
  have ht2 := pHas_app (x := elemPN sp nm l) ht
  have h1 : pWithin (S ++ [elemPN sp nm l]) 1 (lastE R).n (S.length : Int) = some false := by
    unfold pWithin
    rw [pget_new]
    rw [if_pos (by rfl)]
    have : ¬ (lastE R).n = (S.length : Int) := by omega
    simp [this]
  have h2 : pBefore (pLink0 (S ++ [elemPN sp nm l]) (S.length : Int) (lastE R).n) (lastE R).n (-1) = (pget S (lastE R).n).last := by
    unfold pBefore pLink0
    rw [if_pos rfl, pget_pset _ ht2 (by omega), if_neg (by omega), pget_app ht]
  have h3 : okLink (S ++ [elemPN sp nm l]) (S.length : Int) (lastE R).n (-1) = true := by
    unfold okLink
    rw [h2, hn, ht2]
    rcases (hl _ ht).1 with e | e
    · simp [e]
    · simp [pHas_app (x := elemPN sp nm l) e]
  simp only [h1, h3]
  simp
theorem kp_link {S : List PN} {n up : Int} (hn : pHas S n = true) (hu : pHas S up = true) (hl : (pget S up).last = -1 ∨ pHas S (pget S up).last = true) (hne : n ≠ up) : Kp n S (pLink S n up (-1)) := by
  have n0 := ((pHas_iff _ _).1 hn).1
  have u0 := ((pHas_iff _ _).1 hu).1
  have h1 : Kp n S (pLink0 S n up) := kp_pset n0 _ (fun x => ⟨rfl, rfl, rfl, .inl rfl⟩)
  have h2 : pBefore (pLink0 S n up) up (-1) = (pget S up).last := by
    unfold pBefore pLink0
    rw [if_pos rfl, pget_pset _ hu n0, if_neg hne]
  unfold pLink
  rw [h2]
  exact (h1.trans (kp_meet u0 (hl.imp id fun k => ((pHas_iff _ _).1 k).1) (.inr n0) n (.inl (by omega)))).trans (kp_meet u0 (.inr n0) (.inl rfl) n (.inr rfl))
theorem add_kp {S : List PN} {R : List EL} (hl : LastOk S) (ht : pHas S (lastE R).n = true) (sp : Int) (nm : List UInt8) (l : List (List UInt8 × List UInt8)) : Kp (S.length : Int) (S ++ [elemPN sp nm l]) (addS false S R sp nm l) := by
  have hi := (pHas_iff _ _).1 ht
  unfold addS pPut
  rw [spot_off]
  split
  · refine kp_link (by rw [pHas_iff]; simp; omega) (pHas_app ht) ?_ (by omega)
    rw [pget_app ht]
    exact (hl _ ht).1.imp id (fun k => pHas_app k)
  · exact Kp.refl _ _
theorem add_len (S : List PN) (R : List EL) (sp : Int) (nm : List UInt8) (l : List (List UInt8 × List UInt8)) : (addS false S R sp nm l).length = S.length + 1 := by
  unfold addS pPut
  split
  · rw [pLink_len]; simp
  · simp
theorem add_last {S : List PN} {R : List EL} (hl : LastOk S) (ht : pHas S (lastE R).n = true) (sp : Int) (nm : List UInt8) (l : List (List UInt8 × List UInt8)) (hal : l.length ≤ 30) : LastOk (addS false S R sp nm l) := by
  have hk := add_kp hl ht sp nm l
  have hz := hk.len
  have hh : ∀ m, pHas (addS false S R sp nm l) m = pHas (S ++ [elemPN sp nm l]) m := fun m => pHas_len hz m
  intro u hu
  rw [hh] at hu ⊢
  have hnew : pHas S u = true ∨ u = (S.length : Int) := by
    by_cases hus : pHas S u = true
    · exact .inl hus
    · right
      rw [pHas_iff] at hu hus
      simp at hu
      omega
  refine ⟨?_, ?_⟩
  · rcases hk.last u hu with e | e
    · rw [e]
      rcases hnew with hus | rfl
      · rw [pget_app hus]
        exact (hl u hus).1.imp id (fun k => pHas_app k)
      · rw [pget_new]
        exact .inl rfl
    · rw [e]
      right
      rw [pHas_iff]
      simp; omega
  · rw [hk.attrs u hu]
    rcases hnew with hus | rfl
    · rw [pget_app hus]
      exact (hl u hus).2
    · rw [pget_new]
      exact hal
theorem add_name {S : List PN} {R : List EL} (hl : LastOk S) (ht : pHas S (lastE R).n = true) (sp : Int) (nm : List UInt8) (l : List (List UInt8 × List UInt8)) {m : Int} (hm : pHas S m = true) : (pget (addS false S R sp nm l) m).name = (pget S m).name := by
  rw [(add_kp hl ht sp nm l).name m (pHas_app hm), pget_app hm]
theorem add_new {S : List PN} {R : List EL} (hl : LastOk S) (ht : pHas S (lastE R).n = true) (sp : Int) (nm : List UInt8) (l : List (List UInt8 × List UInt8)) : (pget (addS false S R sp nm l) (S.length : Int)).name = nm := by
  rw [(add_kp hl ht sp nm l).name _ (by rw [pHas_iff]; simp; omega), pget_new]
  rfl
theorem last_start : LastOk [elemPN 1 [] []] := by
  intro u hu
  rw [pHas_iff] at hu
  have : u = 0 := by simp at hu; omega
  subst this
  exact ⟨.inl rfl, by decide⟩
end Go.Proofs.Ytbadckkcjjfnoaa
