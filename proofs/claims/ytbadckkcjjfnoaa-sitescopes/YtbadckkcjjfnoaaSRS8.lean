/-
  The program's Site and the reference's, side by side, beside a tape: the calls of the law SiteScopes.
-/
import Derived.Test.YtbadckkcjjfnoaaSRS7
import Derived.Test.YtbadckkcjjfnoaaSWM
import Derived.Test.YtbadckkcjjfnoaaSRP
namespace Go.Proofs.Ytbadckkcjjfnoaa
open Go.RowKit

def elsR (ks : List Nat) : List EL := elRoot :: ks.mapIdx fun i k => ⟨((i + 1 : Nat) : Int), 1, nm8 k⟩
theorem elsR_len (ks : List Nat) : (elsR ks).length = ks.length + 1 := by simp [elsR]
theorem elsR_snoc (ks : List Nat) (k : Nat) : elsR (ks ++ [k]) = elsR ks ++ [⟨((ks.length + 1 : Nat) : Int), 1, nm8 k⟩] := by
  unfold elsR
  rw [List.mapIdx_concat]
  rfl
theorem elsR_at {ks : List Nat} {i : Nat} (hi : i < ks.length) : (elsR ks).getD (i + 1) default = ⟨((i + 1 : Nat) : Int), 1, nm8 ks[i]⟩ := by
  unfold elsR
  rw [List.getD_eq_getElem?_getD, List.getElem?_cons_succ, List.getElem?_mapIdx, List.getElem?_eq_getElem hi]
  rfl
theorem elsR_last (ks : List Nat) : (lastE (elsR ks)).n = (ks.length : Int) := by
  unfold lastE
  rw [elsR_len, Nat.add_sub_cancel]
  cases h : ks.length with
  | zero => rfl
  | succ m =>
    rw [elsR_at (by omega)]
/-- What the reference's nodes are. -/
structure RefOk (S : List Cl) (ks : List Nat) : Prop where
  len : S.length = ks.length + 1
  inv : Inv S
  rows : ∀ c ∈ S, c.row.length ≤ ks.length
  nd : ∀ i (hi : i < ks.length), ndOf S (i + 1) = elemNd 1 (nm8 ks[i]) []
  root : (ndOf S 0).kind = 1
theorem RefOk.start : RefOk [rootCl] [] := ⟨rfl, ⟨_, inv_new⟩, fun c hc => by rw [List.mem_singleton.1 hc]; exact Nat.le_refl _, fun i hi => absurd hi (by simp), rfl⟩
theorem RefOk.kind {S : List Cl} {ks : List Nat} (h : RefOk S ks) (t : Nat) (ht : t < S.length) : S[t].d.kind = 1 := by
  rw [← nd_get ht]
  cases t with
  | zero => exact h.root
  | succ i =>
    rw [h.nd i (by have := h.len; omega)]
    rfl
theorem addD_nd {S : List Cl} {t j : Nat} {d : Nd} (hj : j < S.length + 1) : ndOf (addD S t d) j = if j = S.length then d else ndOf S j := by
  obtain ⟨hl, e⟩ := link_at (S := lay S d) (n := S.length) (u := t) (i := (rowAt (lay S d) t).length) (j := j) (by rw [lay_len]; exact hj)
  unfold addD
  rw [nd_get hl, e]
  by_cases h : j = S.length
  · subst h
    rw [if_pos rfl]
    simp [lay]
  · rw [if_neg h]
    have hj2 : j < S.length := by omega
    rw [nd_get hj2]
    simp [lay, hj2]
theorem RefOk.add {S : List Cl} {ks : List Nat} (h : RefOk S ks) (k : Nat) : RefOk (addD S ks.length (elemNd 1 (nm8 k) [])) (ks ++ [k]) := by
  have hl := h.len
  have hput := addD_put (d := elemNd 1 (nm8 k) []) h.inv (by omega) (by omega : ks.length < S.length) (h.kind _ _) false (fun _ _ => ⟨fun k => (by cases k), fun k => absurd k (anc_new h.inv _ (by omega))⟩)
  have hlay : Inv (lay S (elemNd 1 (nm8 k) [])) := by obtain ⟨hh, hi⟩ := h.inv; exact ⟨hh, hi.lay _⟩
  refine ⟨by rw [addD_len, hl]; simp, ?_, fun c hc => ?_, fun i hi => ?_, ?_⟩
  · rw [← hput]
    exact putD_inv hlay _ _ _ _ ⟨fun k => (by cases k), fun k => absurd k (anc_new h.inv _ (by show ks.length < S.length; omega))⟩
  · have hc2 : c ∈ link (lay S (elemNd 1 (nm8 k) [])) S.length ks.length (rowAt (lay S (elemNd 1 (nm8 k) [])) ks.length).length := hc
    obtain ⟨j, hj, rfl⟩ := List.getElem_of_mem hc2
    have hj2 : j < (lay S (elemNd 1 (nm8 k) [])).length := by rw [link_len] at hj; exact hj
    obtain ⟨_, e⟩ := link_at (S := lay S (elemNd 1 (nm8 k) [])) (n := S.length) (u := ks.length) (i := (rowAt (lay S (elemNd 1 (nm8 k) [])) ks.length).length) hj2
    have hb : (lay S (elemNd 1 (nm8 k) []))[j].row.length ≤ ks.length := by
      rcases List.mem_append.1 (List.getElem_mem hj2) with q | q
      · exact h.rows _ q
      · rw [List.mem_singleton.1 q]; exact Nat.zero_le _
    rw [e]
    simp only [List.length_append, List.length_singleton]
    split
    · simp only [List.length_append, List.length_take, List.length_drop, List.length_singleton]
      omega
    · omega
  · rw [addD_nd (by simp at hi; omega)]
    simp only [List.length_append, List.length_singleton] at hi
    by_cases hik : i = ks.length
    · subst hik
      rw [if_pos (by omega)]
      simp
    · have : i < ks.length := by omega
      rw [if_neg (by omega), h.nd i this]
      simp [this]
  · rw [addD_nd (by omega), if_neg (by omega)]
    exact h.root
theorem range_at {m i : Nat} (h : i < (List.range m).length) : (List.range m)[i] = i := by simp
theorem RefOk.row {S : List Cl} {ks : List Nat} (h : RefOk S ks) : OkRow S (List.range (ks.length + 1)) := by
  intro i hi h0
  rw [range_at]
  simp at hi
  refine ⟨by omega, by have := h.len; omega, ?_⟩
  obtain ⟨j, rfl⟩ : ∃ j, i = j + 1 := ⟨i - 1, by omega⟩
  unfold nmR
  rw [h.nd j (by omega)]
  rfl
theorem wall_same : ∀ c : Nat, c < 5 → ∀ k : Nat, k < 17 → wallK (c : Int) 1 (nm8 k) = Plain.isWall (c : Int) 1 (nm8 k) := by decide +kernel
theorem scan_same {S : List Cl} {ks : List Nat} (h : RefOk S ks) (hk : ∀ k ∈ ks, k < 17) (c : Nat) (hc : c < 5) (l : List (List UInt8)) : ∀ i, i ≤ ks.length → scanH (elsR ks) (c : Int) l i = scanR S (List.range (ks.length + 1)) (c : Int) l i
  | 0, _ => rfl
  | i + 1, hi => by
    have hr : (List.range (ks.length + 1)).getD (i + 1) 0 = i + 1 := by rw [List.getD_eq_getElem?_getD, List.getElem?_range (by omega)]; rfl
    have hn : nmR S (i + 1) = nm8 ks[i] := by unfold nmR; rw [h.nd i (by omega)]; rfl
    unfold scanH scanR
    rw [elsR_at (by omega), hr, hn, scan_same h hk c hc l i (by omega)]
    have hh : (EL.is ⟨((i + 1 : Nat) : Int), 1, nm8 ks[i]⟩ l) = l.any fun x => x == nm8 ks[i] := by
      have e : EL.html ⟨((i + 1 : Nat) : Int), 1, nm8 ks[i]⟩ = true := by
        unfold EL.html
        rw [decide_eq_true (show ((i + 1 : Nat) : Int) ≠ 0 by omega)]
        rfl
      unfold EL.is
      rw [e]
      rfl
    rw [hh, wall_same c hc _ (hk _ (List.getElem_mem _))]
theorem scan_any {ks : List Nat} (c : Int) (l : List (List UInt8)) : ∀ i, i ≤ ks.length → scanH (elsR ks) c l i = true → anyN (elNamed (elsR ks)) l = true
  | 0, _, h => by cases h
  | i + 1, hi, h => by
    unfold scanH at h
    by_cases hx : ((elsR ks).getD (i + 1) default).is l = true
    · rw [elsR_at (by omega)] at hx
      unfold EL.is at hx
      rw [Bool.and_eq_true, List.any_eq_true] at hx
      obtain ⟨h1, s, hs, he⟩ := hx
      unfold anyN
      rw [List.any_eq_true]
      refine ⟨s, hs, ?_⟩
      rw [decide_eq_true_eq]
      unfold elNamed
      have hm : (⟨((i + 1 : Nat) : Int), 1, nm8 ks[i]⟩ : EL) ∈ elsR ks := by
        unfold elsR
        refine List.mem_cons_of_mem _ ?_
        rw [List.mem_mapIdx]
        exact ⟨i, by omega, rfl⟩
      have : 0 < (elsR ks).countP fun x => x.html && (x.name == s) := by
        rw [List.countP_pos_iff]
        refine ⟨_, hm, ?_⟩
        rw [Bool.and_eq_true]
        refine ⟨h1, ?_⟩
        rw [beq_iff_eq] at he ⊢
        exact he.symm
      omega
    · rw [if_neg hx] at h
      split at h
      · cases h
      · exact scan_any c l i (by omega) h
theorem has_same {S : List Cl} {ks : List Nat} (h : RefOk S ks) (hk : ∀ k ∈ ks, k < 17) (c : Nat) (hc : c < 5) (l : List (List UInt8)) : hasE (elsR ks) (c : Int) l = scanR S (List.range (ks.length + 1)) (c : Int) l ((List.range (ks.length + 1)).length - 1) := by
  rw [List.length_range, Nat.add_sub_cancel, ← scan_same h hk c hc l _ (Nat.le_refl _)]
  unfold hasE
  rw [elsR_len, Nat.add_sub_cancel]
  cases hs : scanH (elsR ks) (c : Int) l ks.length with
  | false => simp
  | true => rw [scan_any _ _ _ (Nat.le_refl _) hs]; rfl
theorem RSite.turn {M P R T : Nat → Prop} {w w' : World} {Z B : Nat} {S : List Cl} {row : List Nat} (h : RSite M P R w Z B S row) (ht : Turns T w w') (hd : ∀ b, (M b ∨ P b ∨ R b ∨ b = Z) → ¬ T b) : RSite M P R w' Z B S row := by
  obtain ⟨vm, rowv, hz, hr⟩ := h.cells
  exact ⟨⟨vm, rowv, (ht.block Z (heap_lt hz) (hd Z (.inr (.inr (.inr rfl))))).trans hz, hr.kept (ht.kept fun b _ k => hd b (.inr (.inr (.inl k))))⟩, h.doc.turn ht (fun b k => hd b (.inl k)) (fun b k => hd b (.inr (.inl k))), h.zM, h.zR, h.zP, h.rM, fun b k => Nat.lt_of_lt_of_le (h.rin b k) ht.size, h.pos, h.len⟩
end Go.Proofs.Ytbadckkcjjfnoaa
