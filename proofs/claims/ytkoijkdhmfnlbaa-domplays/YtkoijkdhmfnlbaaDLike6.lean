/-
  Links and rows say the same: a node's kids, the tree (level by level, and by its rows). No program is walked.
-/
import Derived.Test.YtkoijkdhmfnlbaaDLike5
import Derived.Test.YtkoijkdhmfnlbaaDTAll
namespace Go.Proofs.Ytkoijkdhmfnlbaa

def intsI (l : List Nat) : List Int := l.map fun (k : Nat) => (k : Int)
theorem intsI_len (l : List Nat) : (intsI l).length = l.length := by simp [intsI]
theorem intsI_app (a b : List Nat) : intsI (a ++ b) = intsI a ++ intsI b := by simp [intsI]
theorem intsI_at (l : List Nat) (i : Nat) : (intsI l)[i]? = l[i]?.map fun (k : Nat) => (k : Int) := by simp [intsI]
theorem like_row {S : List PN} {C : List Cl} (L : Like S C) (F : Fit6 C) {u : Nat} {cu : Cl} (hu : C[u]? = some cu) : ∀ (f i : Nat), i ≤ cu.row.length → cu.row.length - i < f → pRow S f (nxt cu.row i) = some (intsI (cu.row.drop i))
  | 0, i, _, h => by omega
  | f + 1, i, hi, h => by
    unfold pRow
    rcases Nat.lt_or_ge i cu.row.length with hl | hl
    · have hk : cu.row[i]? = some cu.row[i] := List.getElem?_eq_getElem hl
      have hkC : cu.row[i] < C.length := F.lt hu (List.getElem_mem hl)
      rw [nxt_some hk, if_neg (by omega), L.has_nat hkC, if_pos rfl, (L.kid u cu i _ hu hk).2, like_row L F hu f (i + 1) (by omega) (by omega), List.drop_eq_getElem_cons hl]
      rfl
    · rw [nxt_off hl, if_pos rfl, List.drop_eq_nil_of_le hl]
      rfl
theorem like_kids {S : List PN} {C : List Cl} (L : Like S C) (F : Fit6 C) {u : Nat} {cu : Cl} (hu : C[u]? = some cu) {f : Nat} (hf : C.length < f) : pKids S f (u : Int) = some (intsI cu.row) := by
  unfold pKids
  have := row_le F (List.mem_of_getElem? hu)
  rw [L.first u cu hu, like_row L F hu f 0 (Nat.zero_le _) (by omega)]
  rfl
theorem like_kidsA {S : List PN} {C : List Cl} (L : Like S C) (F : Fit6 C) (n : Int) : pKidsA S (C.length + 1) n = some (intsI (if isN C n then rowAt C n.toNat else [])) := by
  unfold pKidsA
  rw [L.has]
  cases h : isN C n
  · rfl
  · rw [isN_iff] at h
    obtain ⟨k, rfl⟩ : ∃ k : Nat, n = (k : Int) := ⟨n.toNat, by omega⟩
    obtain ⟨c, hc⟩ : ∃ c, C[k]? = some c := ⟨_, List.getElem?_eq_getElem (by omega : k < C.length)⟩
    rw [if_pos rfl, if_pos rfl, like_kids L F hc (Nat.lt_succ_self _), Int.toNat_natCast]
    unfold rowAt
    rw [hc]
/-- The row that grows level by level, up to its i-th node: no node twice, each below n. -/
structure Lvl (C : List Cl) (h : Nat → Nat) (n : Nat) (r0 R : List Nat) (ends : List Nat) (i : Nat) : Prop where
  nodup : R.Nodup
  lt : ∀ k ∈ R, k < C.length ∧ h k < h n
  up : ∀ k ∈ R, ∀ c, C[k]? = some c → c.up = some n ∨ ∃ j x, j < i ∧ R[j]? = some x ∧ c.up = some x
  le : i ≤ R.length
  len : ends.length = i + 1
  last : ends[i]? = some R.length
  first : ends[0]? = some r0.length
  pre : R.take r0.length = r0
  at_ : ∀ j x, j < i → R[j]? = some x → ∃ a b, ends[j]? = some a ∧ ends[j + 1]? = some b ∧ j < a ∧ a ≤ b ∧ b ≤ R.length ∧ (R.drop a).take (b - a) = rowAt C x
theorem Lvl.start {C : List Cl} {h : Nat → Nat} (hi : InvH C h) {n : Nat} {cn : Cl} (hn : C[n]? = some cn) : Lvl C h n cn.row cn.row [cn.row.length] 0 :=
  ⟨hi.nodup n cn hn, fun k hk => hi.row_h hn hk, fun k hk c hc => by
      obtain ⟨c2, hc2, hu⟩ := hi.rowok n cn k hn hk
      rw [hc] at hc2
      cases hc2
      exact .inl hu, Nat.zero_le _, rfl, rfl, rfl, List.take_length, fun j x hj => absurd hj (by omega)⟩
theorem Lvl.size {C : List Cl} {h : Nat → Nat} {n : Nat} {r0 R ends : List Nat} {i : Nat} (H : Lvl C h n r0 R ends i) : R.length ≤ C.length := by
  have := List.Nodup.length_le_of_subset H.nodup (l₂ := List.range C.length) fun k hk => List.mem_range.2 (H.lt k hk).1
  simpa using this
theorem Lvl.step {C : List Cl} {h : Nat → Nat} (hi : InvH C h) {n : Nat} {r0 R ends : List Nat} {i k : Nat} {ck : Cl} (H : Lvl C h n r0 R ends i) (hk : R[i]? = some k) (hc : C[k]? = some ck) :
    Lvl C h n r0 (R ++ ck.row) (ends ++ [R.length + ck.row.length]) (i + 1) := by
  have hil := lt_of_some hk
  have hkR : k ∈ R := List.mem_of_getElem? hk
  obtain ⟨hkC, hkh⟩ := H.lt k hkR
  have hdis : ∀ x ∈ ck.row, x ∉ R := by
    intro x hx hxR
    obtain ⟨c, hxc, hxu⟩ := hi.rowok k ck x hc hx
    rcases H.up x hxR c hxc with h1 | ⟨j, y, hj, hy, h1⟩
    · rw [hxu] at h1
      cases h1
      omega
    · rw [hxu] at h1
      cases h1
      have := nodup_idx H.nodup hy hk
      omega
  have hlen := H.len
  refine ⟨?_, ?_, ?_, by rw [List.length_append]; omega, by rw [List.length_append, H.len]; rfl, ?_, ?_, ?_, ?_⟩
  · exact List.nodup_append.2 ⟨H.nodup, hi.nodup k ck hc, fun a ha b hb e => hdis b hb (e ▸ ha)⟩
  · intro x hx
    rcases List.mem_append.1 hx with h1 | h1
    · exact H.lt x h1
    · have := hi.row_h hc h1
      exact ⟨this.1, by omega⟩
  · intro x hx c hxc
    rcases List.mem_append.1 hx with h1 | h1
    · rcases H.up x h1 c hxc with h2 | ⟨j, y, hj, hy, h2⟩
      · exact .inl h2
      · exact .inr ⟨j, y, by omega, by rw [List.getElem?_append_left (lt_of_some hy)]; exact hy, h2⟩
    · obtain ⟨c2, hc2, hu⟩ := hi.rowok k ck x hc h1
      rw [hxc] at hc2
      cases hc2
      exact .inr ⟨i, k, by omega, by rw [List.getElem?_append_left hil]; exact hk, hu⟩
  · rw [List.getElem?_append_right (by omega), hlen, List.length_append]
    simp
  · rw [List.getElem?_append_left (by omega)]
    exact H.first
  · have hr : r0.length ≤ R.length := by
      have := congrArg List.length H.pre
      rw [List.length_take] at this
      omega
    rw [List.take_append_of_le_length hr]
    exact H.pre
  · intro j x hj hx
    rcases Nat.lt_or_ge j i with h1 | h1
    · rw [List.getElem?_append_left (by omega)] at hx
      obtain ⟨a, b, e1, e2, e3, e4, e5, e6⟩ := H.at_ j x h1 hx
      refine ⟨a, b, by rw [List.getElem?_append_left (by omega)]; exact e1, by rw [List.getElem?_append_left (by omega)]; exact e2, e3, e4, by rw [List.length_append]; omega, ?_⟩
      rw [List.drop_append_of_le_length (by omega), List.take_append_of_le_length (by rw [List.length_drop]; omega)]
      exact e6
    · obtain rfl : j = i := by omega
      rw [List.getElem?_append_left hil, hk] at hx
      cases hx
      refine ⟨R.length, R.length + ck.row.length, by rw [List.getElem?_append_left (by omega)]; exact H.last, ?_, hil, by omega, by rw [List.length_append]; exact Nat.le_refl _, ?_⟩
      · rw [List.getElem?_append_right (by omega), hlen]
        simp
      · rw [List.drop_left, Nat.add_sub_cancel_left, List.take_length]
        unfold rowAt
        rw [hc]
theorem like_bfs {S : List PN} {C : List Cl} (L : Like S C) {h : Nat → Nat} (hi : InvH C h) {n : Nat} {r0 : List Nat} : ∀ (d i : Nat) (R ends : List Nat), C.length - i ≤ d → Lvl C h n r0 R ends i →
    ∃ R' ends', pBfs S (C.length + 1) (d + 1) (intsI R) ends i = some (intsI R', ends') ∧ Lvl C h n r0 R' ends' R'.length := by
  have F : Fit6 C := Inv.fit ⟨h, hi⟩
  intro d
  induction d with
  | zero =>
    intro i R ends hd H
    have h1 := H.size
    have h2 := H.le
    have e : R[i]? = none := List.getElem?_eq_none (by omega)
    refine ⟨R, ends, ?_, (by omega : i = R.length) ▸ H⟩
    unfold pBfs
    rw [intsI_at, e]
    rfl
  | succ d ih =>
    intro i R ends hd H
    unfold pBfs
    rw [intsI_at]
    cases hk : R[i]? with
    | none =>
      rw [List.getElem?_eq_none_iff] at hk
      have h2 := H.le
      exact ⟨R, ends, rfl, (by omega : i = R.length) ▸ H⟩
    | some k =>
      obtain ⟨hkC, _⟩ := H.lt k (List.mem_of_getElem? hk)
      obtain ⟨ck, hc⟩ : ∃ c, C[k]? = some c := ⟨_, List.getElem?_eq_getElem hkC⟩
      obtain ⟨R', ends', h1, h2⟩ := ih (i + 1) _ _ (by omega) (H.step hi hk hc)
      refine ⟨R', ends', ?_, h2⟩
      rw [← h1]
      simp only [Option.map_some]
      rw [L.has_nat hkC, if_pos rfl, like_kids L F hc (Nat.lt_succ_self _)]
      simp only [intsI_len, intsI_app]
theorem like_fo {S : List PN} {C : List Cl} (L : Like S C) {h : Nat → Nat} (hi : InvH C h) {n M : Nat} (hM : ∀ k, k < C.length → h k ≤ M) {r0 R ends : List Nat} (H : Lvl C h n r0 R ends R.length) :
    ∀ (f i c : Nat), R.length - i < f → i + c ≤ R.length → foF S (intsI R) ends f i c = Fo.ofList (((R.drop i).take c).map fun k => (ndOf C k, treeF C (M + 1) k))
  | _, i, 0, _, _ => by
    unfold foF
    simp [Fo.ofList]
  | 0, i, c + 1, h, _ => by omega
  | f + 1, i, c + 1, hf, hic => by
    have hl : i < R.length := by omega
    have hk : R[i]? = some R[i] := List.getElem?_eq_getElem hl
    obtain ⟨hkC, _⟩ := H.lt R[i] (List.getElem_mem hl)
    obtain ⟨ck, hc⟩ : ∃ c, C[R[i]]? = some c := ⟨_, List.getElem?_eq_getElem hkC⟩
    obtain ⟨a, b, e1, e2, e3, e4, e5, e6⟩ := H.at_ i _ hl hk
    unfold foF
    rw [like_fo L hi hM H f (i + 1) c (by omega) (by omega)]
    rw [List.getD_eq_getElem?_getD, List.getD_eq_getElem?_getD, List.getD_eq_getElem?_getD, e1, e2, intsI_at, hk]
    simp only [Option.map_some, Option.getD_some]
    rw [like_fo L hi hM H f a (b - a) (by omega) (by omega), e6]
    have hr : rowAt C R[i] = ck.row := by unfold rowAt; rw [hc]
    have ht : treeF C (M + 1) R[i] = Fo.ofList (ck.row.map fun k => (ndOf C k, treeF C (M + 1) k)) := by
      have h1 := hM R[i] hkC
      rw [treeF_at hc]
      congr 1
      apply List.map_congr_left
      intro x hx
      obtain ⟨hxC, hxh⟩ := hi.row_h hc hx
      rw [treeF_fuel hi M (M + 1) x (by omega) (by omega)]
    have hd : ndP (pget S (R[i] : Int)) = ndOf C R[i] := by
      rw [L.nd _ ck hc]
      unfold ndOf
      rw [hc]
    rw [hr, hd, ← ht, List.drop_eq_getElem_cons hl, List.take_succ_cons]
    rfl
/-- The program's tree is the rows'. -/
theorem like_tree {S : List PN} {C : List Cl} (L : Like S C) {h : Nat → Nat} (hi : InvH C h) {M n : Nat} (hM : ∀ k, k < C.length → h k ≤ M) (hn : n < C.length) :
    ∃ (f : Nat) (r0 row : List Int) (ends : List Nat), pKidsA S (C.length + 1) (n : Int) = some r0 ∧ pBfs S (C.length + 1) f r0 [r0.length] 0 = some (row, ends) ∧ row.length ≤ C.length ∧ foF S row ends (row.length + 1) 0 r0.length = treeF C (M + 1) n := by
  have F : Fit6 C := Inv.fit ⟨h, hi⟩
  obtain ⟨cn, hc⟩ : ∃ c, C[n]? = some c := ⟨_, List.getElem?_eq_getElem hn⟩
  obtain ⟨R, ends, h1, H⟩ := like_bfs L hi C.length 0 _ _ (by omega) (Lvl.start hi hc)
  have hk := like_kidsA L F (n : Int)
  have hisn : isN C (n : Int) = true := (isN_iff _ _).2 ⟨by omega, by omega⟩
  have hr : rowAt C n = cn.row := by unfold rowAt; rw [hc]
  rw [hisn, if_pos rfl, Int.toNat_natCast, hr] at hk
  refine ⟨_, _, _, _, hk, by rw [intsI_len]; exact h1, by rw [intsI_len]; exact H.size, ?_⟩
  have hle : cn.row.length ≤ R.length := by
    have := congrArg List.length H.pre
    rw [List.length_take] at this
    omega
  rw [intsI_len, intsI_len, like_fo L hi hM H (R.length + 1) 0 cn.row.length (by omega) (by omega), List.drop_zero, H.pre, treeF_at hc]
  congr 1
  apply List.map_congr_left
  intro x hx
  obtain ⟨hxC, hxh⟩ := hi.row_h hc hx
  have := hM n hn
  rw [treeF_fuel hi M (M + 1) x (by omega) (by omega)]
end Go.Proofs.Ytkoijkdhmfnlbaa
