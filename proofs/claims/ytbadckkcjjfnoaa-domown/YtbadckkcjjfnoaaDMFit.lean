/-
  What made tells has attributes of short names; Made as a call. Any numbers.
-/
import Derived.Test.YtbadckkcjjfnoaaDMade
import Derived.Test.YtbadckkcjjfnoaaDSmall
namespace Go.Proofs.Ytbadckkcjjfnoaa
open Go.RowKit

def NodeFit (x : Nd × Fo) : Prop := attrsFit x.1.attrs ∧ x.2.len ≤ maxLen ∧ x.2.fits
theorem fits_list : ∀ (l : List (Nd × Fo)), (∀ x ∈ l, NodeFit x) → (Fo.ofList l).fits
  | [], _ => trivial
  | x :: r, h => ⟨(h x (by simp)).1, (h x (by simp)).2.1, (h x (by simp)).2.2, fits_list r (fun y hy => h y (by simp [hy]))⟩
theorem attrM_fit (zs : List Int) (a b : Nat) : attrsFit (hrefM zs (classM zs a).1 b).1 := by
  unfold hrefM classM attrsFit
  rcases attrM_cases zs 3 sClass val5 5 [] a with h | ⟨x, h⟩ <;> rcases attrM_cases zs 4 sHref val4 4 (attrM zs 3 sClass val5 5 [] a).1 b with k | ⟨y, k⟩ <;> rw [k, h] <;> simp [sClass, sHref, maxLen]
theorem loopM_fit {zs : List Int} {kid : Nat → Fo × Nat} (hk : ∀ a, (kid a).1.fits ∧ (kid a).1.len ≤ maxLen) : ∀ (c : Nat) (l : List (Nd × Fo)) (a : Nat), (∀ x ∈ l, NodeFit x) → ∀ x ∈ (loopM kid zs c l a).1, NodeFit x
  | 0, l, a, h => h
  | c + 1, l, a, h => by
    rw [loopM]
    split
    · refine loopM_fit hk c _ _ ?_
      intro x hx
      rcases List.mem_append.1 hx with q | q
      · exact h x q
      · rw [List.mem_singleton] at q
        subst q
        unfold nodeM
        split
        · exact ⟨by simp [textM, attrsFit], Nat.zero_le _, trivial⟩
        · split
          · exact ⟨by simp [noteM, attrsFit], Nat.zero_le _, trivial⟩
          · exact ⟨attrM_fit zs _ _, (hk _).2, (hk _).1⟩
    · exact h
theorem rowM_fit {zs : List Int} {kid : Nat → Fo × Nat} (hk : ∀ a, (kid a).1.fits ∧ (kid a).1.len ≤ maxLen) (a : Nat) : (rowM kid zs a).1.fits ∧ (rowM kid zs a).1.len ≤ maxLen := by
  refine ⟨fits_list _ (loopM_fit hk _ [] _ (fun x hx => absurd hx (by simp))), ?_⟩
  show (Fo.ofList _).len ≤ _
  rw [Fo.of_len]
  have h1 := loopM_len kid zs (1 + (nextZ zs a 4).1) [] (nextZ zs a 4).2
  have h2 := nextZ_lt zs a 4 (by omega)
  simp at h1
  unfold maxLen
  omega
theorem kidsM_fit (zs : List Int) : ∀ j a, (kidsM zs j a).1.fits ∧ (kidsM zs j a).1.len ≤ maxLen
  | 0, _ => ⟨trivial, Nat.zero_le _⟩
  | j + 1, a => rowM_fit (kidsM_fit zs j) a
/-- What Made tells. -/
def madeF (zs : List Int) : Fo := (kidsM zs 7 0).1
theorem madeF_ok (zs : List Int) : (madeF zs).sound false = true ∧ (madeF zs).wt ≤ 65536 ∧ (madeF zs).fits ∧ (madeF zs).len ≤ 4 := by
  refine ⟨(kidsM_ok zs 7).sound 0, Nat.le_trans ((kidsM_ok zs 7).wt 0) (mz_le 7 (by omega)), (kidsM_fit zs 7 0).1, ?_⟩
  show (Fo.ofList _).len ≤ _
  rw [Fo.of_len]
  have h1 := loopM_len (kidsM zs 6) zs (1 + (nextZ zs 0 4).1) [] (nextZ zs 0 4).2
  have h2 := nextZ_lt zs 0 4 (by omega)
  refine Nat.le_trans h1 ?_
  simp
  omega
set_option maxHeartbeats 1000000 in
set_option maxRecDepth 100000 in
theorem madeP (v : Value) (zs : List Int) (w W : World) (hv : IntsZ w v zs) (hb : Below w.heap.size w W) : Calls Try.prog 18 #[v] W (fun e W' => ∃ p c, e = .returned (.slice p (madeF zs).len c) ∧ NodesP (fun b => W.heap.size ≤ b) W' (.slice p (madeF zs).len c) (madeF zs) ∧ Below W.heap.size W W') := by
  obtain ⟨pv, cv, rfl⟩ := hv.form
  have hv2 := hv.below hb
  have ht := TapeZ.made W (.slice pv zs.length cv) zs 78 hv2
  have HC := Lib.hid (made_all W (.slice pv zs.length cv) zs W.heap.size 6 0 rfl 0 _ ht)
  clear ht hv hv2 hb
  go_enter Try.func18, Try.ntmps18
  go_wp2_with fail
  refine HC.out.mono ?_
  rintro e w1 ⟨u, rfl, hn, hT, _⟩
  have hn' : NodesP (fun b => W.heap.size ≤ b) w1 u (madeF zs) := hn.mono fun b k _ => by have k' : (W.alloc (.cells #[.slice pv zs.length cv, .int .i64 0] 78)).heap.size ≤ b := k; simp at k'; omega
  obtain ⟨p, c, rfl, htl⟩ := hn'
  have HN : Hid (NodesP (fun b => W.heap.size ≤ b) w1 (.slice p (madeF zs).len c) (madeF zs)) := Lib.hid ⟨_, _, rfl, htl⟩
  have HB : Hid (Below W.heap.size W w1) := Lib.hid (((Below.refl _ W).alloc (Nat.le_refl _) _).trans (hT.below (by simp) fun b hb e => by omega))
  clear htl hn hT HC
  go_wp2_with fail
  go_ret
  exact ⟨p, c, rfl, HN.out, HB.out⟩
end Go.Proofs.Ytbadckkcjjfnoaa
