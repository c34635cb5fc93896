/-
  What the laws' own made tells of a row of numbers, plainly: its nodes are sound, not too many. No program is walked.
-/
import Derived.Test.YtbadckkcjjfnoaaDMade0
import Derived.Test.YtbadckkcjjfnoaaPlainW
namespace Go.Proofs.Ytbadckkcjjfnoaa

/-- Next of a tape: a number below m, and the place behind. -/
def nextZ (zs : List Int) (a m : Nat) : Nat × Nat := if h : a < zs.length then (Within zs[a] m, a + 1) else (0, a)
theorem nextZ_lt (zs : List Int) (a m : Nat) (h : 1 ≤ m) : (nextZ zs a m).1 < m := by
  unfold nextZ
  split
  · exact (within_lt _ _ h).1
  · exact h
theorem nextZ_le (zs : List Int) (a m : Nat) (h : a ≤ zs.length) : (nextZ zs a m).2 ≤ zs.length := by
  unfold nextZ
  split
  · show a + 1 ≤ _; omega
  · exact h
def namesSrc : List UInt8 := [100, 105, 118, 32, 112, 32, 98, 32, 97, 32, 115, 112, 97, 110, 32, 115, 101, 99, 116, 105, 111, 110, 32, 104, 49, 32, 104, 50, 32, 117, 108, 32, 108, 105, 32, 116, 97, 98, 108, 101, 32, 116, 98, 111, 100, 121, 32, 116, 114, 32, 116, 100, 32, 105, 109, 103, 32, 98, 114, 32, 101, 109, 32, 115, 99, 114, 105, 112, 116, 32, 97, 114, 116, 105, 99, 108, 101, 32, 98, 108, 111, 99, 107, 113, 117, 111, 116, 101, 32, 112, 114, 101, 32, 99, 111, 100, 101, 32, 105, 32, 115, 118, 103]
def namesM : List (List UInt8) := Plain.words namesSrc
theorem namesM_len : namesM.length = 24 := by decide +kernel
def val8 : List (List UInt8) := [[111, 110, 101], [32], [116, 119, 111, 44, 32, 116, 104, 114, 101, 101], [10], [228, 184, 150], [102, 111, 117, 114, 46], [97, 32, 108, 111, 110, 103, 32, 116, 101, 120, 116, 44, 32, 119, 105, 116, 104, 32, 99, 111, 109, 109, 97, 115, 44, 32, 97, 110, 100, 32, 109, 111, 114, 101, 32, 111, 102, 32, 105, 116], [120]]
def val2 : List (List UInt8) := [[], [110, 111, 116, 101]]
def val5 : List (List UInt8) := [[109, 97, 105, 110], [102, 111, 111, 116, 101, 114], [115, 112, 111, 110, 115, 111, 114], [101, 110, 116, 114, 121], [120]]
def val4 : List (List UInt8) := [[104, 116, 116, 112, 58, 47, 47, 97, 47, 98], [99], [109, 97, 105, 108, 116, 111, 58, 120], [106, 97, 118, 97, 115, 99, 114, 105, 112, 116, 58, 49]]
def sClass : List UInt8 := [99, 108, 97, 115, 115]
def sHref : List UInt8 := [104, 114, 101, 102]
def spaceM (zs : List Int) (a : Nat) : Int × Nat := if (nextZ zs a 6).1 = 0 then (1 + ((nextZ zs (nextZ zs a 6).2 3).1 : Int), (nextZ zs (nextZ zs a 6).2 3).2) else (1, (nextZ zs a 6).2)
def attrM (zs : List Int) (k : Nat) (nm : List UInt8) (vs : List (List UInt8)) (m : Nat) (l : List (List UInt8 × List UInt8)) (a : Nat) : List (List UInt8 × List UInt8) × Nat :=
  if (nextZ zs a k).1 = 0 then (l ++ [(nm, vs.getD (nextZ zs (nextZ zs a k).2 m).1 [])], (nextZ zs (nextZ zs a k).2 m).2) else (l, (nextZ zs a k).2)
def classM (zs : List Int) (a : Nat) : List (List UInt8 × List UInt8) × Nat := attrM zs 3 sClass val5 5 [] a
def hrefM (zs : List Int) (l : List (List UInt8 × List UInt8)) (a : Nat) : List (List UInt8 × List UInt8) × Nat := attrM zs 4 sHref val4 4 l a
def headM (zs : List Int) (a : Nat) : Nd × Nat :=
  let s := spaceM zs (nextZ zs a 24).2
  let h := hrefM zs (classM zs s.2).1 (classM zs s.2).2
  (⟨1, s.1, namesM.getD (nextZ zs a 24).1 [], h.1, [], 0⟩, h.2)
def elemM (kid : Nat → Fo × Nat) (zs : List Int) (a : Nat) : (Nd × Fo) × Nat := (((headM zs a).1, (kid (headM zs a).2).1), (kid (headM zs a).2).2)
def textM (zs : List Int) (a : Nat) : (Nd × Fo) × Nat := ((⟨2, 0, [], [], val8.getD (nextZ zs a 8).1 [], 0⟩, .nil), (nextZ zs a 8).2)
def noteM (zs : List Int) (a : Nat) : (Nd × Fo) × Nat := ((⟨3, 0, [], [], val2.getD (nextZ zs a 2).1 [], 0⟩, .nil), (nextZ zs a 2).2)
def nodeM (kid : Nat → Fo × Nat) (zs : List Int) (t : Bool) (a : Nat) : (Nd × Fo) × Nat :=
  if (nextZ zs a 6).1 < 2 ∧ t = false then textM zs (nextZ zs a 6).2 else if (nextZ zs a 6).1 = 2 then noteM zs (nextZ zs a 6).2 else elemM kid zs (nextZ zs a 6).2
def loopM (kid : Nat → Fo × Nat) (zs : List Int) : Nat → List (Nd × Fo) → Nat → List (Nd × Fo) × Nat
  | 0, l, a => (l, a)
  | c + 1, l, a => if a < zs.length then loopM kid zs c (l ++ [(nodeM kid zs (lastText l false) a).1]) (nodeM kid zs (lastText l false) a).2 else (l, a)
def rowM (kid : Nat → Fo × Nat) (zs : List Int) (a : Nat) : Fo × Nat := (Fo.ofList (loopM kid zs (1 + (nextZ zs a 4).1) [] (nextZ zs a 4).2).1, (loopM kid zs (1 + (nextZ zs a 4).1) [] (nextZ zs a 4).2).2)
def kidsM (zs : List Int) : Nat → Nat → Fo × Nat
  | 0 => fun a => (.nil, a)
  | j + 1 => rowM (kidsM zs j) zs

theorem attrM_cases (zs : List Int) (k : Nat) (nm : List UInt8) (vs : List (List UInt8)) (m : Nat) (l : List (List UInt8 × List UInt8)) (a : Nat) : (attrM zs k nm vs m l a).1 = l ∨ ∃ x, (attrM zs k nm vs m l a).1 = l ++ [(nm, x)] := by
  unfold attrM
  split
  · exact .inr ⟨_, rfl⟩
  · exact .inl rfl
theorem attrM_le (zs : List Int) (k : Nat) (nm : List UInt8) (vs : List (List UInt8)) (m : Nat) (l : List (List UInt8 × List UInt8)) (a : Nat) (h : a ≤ zs.length) : (attrM zs k nm vs m l a).2 ≤ zs.length := by
  unfold attrM
  split
  · exact nextZ_le _ _ _ (nextZ_le _ _ _ h)
  · exact nextZ_le _ _ _ h
theorem spaceM_le (zs : List Int) (a : Nat) (h : a ≤ zs.length) : (spaceM zs a).2 ≤ zs.length := by
  unfold spaceM
  split
  · exact nextZ_le _ _ _ (nextZ_le _ _ _ h)
  · exact nextZ_le _ _ _ h
theorem spaceM_in (zs : List Int) (a : Nat) : 1 ≤ (spaceM zs a).1 ∧ (spaceM zs a).1 ≤ 3 := by
  unfold spaceM
  have := nextZ_lt zs (nextZ zs a 6).2 3 (by omega)
  split <;> simp <;> omega
theorem headM_le (zs : List Int) (a : Nat) (h : a ≤ zs.length) : (headM zs a).2 ≤ zs.length := by
  unfold headM hrefM classM
  exact attrM_le _ _ _ _ _ _ _ (attrM_le _ _ _ _ _ _ _ (spaceM_le _ _ (nextZ_le _ _ _ h)))
theorem attrs_once (zs : List Int) (a b : Nat) : onceA (hrefM zs (classM zs a).1 b).1 = true ∧ (hrefM zs (classM zs a).1 b).1.length ≤ 2 := by
  unfold hrefM classM
  rcases attrM_cases zs 3 sClass val5 5 [] a with h | ⟨x, h⟩ <;> rcases attrM_cases zs 4 sHref val4 4 (attrM zs 3 sClass val5 5 [] a).1 b with k | ⟨y, k⟩ <;> rw [k, h] <;> simp [onceA, sClass, sHref]
theorem names_ne : ∀ i, i < 24 → (namesM.getD i []).isEmpty = false := by
  have h : (List.range 24).all (fun i => !(namesM.getD i []).isEmpty) = true := by decide +kernel
  rw [List.all_eq_true] at h
  intro i hi
  simpa using h i (List.mem_range.2 hi)
theorem val8_ne : ∀ i, i < 8 → (val8.getD i []).isEmpty = false := by
  have h : (List.range 8).all (fun i => !(val8.getD i []).isEmpty) = true := by decide +kernel
  rw [List.all_eq_true] at h
  intro i hi
  simpa using h i (List.mem_range.2 hi)
/-- What holds of kids. -/
structure OkM (zs : List Int) (b : Nat) (kid : Nat → Fo × Nat) : Prop where
  sound : ∀ a, (kid a).1.sound false = true
  wt : ∀ a, (kid a).1.wt ≤ b
  le : ∀ a, a ≤ zs.length → (kid a).2 ≤ zs.length
theorem nodeM_ok {zs : List Int} {b : Nat} {kid : Nat → Fo × Nat} (hk : OkM zs b kid) (t : Bool) (a : Nat) : Fo.okNode (nodeM kid zs t a).1.1 (nodeM kid zs t a).1.2.len ((nodeM kid zs t a).1.2.sound false) t = true ∧ (nodeM kid zs t a).1.1.attrs.length + (nodeM kid zs t a).1.2.wt ≤ 2 + b ∧ (a ≤ zs.length → (nodeM kid zs t a).2 ≤ zs.length) := by
  unfold nodeM
  split
  · rename_i h
    have h8 := val8_ne _ (nextZ_lt zs (nextZ zs a 6).2 8 (by omega))
    refine ⟨?_, by simp [textM, Fo.wt], fun h => nextZ_le _ _ _ (nextZ_le _ _ _ h)⟩
    simp only [textM, Fo.okNode, h8, h.2, Fo.len]
    rfl
  · split
    · exact ⟨rfl, by simp [noteM, Fo.wt], fun h => nextZ_le _ _ _ (nextZ_le _ _ _ h)⟩
    · have h1 := spaceM_in zs (nextZ zs (nextZ zs a 6).2 24).2
      have h2 := names_ne _ (nextZ_lt zs (nextZ zs a 6).2 24 (by omega))
      have h3 := attrs_once zs (spaceM zs (nextZ zs (nextZ zs a 6).2 24).2).2 (classM zs (spaceM zs (nextZ zs (nextZ zs a 6).2 24).2).2).2
      have h4 := hk.wt (headM zs (nextZ zs a 6).2).2
      have h5 := hk.sound (headM zs (nextZ zs a 6).2).2
      refine ⟨?_, ?_, fun h => hk.le _ (headM_le _ _ (nextZ_le _ _ _ h))⟩
      · simp only [elemM, Fo.okNode, headM, h2, h3.1]
        simp only [headM] at h5
        rw [h5]
        simp [h1.1, h1.2]
      · have e : (headM zs (nextZ zs a 6).2).1.attrs.length ≤ 2 := h3.2
        simp only [elemM]
        omega
theorem loopM_ok {zs : List Int} {b : Nat} {kid : Nat → Fo × Nat} (hk : OkM zs b kid) : ∀ (c : Nat) (l : List (Nd × Fo)) (a : Nat), (Fo.ofList l).sound false = true → (Fo.ofList (loopM kid zs c l a).1).sound false = true ∧ (Fo.ofList (loopM kid zs c l a).1).wt ≤ (Fo.ofList l).wt + c * (3 + b) ∧ (a ≤ zs.length → (loopM kid zs c l a).2 ≤ zs.length) ∧ (loopM kid zs c l a).1.length ≤ l.length + c
  | 0, l, a, h => ⟨h, Nat.le_add_right _ _, id, Nat.le_refl _⟩
  | c + 1, l, a, h => by
    rw [loopM]
    split
    · have h1 := nodeM_ok hk (lastText l false) a
      have h2 := loopM_ok hk c (l ++ [(nodeM kid zs (lastText l false) a).1]) (nodeM kid zs (lastText l false) a).2 (by rw [sound_snoc, h, h1.1]; rfl)
      rw [wt_snoc] at h2
      generalize nodeM kid zs (lastText l false) a = T at *
      obtain ⟨⟨d, kd⟩, a'⟩ := T
      simp only at h1 h2 ⊢
      refine ⟨h2.1, ?_, fun h => h2.2.2.1 (h1.2.2 h), by have := h2.2.2.2; simp at this; omega⟩
      have := h2.2.1
      have := h1.2.1
      rw [Nat.succ_mul]
      omega
    · exact ⟨h, Nat.le_add_right _ _, id, Nat.le_add_right _ _⟩
theorem OkM.row {zs : List Int} {b : Nat} {kid : Nat → Fo × Nat} (hk : OkM zs b kid) : OkM zs (4 * (3 + b)) (rowM kid zs) := by
  have h4 := fun a => nextZ_lt zs a 4 (by omega)
  refine ⟨fun a => (loopM_ok hk _ [] _ rfl).1, fun a => ?_, fun a h => (loopM_ok hk _ [] _ rfl).2.2.1 (nextZ_le _ _ _ h)⟩
  have h := (loopM_ok hk (1 + (nextZ zs a 4).1) [] (nextZ zs a 4).2 rfl).2.1
  have := h4 a
  refine Nat.le_trans h ?_
  show 0 + _ ≤ _
  rw [Nat.zero_add]
  exact Nat.mul_le_mul_right _ (by omega)
def mz : Nat → Nat
  | 0 => 0
  | j + 1 => 4 * (3 + mz j)
theorem kidsM_ok (zs : List Int) : ∀ j, OkM zs (mz j) (kidsM zs j)
  | 0 => ⟨fun _ => rfl, fun _ => Nat.le_refl _, fun _ h => h⟩
  | j + 1 => (kidsM_ok zs j).row
theorem mz_le : ∀ j, j ≤ 7 → mz j ≤ 65536 := by decide
theorem loopM_len (kid : Nat → Fo × Nat) (zs : List Int) : ∀ (c : Nat) (l : List (Nd × Fo)) (a : Nat), (loopM kid zs c l a).1.length ≤ l.length + c
  | 0, l, a => Nat.le_refl _
  | c + 1, l, a => by
    rw [loopM]
    split
    · have := loopM_len kid zs c (l ++ [(nodeM kid zs (lastText l false) a).1]) (nodeM kid zs (lastText l false) a).2
      simp at this
      omega
    · show l.length ≤ _; omega
end Go.Proofs.Ytbadckkcjjfnoaa
