/-
  Plain facts on tokens, of no program: what the laws' made texts are read as. No conditions.
-/
import Derived.Test.YtgelgfgcdfnacaaDoorXShift
import Derived.Test.YtgelgfgcdfnacaaDoorXIdx
namespace Go.Proofs.YtgelgfgcdfnacaaDoor

theorem idxI_cases (x l : List UInt8) (f : Nat) : idxI x l f = -1 ∨ 0 ≤ idxI x l f := by
  unfold idxI
  split
  · exact Or.inl rfl
  · exact Or.inr (by omega)
theorem idxI_no (x l : List UInt8) : ∀ (m f : Nat), l.length - f = m → idxI x l f = -1 → ∀ i, f ≤ i → i < l.length → x.isPrefixOf (l.drop i) = false
  | 0, f, hm, _, i, h1, h2 => by omega
  | m + 1, f, hm, h, i, h1, h2 => by
    cases hp : x.isPrefixOf (l.drop f)
    · by_cases e : i = f
      · rw [e]; exact hp
      · rw [idxI_miss x l f (by omega) hp] at h
        exact idxI_no x l m (f + 1) (by omega) h i (by omega) h2
    · rw [idxI_hit x l f (by omega) hp] at h
      omega
theorem idx_none (x l : List UInt8) (h : idxI x l 0 = -1) (i : Nat) (hi : i < l.length) : x.isPrefixOf (l.drop i) = false := idxI_no x l _ 0 rfl h i (Nat.zero_le _) hi
/-- Where the first end stands. -/
theorem up_first (ends : List (List UInt8)) (l : List UInt8) (e : List UInt8) (q : Nat) (hq : q < l.length) (he : ends.find? (fun e => e.isPrefixOf (l.drop q)) = some e) : ∀ (m f : Nat), q - f = m → f ≤ q → (∀ i, f ≤ i → i < q → ends.find? (fun e => e.isPrefixOf (l.drop i)) = none) → upL ends l f = (q, q + e.length)
  | 0, f, hm, hf, _ => by
    have : f = q := by omega
    rw [this]
    exact upL_hit ends l q hq e he
  | m + 1, f, hm, hf, h => by
    rw [upL_miss ends l f (by omega) (h f (Nat.le_refl _) (by omega))]
    exact up_first ends l e q hq he m (f + 1) (by omega) (by omega) (fun i h1 h2 => h i (by omega) h2)
theorem drop_mid (a v t : List UInt8) (i : Nat) (h1 : a.length ≤ i) (h2 : i ≤ a.length + v.length) : (a ++ v ++ t).drop i = v.drop (i - a.length) ++ t := by
  obtain ⟨j, rfl⟩ : ∃ j, i = a.length + j := ⟨i - a.length, by omega⟩
  rw [List.append_assoc, sh_drop, Nat.add_sub_cancel_left, List.drop_append, show j - v.length = 0 by omega, List.drop_zero]
theorem mid_mid (a v t : List UInt8) : mid (a ++ v ++ t) a.length (a.length + v.length) = v := by
  unfold mid
  rw [List.drop_take, List.append_assoc, List.drop_left, Nat.add_sub_cancel_left, List.take_left]

/- A section. -/
theorem sec_no (v t : List UInt8) (h : idxI [93, 93, 62] v 0 = -1) (j : Nat) (hj : j < v.length) : [93, 93, 62].isPrefixOf (v.drop j ++ 93 :: 93 :: 62 :: t) = false := by
  have h0 := idx_none _ _ h j hj
  have hl : 0 < (v.drop j).length := by rw [List.length_drop]; omega
  match hu : v.drop j, hl with
  | [c], _ => simp [List.isPrefixOf]
  | [c, d], _ => simp [List.isPrefixOf]
  | c :: d :: e :: r, _ =>
    rw [hu] at h0
    simpa [List.isPrefixOf] using h0
theorem deep_next (v t last : List UInt8) (h : idxI [93, 93, 62] v 0 = -1) : nextT (section_ ++ v ++ 93 :: 93 :: 62 :: t) 0 4 last = (textT v, (section_ ++ v).length + 3) := by
  have hsec : section_.isPrefixOf ((section_ ++ v ++ 93 :: 93 :: 62 :: t).drop 0) = true := by
    rw [List.drop_zero, List.append_assoc, List.isPrefixOf_iff_prefix]
    exact List.prefix_append _ _
  rw [case_section _ 0 last (by simp [section_]) hsec]
  have hU : upL [[93, 93, 62]] (section_ ++ v ++ 93 :: 93 :: 62 :: t) 9 = (9 + v.length, 9 + v.length + 3) := by
    refine up_first _ _ [93, 93, 62] _ (by simp [section_]; omega) ?_ _ 9 rfl (by omega) ?_
    · rw [find_one, drop_mid section_ v _ _ (by simp [section_]) (by simp [section_])]
      rw [show 9 + v.length - section_.length = v.length by simp [section_], List.drop_length]
      rfl
    · intro i h1 h2
      rw [find_one, drop_mid section_ v _ i (by simp [section_]; omega) (by simp [section_]; omega), sec_no v t h _ (by simp [section_]; omega)]
      rfl
  rw [show 0 + 9 = 9 from rfl, hU]
  simp only
  rw [show (9 : Nat) = section_.length from rfl, mid_mid, List.length_append]
theorem data_sec (v t last : List UInt8) : (nextT (section_ ++ v ++ t) 0 0 last).1.kind = 4 := by
  have hr : (section_ ++ v ++ t).drop 0 = section_ ++ (v ++ t) := by rw [List.drop_zero, List.append_assoc]
  rw [case_bang _ 0 0 last (by simp [section_]) (Or.inl rfl) (by rw [hr]; rfl) (by rw [hr]; rfl) (by rw [hr]; rfl) (fun h => by omega)]
  rfl
end Go.Proofs.YtgelgfgcdfnacaaDoor
