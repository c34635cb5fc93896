/-
  Plain facts on lists of bytes, of no program: lines' ends. No conditions.
-/
import Derived.Lib.Replace
namespace Go.Proofs.YtnikehhcfbeiaaaDoor.Plain

/-- Each 13 with a 10 behind it, and each other 13, as one 10. -/
def lines : List UInt8 → List UInt8
  | [] => []
  | c :: r => if c ≠ 13 then c :: lines r else if r.head? = some 10 then lines r else 10 :: lines r

theorem lines_other (c : UInt8) (r : List UInt8) (h : c ≠ 13) : lines (c :: r) = c :: lines r := by simp [lines, h]
theorem lines_two (r : List UInt8) : lines (13 :: 10 :: r) = 10 :: lines r := by simp [lines]
theorem lines_one (r : List UInt8) (h : r.head? ≠ some 10) : lines (13 :: r) = 10 :: lines r := by simp [lines, h]
theorem lines_pair (r : List UInt8) (h : r.head? = some 10) : lines (13 :: r) = lines r := by simp [lines, h]
theorem lines_len (l : List UInt8) : (lines l).length ≤ l.length := by
  induction l with
  | nil => simp [lines]
  | cons c r ih =>
    unfold lines
    (repeat' split) <;> simp <;> omega
theorem lines_no (l : List UInt8) : ∀ c ∈ lines l, c ≠ 13 := by
  induction l with
  | nil => simp [lines]
  | cons c r ih =>
    intro d hd
    unfold lines at hd
    split at hd
    · rcases List.mem_cons.1 hd with rfl | h
      · assumption
      · exact ih d h
    · split at hd
      · exact ih d hd
      · rcases List.mem_cons.1 hd with rfl | h
        · decide
        · exact ih d h
theorem lines_same (l : List UInt8) (h : ∀ c ∈ l, c ≠ 13) : lines l = l := by
  induction l with
  | nil => rfl
  | cons c r ih =>
    rw [lines_other c r (h c (by simp)), ih (fun d hd => h d (by simp [hd]))]
theorem lines_twice (l : List UInt8) : lines (lines l) = lines l := lines_same _ (lines_no l)

/-! ### What ReplaceAll comes to, byte by byte -/
def rep (old new l : List UInt8) : List UInt8 := Lib.replaceK old new (Lib.count l old) l
theorem rep_all (l old new : List UInt8) (h : old ≠ new) : Lib.replaceAll l old new = rep old new l := by
  have h' : ¬ (old == new) = true := by simpa using h
  simp [Lib.replaceAll, Lib.replace, h', Lib.replaceNum, rep]
theorem rep_miss (old new l : List UInt8) (h : Lib.index l old = -1) : rep old new l = l := by
  unfold rep
  rw [Lib.count_miss h]
  rfl
theorem rep_hit (old new l : List UInt8) (i : Nat) (ho : old ≠ []) (h : Lib.index l old = i) : rep old new l = l.take i ++ new ++ rep old new (l.drop (i + old.length)) := by
  unfold rep
  rw [Lib.count_hit ho h, Nat.add_comm, Lib.replaceK_hit old new _ l i h]
theorem rep_nil (old new : List UInt8) (ho : old ≠ []) : rep old new [] = [] := by
  apply rep_miss
  cases old with
  | nil => exact absurd rfl ho
  | cons a b => rfl
theorem rep_pre (old new : List UInt8) (c : UInt8) (r : List UInt8) (ho : old ≠ []) (h : old.isPrefixOf (c :: r) = true) : rep old new (c :: r) = new ++ rep old new ((c :: r).drop old.length) := by
  have hi : Lib.index (c :: r) old = (0 : Nat) := by simp [Lib.index, h]
  rw [rep_hit old new _ 0 ho hi]
  simp
theorem rep_cons (old new : List UInt8) (c : UInt8) (r : List UInt8) (ho : old ≠ []) (h : old.isPrefixOf (c :: r) = false) : rep old new (c :: r) = c :: rep old new r := by
  have hge := Lib.index_ge r old
  by_cases hm : Lib.index r old = -1
  · have hi : Lib.index (c :: r) old = -1 := by simp [Lib.index, h, hm]
    rw [rep_miss _ _ _ hi, rep_miss _ _ _ hm]
  · obtain ⟨i, hi⟩ : ∃ i : Nat, Lib.index r old = i := ⟨(Lib.index r old).toNat, by omega⟩
    have hi' : Lib.index (c :: r) old = ((i + 1 : Nat) : Int) := by
      have : ¬ ((i : Int) = -1) := by omega
      simp [Lib.index, h, hi, this]
    rw [rep_hit old new _ (i + 1) ho hi', rep_hit old new r i ho hi]
    simp [Nat.add_right_comm]

theorem pre_two_no (d : UInt8) (r : List UInt8) (h : d ≠ 10) : List.isPrefixOf [13, 10] (13 :: d :: r) = false := by
  simp [List.isPrefixOf]
  exact fun e => h e.symm
theorem pre_two_other (c : UInt8) (r : List UInt8) (h : c ≠ 13) : List.isPrefixOf [13, 10] (c :: r) = false := by
  simp [List.isPrefixOf]
  intro e
  exact absurd e.symm h
theorem pre_one_other (c : UInt8) (r : List UInt8) (h : c ≠ 13) : List.isPrefixOf [13] (c :: r) = false := by
  simp [List.isPrefixOf]
  exact fun e => h e.symm
theorem pre_one (r : List UInt8) : List.isPrefixOf [13] (13 :: r) = true := by simp [List.isPrefixOf]
theorem pre_two (r : List UInt8) : List.isPrefixOf [13, 10] (13 :: 10 :: r) = true := by simp [List.isPrefixOf]

theorem rep_two : ∀ l : List UInt8, rep [13] [10] (rep [13, 10] [10] l) = lines l
  | [] => by rw [rep_nil _ _ (by simp), rep_nil _ _ (by simp)]; rfl
  | [c] => by
    by_cases h : c = 13
    · subst h
      rw [rep_cons [13, 10] [10] 13 [] (by simp) (by decide), rep_nil _ _ (by simp), rep_pre [13] [10] 13 [] (by simp) (by decide)]
      simp [rep_nil, lines]
    · rw [rep_cons [13, 10] [10] c [] (by simp) (pre_two_other c [] h), rep_nil _ _ (by simp), rep_cons [13] [10] c [] (by simp) (pre_one_other c [] h), rep_nil _ _ (by simp), lines_other c [] h]
      rfl
  | c :: d :: r => by
    by_cases h : c = 13
    · subst h
      by_cases hd : d = 10
      · subst hd
        rw [rep_pre [13, 10] [10] 13 (10 :: r) (by simp) (pre_two r)]
        simp only [List.length_cons, List.length_nil, List.drop_succ_cons, List.drop_zero, List.singleton_append]
        rw [rep_cons [13] [10] 10 _ (by simp) (pre_one_other 10 _ (by decide)), rep_two r, lines_two]
      · rw [rep_cons [13, 10] [10] 13 (d :: r) (by simp) (pre_two_no d r hd), rep_pre [13] [10] 13 _ (by simp) (pre_one _)]
        simp only [List.length_cons, List.length_nil, List.drop_succ_cons, List.drop_zero, List.singleton_append]
        rw [rep_two (d :: r), lines_one _ (by simp [hd])]
    · rw [rep_cons [13, 10] [10] c (d :: r) (by simp) (pre_two_other c _ h), rep_cons [13] [10] c _ (by simp) (pre_one_other c _ h), rep_two (d :: r), lines_other c _ h]
theorem rep_len (l : List UInt8) : (rep [13, 10] [10] l).length ≤ l.length := by
  induction hn : l.length using Nat.strongRecOn generalizing l with
  | ind n ih =>
    cases l with
    | nil => rw [rep_nil _ _ (by simp)]; simp
    | cons c r =>
      cases h : List.isPrefixOf [13, 10] (c :: r)
      · rw [rep_cons _ _ _ _ (by simp) h]
        have := ih r.length (by simp at hn; omega) r rfl
        simp at hn ⊢
        omega
      · rw [rep_pre _ _ _ _ (by simp) h]
        have := ih ((c :: r).drop 2).length (by simp at hn ⊢; omega) ((c :: r).drop 2) rfl
        simp at hn this ⊢
        have hr : 1 ≤ r.length := by
          cases r with
          | nil => simp at h
          | cons a b => simp
        omega
end Go.Proofs.YtnikehhcfbeiaaaDoor.Plain
