/-
  Plain facts on lists of bytes, of no program: what folding, blanks, words, lines come to. No conditions.
-/
namespace Go.Proofs.YtobgdignanpliaaDoor.Plain

/-- A to Z as a to z. -/
def foldB (c : UInt8) : UInt8 := if 65 ≤ c.toNat ∧ c.toNat ≤ 90 then UInt8.ofNat (c.toNat + 32) else c
def fold (l : List UInt8) : List UInt8 := l.map foldB

/-- The first k folded, the rest as they were. -/
def foldTo (l : List UInt8) (k : Nat) : List UInt8 := (l.take k).map foldB ++ l.drop k

theorem foldTo_zero (l : List UInt8) : foldTo l 0 = l := by simp [foldTo]
theorem foldTo_all (l : List UInt8) (k : Nat) (h : l.length ≤ k) : foldTo l k = fold l := by
  simp [foldTo, fold, List.take_of_length_le h, List.drop_eq_nil_of_le h]
theorem foldTo_length (l : List UInt8) (k : Nat) : (foldTo l k).length = l.length := by
  simp [foldTo]; omega
theorem foldTo_get (l : List UInt8) (k j : Nat) (hj : j < l.length) : (foldTo l k)[j]'(by rw [foldTo_length]; exact hj) = if j < k then foldB l[j] else l[j] := by
  unfold foldTo
  by_cases h : j < k
  · rw [List.getElem_append_left (by simp; omega)]
    simp [h]
  · rw [List.getElem_append_right (by simp; omega)]
    simp only [List.getElem_drop, if_neg h]
    congr 1
    simp; omega
theorem foldB_id (c : UInt8) (h : ¬ (65 ≤ c.toNat ∧ c.toNat ≤ 90)) : foldB c = c := by simp [foldB, h]
theorem foldB_up (c : UInt8) (h : 65 ≤ c.toNat) (h' : c.toNat ≤ 90) : (foldB c).toNat = c.toNat + 32 := by
  simp only [foldB, h, h', and_self, if_true]
  rw [UInt8.toNat_ofNat']; omega
theorem foldB_twice (c : UInt8) : foldB (foldB c) = foldB c := by
  by_cases h : 65 ≤ c.toNat ∧ c.toNat ≤ 90
  · have := foldB_up c h.1 h.2
    exact foldB_id _ (by omega)
  · rw [foldB_id c h, foldB_id c h]
theorem fold_twice (l : List UInt8) : fold (fold l) = fold l := by
  unfold fold
  rw [List.map_map]
  apply List.map_congr_left
  intro c _
  exact foldB_twice c
theorem fold_length (l : List UInt8) : (fold l).length = l.length := by simp [fold]
end Go.Proofs.YtobgdignanpliaaDoor.Plain
