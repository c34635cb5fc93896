/-
  The walk of SiteFosters. Any number, any two texts, fostering on or off.
-/
import Derived.Test.YtjlkdhbgomamjaaSWG
import Derived.Test.YtjlkdhbgomamjaaDText
import Derived.Test.YtjlkdhbgomamjaaDDeep
namespace Go.Proofs.Ytjlkdhbgomamjaa
open Go.RowKit Go.Maps

namespace Sf
def row : Obj := .cells #[.string ⟨#[116, 97, 98, 108, 101]⟩, .string ⟨#[116, 98, 111, 100, 121]⟩, .string ⟨#[116, 114]⟩] 9
def R0 : List EL := [elRoot]
def S0 : List PN := k8S0
def R1 : List EL := [elRoot, ⟨1, 1, [116, 97, 98, 108, 101]⟩]
def S1 : List PN := addS false S0 R0 1 [116, 97, 98, 108, 101] []
def R2 : List EL := [elRoot, ⟨1, 1, [116, 97, 98, 108, 101]⟩, ⟨2, 1, [116, 98, 111, 100, 121]⟩]
def S2 : List PN := addS false S1 R1 1 [116, 98, 111, 100, 121] []
def R3 : List EL := [elRoot, ⟨1, 1, [116, 97, 98, 108, 101]⟩, ⟨2, 1, [116, 98, 111, 100, 121]⟩, ⟨3, 1, [116, 114]⟩]
def S3 : List PN := addS false S2 R2 1 [116, 114] []
def R : Nat → List EL
  | 0 => R0
  | 1 => R1
  | 2 => R2
  | _ => R3
def S : Nat → List PN
  | 0 => S0
  | 1 => S1
  | 2 => S2
  | _ => S3
def x1t (a : List UInt8) : List PN := pLink (S1 ++ [notePN 2 a]) 2 0 1
theorem w1t (a : List UInt8) (h : a ≠ []) : typeS true S1 R1 a = x1t a ∧ okType true S1 R1 a = true := by
  have e : spotS true (elNamed R1) S1 R1 = (0, 1) := by decide +kernel
  have e2 : S1.length = 2 := by decide +kernel
  refine ⟨?_, ?_⟩
  · unfold typeS
    rw [e]
    show (pWrite S1 a 0 1).1 = _
    unfold pWrite
    rw [if_pos (show pPlace S1 0 1 = true by decide +kernel), if_neg h, if_neg (show ¬ inText S1 (pBefore S1 0 1) = true by decide +kernel), e2]
    rfl
  · unfold okType
    rw [e]
    show okWrite S1 a 0 1 = true
    unfold okWrite
    rw [decide_eq_false h]
    rfl
theorem v1t (a b : List UInt8) (h : b ≠ []) : typeS true (x1t a) R1 b = x1t (a ++ b) ∧ okType true (x1t a) R1 b = true := by
  have e : spotS true (elNamed R1) (x1t a) R1 = (0, 1) := by kernel_rfl
  refine ⟨?_, ?_⟩
  · unfold typeS
    rw [e]
    show (pWrite (x1t a) b 0 1).1 = _
    unfold pWrite
    rw [if_pos (show pPlace (x1t a) 0 1 = true by kernel_rfl), if_neg h]
    kernel_rfl
  · unfold okType
    rw [e]
    show okWrite (x1t a) b 0 1 = true
    unfold okWrite
    rw [decide_eq_false h]
    kernel_rfl
theorem t1t (a : List UInt8) : pKidsA (x1t a) 9 0 = some [2, 1] ∧ pBfs (x1t a) 9 9 [2, 1] [2] 0 = some ([2, 1], [2, 2, 2]) ∧ (foF (x1t a) [2, 1] [2, 2, 2] 3 0 2).texts = [a] ∧ (foF (x1t a) [2, 1] [2, 2, 2] 3 0 2).wt = 2 ∧ (foF (x1t a) [2, 1] [2, 2, 2] 3 0 2).deep = 1 := ⟨by kernel_rfl, by kernel_rfl, by kernel_rfl, by kernel_rfl, by kernel_rfl⟩
theorem b1t (a : List UInt8) (h : a.length ≤ 4294967296) : ∀ x ∈ x1t a, x.text.length ≤ 4294967296 := by
  have e : (x1t a).map (·.text) = [[], [], a] := by kernel_rfl
  intro x hx
  have := List.mem_map_of_mem (f := fun x : PN => x.text) hx
  rw [e] at this
  simp only [List.mem_cons, List.not_mem_nil, or_false] at this
  rcases this with q | q | q
  all_goals (rw [q]; first | exact h | exact Nat.zero_le _)
theorem a1t (a : List UInt8) : ∀ x ∈ x1t a, x.attrs.length ≤ 4294967296 := by
  have e : (x1t a).map (·.attrs) = [[], [], []] := by kernel_rfl
  intro x hx
  have := List.mem_map_of_mem (f := fun x : PN => x.attrs) hx
  rw [e] at this
  simp only [List.mem_cons, List.not_mem_nil, or_false] at this
  rcases this with q | q | q
  all_goals (rw [q]; exact Nat.zero_le _)
def x1f (a : List UInt8) : List PN := pLink (S1 ++ [notePN 2 a]) 2 1 (-1)
theorem w1f (a : List UInt8) (h : a ≠ []) : typeS false S1 R1 a = x1f a ∧ okType false S1 R1 a = true := by
  have e : spotS false (elNamed R1) S1 R1 = (1, (-1)) := by decide +kernel
  have e2 : S1.length = 2 := by decide +kernel
  refine ⟨?_, ?_⟩
  · unfold typeS
    rw [e]
    show (pWrite S1 a 1 (-1)).1 = _
    unfold pWrite
    rw [if_pos (show pPlace S1 1 (-1) = true by decide +kernel), if_neg h, if_neg (show ¬ inText S1 (pBefore S1 1 (-1)) = true by decide +kernel), e2]
    rfl
  · unfold okType
    rw [e]
    show okWrite S1 a 1 (-1) = true
    unfold okWrite
    rw [decide_eq_false h]
    rfl
theorem v1f (a b : List UInt8) (h : b ≠ []) : typeS false (x1f a) R1 b = x1f (a ++ b) ∧ okType false (x1f a) R1 b = true := by
  have e : spotS false (elNamed R1) (x1f a) R1 = (1, (-1)) := by kernel_rfl
  refine ⟨?_, ?_⟩
  · unfold typeS
    rw [e]
    show (pWrite (x1f a) b 1 (-1)).1 = _
    unfold pWrite
    rw [if_pos (show pPlace (x1f a) 1 (-1) = true by kernel_rfl), if_neg h]
    kernel_rfl
  · unfold okType
    rw [e]
    show okWrite (x1f a) b 1 (-1) = true
    unfold okWrite
    rw [decide_eq_false h]
    kernel_rfl
theorem t1f (a : List UInt8) : pKidsA (x1f a) 9 0 = some [1] ∧ pBfs (x1f a) 9 9 [1] [1] 0 = some ([1, 2], [1, 2, 2]) ∧ (foF (x1f a) [1, 2] [1, 2, 2] 3 0 1).texts = [a] ∧ (foF (x1f a) [1, 2] [1, 2, 2] 3 0 1).wt = 2 ∧ (foF (x1f a) [1, 2] [1, 2, 2] 3 0 1).deep = 2 := ⟨by kernel_rfl, by kernel_rfl, by kernel_rfl, by kernel_rfl, by kernel_rfl⟩
theorem b1f (a : List UInt8) (h : a.length ≤ 4294967296) : ∀ x ∈ x1f a, x.text.length ≤ 4294967296 := by
  have e : (x1f a).map (·.text) = [[], [], a] := by kernel_rfl
  intro x hx
  have := List.mem_map_of_mem (f := fun x : PN => x.text) hx
  rw [e] at this
  simp only [List.mem_cons, List.not_mem_nil, or_false] at this
  rcases this with q | q | q
  all_goals (rw [q]; first | exact h | exact Nat.zero_le _)
theorem a1f (a : List UInt8) : ∀ x ∈ x1f a, x.attrs.length ≤ 4294967296 := by
  have e : (x1f a).map (·.attrs) = [[], [], []] := by kernel_rfl
  intro x hx
  have := List.mem_map_of_mem (f := fun x : PN => x.attrs) hx
  rw [e] at this
  simp only [List.mem_cons, List.not_mem_nil, or_false] at this
  rcases this with q | q | q
  all_goals (rw [q]; exact Nat.zero_le _)
def x2t (a : List UInt8) : List PN := pLink (S2 ++ [notePN 2 a]) 3 0 1
theorem w2t (a : List UInt8) (h : a ≠ []) : typeS true S2 R2 a = x2t a ∧ okType true S2 R2 a = true := by
  have e : spotS true (elNamed R2) S2 R2 = (0, 1) := by decide +kernel
  have e2 : S2.length = 3 := by decide +kernel
  refine ⟨?_, ?_⟩
  · unfold typeS
    rw [e]
    show (pWrite S2 a 0 1).1 = _
    unfold pWrite
    rw [if_pos (show pPlace S2 0 1 = true by decide +kernel), if_neg h, if_neg (show ¬ inText S2 (pBefore S2 0 1) = true by decide +kernel), e2]
    rfl
  · unfold okType
    rw [e]
    show okWrite S2 a 0 1 = true
    unfold okWrite
    rw [decide_eq_false h]
    rfl
theorem v2t (a b : List UInt8) (h : b ≠ []) : typeS true (x2t a) R2 b = x2t (a ++ b) ∧ okType true (x2t a) R2 b = true := by
  have e : spotS true (elNamed R2) (x2t a) R2 = (0, 1) := by kernel_rfl
  refine ⟨?_, ?_⟩
  · unfold typeS
    rw [e]
    show (pWrite (x2t a) b 0 1).1 = _
    unfold pWrite
    rw [if_pos (show pPlace (x2t a) 0 1 = true by kernel_rfl), if_neg h]
    kernel_rfl
  · unfold okType
    rw [e]
    show okWrite (x2t a) b 0 1 = true
    unfold okWrite
    rw [decide_eq_false h]
    kernel_rfl
theorem t2t (a : List UInt8) : pKidsA (x2t a) 9 0 = some [3, 1] ∧ pBfs (x2t a) 9 9 [3, 1] [2] 0 = some ([3, 1, 2], [2, 2, 3, 3]) ∧ (foF (x2t a) [3, 1, 2] [2, 2, 3, 3] 4 0 2).texts = [a] ∧ (foF (x2t a) [3, 1, 2] [2, 2, 3, 3] 4 0 2).wt = 3 ∧ (foF (x2t a) [3, 1, 2] [2, 2, 3, 3] 4 0 2).deep = 2 := ⟨by kernel_rfl, by kernel_rfl, by kernel_rfl, by kernel_rfl, by kernel_rfl⟩
theorem b2t (a : List UInt8) (h : a.length ≤ 4294967296) : ∀ x ∈ x2t a, x.text.length ≤ 4294967296 := by
  have e : (x2t a).map (·.text) = [[], [], [], a] := by kernel_rfl
  intro x hx
  have := List.mem_map_of_mem (f := fun x : PN => x.text) hx
  rw [e] at this
  simp only [List.mem_cons, List.not_mem_nil, or_false] at this
  rcases this with q | q | q | q
  all_goals (rw [q]; first | exact h | exact Nat.zero_le _)
theorem a2t (a : List UInt8) : ∀ x ∈ x2t a, x.attrs.length ≤ 4294967296 := by
  have e : (x2t a).map (·.attrs) = [[], [], [], []] := by kernel_rfl
  intro x hx
  have := List.mem_map_of_mem (f := fun x : PN => x.attrs) hx
  rw [e] at this
  simp only [List.mem_cons, List.not_mem_nil, or_false] at this
  rcases this with q | q | q | q
  all_goals (rw [q]; exact Nat.zero_le _)
def x2f (a : List UInt8) : List PN := pLink (S2 ++ [notePN 2 a]) 3 2 (-1)
theorem w2f (a : List UInt8) (h : a ≠ []) : typeS false S2 R2 a = x2f a ∧ okType false S2 R2 a = true := by
  have e : spotS false (elNamed R2) S2 R2 = (2, (-1)) := by decide +kernel
  have e2 : S2.length = 3 := by decide +kernel
  refine ⟨?_, ?_⟩
  · unfold typeS
    rw [e]
    show (pWrite S2 a 2 (-1)).1 = _
    unfold pWrite
    rw [if_pos (show pPlace S2 2 (-1) = true by decide +kernel), if_neg h, if_neg (show ¬ inText S2 (pBefore S2 2 (-1)) = true by decide +kernel), e2]
    rfl
  · unfold okType
    rw [e]
    show okWrite S2 a 2 (-1) = true
    unfold okWrite
    rw [decide_eq_false h]
    rfl
theorem v2f (a b : List UInt8) (h : b ≠ []) : typeS false (x2f a) R2 b = x2f (a ++ b) ∧ okType false (x2f a) R2 b = true := by
  have e : spotS false (elNamed R2) (x2f a) R2 = (2, (-1)) := by kernel_rfl
  refine ⟨?_, ?_⟩
  · unfold typeS
    rw [e]
    show (pWrite (x2f a) b 2 (-1)).1 = _
    unfold pWrite
    rw [if_pos (show pPlace (x2f a) 2 (-1) = true by kernel_rfl), if_neg h]
    kernel_rfl
  · unfold okType
    rw [e]
    show okWrite (x2f a) b 2 (-1) = true
    unfold okWrite
    rw [decide_eq_false h]
    kernel_rfl
theorem t2f (a : List UInt8) : pKidsA (x2f a) 9 0 = some [1] ∧ pBfs (x2f a) 9 9 [1] [1] 0 = some ([1, 2, 3], [1, 2, 3, 3]) ∧ (foF (x2f a) [1, 2, 3] [1, 2, 3, 3] 4 0 1).texts = [a] ∧ (foF (x2f a) [1, 2, 3] [1, 2, 3, 3] 4 0 1).wt = 3 ∧ (foF (x2f a) [1, 2, 3] [1, 2, 3, 3] 4 0 1).deep = 3 := ⟨by kernel_rfl, by kernel_rfl, by kernel_rfl, by kernel_rfl, by kernel_rfl⟩
theorem b2f (a : List UInt8) (h : a.length ≤ 4294967296) : ∀ x ∈ x2f a, x.text.length ≤ 4294967296 := by
  have e : (x2f a).map (·.text) = [[], [], [], a] := by kernel_rfl
  intro x hx
  have := List.mem_map_of_mem (f := fun x : PN => x.text) hx
  rw [e] at this
  simp only [List.mem_cons, List.not_mem_nil, or_false] at this
  rcases this with q | q | q | q
  all_goals (rw [q]; first | exact h | exact Nat.zero_le _)
theorem a2f (a : List UInt8) : ∀ x ∈ x2f a, x.attrs.length ≤ 4294967296 := by
  have e : (x2f a).map (·.attrs) = [[], [], [], []] := by kernel_rfl
  intro x hx
  have := List.mem_map_of_mem (f := fun x : PN => x.attrs) hx
  rw [e] at this
  simp only [List.mem_cons, List.not_mem_nil, or_false] at this
  rcases this with q | q | q | q
  all_goals (rw [q]; exact Nat.zero_le _)
def x3t (a : List UInt8) : List PN := pLink (S3 ++ [notePN 2 a]) 4 0 1
theorem w3t (a : List UInt8) (h : a ≠ []) : typeS true S3 R3 a = x3t a ∧ okType true S3 R3 a = true := by
  have e : spotS true (elNamed R3) S3 R3 = (0, 1) := by decide +kernel
  have e2 : S3.length = 4 := by decide +kernel
  refine ⟨?_, ?_⟩
  · unfold typeS
    rw [e]
    show (pWrite S3 a 0 1).1 = _
    unfold pWrite
    rw [if_pos (show pPlace S3 0 1 = true by decide +kernel), if_neg h, if_neg (show ¬ inText S3 (pBefore S3 0 1) = true by decide +kernel), e2]
    rfl
  · unfold okType
    rw [e]
    show okWrite S3 a 0 1 = true
    unfold okWrite
    rw [decide_eq_false h]
    rfl
theorem v3t (a b : List UInt8) (h : b ≠ []) : typeS true (x3t a) R3 b = x3t (a ++ b) ∧ okType true (x3t a) R3 b = true := by
  have e : spotS true (elNamed R3) (x3t a) R3 = (0, 1) := by kernel_rfl
  refine ⟨?_, ?_⟩
  · unfold typeS
    rw [e]
    show (pWrite (x3t a) b 0 1).1 = _
    unfold pWrite
    rw [if_pos (show pPlace (x3t a) 0 1 = true by kernel_rfl), if_neg h]
    kernel_rfl
  · unfold okType
    rw [e]
    show okWrite (x3t a) b 0 1 = true
    unfold okWrite
    rw [decide_eq_false h]
    kernel_rfl
theorem t3t (a : List UInt8) : pKidsA (x3t a) 9 0 = some [4, 1] ∧ pBfs (x3t a) 9 9 [4, 1] [2] 0 = some ([4, 1, 2, 3], [2, 2, 3, 4, 4]) ∧ (foF (x3t a) [4, 1, 2, 3] [2, 2, 3, 4, 4] 5 0 2).texts = [a] ∧ (foF (x3t a) [4, 1, 2, 3] [2, 2, 3, 4, 4] 5 0 2).wt = 4 ∧ (foF (x3t a) [4, 1, 2, 3] [2, 2, 3, 4, 4] 5 0 2).deep = 3 := ⟨by kernel_rfl, by kernel_rfl, by kernel_rfl, by kernel_rfl, by kernel_rfl⟩
theorem b3t (a : List UInt8) (h : a.length ≤ 4294967296) : ∀ x ∈ x3t a, x.text.length ≤ 4294967296 := by
  have e : (x3t a).map (·.text) = [[], [], [], [], a] := by kernel_rfl
  intro x hx
  have := List.mem_map_of_mem (f := fun x : PN => x.text) hx
  rw [e] at this
  simp only [List.mem_cons, List.not_mem_nil, or_false] at this
  rcases this with q | q | q | q | q
  all_goals (rw [q]; first | exact h | exact Nat.zero_le _)
theorem a3t (a : List UInt8) : ∀ x ∈ x3t a, x.attrs.length ≤ 4294967296 := by
  have e : (x3t a).map (·.attrs) = [[], [], [], [], []] := by kernel_rfl
  intro x hx
  have := List.mem_map_of_mem (f := fun x : PN => x.attrs) hx
  rw [e] at this
  simp only [List.mem_cons, List.not_mem_nil, or_false] at this
  rcases this with q | q | q | q | q
  all_goals (rw [q]; exact Nat.zero_le _)
def x3f (a : List UInt8) : List PN := pLink (S3 ++ [notePN 2 a]) 4 3 (-1)
theorem w3f (a : List UInt8) (h : a ≠ []) : typeS false S3 R3 a = x3f a ∧ okType false S3 R3 a = true := by
  have e : spotS false (elNamed R3) S3 R3 = (3, (-1)) := by decide +kernel
  have e2 : S3.length = 4 := by decide +kernel
  refine ⟨?_, ?_⟩
  · unfold typeS
    rw [e]
    show (pWrite S3 a 3 (-1)).1 = _
    unfold pWrite
    rw [if_pos (show pPlace S3 3 (-1) = true by decide +kernel), if_neg h, if_neg (show ¬ inText S3 (pBefore S3 3 (-1)) = true by decide +kernel), e2]
    rfl
  · unfold okType
    rw [e]
    show okWrite S3 a 3 (-1) = true
    unfold okWrite
    rw [decide_eq_false h]
    rfl
theorem v3f (a b : List UInt8) (h : b ≠ []) : typeS false (x3f a) R3 b = x3f (a ++ b) ∧ okType false (x3f a) R3 b = true := by
  have e : spotS false (elNamed R3) (x3f a) R3 = (3, (-1)) := by kernel_rfl
  refine ⟨?_, ?_⟩
  · unfold typeS
    rw [e]
    show (pWrite (x3f a) b 3 (-1)).1 = _
    unfold pWrite
    rw [if_pos (show pPlace (x3f a) 3 (-1) = true by kernel_rfl), if_neg h]
    kernel_rfl
  · unfold okType
    rw [e]
    show okWrite (x3f a) b 3 (-1) = true
    unfold okWrite
    rw [decide_eq_false h]
    kernel_rfl
theorem t3f (a : List UInt8) : pKidsA (x3f a) 9 0 = some [1] ∧ pBfs (x3f a) 9 9 [1] [1] 0 = some ([1, 2, 3, 4], [1, 2, 3, 4, 4]) ∧ (foF (x3f a) [1, 2, 3, 4] [1, 2, 3, 4, 4] 5 0 1).texts = [a] ∧ (foF (x3f a) [1, 2, 3, 4] [1, 2, 3, 4, 4] 5 0 1).wt = 4 ∧ (foF (x3f a) [1, 2, 3, 4] [1, 2, 3, 4, 4] 5 0 1).deep = 4 := ⟨by kernel_rfl, by kernel_rfl, by kernel_rfl, by kernel_rfl, by kernel_rfl⟩
theorem b3f (a : List UInt8) (h : a.length ≤ 4294967296) : ∀ x ∈ x3f a, x.text.length ≤ 4294967296 := by
  have e : (x3f a).map (·.text) = [[], [], [], [], a] := by kernel_rfl
  intro x hx
  have := List.mem_map_of_mem (f := fun x : PN => x.text) hx
  rw [e] at this
  simp only [List.mem_cons, List.not_mem_nil, or_false] at this
  rcases this with q | q | q | q | q
  all_goals (rw [q]; first | exact h | exact Nat.zero_le _)
theorem a3f (a : List UInt8) : ∀ x ∈ x3f a, x.attrs.length ≤ 4294967296 := by
  have e : (x3f a).map (·.attrs) = [[], [], [], [], []] := by kernel_rfl
  intro x hx
  have := List.mem_map_of_mem (f := fun x : PN => x.attrs) hx
  rw [e] at this
  simp only [List.mem_cons, List.not_mem_nil, or_false] at this
  rcases this with q | q | q | q | q
  all_goals (rw [q]; exact Nat.zero_le _)
end Sf
set_option maxHeartbeats 2000000 in
set_option maxRecDepth 100000 in
theorem sf_out (k : Int) (x y : ByteArray) (on : Bool) (w : World) (hx : x.size ≤ 140737488351232) (hy : y.size ≤ 140737488351232) (h : (x.toList == []) = true ∨ ((x.toList == []) = false ∧ (y.toList == []) = true) ∨ ((x.toList == []) = false ∧ (y.toList == []) = false ∧ 200 < x.size + y.size)) : Calls Try.prog 4 #[.int .i64 k, .string x, .string y, .bool on] w (Yes w) := by
  have HK := Lib.hid (known8_yes w)
  rcases h with q | ⟨q1, q2⟩ | ⟨q1, q2, hl⟩
  · go_enter Try.func4, Try.ntmps4
    go_wp2_with fail
    refine HK.out.mono ?_
    rintro e w1 ⟨rfl, b1⟩
    go_wp2_with fail
    go_ret
    exact ⟨rfl, b1⟩
  · go_enter Try.func4, Try.ntmps4
    go_wp2_with fail
    refine HK.out.mono ?_
    rintro e w1 ⟨rfl, b1⟩
    go_wp2_with fail
    go_ret
    exact ⟨rfl, b1⟩
  · have hl2 : (200 : Int) < (x.size : Int) + (y.size : Int) := by omega
    go_enter Try.func4, Try.ntmps4
    go_wp2_with fail
    refine HK.out.mono ?_
    rintro e w1 ⟨rfl, b1⟩
    go_wp2_with fail
    go_ret
    exact ⟨rfl, b1⟩
set_option maxHeartbeats 4000000 in
set_option maxRecDepth 100000 in
theorem sf_1t (k : Int) (x y : ByteArray) (w : World) (h0 : -9223372036854775808 ≤ k) (h1 : k ≤ 9223372036854775807) (hk : Within k 3 = 0) (hx : x.size ≤ 140737488351232) (hy : y.size ≤ 140737488351232) (qx : (x.toList == []) = false) (qy : (y.toList == []) = false) (hlen : ¬ 200 < x.size + y.size) : Calls Try.prog 4 #[.int .i64 k, .string x, .string y, .bool true] w (Yes w) := by
  have HK := Lib.hid (known8_yes w)
  have hl2 : ¬ (200 : Int) < (x.size : Int) + (y.size : Int) := by omega
  obtain ⟨a, ha⟩ : ∃ a : List UInt8, x = ⟨a.toArray⟩ := ⟨x.data.toList, by simp⟩
  obtain ⟨b, hb⟩ : ∃ b : List UInt8, y = ⟨b.toArray⟩ := ⟨y.data.toList, by simp⟩
  have na : a ≠ [] := by rintro rfl; rw [ha, Lib.toList_data] at qx; cases qx
  have nb : b ≠ [] := by rintro rfl; rw [hb, Lib.toList_data] at qy; cases qy
  have la : a.length = x.size := by rw [ha]; show _ = a.toArray.size; simp
  have lb : b.length = y.size := by rw [hb]; show _ = b.toArray.size; simp
  have HN : Hid (∀ W, Calls Try.prog 13 #[] W (fun e w' => ∃ B, e = .returned (.pointer (some ⟨B, 0, none⟩)) ∧ SiteB W w' B Sf.S0 [] Sf.R0 false 1)) := Lib.hid fun W => bNew8 W
  have HWI : Hid (∀ W, Calls Try.prog 20 #[.int .i64 k, .int .i64 3] W (Gives (.int .i64 0) W)) := Lib.hid fun W => by
    have := within8 k 3 W h0 h1 (by decide) (by decide)
    rw [hk] at this
    exact this
  have HA0 : Hid (∀ W0 W M B, SiteK W0 W M B Sf.S0 [] Sf.R0 false 1 → Calls Try.prog 17 #[.pointer (some ⟨B, 0, none⟩), .int .i64 1, .string ⟨#[116, 97, 98, 108, 101]⟩, .slice none 0 0] W (fun e w' => e = .returned (.int .i64 1) ∧ StepK W0 W M B Sf.S1 [] Sf.R1 false 2 w')) := Lib.hid fun W0 W M B h => kAdd h (fun _ => False) 1 [116, 97, 98, 108, 101] [] _ (AttrsP.nil _ _ _ _) (by decide) (by decide) (by decide) (by decide) (by decide +kernel) (by decide) 9 (by decide +kernel)
  have HF : Hid (∀ W0 W B, SiteB W0 W B Sf.S1 [] Sf.R1 false 2 → Calls Try.prog 24 #[.pointer (some ⟨B, 0, none⟩), .bool true] W (fun e w' => e = .returned (.tuple #[]) ∧ SiteB W0 w' B Sf.S1 [] Sf.R1 true 2)) := Lib.hid fun W0 W B h => bFoster h true
  have HT1 : Hid (∀ W0 W B, SiteB W0 W B Sf.S1 [] Sf.R1 true 2 → Calls Try.prog 25 #[.pointer (some ⟨B, 0, none⟩), .string x] W (fun e w' => e = .returned (.tuple #[]) ∧ SiteB W0 w' B (Sf.x1t a) [] Sf.R1 true 2)) := by
    refine Lib.hid fun W0 W B h => ?_
    have := bType h a (by decide) (by decide) (by decide +kernel) (by decide +kernel) (by omega) (by decide +kernel) (Sf.w1t a na).2
    rw [(Sf.w1t a na).1, ← ha] at this
    exact this
  have HT2 : Hid (∀ W0 W B, SiteB W0 W B (Sf.x1t a) [] Sf.R1 true 2 → Calls Try.prog 25 #[.pointer (some ⟨B, 0, none⟩), .string y] W (fun e w' => e = .returned (.tuple #[]) ∧ SiteB W0 w' B (Sf.x1t (a ++ b)) [] Sf.R1 true 2)) := by
    refine Lib.hid fun W0 W B h => ?_
    have e : (Sf.x1t a).length = 3 := by kernel_rfl
    have := bType h b (by decide) (by decide) (by rw [e]; decide) (by rw [e]; decide) (by omega) (Sf.b1t a (by omega)) (Sf.v1t a b nb).2
    rw [(Sf.v1t a b nb).1, ← hb] at this
    exact this
  have HAB : Hid ((⟨(a ++ b).toArray⟩ : ByteArray) = x ++ y) := Lib.hid (by rw [ha, hb]; apply ByteArray.ext; simp [ByteArray.data_append])
  have HTR : Hid (∀ W D M, DocM M W D (Sf.x1t (a ++ b)) → (∀ b, M b → b < W.heap.size) → Calls Try.prog 26 #[.pointer (some ⟨D, 0, none⟩), .int .i64 0] W (fun e w' => ∃ g o c, e = .returned (.slice (some ⟨g, o, none⟩) 2 c) ∧ w'.cell? ⟨g, o + 4, none⟩ = some (.string (x ++ y)) ∧ w'.cell? ⟨g, o + 9, none⟩ = some (.string ⟨#[116, 97, 98, 108, 101]⟩) ∧ g < w'.heap.size ∧ Below W.heap.size W w' ∧ (∀ w3, Below w'.heap.size w' w3 → Calls Try.prog 27 #[.slice (some ⟨g, o, none⟩) 2 c] w3 (fun e w4 => ∃ p c2, e = .returned (.slice p 1 c2) ∧ Below w3.heap.size w3 w4)) ∧ ∀ w3, Below w'.heap.size w' w3 → Calls Try.prog 28 #[.slice (some ⟨g, o, none⟩) 2 c] w3 (Brings (.int .i64 1) w3))) := by
    refine Lib.hid fun W D M hd hM => ?_
    obtain ⟨t1, t2, t3, t4, t5⟩ := Sf.t1t (a ++ b)
    refine (dtreeP (Sf.x1t (a ++ b)) D M W 9 9 0 _ _ _ hd hM t1 t2 (by decide) (Sf.a1t _)).mono ?_
    rintro e w' ⟨v, rfl, hn, hb⟩
    replace hn : NodesP (fun b => W.heap.size ≤ b) w' v (foF (Sf.x1t (a ++ b)) [2, 1] [2, 2, 2] 3 0 2) := hn
    have hn2 := hn.mono (Q := fun b => b < w'.heap.size) (fun _ _ hb => hb)
    obtain ⟨p, cap, rfl, ht⟩ := hn
    obtain ⟨g, o, va, vk, rfl, hP, hg, h7, -, -, hrest⟩ := ht.head
    obtain ⟨g2, o2, va2, vk2, e2, -, -, h72, -, -, -⟩ := NodesTail.head hrest
    injection e2 with e2
    injection e2 with e2 e3
    subst e2 e3
    refine ⟨g, o, cap, rfl, by rw [← HAB.out]; exact h7.c4, h72.c2, hg, hb, fun w3 hb3 => ?_, fun w3 hb3 => ?_⟩
    · refine (rtextsP _ _ _ w3 (by rw [t4]; decide) (hn2.kept (.of_below hb3)) (fun b k => Nat.lt_of_lt_of_le k hb3.size)).mono ?_
      rintro e w4 ⟨v, rfl, hr⟩
      obtain ⟨p, c2, rfl⟩ := hr.form
      rw [t3]
      exact ⟨p, c2, rfl, hr.below⟩
    · have := rdeep_any _ _ _ w3 (by rw [t4]; decide) (hn2.kept (.of_below hb3))
      rw [t5] at this
      exact this
  clear la lb na nb ha hb h0 h1 hk hlen
  go_enter Try.func4, Try.ntmps4
  go_wp2_with fail
  refine HK.out.mono ?_
  rintro e w1 ⟨rfl, hb1⟩
  have HB1 := Lib.hid hb1
  clear hb1
  go_wp2_with fail
  refine (HN.out w1).mono ?_
  rintro e w2 ⟨B, rfl, hs2⟩
  obtain ⟨D, MD, hdoc, -, -⟩ := bDoc hs2
  have HD2 := Lib.hid hdoc
  have HS2 := Lib.hid hs2.k
  clear hs2 hdoc
  go_wp2_with fail
  refine HD2.out.mono ?_
  rintro e w2' ⟨rfl, rfl⟩
  go_wp2_with fail
  refine (HWI.out _).mono ?_
  rintro e w3 ⟨rfl, rfl⟩
  go_wp2_with fail
  change Code.wp Try.prog _ _ _ (allocs w2 [Sf.row])
  have HBA : Hid (Below w2.heap.size w2 (allocs w2 [Sf.row])) := Lib.hid (allocs_below w2 _)
  have HS3 := Lib.hid (HS2.out.on HBA.out)
  have HBN : Hid (Bes (fun b => w1.heap.size ≤ b ∧ b < w2.heap.size) (allocs w2 [Sf.row]) w2.heap.size Sf.row) := Lib.hid (Bes.made (fun _ k => k.2) 0 _ rfl)
  generalize allocs w2 [Sf.row] = w4 at *
  clear HBA HS2
  go_loopw [12] (fun v wr => ∃ (j : Nat) (M : Nat → Prop), j ≤ 1 ∧ v = .int .i64 (j : Int) ∧ SiteK w1 wr M B (Sf.S j) [] (Sf.R j) false (1 + j) ∧ Bes M wr w2.heap.size Sf.row) (fun v _ => 1 + 1 - (intOf v).toNat)
  case atStart => exact ⟨0, _, Nat.zero_le _, rfl, HS3.out, HBN.out⟩
  case round =>
    obtain ⟨j, M, hj, rfl, hs, hn⟩ := hrel
    clear HBN HS3
    have HSJ := Lib.hid hs
    have HBN := Lib.hid hn
    unfold Sf.row at HBN
    have n4 := heap_lt HBN.out.2
    have m0 := HBN.out.cell 0
    have m1 := HBN.out.cell 1
    have m2 := HBN.out.cell 2
    simp at m0 m1 m2
    clear hs
    obtain rfl | rfl : j = 0 ∨ j = 1 := by omega
    · have HC := Lib.hid (HA0.out w1 wr M B HSJ.out)
      clear hj
      go_wp2_with fail
      refine HC.out.mono ?_
      rintro e w5 ⟨rfl, M5, k5, ks5, kt5⟩
      have HK := Lib.hid k5
      have HN5 := Lib.hid (hn.step ks5 kt5)
      clear k5 ks5 kt5 hn
      go_wp2_with fail
      exact ⟨⟨1, M5, by omega, rfl, HK.out, HN5.out⟩, by simp [intOf]⟩
    · have HC := Lib.hid (HF.out w1 wr B HSJ.out.b)
      clear hj hn m0 m1 m2
      go_wp2_with fail
      refine HC.out.mono ?_
      rintro e w5 ⟨rfl, k5⟩
      have H5 := Lib.hid (HT1.out w1 w5 B k5)
      clear k5
      go_wp2_with fail
      refine H5.out.mono ?_
      rintro e w6 ⟨rfl, k6⟩
      have H6 := Lib.hid (HT2.out w1 w6 B k6)
      clear k6
      go_wp2_with fail
      refine H6.out.mono ?_
      rintro e w7 ⟨rfl, k7⟩
      obtain ⟨D7, M7, hdoc7, hd7, hm7⟩ := bDoc k7
      have HD7 := Lib.hid hdoc7
      have HTT := Lib.hid (HTR.out w7 D7 M7 hd7 hm7)
      have HB7 : Hid (Below w.heap.size w w7) := Lib.hid (HB1.out.trans (k7.below.mono HB1.out.size))
      clear k7 hdoc7 hd7 hm7
      go_wp2_with fail
      refine HD7.out.mono ?_
      rintro e w7' ⟨rfl, rfl⟩
      go_wp2_with fail
      refine HTT.out.mono ?_
      rintro e w8 ⟨g, o, c, rfl, c4, c9, hg, hb8, htx, -⟩
      have HB8 : Hid (Below w.heap.size w w8) := Lib.hid (HB7.out.trans (hb8.mono HB7.out.size))
      have HX := Lib.hid (htx w8 (Below.refl _ _))
      clear hb8 htx
      go_wp2_with fail
      refine HX.out.mono ?_
      rintro e w9 ⟨p, c2, rfl, hb9⟩
      have HB9 : Hid (Below w.heap.size w w9) := Lib.hid (HB8.out.trans (hb9.mono HB8.out.size))
      clear hb9
      go_wp2_with fail
      go_ret
      exact ⟨rfl, HB9.out⟩
set_option maxHeartbeats 4000000 in
set_option maxRecDepth 100000 in
theorem sf_1f (k : Int) (x y : ByteArray) (w : World) (h0 : -9223372036854775808 ≤ k) (h1 : k ≤ 9223372036854775807) (hk : Within k 3 = 0) (hx : x.size ≤ 140737488351232) (hy : y.size ≤ 140737488351232) (qx : (x.toList == []) = false) (qy : (y.toList == []) = false) (hlen : ¬ 200 < x.size + y.size) : Calls Try.prog 4 #[.int .i64 k, .string x, .string y, .bool false] w (Yes w) := by
  have HK := Lib.hid (known8_yes w)
  have hl2 : ¬ (200 : Int) < (x.size : Int) + (y.size : Int) := by omega
  obtain ⟨a, ha⟩ : ∃ a : List UInt8, x = ⟨a.toArray⟩ := ⟨x.data.toList, by simp⟩
  obtain ⟨b, hb⟩ : ∃ b : List UInt8, y = ⟨b.toArray⟩ := ⟨y.data.toList, by simp⟩
  have na : a ≠ [] := by rintro rfl; rw [ha, Lib.toList_data] at qx; cases qx
  have nb : b ≠ [] := by rintro rfl; rw [hb, Lib.toList_data] at qy; cases qy
  have la : a.length = x.size := by rw [ha]; show _ = a.toArray.size; simp
  have lb : b.length = y.size := by rw [hb]; show _ = b.toArray.size; simp
  have HN : Hid (∀ W, Calls Try.prog 13 #[] W (fun e w' => ∃ B, e = .returned (.pointer (some ⟨B, 0, none⟩)) ∧ SiteB W w' B Sf.S0 [] Sf.R0 false 1)) := Lib.hid fun W => bNew8 W
  have HWI : Hid (∀ W, Calls Try.prog 20 #[.int .i64 k, .int .i64 3] W (Gives (.int .i64 0) W)) := Lib.hid fun W => by
    have := within8 k 3 W h0 h1 (by decide) (by decide)
    rw [hk] at this
    exact this
  have HA0 : Hid (∀ W0 W M B, SiteK W0 W M B Sf.S0 [] Sf.R0 false 1 → Calls Try.prog 17 #[.pointer (some ⟨B, 0, none⟩), .int .i64 1, .string ⟨#[116, 97, 98, 108, 101]⟩, .slice none 0 0] W (fun e w' => e = .returned (.int .i64 1) ∧ StepK W0 W M B Sf.S1 [] Sf.R1 false 2 w')) := Lib.hid fun W0 W M B h => kAdd h (fun _ => False) 1 [116, 97, 98, 108, 101] [] _ (AttrsP.nil _ _ _ _) (by decide) (by decide) (by decide) (by decide) (by decide +kernel) (by decide) 9 (by decide +kernel)
  have HF : Hid (∀ W0 W B, SiteB W0 W B Sf.S1 [] Sf.R1 false 2 → Calls Try.prog 24 #[.pointer (some ⟨B, 0, none⟩), .bool false] W (fun e w' => e = .returned (.tuple #[]) ∧ SiteB W0 w' B Sf.S1 [] Sf.R1 false 2)) := Lib.hid fun W0 W B h => bFoster h false
  have HT1 : Hid (∀ W0 W B, SiteB W0 W B Sf.S1 [] Sf.R1 false 2 → Calls Try.prog 25 #[.pointer (some ⟨B, 0, none⟩), .string x] W (fun e w' => e = .returned (.tuple #[]) ∧ SiteB W0 w' B (Sf.x1f a) [] Sf.R1 false 2)) := by
    refine Lib.hid fun W0 W B h => ?_
    have := bType h a (by decide) (by decide) (by decide +kernel) (by decide +kernel) (by omega) (by decide +kernel) (Sf.w1f a na).2
    rw [(Sf.w1f a na).1, ← ha] at this
    exact this
  have HT2 : Hid (∀ W0 W B, SiteB W0 W B (Sf.x1f a) [] Sf.R1 false 2 → Calls Try.prog 25 #[.pointer (some ⟨B, 0, none⟩), .string y] W (fun e w' => e = .returned (.tuple #[]) ∧ SiteB W0 w' B (Sf.x1f (a ++ b)) [] Sf.R1 false 2)) := by
    refine Lib.hid fun W0 W B h => ?_
    have e : (Sf.x1f a).length = 3 := by kernel_rfl
    have := bType h b (by decide) (by decide) (by rw [e]; decide) (by rw [e]; decide) (by omega) (Sf.b1f a (by omega)) (Sf.v1f a b nb).2
    rw [(Sf.v1f a b nb).1, ← hb] at this
    exact this
  have HAB : Hid ((⟨(a ++ b).toArray⟩ : ByteArray) = x ++ y) := Lib.hid (by rw [ha, hb]; apply ByteArray.ext; simp [ByteArray.data_append])
  have HTR : Hid (∀ W D M, DocM M W D (Sf.x1f (a ++ b)) → (∀ b, M b → b < W.heap.size) → Calls Try.prog 26 #[.pointer (some ⟨D, 0, none⟩), .int .i64 0] W (fun e w' => ∃ g o c, e = .returned (.slice (some ⟨g, o, none⟩) 1 c) ∧ w'.cell? ⟨g, o + 2, none⟩ = some (.string ⟨#[116, 97, 98, 108, 101]⟩) ∧ g < w'.heap.size ∧ Below W.heap.size W w' ∧ (∀ w3, Below w'.heap.size w' w3 → Calls Try.prog 27 #[.slice (some ⟨g, o, none⟩) 1 c] w3 (fun e w4 => ∃ p c2, e = .returned (.slice p 1 c2) ∧ Below w3.heap.size w3 w4)) ∧ ∀ w3, Below w'.heap.size w' w3 → Calls Try.prog 28 #[.slice (some ⟨g, o, none⟩) 1 c] w3 (Brings (.int .i64 2) w3))) := by
    refine Lib.hid fun W D M hd hM => ?_
    obtain ⟨t1, t2, t3, t4, t5⟩ := Sf.t1f (a ++ b)
    refine (dtreeP (Sf.x1f (a ++ b)) D M W 9 9 0 _ _ _ hd hM t1 t2 (by decide) (Sf.a1f _)).mono ?_
    rintro e w' ⟨v, rfl, hn, hb⟩
    replace hn : NodesP (fun b => W.heap.size ≤ b) w' v (foF (Sf.x1f (a ++ b)) [1, 2] [1, 2, 2] 3 0 1) := hn
    have hn2 := hn.mono (Q := fun b => b < w'.heap.size) (fun _ _ hb => hb)
    obtain ⟨p, cap, rfl, ht⟩ := hn
    obtain ⟨g, o, va, vk, rfl, hP, hg, h7, -, -, hrest⟩ := ht.head
    refine ⟨g, o, cap, rfl, h7.c2, hg, hb, fun w3 hb3 => ?_, fun w3 hb3 => ?_⟩
    · refine (rtextsP _ _ _ w3 (by rw [t4]; decide) (hn2.kept (.of_below hb3)) (fun b k => Nat.lt_of_lt_of_le k hb3.size)).mono ?_
      rintro e w4 ⟨v, rfl, hr⟩
      obtain ⟨p, c2, rfl⟩ := hr.form
      rw [t3]
      exact ⟨p, c2, rfl, hr.below⟩
    · have := rdeep_any _ _ _ w3 (by rw [t4]; decide) (hn2.kept (.of_below hb3))
      rw [t5] at this
      exact this
  clear la lb na nb ha hb h0 h1 hk hlen
  go_enter Try.func4, Try.ntmps4
  go_wp2_with fail
  refine HK.out.mono ?_
  rintro e w1 ⟨rfl, hb1⟩
  have HB1 := Lib.hid hb1
  clear hb1
  go_wp2_with fail
  refine (HN.out w1).mono ?_
  rintro e w2 ⟨B, rfl, hs2⟩
  obtain ⟨D, MD, hdoc, -, -⟩ := bDoc hs2
  have HD2 := Lib.hid hdoc
  have HS2 := Lib.hid hs2.k
  clear hs2 hdoc
  go_wp2_with fail
  refine HD2.out.mono ?_
  rintro e w2' ⟨rfl, rfl⟩
  go_wp2_with fail
  refine (HWI.out _).mono ?_
  rintro e w3 ⟨rfl, rfl⟩
  go_wp2_with fail
  change Code.wp Try.prog _ _ _ (allocs w2 [Sf.row])
  have HBA : Hid (Below w2.heap.size w2 (allocs w2 [Sf.row])) := Lib.hid (allocs_below w2 _)
  have HS3 := Lib.hid (HS2.out.on HBA.out)
  have HBN : Hid (Bes (fun b => w1.heap.size ≤ b ∧ b < w2.heap.size) (allocs w2 [Sf.row]) w2.heap.size Sf.row) := Lib.hid (Bes.made (fun _ k => k.2) 0 _ rfl)
  generalize allocs w2 [Sf.row] = w4 at *
  clear HBA HS2
  go_loopw [12] (fun v wr => ∃ (j : Nat) (M : Nat → Prop), j ≤ 1 ∧ v = .int .i64 (j : Int) ∧ SiteK w1 wr M B (Sf.S j) [] (Sf.R j) false (1 + j) ∧ Bes M wr w2.heap.size Sf.row) (fun v _ => 1 + 1 - (intOf v).toNat)
  case atStart => exact ⟨0, _, Nat.zero_le _, rfl, HS3.out, HBN.out⟩
  case round =>
    obtain ⟨j, M, hj, rfl, hs, hn⟩ := hrel
    clear HBN HS3
    have HSJ := Lib.hid hs
    have HBN := Lib.hid hn
    unfold Sf.row at HBN
    have n4 := heap_lt HBN.out.2
    have m0 := HBN.out.cell 0
    have m1 := HBN.out.cell 1
    have m2 := HBN.out.cell 2
    simp at m0 m1 m2
    clear hs
    obtain rfl | rfl : j = 0 ∨ j = 1 := by omega
    · have HC := Lib.hid (HA0.out w1 wr M B HSJ.out)
      clear hj
      go_wp2_with fail
      refine HC.out.mono ?_
      rintro e w5 ⟨rfl, M5, k5, ks5, kt5⟩
      have HK := Lib.hid k5
      have HN5 := Lib.hid (hn.step ks5 kt5)
      clear k5 ks5 kt5 hn
      go_wp2_with fail
      exact ⟨⟨1, M5, by omega, rfl, HK.out, HN5.out⟩, by simp [intOf]⟩
    · have HC := Lib.hid (HF.out w1 wr B HSJ.out.b)
      clear hj hn m0 m1 m2
      go_wp2_with fail
      refine HC.out.mono ?_
      rintro e w5 ⟨rfl, k5⟩
      have H5 := Lib.hid (HT1.out w1 w5 B k5)
      clear k5
      go_wp2_with fail
      refine H5.out.mono ?_
      rintro e w6 ⟨rfl, k6⟩
      have H6 := Lib.hid (HT2.out w1 w6 B k6)
      clear k6
      go_wp2_with fail
      refine H6.out.mono ?_
      rintro e w7 ⟨rfl, k7⟩
      obtain ⟨D7, M7, hdoc7, hd7, hm7⟩ := bDoc k7
      have HD7 := Lib.hid hdoc7
      have HTT := Lib.hid (HTR.out w7 D7 M7 hd7 hm7)
      have HB7 : Hid (Below w.heap.size w w7) := Lib.hid (HB1.out.trans (k7.below.mono HB1.out.size))
      clear k7 hdoc7 hd7 hm7
      go_wp2_with fail
      refine HD7.out.mono ?_
      rintro e w7' ⟨rfl, rfl⟩
      go_wp2_with fail
      refine HTT.out.mono ?_
      rintro e w8 ⟨g, o, c, rfl, c2, hg, hb8, htx, hdp⟩
      have HB8 : Hid (Below w.heap.size w w8) := Lib.hid (HB7.out.trans (hb8.mono HB7.out.size))
      have HX := Lib.hid (htx w8 (Below.refl _ _))
      have HDP := Lib.hid hdp
      clear hb8 htx hdp
      go_wp2_with fail
      refine HX.out.mono ?_
      rintro e w9 ⟨p, cc, rfl, hb9⟩
      have HB9 : Hid (Below w.heap.size w w9) := Lib.hid (HB8.out.trans (hb9.mono HB8.out.size))
      have HY := Lib.hid (HDP.out w9 hb9)
      clear hb9
      go_wp2_with fail
      refine HY.out.mono ?_
      rintro e w10 ⟨rfl, hb10⟩
      have HB10 : Hid (Below w.heap.size w w10) := Lib.hid (HB9.out.trans (hb10.mono HB9.out.size))
      clear hb10
      go_wp2_with fail
      go_ret
      exact ⟨rfl, HB10.out⟩
set_option maxHeartbeats 4000000 in
set_option maxRecDepth 100000 in
theorem sf_2t (k : Int) (x y : ByteArray) (w : World) (h0 : -9223372036854775808 ≤ k) (h1 : k ≤ 9223372036854775807) (hk : Within k 3 = 1) (hx : x.size ≤ 140737488351232) (hy : y.size ≤ 140737488351232) (qx : (x.toList == []) = false) (qy : (y.toList == []) = false) (hlen : ¬ 200 < x.size + y.size) : Calls Try.prog 4 #[.int .i64 k, .string x, .string y, .bool true] w (Yes w) := by
  have HK := Lib.hid (known8_yes w)
  have hl2 : ¬ (200 : Int) < (x.size : Int) + (y.size : Int) := by omega
  obtain ⟨a, ha⟩ : ∃ a : List UInt8, x = ⟨a.toArray⟩ := ⟨x.data.toList, by simp⟩
  obtain ⟨b, hb⟩ : ∃ b : List UInt8, y = ⟨b.toArray⟩ := ⟨y.data.toList, by simp⟩
  have na : a ≠ [] := by rintro rfl; rw [ha, Lib.toList_data] at qx; cases qx
  have nb : b ≠ [] := by rintro rfl; rw [hb, Lib.toList_data] at qy; cases qy
  have la : a.length = x.size := by rw [ha]; show _ = a.toArray.size; simp
  have lb : b.length = y.size := by rw [hb]; show _ = b.toArray.size; simp
  have HN : Hid (∀ W, Calls Try.prog 13 #[] W (fun e w' => ∃ B, e = .returned (.pointer (some ⟨B, 0, none⟩)) ∧ SiteB W w' B Sf.S0 [] Sf.R0 false 1)) := Lib.hid fun W => bNew8 W
  have HWI : Hid (∀ W, Calls Try.prog 20 #[.int .i64 k, .int .i64 3] W (Gives (.int .i64 1) W)) := Lib.hid fun W => by
    have := within8 k 3 W h0 h1 (by decide) (by decide)
    rw [hk] at this
    exact this
  have HA0 : Hid (∀ W0 W M B, SiteK W0 W M B Sf.S0 [] Sf.R0 false 1 → Calls Try.prog 17 #[.pointer (some ⟨B, 0, none⟩), .int .i64 1, .string ⟨#[116, 97, 98, 108, 101]⟩, .slice none 0 0] W (fun e w' => e = .returned (.int .i64 1) ∧ StepK W0 W M B Sf.S1 [] Sf.R1 false 2 w')) := Lib.hid fun W0 W M B h => kAdd h (fun _ => False) 1 [116, 97, 98, 108, 101] [] _ (AttrsP.nil _ _ _ _) (by decide) (by decide) (by decide) (by decide) (by decide +kernel) (by decide) 9 (by decide +kernel)
  have HA1 : Hid (∀ W0 W M B, SiteK W0 W M B Sf.S1 [] Sf.R1 false 2 → Calls Try.prog 17 #[.pointer (some ⟨B, 0, none⟩), .int .i64 1, .string ⟨#[116, 98, 111, 100, 121]⟩, .slice none 0 0] W (fun e w' => e = .returned (.int .i64 2) ∧ StepK W0 W M B Sf.S2 [] Sf.R2 false 3 w')) := Lib.hid fun W0 W M B h => kAdd h (fun _ => False) 1 [116, 98, 111, 100, 121] [] _ (AttrsP.nil _ _ _ _) (by decide) (by decide) (by decide) (by decide) (by decide +kernel) (by decide) 9 (by decide +kernel)
  have HF : Hid (∀ W0 W B, SiteB W0 W B Sf.S2 [] Sf.R2 false 3 → Calls Try.prog 24 #[.pointer (some ⟨B, 0, none⟩), .bool true] W (fun e w' => e = .returned (.tuple #[]) ∧ SiteB W0 w' B Sf.S2 [] Sf.R2 true 3)) := Lib.hid fun W0 W B h => bFoster h true
  have HT1 : Hid (∀ W0 W B, SiteB W0 W B Sf.S2 [] Sf.R2 true 3 → Calls Try.prog 25 #[.pointer (some ⟨B, 0, none⟩), .string x] W (fun e w' => e = .returned (.tuple #[]) ∧ SiteB W0 w' B (Sf.x2t a) [] Sf.R2 true 3)) := by
    refine Lib.hid fun W0 W B h => ?_
    have := bType h a (by decide) (by decide) (by decide +kernel) (by decide +kernel) (by omega) (by decide +kernel) (Sf.w2t a na).2
    rw [(Sf.w2t a na).1, ← ha] at this
    exact this
  have HT2 : Hid (∀ W0 W B, SiteB W0 W B (Sf.x2t a) [] Sf.R2 true 3 → Calls Try.prog 25 #[.pointer (some ⟨B, 0, none⟩), .string y] W (fun e w' => e = .returned (.tuple #[]) ∧ SiteB W0 w' B (Sf.x2t (a ++ b)) [] Sf.R2 true 3)) := by
    refine Lib.hid fun W0 W B h => ?_
    have e : (Sf.x2t a).length = 4 := by kernel_rfl
    have := bType h b (by decide) (by decide) (by rw [e]; decide) (by rw [e]; decide) (by omega) (Sf.b2t a (by omega)) (Sf.v2t a b nb).2
    rw [(Sf.v2t a b nb).1, ← hb] at this
    exact this
  have HAB : Hid ((⟨(a ++ b).toArray⟩ : ByteArray) = x ++ y) := Lib.hid (by rw [ha, hb]; apply ByteArray.ext; simp [ByteArray.data_append])
  have HTR : Hid (∀ W D M, DocM M W D (Sf.x2t (a ++ b)) → (∀ b, M b → b < W.heap.size) → Calls Try.prog 26 #[.pointer (some ⟨D, 0, none⟩), .int .i64 0] W (fun e w' => ∃ g o c, e = .returned (.slice (some ⟨g, o, none⟩) 2 c) ∧ w'.cell? ⟨g, o + 4, none⟩ = some (.string (x ++ y)) ∧ w'.cell? ⟨g, o + 9, none⟩ = some (.string ⟨#[116, 97, 98, 108, 101]⟩) ∧ g < w'.heap.size ∧ Below W.heap.size W w' ∧ (∀ w3, Below w'.heap.size w' w3 → Calls Try.prog 27 #[.slice (some ⟨g, o, none⟩) 2 c] w3 (fun e w4 => ∃ p c2, e = .returned (.slice p 1 c2) ∧ Below w3.heap.size w3 w4)) ∧ ∀ w3, Below w'.heap.size w' w3 → Calls Try.prog 28 #[.slice (some ⟨g, o, none⟩) 2 c] w3 (Brings (.int .i64 2) w3))) := by
    refine Lib.hid fun W D M hd hM => ?_
    obtain ⟨t1, t2, t3, t4, t5⟩ := Sf.t2t (a ++ b)
    refine (dtreeP (Sf.x2t (a ++ b)) D M W 9 9 0 _ _ _ hd hM t1 t2 (by decide) (Sf.a2t _)).mono ?_
    rintro e w' ⟨v, rfl, hn, hb⟩
    replace hn : NodesP (fun b => W.heap.size ≤ b) w' v (foF (Sf.x2t (a ++ b)) [3, 1, 2] [2, 2, 3, 3] 4 0 2) := hn
    have hn2 := hn.mono (Q := fun b => b < w'.heap.size) (fun _ _ hb => hb)
    obtain ⟨p, cap, rfl, ht⟩ := hn
    obtain ⟨g, o, va, vk, rfl, hP, hg, h7, -, -, hrest⟩ := ht.head
    obtain ⟨g2, o2, va2, vk2, e2, -, -, h72, -, -, -⟩ := NodesTail.head hrest
    injection e2 with e2
    injection e2 with e2 e3
    subst e2 e3
    refine ⟨g, o, cap, rfl, by rw [← HAB.out]; exact h7.c4, h72.c2, hg, hb, fun w3 hb3 => ?_, fun w3 hb3 => ?_⟩
    · refine (rtextsP _ _ _ w3 (by rw [t4]; decide) (hn2.kept (.of_below hb3)) (fun b k => Nat.lt_of_lt_of_le k hb3.size)).mono ?_
      rintro e w4 ⟨v, rfl, hr⟩
      obtain ⟨p, c2, rfl⟩ := hr.form
      rw [t3]
      exact ⟨p, c2, rfl, hr.below⟩
    · have := rdeep_any _ _ _ w3 (by rw [t4]; decide) (hn2.kept (.of_below hb3))
      rw [t5] at this
      exact this
  clear la lb na nb ha hb h0 h1 hk hlen
  go_enter Try.func4, Try.ntmps4
  go_wp2_with fail
  refine HK.out.mono ?_
  rintro e w1 ⟨rfl, hb1⟩
  have HB1 := Lib.hid hb1
  clear hb1
  go_wp2_with fail
  refine (HN.out w1).mono ?_
  rintro e w2 ⟨B, rfl, hs2⟩
  obtain ⟨D, MD, hdoc, -, -⟩ := bDoc hs2
  have HD2 := Lib.hid hdoc
  have HS2 := Lib.hid hs2.k
  clear hs2 hdoc
  go_wp2_with fail
  refine HD2.out.mono ?_
  rintro e w2' ⟨rfl, rfl⟩
  go_wp2_with fail
  refine (HWI.out _).mono ?_
  rintro e w3 ⟨rfl, rfl⟩
  go_wp2_with fail
  change Code.wp Try.prog _ _ _ (allocs w2 [Sf.row])
  have HBA : Hid (Below w2.heap.size w2 (allocs w2 [Sf.row])) := Lib.hid (allocs_below w2 _)
  have HS3 := Lib.hid (HS2.out.on HBA.out)
  have HBN : Hid (Bes (fun b => w1.heap.size ≤ b ∧ b < w2.heap.size) (allocs w2 [Sf.row]) w2.heap.size Sf.row) := Lib.hid (Bes.made (fun _ k => k.2) 0 _ rfl)
  generalize allocs w2 [Sf.row] = w4 at *
  clear HBA HS2
  go_loopw [12] (fun v wr => ∃ (j : Nat) (M : Nat → Prop), j ≤ 2 ∧ v = .int .i64 (j : Int) ∧ SiteK w1 wr M B (Sf.S j) [] (Sf.R j) false (1 + j) ∧ Bes M wr w2.heap.size Sf.row) (fun v _ => 2 + 1 - (intOf v).toNat)
  case atStart => exact ⟨0, _, Nat.zero_le _, rfl, HS3.out, HBN.out⟩
  case round =>
    obtain ⟨j, M, hj, rfl, hs, hn⟩ := hrel
    clear HBN HS3
    have HSJ := Lib.hid hs
    have HBN := Lib.hid hn
    unfold Sf.row at HBN
    have n4 := heap_lt HBN.out.2
    have m0 := HBN.out.cell 0
    have m1 := HBN.out.cell 1
    have m2 := HBN.out.cell 2
    simp at m0 m1 m2
    clear hs
    obtain rfl | rfl | rfl : j = 0 ∨ j = 1 ∨ j = 2 := by omega
    · have HC := Lib.hid (HA0.out w1 wr M B HSJ.out)
      clear hj
      go_wp2_with fail
      refine HC.out.mono ?_
      rintro e w5 ⟨rfl, M5, k5, ks5, kt5⟩
      have HK := Lib.hid k5
      have HN5 := Lib.hid (hn.step ks5 kt5)
      clear k5 ks5 kt5 hn
      go_wp2_with fail
      exact ⟨⟨1, M5, by omega, rfl, HK.out, HN5.out⟩, by simp [intOf]⟩
    · have HC := Lib.hid (HA1.out w1 wr M B HSJ.out)
      clear hj
      go_wp2_with fail
      refine HC.out.mono ?_
      rintro e w5 ⟨rfl, M5, k5, ks5, kt5⟩
      have HK := Lib.hid k5
      have HN5 := Lib.hid (hn.step ks5 kt5)
      clear k5 ks5 kt5 hn
      go_wp2_with fail
      exact ⟨⟨2, M5, by omega, rfl, HK.out, HN5.out⟩, by simp [intOf]⟩
    · have HC := Lib.hid (HF.out w1 wr B HSJ.out.b)
      clear hj hn m0 m1 m2
      go_wp2_with fail
      refine HC.out.mono ?_
      rintro e w5 ⟨rfl, k5⟩
      have H5 := Lib.hid (HT1.out w1 w5 B k5)
      clear k5
      go_wp2_with fail
      refine H5.out.mono ?_
      rintro e w6 ⟨rfl, k6⟩
      have H6 := Lib.hid (HT2.out w1 w6 B k6)
      clear k6
      go_wp2_with fail
      refine H6.out.mono ?_
      rintro e w7 ⟨rfl, k7⟩
      obtain ⟨D7, M7, hdoc7, hd7, hm7⟩ := bDoc k7
      have HD7 := Lib.hid hdoc7
      have HTT := Lib.hid (HTR.out w7 D7 M7 hd7 hm7)
      have HB7 : Hid (Below w.heap.size w w7) := Lib.hid (HB1.out.trans (k7.below.mono HB1.out.size))
      clear k7 hdoc7 hd7 hm7
      go_wp2_with fail
      refine HD7.out.mono ?_
      rintro e w7' ⟨rfl, rfl⟩
      go_wp2_with fail
      refine HTT.out.mono ?_
      rintro e w8 ⟨g, o, c, rfl, c4, c9, hg, hb8, htx, -⟩
      have HB8 : Hid (Below w.heap.size w w8) := Lib.hid (HB7.out.trans (hb8.mono HB7.out.size))
      have HX := Lib.hid (htx w8 (Below.refl _ _))
      clear hb8 htx
      go_wp2_with fail
      refine HX.out.mono ?_
      rintro e w9 ⟨p, c2, rfl, hb9⟩
      have HB9 : Hid (Below w.heap.size w w9) := Lib.hid (HB8.out.trans (hb9.mono HB8.out.size))
      clear hb9
      go_wp2_with fail
      go_ret
      exact ⟨rfl, HB9.out⟩
set_option maxHeartbeats 4000000 in
set_option maxRecDepth 100000 in
theorem sf_2f (k : Int) (x y : ByteArray) (w : World) (h0 : -9223372036854775808 ≤ k) (h1 : k ≤ 9223372036854775807) (hk : Within k 3 = 1) (hx : x.size ≤ 140737488351232) (hy : y.size ≤ 140737488351232) (qx : (x.toList == []) = false) (qy : (y.toList == []) = false) (hlen : ¬ 200 < x.size + y.size) : Calls Try.prog 4 #[.int .i64 k, .string x, .string y, .bool false] w (Yes w) := by
  have HK := Lib.hid (known8_yes w)
  have hl2 : ¬ (200 : Int) < (x.size : Int) + (y.size : Int) := by omega
  obtain ⟨a, ha⟩ : ∃ a : List UInt8, x = ⟨a.toArray⟩ := ⟨x.data.toList, by simp⟩
  obtain ⟨b, hb⟩ : ∃ b : List UInt8, y = ⟨b.toArray⟩ := ⟨y.data.toList, by simp⟩
  have na : a ≠ [] := by rintro rfl; rw [ha, Lib.toList_data] at qx; cases qx
  have nb : b ≠ [] := by rintro rfl; rw [hb, Lib.toList_data] at qy; cases qy
  have la : a.length = x.size := by rw [ha]; show _ = a.toArray.size; simp
  have lb : b.length = y.size := by rw [hb]; show _ = b.toArray.size; simp
  have HN : Hid (∀ W, Calls Try.prog 13 #[] W (fun e w' => ∃ B, e = .returned (.pointer (some ⟨B, 0, none⟩)) ∧ SiteB W w' B Sf.S0 [] Sf.R0 false 1)) := Lib.hid fun W => bNew8 W
  have HWI : Hid (∀ W, Calls Try.prog 20 #[.int .i64 k, .int .i64 3] W (Gives (.int .i64 1) W)) := Lib.hid fun W => by
    have := within8 k 3 W h0 h1 (by decide) (by decide)
    rw [hk] at this
    exact this
  have HA0 : Hid (∀ W0 W M B, SiteK W0 W M B Sf.S0 [] Sf.R0 false 1 → Calls Try.prog 17 #[.pointer (some ⟨B, 0, none⟩), .int .i64 1, .string ⟨#[116, 97, 98, 108, 101]⟩, .slice none 0 0] W (fun e w' => e = .returned (.int .i64 1) ∧ StepK W0 W M B Sf.S1 [] Sf.R1 false 2 w')) := Lib.hid fun W0 W M B h => kAdd h (fun _ => False) 1 [116, 97, 98, 108, 101] [] _ (AttrsP.nil _ _ _ _) (by decide) (by decide) (by decide) (by decide) (by decide +kernel) (by decide) 9 (by decide +kernel)
  have HA1 : Hid (∀ W0 W M B, SiteK W0 W M B Sf.S1 [] Sf.R1 false 2 → Calls Try.prog 17 #[.pointer (some ⟨B, 0, none⟩), .int .i64 1, .string ⟨#[116, 98, 111, 100, 121]⟩, .slice none 0 0] W (fun e w' => e = .returned (.int .i64 2) ∧ StepK W0 W M B Sf.S2 [] Sf.R2 false 3 w')) := Lib.hid fun W0 W M B h => kAdd h (fun _ => False) 1 [116, 98, 111, 100, 121] [] _ (AttrsP.nil _ _ _ _) (by decide) (by decide) (by decide) (by decide) (by decide +kernel) (by decide) 9 (by decide +kernel)
  have HF : Hid (∀ W0 W B, SiteB W0 W B Sf.S2 [] Sf.R2 false 3 → Calls Try.prog 24 #[.pointer (some ⟨B, 0, none⟩), .bool false] W (fun e w' => e = .returned (.tuple #[]) ∧ SiteB W0 w' B Sf.S2 [] Sf.R2 false 3)) := Lib.hid fun W0 W B h => bFoster h false
  have HT1 : Hid (∀ W0 W B, SiteB W0 W B Sf.S2 [] Sf.R2 false 3 → Calls Try.prog 25 #[.pointer (some ⟨B, 0, none⟩), .string x] W (fun e w' => e = .returned (.tuple #[]) ∧ SiteB W0 w' B (Sf.x2f a) [] Sf.R2 false 3)) := by
    refine Lib.hid fun W0 W B h => ?_
    have := bType h a (by decide) (by decide) (by decide +kernel) (by decide +kernel) (by omega) (by decide +kernel) (Sf.w2f a na).2
    rw [(Sf.w2f a na).1, ← ha] at this
    exact this
  have HT2 : Hid (∀ W0 W B, SiteB W0 W B (Sf.x2f a) [] Sf.R2 false 3 → Calls Try.prog 25 #[.pointer (some ⟨B, 0, none⟩), .string y] W (fun e w' => e = .returned (.tuple #[]) ∧ SiteB W0 w' B (Sf.x2f (a ++ b)) [] Sf.R2 false 3)) := by
    refine Lib.hid fun W0 W B h => ?_
    have e : (Sf.x2f a).length = 4 := by kernel_rfl
    have := bType h b (by decide) (by decide) (by rw [e]; decide) (by rw [e]; decide) (by omega) (Sf.b2f a (by omega)) (Sf.v2f a b nb).2
    rw [(Sf.v2f a b nb).1, ← hb] at this
    exact this
  have HAB : Hid ((⟨(a ++ b).toArray⟩ : ByteArray) = x ++ y) := Lib.hid (by rw [ha, hb]; apply ByteArray.ext; simp [ByteArray.data_append])
  have HTR : Hid (∀ W D M, DocM M W D (Sf.x2f (a ++ b)) → (∀ b, M b → b < W.heap.size) → Calls Try.prog 26 #[.pointer (some ⟨D, 0, none⟩), .int .i64 0] W (fun e w' => ∃ g o c, e = .returned (.slice (some ⟨g, o, none⟩) 1 c) ∧ w'.cell? ⟨g, o + 2, none⟩ = some (.string ⟨#[116, 97, 98, 108, 101]⟩) ∧ g < w'.heap.size ∧ Below W.heap.size W w' ∧ (∀ w3, Below w'.heap.size w' w3 → Calls Try.prog 27 #[.slice (some ⟨g, o, none⟩) 1 c] w3 (fun e w4 => ∃ p c2, e = .returned (.slice p 1 c2) ∧ Below w3.heap.size w3 w4)) ∧ ∀ w3, Below w'.heap.size w' w3 → Calls Try.prog 28 #[.slice (some ⟨g, o, none⟩) 1 c] w3 (Brings (.int .i64 3) w3))) := by
    refine Lib.hid fun W D M hd hM => ?_
    obtain ⟨t1, t2, t3, t4, t5⟩ := Sf.t2f (a ++ b)
    refine (dtreeP (Sf.x2f (a ++ b)) D M W 9 9 0 _ _ _ hd hM t1 t2 (by decide) (Sf.a2f _)).mono ?_
    rintro e w' ⟨v, rfl, hn, hb⟩
    replace hn : NodesP (fun b => W.heap.size ≤ b) w' v (foF (Sf.x2f (a ++ b)) [1, 2, 3] [1, 2, 3, 3] 4 0 1) := hn
    have hn2 := hn.mono (Q := fun b => b < w'.heap.size) (fun _ _ hb => hb)
    obtain ⟨p, cap, rfl, ht⟩ := hn
    obtain ⟨g, o, va, vk, rfl, hP, hg, h7, -, -, hrest⟩ := ht.head
    refine ⟨g, o, cap, rfl, h7.c2, hg, hb, fun w3 hb3 => ?_, fun w3 hb3 => ?_⟩
    · refine (rtextsP _ _ _ w3 (by rw [t4]; decide) (hn2.kept (.of_below hb3)) (fun b k => Nat.lt_of_lt_of_le k hb3.size)).mono ?_
      rintro e w4 ⟨v, rfl, hr⟩
      obtain ⟨p, c2, rfl⟩ := hr.form
      rw [t3]
      exact ⟨p, c2, rfl, hr.below⟩
    · have := rdeep_any _ _ _ w3 (by rw [t4]; decide) (hn2.kept (.of_below hb3))
      rw [t5] at this
      exact this
  clear la lb na nb ha hb h0 h1 hk hlen
  go_enter Try.func4, Try.ntmps4
  go_wp2_with fail
  refine HK.out.mono ?_
  rintro e w1 ⟨rfl, hb1⟩
  have HB1 := Lib.hid hb1
  clear hb1
  go_wp2_with fail
  refine (HN.out w1).mono ?_
  rintro e w2 ⟨B, rfl, hs2⟩
  obtain ⟨D, MD, hdoc, -, -⟩ := bDoc hs2
  have HD2 := Lib.hid hdoc
  have HS2 := Lib.hid hs2.k
  clear hs2 hdoc
  go_wp2_with fail
  refine HD2.out.mono ?_
  rintro e w2' ⟨rfl, rfl⟩
  go_wp2_with fail
  refine (HWI.out _).mono ?_
  rintro e w3 ⟨rfl, rfl⟩
  go_wp2_with fail
  change Code.wp Try.prog _ _ _ (allocs w2 [Sf.row])
  have HBA : Hid (Below w2.heap.size w2 (allocs w2 [Sf.row])) := Lib.hid (allocs_below w2 _)
  have HS3 := Lib.hid (HS2.out.on HBA.out)
  have HBN : Hid (Bes (fun b => w1.heap.size ≤ b ∧ b < w2.heap.size) (allocs w2 [Sf.row]) w2.heap.size Sf.row) := Lib.hid (Bes.made (fun _ k => k.2) 0 _ rfl)
  generalize allocs w2 [Sf.row] = w4 at *
  clear HBA HS2
  go_loopw [12] (fun v wr => ∃ (j : Nat) (M : Nat → Prop), j ≤ 2 ∧ v = .int .i64 (j : Int) ∧ SiteK w1 wr M B (Sf.S j) [] (Sf.R j) false (1 + j) ∧ Bes M wr w2.heap.size Sf.row) (fun v _ => 2 + 1 - (intOf v).toNat)
  case atStart => exact ⟨0, _, Nat.zero_le _, rfl, HS3.out, HBN.out⟩
  case round =>
    obtain ⟨j, M, hj, rfl, hs, hn⟩ := hrel
    clear HBN HS3
    have HSJ := Lib.hid hs
    have HBN := Lib.hid hn
    unfold Sf.row at HBN
    have n4 := heap_lt HBN.out.2
    have m0 := HBN.out.cell 0
    have m1 := HBN.out.cell 1
    have m2 := HBN.out.cell 2
    simp at m0 m1 m2
    clear hs
    obtain rfl | rfl | rfl : j = 0 ∨ j = 1 ∨ j = 2 := by omega
    · have HC := Lib.hid (HA0.out w1 wr M B HSJ.out)
      clear hj
      go_wp2_with fail
      refine HC.out.mono ?_
      rintro e w5 ⟨rfl, M5, k5, ks5, kt5⟩
      have HK := Lib.hid k5
      have HN5 := Lib.hid (hn.step ks5 kt5)
      clear k5 ks5 kt5 hn
      go_wp2_with fail
      exact ⟨⟨1, M5, by omega, rfl, HK.out, HN5.out⟩, by simp [intOf]⟩
    · have HC := Lib.hid (HA1.out w1 wr M B HSJ.out)
      clear hj
      go_wp2_with fail
      refine HC.out.mono ?_
      rintro e w5 ⟨rfl, M5, k5, ks5, kt5⟩
      have HK := Lib.hid k5
      have HN5 := Lib.hid (hn.step ks5 kt5)
      clear k5 ks5 kt5 hn
      go_wp2_with fail
      exact ⟨⟨2, M5, by omega, rfl, HK.out, HN5.out⟩, by simp [intOf]⟩
    · have HC := Lib.hid (HF.out w1 wr B HSJ.out.b)
      clear hj hn m0 m1 m2
      go_wp2_with fail
      refine HC.out.mono ?_
      rintro e w5 ⟨rfl, k5⟩
      have H5 := Lib.hid (HT1.out w1 w5 B k5)
      clear k5
      go_wp2_with fail
      refine H5.out.mono ?_
      rintro e w6 ⟨rfl, k6⟩
      have H6 := Lib.hid (HT2.out w1 w6 B k6)
      clear k6
      go_wp2_with fail
      refine H6.out.mono ?_
      rintro e w7 ⟨rfl, k7⟩
      obtain ⟨D7, M7, hdoc7, hd7, hm7⟩ := bDoc k7
      have HD7 := Lib.hid hdoc7
      have HTT := Lib.hid (HTR.out w7 D7 M7 hd7 hm7)
      have HB7 : Hid (Below w.heap.size w w7) := Lib.hid (HB1.out.trans (k7.below.mono HB1.out.size))
      clear k7 hdoc7 hd7 hm7
      go_wp2_with fail
      refine HD7.out.mono ?_
      rintro e w7' ⟨rfl, rfl⟩
      go_wp2_with fail
      refine HTT.out.mono ?_
      rintro e w8 ⟨g, o, c, rfl, c2, hg, hb8, htx, hdp⟩
      have HB8 : Hid (Below w.heap.size w w8) := Lib.hid (HB7.out.trans (hb8.mono HB7.out.size))
      have HX := Lib.hid (htx w8 (Below.refl _ _))
      have HDP := Lib.hid hdp
      clear hb8 htx hdp
      go_wp2_with fail
      refine HX.out.mono ?_
      rintro e w9 ⟨p, cc, rfl, hb9⟩
      have HB9 : Hid (Below w.heap.size w w9) := Lib.hid (HB8.out.trans (hb9.mono HB8.out.size))
      have HY := Lib.hid (HDP.out w9 hb9)
      clear hb9
      go_wp2_with fail
      refine HY.out.mono ?_
      rintro e w10 ⟨rfl, hb10⟩
      have HB10 : Hid (Below w.heap.size w w10) := Lib.hid (HB9.out.trans (hb10.mono HB9.out.size))
      clear hb10
      go_wp2_with fail
      go_ret
      exact ⟨rfl, HB10.out⟩
set_option maxHeartbeats 4000000 in
set_option maxRecDepth 100000 in
theorem sf_3t (k : Int) (x y : ByteArray) (w : World) (h0 : -9223372036854775808 ≤ k) (h1 : k ≤ 9223372036854775807) (hk : Within k 3 = 2) (hx : x.size ≤ 140737488351232) (hy : y.size ≤ 140737488351232) (qx : (x.toList == []) = false) (qy : (y.toList == []) = false) (hlen : ¬ 200 < x.size + y.size) : Calls Try.prog 4 #[.int .i64 k, .string x, .string y, .bool true] w (Yes w) := by
  have HK := Lib.hid (known8_yes w)
  have hl2 : ¬ (200 : Int) < (x.size : Int) + (y.size : Int) := by omega
  obtain ⟨a, ha⟩ : ∃ a : List UInt8, x = ⟨a.toArray⟩ := ⟨x.data.toList, by simp⟩
  obtain ⟨b, hb⟩ : ∃ b : List UInt8, y = ⟨b.toArray⟩ := ⟨y.data.toList, by simp⟩
  have na : a ≠ [] := by rintro rfl; rw [ha, Lib.toList_data] at qx; cases qx
  have nb : b ≠ [] := by rintro rfl; rw [hb, Lib.toList_data] at qy; cases qy
  have la : a.length = x.size := by rw [ha]; show _ = a.toArray.size; simp
  have lb : b.length = y.size := by rw [hb]; show _ = b.toArray.size; simp
  have HN : Hid (∀ W, Calls Try.prog 13 #[] W (fun e w' => ∃ B, e = .returned (.pointer (some ⟨B, 0, none⟩)) ∧ SiteB W w' B Sf.S0 [] Sf.R0 false 1)) := Lib.hid fun W => bNew8 W
  have HWI : Hid (∀ W, Calls Try.prog 20 #[.int .i64 k, .int .i64 3] W (Gives (.int .i64 2) W)) := Lib.hid fun W => by
    have := within8 k 3 W h0 h1 (by decide) (by decide)
    rw [hk] at this
    exact this
  have HA0 : Hid (∀ W0 W M B, SiteK W0 W M B Sf.S0 [] Sf.R0 false 1 → Calls Try.prog 17 #[.pointer (some ⟨B, 0, none⟩), .int .i64 1, .string ⟨#[116, 97, 98, 108, 101]⟩, .slice none 0 0] W (fun e w' => e = .returned (.int .i64 1) ∧ StepK W0 W M B Sf.S1 [] Sf.R1 false 2 w')) := Lib.hid fun W0 W M B h => kAdd h (fun _ => False) 1 [116, 97, 98, 108, 101] [] _ (AttrsP.nil _ _ _ _) (by decide) (by decide) (by decide) (by decide) (by decide +kernel) (by decide) 9 (by decide +kernel)
  have HA1 : Hid (∀ W0 W M B, SiteK W0 W M B Sf.S1 [] Sf.R1 false 2 → Calls Try.prog 17 #[.pointer (some ⟨B, 0, none⟩), .int .i64 1, .string ⟨#[116, 98, 111, 100, 121]⟩, .slice none 0 0] W (fun e w' => e = .returned (.int .i64 2) ∧ StepK W0 W M B Sf.S2 [] Sf.R2 false 3 w')) := Lib.hid fun W0 W M B h => kAdd h (fun _ => False) 1 [116, 98, 111, 100, 121] [] _ (AttrsP.nil _ _ _ _) (by decide) (by decide) (by decide) (by decide) (by decide +kernel) (by decide) 9 (by decide +kernel)
  have HA2 : Hid (∀ W0 W M B, SiteK W0 W M B Sf.S2 [] Sf.R2 false 3 → Calls Try.prog 17 #[.pointer (some ⟨B, 0, none⟩), .int .i64 1, .string ⟨#[116, 114]⟩, .slice none 0 0] W (fun e w' => e = .returned (.int .i64 3) ∧ StepK W0 W M B Sf.S3 [] Sf.R3 false 4 w')) := Lib.hid fun W0 W M B h => kAdd h (fun _ => False) 1 [116, 114] [] _ (AttrsP.nil _ _ _ _) (by decide) (by decide) (by decide) (by decide) (by decide +kernel) (by decide) 9 (by decide +kernel)
  have HF : Hid (∀ W0 W B, SiteB W0 W B Sf.S3 [] Sf.R3 false 4 → Calls Try.prog 24 #[.pointer (some ⟨B, 0, none⟩), .bool true] W (fun e w' => e = .returned (.tuple #[]) ∧ SiteB W0 w' B Sf.S3 [] Sf.R3 true 4)) := Lib.hid fun W0 W B h => bFoster h true
  have HT1 : Hid (∀ W0 W B, SiteB W0 W B Sf.S3 [] Sf.R3 true 4 → Calls Try.prog 25 #[.pointer (some ⟨B, 0, none⟩), .string x] W (fun e w' => e = .returned (.tuple #[]) ∧ SiteB W0 w' B (Sf.x3t a) [] Sf.R3 true 4)) := by
    refine Lib.hid fun W0 W B h => ?_
    have := bType h a (by decide) (by decide) (by decide +kernel) (by decide +kernel) (by omega) (by decide +kernel) (Sf.w3t a na).2
    rw [(Sf.w3t a na).1, ← ha] at this
    exact this
  have HT2 : Hid (∀ W0 W B, SiteB W0 W B (Sf.x3t a) [] Sf.R3 true 4 → Calls Try.prog 25 #[.pointer (some ⟨B, 0, none⟩), .string y] W (fun e w' => e = .returned (.tuple #[]) ∧ SiteB W0 w' B (Sf.x3t (a ++ b)) [] Sf.R3 true 4)) := by
    refine Lib.hid fun W0 W B h => ?_
    have e : (Sf.x3t a).length = 5 := by kernel_rfl
    have := bType h b (by decide) (by decide) (by rw [e]; decide) (by rw [e]; decide) (by omega) (Sf.b3t a (by omega)) (Sf.v3t a b nb).2
    rw [(Sf.v3t a b nb).1, ← hb] at this
    exact this
  have HAB : Hid ((⟨(a ++ b).toArray⟩ : ByteArray) = x ++ y) := Lib.hid (by rw [ha, hb]; apply ByteArray.ext; simp [ByteArray.data_append])
  have HTR : Hid (∀ W D M, DocM M W D (Sf.x3t (a ++ b)) → (∀ b, M b → b < W.heap.size) → Calls Try.prog 26 #[.pointer (some ⟨D, 0, none⟩), .int .i64 0] W (fun e w' => ∃ g o c, e = .returned (.slice (some ⟨g, o, none⟩) 2 c) ∧ w'.cell? ⟨g, o + 4, none⟩ = some (.string (x ++ y)) ∧ w'.cell? ⟨g, o + 9, none⟩ = some (.string ⟨#[116, 97, 98, 108, 101]⟩) ∧ g < w'.heap.size ∧ Below W.heap.size W w' ∧ (∀ w3, Below w'.heap.size w' w3 → Calls Try.prog 27 #[.slice (some ⟨g, o, none⟩) 2 c] w3 (fun e w4 => ∃ p c2, e = .returned (.slice p 1 c2) ∧ Below w3.heap.size w3 w4)) ∧ ∀ w3, Below w'.heap.size w' w3 → Calls Try.prog 28 #[.slice (some ⟨g, o, none⟩) 2 c] w3 (Brings (.int .i64 3) w3))) := by
    refine Lib.hid fun W D M hd hM => ?_
    obtain ⟨t1, t2, t3, t4, t5⟩ := Sf.t3t (a ++ b)
    refine (dtreeP (Sf.x3t (a ++ b)) D M W 9 9 0 _ _ _ hd hM t1 t2 (by decide) (Sf.a3t _)).mono ?_
    rintro e w' ⟨v, rfl, hn, hb⟩
    replace hn : NodesP (fun b => W.heap.size ≤ b) w' v (foF (Sf.x3t (a ++ b)) [4, 1, 2, 3] [2, 2, 3, 4, 4] 5 0 2) := hn
    have hn2 := hn.mono (Q := fun b => b < w'.heap.size) (fun _ _ hb => hb)
    obtain ⟨p, cap, rfl, ht⟩ := hn
    obtain ⟨g, o, va, vk, rfl, hP, hg, h7, -, -, hrest⟩ := ht.head
    obtain ⟨g2, o2, va2, vk2, e2, -, -, h72, -, -, -⟩ := NodesTail.head hrest
    injection e2 with e2
    injection e2 with e2 e3
    subst e2 e3
    refine ⟨g, o, cap, rfl, by rw [← HAB.out]; exact h7.c4, h72.c2, hg, hb, fun w3 hb3 => ?_, fun w3 hb3 => ?_⟩
    · refine (rtextsP _ _ _ w3 (by rw [t4]; decide) (hn2.kept (.of_below hb3)) (fun b k => Nat.lt_of_lt_of_le k hb3.size)).mono ?_
      rintro e w4 ⟨v, rfl, hr⟩
      obtain ⟨p, c2, rfl⟩ := hr.form
      rw [t3]
      exact ⟨p, c2, rfl, hr.below⟩
    · have := rdeep_any _ _ _ w3 (by rw [t4]; decide) (hn2.kept (.of_below hb3))
      rw [t5] at this
      exact this
  clear la lb na nb ha hb h0 h1 hk hlen
  go_enter Try.func4, Try.ntmps4
  go_wp2_with fail
  refine HK.out.mono ?_
  rintro e w1 ⟨rfl, hb1⟩
  have HB1 := Lib.hid hb1
  clear hb1
  go_wp2_with fail
  refine (HN.out w1).mono ?_
  rintro e w2 ⟨B, rfl, hs2⟩
  obtain ⟨D, MD, hdoc, -, -⟩ := bDoc hs2
  have HD2 := Lib.hid hdoc
  have HS2 := Lib.hid hs2.k
  clear hs2 hdoc
  go_wp2_with fail
  refine HD2.out.mono ?_
  rintro e w2' ⟨rfl, rfl⟩
  go_wp2_with fail
  refine (HWI.out _).mono ?_
  rintro e w3 ⟨rfl, rfl⟩
  go_wp2_with fail
  change Code.wp Try.prog _ _ _ (allocs w2 [Sf.row])
  have HBA : Hid (Below w2.heap.size w2 (allocs w2 [Sf.row])) := Lib.hid (allocs_below w2 _)
  have HS3 := Lib.hid (HS2.out.on HBA.out)
  have HBN : Hid (Bes (fun b => w1.heap.size ≤ b ∧ b < w2.heap.size) (allocs w2 [Sf.row]) w2.heap.size Sf.row) := Lib.hid (Bes.made (fun _ k => k.2) 0 _ rfl)
  generalize allocs w2 [Sf.row] = w4 at *
  clear HBA HS2
  go_loopw [12] (fun v wr => ∃ (j : Nat) (M : Nat → Prop), j ≤ 3 ∧ v = .int .i64 (j : Int) ∧ SiteK w1 wr M B (Sf.S j) [] (Sf.R j) false (1 + j) ∧ Bes M wr w2.heap.size Sf.row) (fun v _ => 3 + 1 - (intOf v).toNat)
  case atStart => exact ⟨0, _, Nat.zero_le _, rfl, HS3.out, HBN.out⟩
  case round =>
    obtain ⟨j, M, hj, rfl, hs, hn⟩ := hrel
    clear HBN HS3
    have HSJ := Lib.hid hs
    have HBN := Lib.hid hn
    unfold Sf.row at HBN
    have n4 := heap_lt HBN.out.2
    have m0 := HBN.out.cell 0
    have m1 := HBN.out.cell 1
    have m2 := HBN.out.cell 2
    simp at m0 m1 m2
    clear hs
    obtain rfl | rfl | rfl | rfl : j = 0 ∨ j = 1 ∨ j = 2 ∨ j = 3 := by omega
    · have HC := Lib.hid (HA0.out w1 wr M B HSJ.out)
      clear hj
      go_wp2_with fail
      refine HC.out.mono ?_
      rintro e w5 ⟨rfl, M5, k5, ks5, kt5⟩
      have HK := Lib.hid k5
      have HN5 := Lib.hid (hn.step ks5 kt5)
      clear k5 ks5 kt5 hn
      go_wp2_with fail
      exact ⟨⟨1, M5, by omega, rfl, HK.out, HN5.out⟩, by simp [intOf]⟩
    · have HC := Lib.hid (HA1.out w1 wr M B HSJ.out)
      clear hj
      go_wp2_with fail
      refine HC.out.mono ?_
      rintro e w5 ⟨rfl, M5, k5, ks5, kt5⟩
      have HK := Lib.hid k5
      have HN5 := Lib.hid (hn.step ks5 kt5)
      clear k5 ks5 kt5 hn
      go_wp2_with fail
      exact ⟨⟨2, M5, by omega, rfl, HK.out, HN5.out⟩, by simp [intOf]⟩
    · have HC := Lib.hid (HA2.out w1 wr M B HSJ.out)
      clear hj
      go_wp2_with fail
      refine HC.out.mono ?_
      rintro e w5 ⟨rfl, M5, k5, ks5, kt5⟩
      have HK := Lib.hid k5
      have HN5 := Lib.hid (hn.step ks5 kt5)
      clear k5 ks5 kt5 hn
      go_wp2_with fail
      exact ⟨⟨3, M5, by omega, rfl, HK.out, HN5.out⟩, by simp [intOf]⟩
    · have HC := Lib.hid (HF.out w1 wr B HSJ.out.b)
      clear hj hn m0 m1 m2
      go_wp2_with fail
      refine HC.out.mono ?_
      rintro e w5 ⟨rfl, k5⟩
      have H5 := Lib.hid (HT1.out w1 w5 B k5)
      clear k5
      go_wp2_with fail
      refine H5.out.mono ?_
      rintro e w6 ⟨rfl, k6⟩
      have H6 := Lib.hid (HT2.out w1 w6 B k6)
      clear k6
      go_wp2_with fail
      refine H6.out.mono ?_
      rintro e w7 ⟨rfl, k7⟩
      obtain ⟨D7, M7, hdoc7, hd7, hm7⟩ := bDoc k7
      have HD7 := Lib.hid hdoc7
      have HTT := Lib.hid (HTR.out w7 D7 M7 hd7 hm7)
      have HB7 : Hid (Below w.heap.size w w7) := Lib.hid (HB1.out.trans (k7.below.mono HB1.out.size))
      clear k7 hdoc7 hd7 hm7
      go_wp2_with fail
      refine HD7.out.mono ?_
      rintro e w7' ⟨rfl, rfl⟩
      go_wp2_with fail
      refine HTT.out.mono ?_
      rintro e w8 ⟨g, o, c, rfl, c4, c9, hg, hb8, htx, -⟩
      have HB8 : Hid (Below w.heap.size w w8) := Lib.hid (HB7.out.trans (hb8.mono HB7.out.size))
      have HX := Lib.hid (htx w8 (Below.refl _ _))
      clear hb8 htx
      go_wp2_with fail
      refine HX.out.mono ?_
      rintro e w9 ⟨p, c2, rfl, hb9⟩
      have HB9 : Hid (Below w.heap.size w w9) := Lib.hid (HB8.out.trans (hb9.mono HB8.out.size))
      clear hb9
      go_wp2_with fail
      go_ret
      exact ⟨rfl, HB9.out⟩
set_option maxHeartbeats 4000000 in
set_option maxRecDepth 100000 in
theorem sf_3f (k : Int) (x y : ByteArray) (w : World) (h0 : -9223372036854775808 ≤ k) (h1 : k ≤ 9223372036854775807) (hk : Within k 3 = 2) (hx : x.size ≤ 140737488351232) (hy : y.size ≤ 140737488351232) (qx : (x.toList == []) = false) (qy : (y.toList == []) = false) (hlen : ¬ 200 < x.size + y.size) : Calls Try.prog 4 #[.int .i64 k, .string x, .string y, .bool false] w (Yes w) := by
  have HK := Lib.hid (known8_yes w)
  have hl2 : ¬ (200 : Int) < (x.size : Int) + (y.size : Int) := by omega
  obtain ⟨a, ha⟩ : ∃ a : List UInt8, x = ⟨a.toArray⟩ := ⟨x.data.toList, by simp⟩
  obtain ⟨b, hb⟩ : ∃ b : List UInt8, y = ⟨b.toArray⟩ := ⟨y.data.toList, by simp⟩
  have na : a ≠ [] := by rintro rfl; rw [ha, Lib.toList_data] at qx; cases qx
  have nb : b ≠ [] := by rintro rfl; rw [hb, Lib.toList_data] at qy; cases qy
  have la : a.length = x.size := by rw [ha]; show _ = a.toArray.size; simp
  have lb : b.length = y.size := by rw [hb]; show _ = b.toArray.size; simp
  have HN : Hid (∀ W, Calls Try.prog 13 #[] W (fun e w' => ∃ B, e = .returned (.pointer (some ⟨B, 0, none⟩)) ∧ SiteB W w' B Sf.S0 [] Sf.R0 false 1)) := Lib.hid fun W => bNew8 W
  have HWI : Hid (∀ W, Calls Try.prog 20 #[.int .i64 k, .int .i64 3] W (Gives (.int .i64 2) W)) := Lib.hid fun W => by
    have := within8 k 3 W h0 h1 (by decide) (by decide)
    rw [hk] at this
    exact this
  have HA0 : Hid (∀ W0 W M B, SiteK W0 W M B Sf.S0 [] Sf.R0 false 1 → Calls Try.prog 17 #[.pointer (some ⟨B, 0, none⟩), .int .i64 1, .string ⟨#[116, 97, 98, 108, 101]⟩, .slice none 0 0] W (fun e w' => e = .returned (.int .i64 1) ∧ StepK W0 W M B Sf.S1 [] Sf.R1 false 2 w')) := Lib.hid fun W0 W M B h => kAdd h (fun _ => False) 1 [116, 97, 98, 108, 101] [] _ (AttrsP.nil _ _ _ _) (by decide) (by decide) (by decide) (by decide) (by decide +kernel) (by decide) 9 (by decide +kernel)
  have HA1 : Hid (∀ W0 W M B, SiteK W0 W M B Sf.S1 [] Sf.R1 false 2 → Calls Try.prog 17 #[.pointer (some ⟨B, 0, none⟩), .int .i64 1, .string ⟨#[116, 98, 111, 100, 121]⟩, .slice none 0 0] W (fun e w' => e = .returned (.int .i64 2) ∧ StepK W0 W M B Sf.S2 [] Sf.R2 false 3 w')) := Lib.hid fun W0 W M B h => kAdd h (fun _ => False) 1 [116, 98, 111, 100, 121] [] _ (AttrsP.nil _ _ _ _) (by decide) (by decide) (by decide) (by decide) (by decide +kernel) (by decide) 9 (by decide +kernel)
  have HA2 : Hid (∀ W0 W M B, SiteK W0 W M B Sf.S2 [] Sf.R2 false 3 → Calls Try.prog 17 #[.pointer (some ⟨B, 0, none⟩), .int .i64 1, .string ⟨#[116, 114]⟩, .slice none 0 0] W (fun e w' => e = .returned (.int .i64 3) ∧ StepK W0 W M B Sf.S3 [] Sf.R3 false 4 w')) := Lib.hid fun W0 W M B h => kAdd h (fun _ => False) 1 [116, 114] [] _ (AttrsP.nil _ _ _ _) (by decide) (by decide) (by decide) (by decide) (by decide +kernel) (by decide) 9 (by decide +kernel)
  have HF : Hid (∀ W0 W B, SiteB W0 W B Sf.S3 [] Sf.R3 false 4 → Calls Try.prog 24 #[.pointer (some ⟨B, 0, none⟩), .bool false] W (fun e w' => e = .returned (.tuple #[]) ∧ SiteB W0 w' B Sf.S3 [] Sf.R3 false 4)) := Lib.hid fun W0 W B h => bFoster h false
  have HT1 : Hid (∀ W0 W B, SiteB W0 W B Sf.S3 [] Sf.R3 false 4 → Calls Try.prog 25 #[.pointer (some ⟨B, 0, none⟩), .string x] W (fun e w' => e = .returned (.tuple #[]) ∧ SiteB W0 w' B (Sf.x3f a) [] Sf.R3 false 4)) := by
    refine Lib.hid fun W0 W B h => ?_
    have := bType h a (by decide) (by decide) (by decide +kernel) (by decide +kernel) (by omega) (by decide +kernel) (Sf.w3f a na).2
    rw [(Sf.w3f a na).1, ← ha] at this
    exact this
  have HT2 : Hid (∀ W0 W B, SiteB W0 W B (Sf.x3f a) [] Sf.R3 false 4 → Calls Try.prog 25 #[.pointer (some ⟨B, 0, none⟩), .string y] W (fun e w' => e = .returned (.tuple #[]) ∧ SiteB W0 w' B (Sf.x3f (a ++ b)) [] Sf.R3 false 4)) := by
    refine Lib.hid fun W0 W B h => ?_
    have e : (Sf.x3f a).length = 5 := by kernel_rfl
    have := bType h b (by decide) (by decide) (by rw [e]; decide) (by rw [e]; decide) (by omega) (Sf.b3f a (by omega)) (Sf.v3f a b nb).2
    rw [(Sf.v3f a b nb).1, ← hb] at this
    exact this
  have HAB : Hid ((⟨(a ++ b).toArray⟩ : ByteArray) = x ++ y) := Lib.hid (by rw [ha, hb]; apply ByteArray.ext; simp [ByteArray.data_append])
  have HTR : Hid (∀ W D M, DocM M W D (Sf.x3f (a ++ b)) → (∀ b, M b → b < W.heap.size) → Calls Try.prog 26 #[.pointer (some ⟨D, 0, none⟩), .int .i64 0] W (fun e w' => ∃ g o c, e = .returned (.slice (some ⟨g, o, none⟩) 1 c) ∧ w'.cell? ⟨g, o + 2, none⟩ = some (.string ⟨#[116, 97, 98, 108, 101]⟩) ∧ g < w'.heap.size ∧ Below W.heap.size W w' ∧ (∀ w3, Below w'.heap.size w' w3 → Calls Try.prog 27 #[.slice (some ⟨g, o, none⟩) 1 c] w3 (fun e w4 => ∃ p c2, e = .returned (.slice p 1 c2) ∧ Below w3.heap.size w3 w4)) ∧ ∀ w3, Below w'.heap.size w' w3 → Calls Try.prog 28 #[.slice (some ⟨g, o, none⟩) 1 c] w3 (Brings (.int .i64 4) w3))) := by
    refine Lib.hid fun W D M hd hM => ?_
    obtain ⟨t1, t2, t3, t4, t5⟩ := Sf.t3f (a ++ b)
    refine (dtreeP (Sf.x3f (a ++ b)) D M W 9 9 0 _ _ _ hd hM t1 t2 (by decide) (Sf.a3f _)).mono ?_
    rintro e w' ⟨v, rfl, hn, hb⟩
    replace hn : NodesP (fun b => W.heap.size ≤ b) w' v (foF (Sf.x3f (a ++ b)) [1, 2, 3, 4] [1, 2, 3, 4, 4] 5 0 1) := hn
    have hn2 := hn.mono (Q := fun b => b < w'.heap.size) (fun _ _ hb => hb)
    obtain ⟨p, cap, rfl, ht⟩ := hn
    obtain ⟨g, o, va, vk, rfl, hP, hg, h7, -, -, hrest⟩ := ht.head
    refine ⟨g, o, cap, rfl, h7.c2, hg, hb, fun w3 hb3 => ?_, fun w3 hb3 => ?_⟩
    · refine (rtextsP _ _ _ w3 (by rw [t4]; decide) (hn2.kept (.of_below hb3)) (fun b k => Nat.lt_of_lt_of_le k hb3.size)).mono ?_
      rintro e w4 ⟨v, rfl, hr⟩
      obtain ⟨p, c2, rfl⟩ := hr.form
      rw [t3]
      exact ⟨p, c2, rfl, hr.below⟩
    · have := rdeep_any _ _ _ w3 (by rw [t4]; decide) (hn2.kept (.of_below hb3))
      rw [t5] at this
      exact this
  clear la lb na nb ha hb h0 h1 hk hlen
  go_enter Try.func4, Try.ntmps4
  go_wp2_with fail
  refine HK.out.mono ?_
  rintro e w1 ⟨rfl, hb1⟩
  have HB1 := Lib.hid hb1
  clear hb1
  go_wp2_with fail
  refine (HN.out w1).mono ?_
  rintro e w2 ⟨B, rfl, hs2⟩
  obtain ⟨D, MD, hdoc, -, -⟩ := bDoc hs2
  have HD2 := Lib.hid hdoc
  have HS2 := Lib.hid hs2.k
  clear hs2 hdoc
  go_wp2_with fail
  refine HD2.out.mono ?_
  rintro e w2' ⟨rfl, rfl⟩
  go_wp2_with fail
  refine (HWI.out _).mono ?_
  rintro e w3 ⟨rfl, rfl⟩
  go_wp2_with fail
  change Code.wp Try.prog _ _ _ (allocs w2 [Sf.row])
  have HBA : Hid (Below w2.heap.size w2 (allocs w2 [Sf.row])) := Lib.hid (allocs_below w2 _)
  have HS3 := Lib.hid (HS2.out.on HBA.out)
  have HBN : Hid (Bes (fun b => w1.heap.size ≤ b ∧ b < w2.heap.size) (allocs w2 [Sf.row]) w2.heap.size Sf.row) := Lib.hid (Bes.made (fun _ k => k.2) 0 _ rfl)
  generalize allocs w2 [Sf.row] = w4 at *
  clear HBA HS2
  go_loopw [12] (fun v wr => ∃ (j : Nat) (M : Nat → Prop), j ≤ 3 ∧ v = .int .i64 (j : Int) ∧ SiteK w1 wr M B (Sf.S j) [] (Sf.R j) false (1 + j) ∧ Bes M wr w2.heap.size Sf.row) (fun v _ => 3 + 1 - (intOf v).toNat)
  case atStart => exact ⟨0, _, Nat.zero_le _, rfl, HS3.out, HBN.out⟩
  case round =>
    obtain ⟨j, M, hj, rfl, hs, hn⟩ := hrel
    clear HBN HS3
    have HSJ := Lib.hid hs
    have HBN := Lib.hid hn
    unfold Sf.row at HBN
    have n4 := heap_lt HBN.out.2
    have m0 := HBN.out.cell 0
    have m1 := HBN.out.cell 1
    have m2 := HBN.out.cell 2
    simp at m0 m1 m2
    clear hs
    obtain rfl | rfl | rfl | rfl : j = 0 ∨ j = 1 ∨ j = 2 ∨ j = 3 := by omega
    · have HC := Lib.hid (HA0.out w1 wr M B HSJ.out)
      clear hj
      go_wp2_with fail
      refine HC.out.mono ?_
      rintro e w5 ⟨rfl, M5, k5, ks5, kt5⟩
      have HK := Lib.hid k5
      have HN5 := Lib.hid (hn.step ks5 kt5)
      clear k5 ks5 kt5 hn
      go_wp2_with fail
      exact ⟨⟨1, M5, by omega, rfl, HK.out, HN5.out⟩, by simp [intOf]⟩
    · have HC := Lib.hid (HA1.out w1 wr M B HSJ.out)
      clear hj
      go_wp2_with fail
      refine HC.out.mono ?_
      rintro e w5 ⟨rfl, M5, k5, ks5, kt5⟩
      have HK := Lib.hid k5
      have HN5 := Lib.hid (hn.step ks5 kt5)
      clear k5 ks5 kt5 hn
      go_wp2_with fail
      exact ⟨⟨2, M5, by omega, rfl, HK.out, HN5.out⟩, by simp [intOf]⟩
    · have HC := Lib.hid (HA2.out w1 wr M B HSJ.out)
      clear hj
      go_wp2_with fail
      refine HC.out.mono ?_
      rintro e w5 ⟨rfl, M5, k5, ks5, kt5⟩
      have HK := Lib.hid k5
      have HN5 := Lib.hid (hn.step ks5 kt5)
      clear k5 ks5 kt5 hn
      go_wp2_with fail
      exact ⟨⟨3, M5, by omega, rfl, HK.out, HN5.out⟩, by simp [intOf]⟩
    · have HC := Lib.hid (HF.out w1 wr B HSJ.out.b)
      clear hj hn m0 m1 m2
      go_wp2_with fail
      refine HC.out.mono ?_
      rintro e w5 ⟨rfl, k5⟩
      have H5 := Lib.hid (HT1.out w1 w5 B k5)
      clear k5
      go_wp2_with fail
      refine H5.out.mono ?_
      rintro e w6 ⟨rfl, k6⟩
      have H6 := Lib.hid (HT2.out w1 w6 B k6)
      clear k6
      go_wp2_with fail
      refine H6.out.mono ?_
      rintro e w7 ⟨rfl, k7⟩
      obtain ⟨D7, M7, hdoc7, hd7, hm7⟩ := bDoc k7
      have HD7 := Lib.hid hdoc7
      have HTT := Lib.hid (HTR.out w7 D7 M7 hd7 hm7)
      have HB7 : Hid (Below w.heap.size w w7) := Lib.hid (HB1.out.trans (k7.below.mono HB1.out.size))
      clear k7 hdoc7 hd7 hm7
      go_wp2_with fail
      refine HD7.out.mono ?_
      rintro e w7' ⟨rfl, rfl⟩
      go_wp2_with fail
      refine HTT.out.mono ?_
      rintro e w8 ⟨g, o, c, rfl, c2, hg, hb8, htx, hdp⟩
      have HB8 : Hid (Below w.heap.size w w8) := Lib.hid (HB7.out.trans (hb8.mono HB7.out.size))
      have HX := Lib.hid (htx w8 (Below.refl _ _))
      have HDP := Lib.hid hdp
      clear hb8 htx hdp
      go_wp2_with fail
      refine HX.out.mono ?_
      rintro e w9 ⟨p, cc, rfl, hb9⟩
      have HB9 : Hid (Below w.heap.size w w9) := Lib.hid (HB8.out.trans (hb9.mono HB8.out.size))
      have HY := Lib.hid (HDP.out w9 hb9)
      clear hb9
      go_wp2_with fail
      refine HY.out.mono ?_
      rintro e w10 ⟨rfl, hb10⟩
      have HB10 : Hid (Below w.heap.size w w10) := Lib.hid (HB9.out.trans (hb10.mono HB9.out.size))
      clear hb10
      go_wp2_with fail
      go_ret
      exact ⟨rfl, HB10.out⟩
theorem siteFosters_walk (k : Int) (x y : ByteArray) (on : Bool) (w : World) (hk : -9223372036854775808 ≤ k) (hk1 : k ≤ 9223372036854775807) (hx : x.size ≤ 140737488351232) (hy : y.size ≤ 140737488351232) : Calls Try.prog 4 #[.int .i64 k, .string x, .string y, .bool on] w (Yes w) := by
  cases qx : (x.toList == [])
  case true => exact sf_out k x y on w hx hy (.inl qx)
  cases qy : (y.toList == [])
  case true => exact sf_out k x y on w hx hy (.inr (.inl ⟨qx, qy⟩))
  by_cases hl : 200 < x.size + y.size
  · exact sf_out k x y on w hx hy (.inr (.inr ⟨qx, qy, hl⟩))
  have hw := (within_lt k 3 (by decide)).1
  obtain h | h | h : Within k 3 = 0 ∨ Within k 3 = 1 ∨ Within k 3 = 2 := by omega
  all_goals cases on
  · exact sf_1f k x y w hk hk1 h hx hy qx qy hl
  · exact sf_1t k x y w hk hk1 h hx hy qx qy hl
  · exact sf_2f k x y w hk hk1 h hx hy qx qy hl
  · exact sf_2t k x y w hk hk1 h hx hy qx qy hl
  · exact sf_3f k x y w hk hk1 h hx hy qx qy hl
  · exact sf_3t k x y w hk hk1 h hx hy qx qy hl
end Go.Proofs.Ytjlkdhbgomamjaa
