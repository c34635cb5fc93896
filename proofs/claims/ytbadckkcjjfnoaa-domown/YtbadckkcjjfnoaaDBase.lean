/-
  What the texts of chapters 5 and 6 share: what a call tells; a number within a bound; texts as values. No program is walked.
-/
import Derived.WalkKit
import Derived.BigCall
namespace Go.Proofs.Ytbadckkcjjfnoaa
open Go.RowKit

/-- What a call tells: a value, new memory beside it. -/
def Brings (v : Value) (w : World) (e : Ending) (w' : World) : Prop := e = .returned v ∧ Below w.heap.size w w'
/-- What a call tells that only computes. -/
def Gives (v : Value) (w : World) (e : Ending) (w' : World) : Prop := e = .returned v ∧ w = w'
/-- A law holds: true, and nothing old is changed. -/
def Yes (w : World) (e : Ending) (w' : World) : Prop := e = .returned (.bool true) ∧ Below w.heap.size w w'
theorem ret_is {k : IntKind} {a b : Int} (h : a = b) : Ending.returned (.int k a) = .returned (.int k b) := by rw [h]
def strV (l : List UInt8) : Value := .string ⟨l.toArray⟩
def Within (n : Int) (m : Nat) : Nat := (n % (m : Int)).toNat
theorem within_lt (n : Int) (m : Nat) (h : 1 ≤ m) : Within n m < m ∧ ((Within n m : Nat) : Int) = n % (m : Int) := by
  unfold Within
  have g1 := Int.emod_nonneg n (show (m : Int) ≠ 0 by omega)
  have g2 := Int.emod_lt_of_pos n (show (0 : Int) < (m : Int) by omega)
  omega
theorem tmod_facts (n : Int) (m : Nat) (hn : n < 0) (hm : 1 ≤ m) : -(m : Int) < n.tmod m ∧ n.tmod m ≤ 0 ∧ (n.tmod m < 0 → n.tmod m + m = n % (m : Int)) ∧ (¬ n.tmod m < 0 → n.tmod m = n % (m : Int)) := by
  have g1 := Int.emod_nonneg n (show (m : Int) ≠ 0 by omega)
  have g2 := Int.emod_lt_of_pos n (show (0 : Int) < (m : Int) by omega)
  have e1 := Int.emod_add_mul_ediv n (m : Int)
  have e2 := Int.tmod_add_mul_tdiv n (m : Int)
  obtain ⟨a, rfl⟩ : ∃ a : Int, n = -a := ⟨-n, by omega⟩
  rw [Int.neg_tmod, Int.tmod_eq_emod_of_nonneg (by omega)] at *
  have k1 := Int.emod_nonneg a (show (m : Int) ≠ 0 by omega)
  have k2 := Int.emod_lt_of_pos a (show (0 : Int) < (m : Int) by omega)
  have hmod : (-a) % (m : Int) = if a % (m : Int) = 0 then 0 else (m : Int) - a % (m : Int) := by
    split
    · rename_i h
      exact Int.emod_eq_zero_of_dvd (Int.dvd_neg.2 (Int.dvd_of_emod_eq_zero h))
    · rename_i h
      have : (-a) % (m : Int) = ((m : Int) - a % (m : Int)) % (m : Int) := by
        have h3 : -a = (m : Int) - a % (m : Int) + (m : Int) * (-(a / (m : Int)) - 1) := by
          have := Int.emod_add_mul_ediv a (m : Int)
          rw [Int.mul_sub, Int.mul_neg]
          omega
        rw [h3, Int.add_mul_emod_self_left]
      rw [this, Int.emod_eq_of_lt (by omega) (by omega)]
  refine ⟨by omega, by omega, fun h => ?_, fun h => ?_⟩
  · rw [hmod, if_neg (by omega)]; omega
  · rw [hmod, if_pos (by omega)]; omega

end Go.Proofs.Ytbadckkcjjfnoaa
