/-
  The walks of part of the reference, begun and broken of the program. Any text of at most 2^32 bytes.
-/
import Derived.Test.YtgelgfgcdfnacaaDoorSigns
namespace Go.Proofs.YtgelgfgcdfnacaaDoor
open Go.RowKit

theorem drop_cons (s : ByteArray) (f : Nat) (h : f < s.size) : s.data.toList.drop f = s[f] :: s.data.toList.drop (f + 1) := by
  have := List.drop_eq_getElem_cons (l := s.data.toList) (i := f) (by simpa using h)
  exact this

theorem run_on (m lo hi : Nat) (c : UInt8) (r : List UInt8) (h1 : lo ≤ c.toNat) (h2 : c.toNat ≤ hi) : Plain.run (m + 1) lo hi (c :: r) = 1 + Plain.run m 128 191 r := by simp [Plain.run, h1, h2]
theorem run_off (m lo hi : Nat) (c : UInt8) (r : List UInt8) (h : ¬ (lo ≤ c.toNat ∧ c.toNat ≤ hi)) : Plain.run m lo hi (c :: r) = 0 := by
  cases m with
  | zero => rfl
  | succ m => simp only [Plain.run, if_neg h]
theorem run_nil (m lo hi : Nat) : Plain.run m lo hi [] = 0 := by cases m <;> rfl
theorem run_zero (lo hi : Nat) (r : List UInt8) : Plain.run 0 lo hi r = 0 := rfl

/-- What part tells. -/
def PartOut (w : World) (k : Nat) (b : Bool) (e : Ending) (w' : World) : Prop := e = .returned (.tuple #[.int .i64 k, .bool b]) ∧ w = w'

theorem part_end {w : World} {K k n : Nat} {B : Bool} (hB : B = (K == n)) (hK : K = k) : PartOut w K B (.returned (.tuple #[.int .i64 k, .bool ((k : Int) == (n : Int))])) w := by
  subst hK
  subst hB
  refine ⟨?_, rfl⟩
  have : ((K : Int) == (n : Int)) = (K == n) := by
    rw [Bool.eq_iff_iff]
    simp only [beq_iff_eq]
    omega
  rw [this]

end Go.Proofs.YtgelgfgcdfnacaaDoor
