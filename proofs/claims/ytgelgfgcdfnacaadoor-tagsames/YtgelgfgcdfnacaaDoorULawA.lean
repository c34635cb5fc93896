/-
  The walk of the law TagAt: true, and nothing old is changed. The library's number MaxLen and the table of package refs are there.
-/
import Derived.Test.YtgelgfgcdfnacaaDoorUTok
namespace Go.Proofs.YtgelgfgcdfnacaaDoor
open Go.RowKit

theorem atPlace_end (l : List UInt8) : atPlace l (l.length : Int) = false := by
  unfold atPlace
  rw [decide_eq_false (show ¬ (l.length : Int) < (l.length : Int) by omega), Bool.false_and, Bool.and_false]
theorem atPlace_neg (l : List UInt8) : atPlace l (-1) = false := by
  unfold atPlace
  rw [decide_eq_false (show ¬ (0 : Int) ≤ -1 by omega), Bool.false_and]

end Go.Proofs.YtgelgfgcdfnacaaDoor
