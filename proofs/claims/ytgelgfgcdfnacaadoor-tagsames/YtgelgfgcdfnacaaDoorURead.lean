/-
  The walk of the reference's Read of an end. Any text of at most 2^28 bytes.
-/
import Derived.Test.YtgelgfgcdfnacaaDoorUWayAll
import Derived.Deep.DeepCutAuto
import Derived.Deep.CutBlock
namespace Go.Proofs.YtgelgfgcdfnacaaDoor
open Go.RowKit

theorem findV_has (rs : List (List UInt8 × List UInt8)) (n : List UInt8) : (findV rs n).isSome = Plain.hasName rs n := by
  unfold findV Plain.hasName
  rw [Option.isSome_map, Bool.eq_iff_iff, List.find?_isSome, List.any_eq_true]

end Go.Proofs.YtgelgfgcdfnacaaDoor
