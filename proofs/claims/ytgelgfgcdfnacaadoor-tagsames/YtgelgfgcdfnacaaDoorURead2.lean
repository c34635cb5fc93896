/-
  The walk of the reference's Read of a start. Any text of at most 2^28 bytes.
-/
import Derived.Test.YtgelgfgcdfnacaaDoorURead
import Derived.Deep.DeepCutAuto
import Derived.Deep.CutBlock
namespace Go.Proofs.YtgelgfgcdfnacaaDoor
open Go.RowKit

end Go.Proofs.YtgelgfgcdfnacaaDoor
