/-
  Rows of attributes in memory; what turns and what stands. No program is walked.
-/
import Derived.Test.YtjlkdhbgomamjaaDPCopy
import Derived.Test.YtjlkdhbgomamjaaDPMem
import Derived.Test.YtjlkdhbgomamjaaDBase
import Derived.Test.YtjlkdhbgomamjaaProg
import Derived.WalkKit
import Derived.BigCall
import Derived.WalkLawsBesides
import Derived.Lib.Hide
import Derived.Deep.AppendLies
import Derived.Laws.OwnMore
import Derived.Lib.SmallJoins
import Derived.Deep.QuietTactic
import Derived.BigQuiet
import Derived.Deep.Slices
import Derived.Deep.RegionWith
import Derived.Deep.RegionLaw
import Derived.Deep.RegionHeld3
import Derived.ChangeSame
import Derived.Laws.AppendOwnNone
import Derived.Laws.CopyRow
namespace Go.Proofs.Ytjlkdhbgomamjaa
open Go.RowKit

end Go.Proofs.Ytjlkdhbgomamjaa
