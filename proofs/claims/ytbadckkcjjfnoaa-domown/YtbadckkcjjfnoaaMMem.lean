/-
  Rows of attributes in memory; what turns and what stands. No program is walked.
-/
import Derived.Test.YtbadckkcjjfnoaaDPCopy
import Derived.Test.YtbadckkcjjfnoaaDPMem
import Derived.Test.YtbadckkcjjfnoaaDBase
import Derived.Test.YtbadckkcjjfnoaaProg
import Derived.WalkKit
import Derived.BigCall
import Derived.WalkLawsBesides
import Derived.Lib.Hide
import Derived.Deep.AppendLies
import Derived.Laws.OwnMore
import Derived.Lib.SmallJoins
import Derived.Deep.QuietTactic
import Derived.BigQuiet
import Derived.Deep.Slices
import Derived.Deep.RegionWith
import Derived.Deep.RegionLaw
import Derived.Deep.RegionHeld3
import Derived.ChangeSame
import Derived.Laws.AppendOwnNone
import Derived.Laws.CopyRow
namespace Go.Proofs.Ytbadckkcjjfnoaa
open Go.RowKit

end Go.Proofs.Ytbadckkcjjfnoaa
