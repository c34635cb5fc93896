/-
  The walk of the reference's Alike. Any two rows of attributes, not too many.
-/
import Derived.Test.YtmhjfbdldpehdaaDSame
import Derived.Test.YtmhjfbdldpehdaaMMem
namespace Go.Proofs.Ytmhjfbdldpehdaa
open Go.RowKit

end Go.Proofs.Ytmhjfbdldpehdaa
