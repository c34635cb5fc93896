/-
  The walk of the reference's Alike. Any two rows of attributes, not too many.
-/
import Derived.Test.YtjlkdhbgomamjaaDSame
import Derived.Test.YtjlkdhbgomamjaaMMem
namespace Go.Proofs.Ytjlkdhbgomamjaa
open Go.RowKit

end Go.Proofs.Ytjlkdhbgomamjaa
