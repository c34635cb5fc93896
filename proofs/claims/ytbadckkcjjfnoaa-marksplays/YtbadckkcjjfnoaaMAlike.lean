/-
  The walk of the reference's Alike. Any two rows of attributes, not too many.
-/
import Derived.Test.YtbadckkcjjfnoaaDSame
import Derived.Test.YtbadckkcjjfnoaaMMem
namespace Go.Proofs.Ytbadckkcjjfnoaa
open Go.RowKit

end Go.Proofs.Ytbadckkcjjfnoaa
