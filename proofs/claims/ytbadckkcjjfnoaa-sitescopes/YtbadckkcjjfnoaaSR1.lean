/-
  The walk of the program's stands. Any Site.
-/
import Derived.Test.YtbadckkcjjfnoaaSWG
import Derived.Test.YtbadckkcjjfnoaaMW9
namespace Go.Proofs.Ytbadckkcjjfnoaa
open Go.RowKit Go.Maps

variable {M : Nat → Prop} {w w' : World} {B : Nat} {a : SA} {S : List PN} {L : List MK} {R : List EL} {fO : Int → Bool} {fN : List UInt8 → Int} {fo : Bool}
def standsS (fO : Int → Bool) (L : List MK) (i : Nat) : Bool := decide ((L.getD i mZero).node = -1) || fO (L.getD i mZero).node
end Go.Proofs.Ytbadckkcjjfnoaa
