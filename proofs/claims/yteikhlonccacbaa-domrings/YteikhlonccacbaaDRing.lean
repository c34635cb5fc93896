/-
  The chains of nodes that the law DomRings makes, by numbers: what each call answers. No program is walked.
-/
import Derived.Test.YteikhlonccacbaaDPKnown
import Derived.Test.YteikhlonccacbaaDSame
import Derived.Test.YteikhlonccacbaaDPDeep
import Derived.Test.YteikhlonccacbaaDTape
namespace Go.Proofs.Yteikhlonccacbaa
open Go.RowKit

def ringE : PN := elemPN 1 [120] []
def ring : Nat → List PN
  | 0 => [elemPN 1 [] []]
  | i + 1 => (pPut (ring i ++ [ringE]) ((i + 1 : Nat) : Int) (i : Int) (-1) false).1
def stepOK (i : Nat) : Bool := decide ((ring i).length = i + 1) && okPut (ring i ++ [ringE]) 60 ((i + 1 : Nat) : Int) (i : Int) (-1) false && (pPut (ring i ++ [ringE]) ((i + 1 : Nat) : Int) (i : Int) (-1) false).2
def rowR (m : Nat) : List Int := (List.range m).map fun i => ((i + 1 : Nat) : Int)
def endsR (m : Nat) : List Nat := (List.range m).map (· + 1) ++ [m]
def cutR (m j : Nat) : List PN := (pTake (ring m) (j : Int)).1
def treeR (m : Nat) : Fo := foF (ring m) (rowR m) (endsR m) ((rowR m).length + 1) 0 1
def endOK (m j : Nat) : Bool :=
  decide (pKidsA (ring m) 60 0 = some [1]) && decide (pBfs (ring m) 60 60 [1] [1] 0 = some (rowR m, endsR m)) && decide ((rowR m).length ≤ 100) &&
  okPut (ring m) 60 (j : Int) (m : Int) (-1) false && decide (pPut (ring m) (j : Int) (m : Int) (-1) false = (ring m, false)) &&
  okUnlink (ring m) (j : Int) && (pTake (ring m) (j : Int)).2 && decide (0 < (cutR m j).length) &&
  okPut (cutR m j) 60 (j : Int) (m : Int) (-1) true && decide (pPut (cutR m j) (j : Int) (m : Int) (-1) true = (cutR m j, false)) &&
  okPut (cutR m j) 60 (j : Int) (j : Int) (-1) true && decide (pPut (cutR m j) (j : Int) (j : Int) (-1) true = (cutR m j, false)) &&
  decide (pUp (cutR m j) (j : Int) = -1) && decide (pTake (cutR m j) (j : Int) = (cutR m j, false)) &&
  okPut (cutR m j) 60 (j : Int) ((j : Int) - 1) (-1) false && decide (pPut (cutR m j) (j : Int) ((j : Int) - 1) (-1) false = (ring m, true)) &&
  decide ((treeR m).deep = m) && decide ((treeR m).wt ≤ 1000) && decide (∀ x ∈ ring m, x.attrs.length ≤ 4294967296)
set_option maxRecDepth 100000 in
theorem step_ok : ∀ i, i < 22 → stepOK i = true := by decide +kernel
set_option maxRecDepth 100000 in
theorem end_ok : ∀ m, m < 22 → ∀ j, j < m → 2 ≤ m → 1 ≤ j → endOK m j = true := by decide +kernel
end Go.Proofs.Yteikhlonccacbaa
