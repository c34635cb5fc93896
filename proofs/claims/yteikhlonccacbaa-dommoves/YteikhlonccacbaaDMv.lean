/-
  The nodes that the law DomMoves makes, by numbers: what each call answers. No program is walked.
-/
import Derived.Test.YteikhlonccacbaaDPMove
namespace Go.Proofs.Yteikhlonccacbaa
open Go.RowKit

namespace Mv
def base : List PN := (pPut (pPut ([elemPN 1 [] []] ++ [elemPN 1 [97] []] ++ [elemPN 1 [98] []]) 1 0 (-1) false).1 2 0 (-1) false).1
/-- m elements within b. -/
def st1 : Nat → List PN
  | 0 => base
  | i + 1 => (pPut (st1 i ++ [elemPN 1 [120] []]) ((3 + i : Nat) : Int) 2 (-1) false).1
/-- then n notes within a. -/
def st2 (m : Nat) : Nat → List PN
  | 0 => st1 m
  | i + 1 => (pPut (st2 m i ++ [notePN 3 [110]]) ((3 + m + i : Nat) : Int) 1 (-1) false).1
def fin (m n : Nat) : List PN := (pShift (st2 m n) 1 2 20).getD []
def want (k : Nat) : List Int := (List.range k).map fun i => ((3 + i : Nat) : Int)
def ok0 : Bool := okPut ([elemPN 1 [] []] ++ [elemPN 1 [97] []] ++ [elemPN 1 [98] []]) 9 1 0 (-1) false && okPut (pPut ([elemPN 1 [] []] ++ [elemPN 1 [97] []] ++ [elemPN 1 [98] []]) 1 0 (-1) false).1 9 2 0 (-1) false
def ok1 (i : Nat) : Bool := decide ((st1 i).length = 3 + i) && okPut (st1 i ++ [elemPN 1 [120] []]) 9 ((3 + i : Nat) : Int) 2 (-1) false
def ok2 (m i : Nat) : Bool := decide ((st2 m i).length = 3 + m + i) && okPut (st2 m i ++ [notePN 3 [110]]) 9 ((3 + m + i : Nat) : Int) 1 (-1) false
def ok3 (m n : Nat) : Bool :=
  pElem (st2 m n) 1 && pElem (st2 m n) 2 && decide (pWithin (st2 m n) 20 2 1 = some false) && decide (pShift (st2 m n) 1 2 20 = some (fin m n)) && decide (0 < (st2 m n).length) && decide (0 < (fin m n).length) &&
  decide (pKidsA (fin m n) 40 1 = some []) && pElem (fin m n) 1 && decide (pWithin (fin m n) 20 1 1 = some true) && pElem (fin m n) 0 && decide (pWithin (fin m n) 20 1 0 = some true) &&
  decide (pKidsA (fin m n) 40 2 = some (want (m + n))) && (want (m + n)).all (fun k => decide (pUp (fin m n) k = 2))
set_option maxRecDepth 100000 in
theorem all_ok : ok0 = true ∧ (∀ i, i < 9 → ok1 i = true) ∧ (∀ m, m < 9 → ∀ i, i < 9 → ok2 m i = true) ∧ (∀ m, m < 9 → ∀ n, n < 9 → ok3 m n = true) := by decide +kernel
end Mv
end Go.Proofs.Yteikhlonccacbaa
