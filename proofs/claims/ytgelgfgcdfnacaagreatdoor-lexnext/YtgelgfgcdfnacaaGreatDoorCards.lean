/-
  DERIVED. GIVEN WITH THE SEED: THE CARDS: each row of YtgelgfgcdfnacaaGreatDoorRows.lean that lists a variable, with what it lists TIED to the program's text (the seventh form; the later family's looks); each row that meets fmt, with fmt's text TOLD by the authors' own Lean function (tested against real Go, not proved from fmt's source: count such statements apart). THE CARD IS WHAT COUNTS. Prove the row's statement (the work); the ties are given (YtgelgfgcdfnacaaGreatDoorTie.lean); close each card by the builder's one call (the guide's Derived/Test/ToyasCard.lean, 'card_holds'). Laid BY PROGRAM, IN A SANDBOX (cutbox-door.mjs). By AI agents, Wed Nov 11 2026. No macro, syntax, notation, axiom, sorry.
-/
import Derived.Test.YtgelgfgcdfnacaaGreatDoorRows
import GoSem.ClaimSeven
namespace Go.Proofs.YtgelgfgcdfnacaaGreatDoor
namespace Rows

/-- THE TIED CARD OF 'anagnostlaw4.LexAll'. -/
def lexAllCard : Claim7 := { stood := { row := lexAllRow, standIns := [], harness := (true, "8ac64c751b5040db336ff4da4a0ab0bfe0f453e180b4c60cec6abadd10168a80"), looks := false }, kinds := [], alts := [], laidByText := true, laidKinds := [.data, .data, .pinned], laidTests := true, laidLooks := .later }
def LexAllCardSaid : Prop := Claim7.holds Tryz.pinned (.plain (OpenSpec.ofChange lexAllSpec)) lexAllCard

/-- THE TIED CARD OF 'anagnostlaw4.LexNext'. -/
def lexNextCard : Claim7 := { stood := { row := lexNextRow, standIns := [], harness := (true, "8ac64c751b5040db336ff4da4a0ab0bfe0f453e180b4c60cec6abadd10168a80"), looks := false }, kinds := [], alts := [], laidByText := true, laidKinds := [.data, .data, .pinned], laidTests := true, laidLooks := .later }
def LexNextCardSaid : Prop := Claim7.holds Tryz.pinned (.plain (OpenSpec.ofChange lexNextSpec)) lexNextCard

/-- THE SECOND FORM's CARD OF 'anagnostlaw4.LexAll'. -/
def lexAllUptoCard : Claim7 := { stood := { row := lexAllUptoRow, standIns := [], harness := (true, "8ac64c751b5040db336ff4da4a0ab0bfe0f453e180b4c60cec6abadd10168a80"), looks := false }, kinds := [], alts := [], laidByText := true, laidKinds := [.data, .data, .pinned], laidTests := true, laidLooks := .later }
def LexAllUptoCardSaid : Prop := Claim7.holds Tryz.pinned (.plain (OpenSpec.upto lexAllSpec)) lexAllUptoCard

/-- THE SECOND FORM's CARD OF 'anagnostlaw4.LexNext'. -/
def lexNextUptoCard : Claim7 := { stood := { row := lexNextUptoRow, standIns := [], harness := (true, "8ac64c751b5040db336ff4da4a0ab0bfe0f453e180b4c60cec6abadd10168a80"), looks := false }, kinds := [], alts := [], laidByText := true, laidKinds := [.data, .data, .pinned], laidTests := true, laidLooks := .later }
def LexNextUptoCardSaid : Prop := Claim7.holds Tryz.pinned (.plain (OpenSpec.upto lexNextSpec)) lexNextUptoCard
end Rows
end Go.Proofs.YtgelgfgcdfnacaaGreatDoor
