/-
  DERIVED. GIVEN WITH THE SEED: THE CARDS: each row of YtobgdignanpliaaDoorRows.lean that lists a variable, with what it lists TIED to the program's text (the seventh form; the later family's looks); each row that meets fmt, with fmt's text TOLD by the authors' own Lean function (tested against real Go, not proved from fmt's source: count such statements apart). THE CARD IS WHAT COUNTS. Prove the row's statement (the work); the ties are given (YtobgdignanpliaaDoorTie.lean); close each card by the builder's one call (the guide's Derived/Test/ToyasCard.lean, 'card_holds'). Laid BY PROGRAM, IN A SANDBOX (cutbox-door.mjs). By AI agents, Wed Nov 11 2026. No macro, syntax, notation, axiom, sorry.
-/
import Derived.Test.YtobgdignanpliaaDoorRows
import GoSem.ClaimSeven
namespace Go.Proofs.YtobgdignanpliaaDoor
namespace Rows

/-- THE TIED CARD OF 'anagnostlaw2.RefsNumbers'. -/
def refsNumbersCard : Claim7 := { stood := { row := refsNumbersRow, standIns := [], harness := (true, "88c86f1a9c41063df06f6190000909cbdbe2e7a7a1f9a8f0259cefd424b5a466"), looks := false }, kinds := [], alts := [], laidByText := true, laidKinds := [.data], laidTests := true, laidLooks := .later }
def RefsNumbersCardSaid : Prop := Claim7.holds Tryd.pinned (.plain (OpenSpec.ofChange refsNumbersSpec)) refsNumbersCard

/-- THE TIED CARD OF 'anagnostlaw2.RefsReads'. -/
def refsReadsCard : Claim7 := { stood := { row := refsReadsRow, standIns := [], harness := (true, "88c86f1a9c41063df06f6190000909cbdbe2e7a7a1f9a8f0259cefd424b5a466"), looks := false }, kinds := [], alts := [], laidByText := true, laidKinds := [.data], laidTests := true, laidLooks := .later }
def RefsReadsCardSaid : Prop := Claim7.holds Tryd.pinned (.plain (OpenSpec.ofChange refsReadsSpec)) refsReadsCard

/-- THE TIED CARD OF 'anagnostlaw2.RefsExpands'. -/
def refsExpandsCard : Claim7 := { stood := { row := refsExpandsRow, standIns := [], harness := (true, "88c86f1a9c41063df06f6190000909cbdbe2e7a7a1f9a8f0259cefd424b5a466"), looks := false }, kinds := [], alts := [], laidByText := true, laidKinds := [.data], laidTests := true, laidLooks := .later }
def RefsExpandsCardSaid : Prop := Claim7.holds Tryd.pinned (.plain (OpenSpec.ofChange refsExpandsSpec)) refsExpandsCard

/-- THE TIED CARD OF 'anagnostlaw2.RefsDigits'. -/
def refsDigitsCard : Claim7 := { stood := { row := refsDigitsRow, standIns := [], harness := (true, "88c86f1a9c41063df06f6190000909cbdbe2e7a7a1f9a8f0259cefd424b5a466"), looks := false }, kinds := [], alts := [], laidByText := true, laidKinds := [.data], laidTests := true, laidLooks := .later }
def RefsDigitsCardSaid : Prop := Claim7.holds Tryd.pinned (.plain (OpenSpec.ofChange refsDigitsSpec)) refsDigitsCard

/-- THE TIED CARD OF 'anagnostlaw2.RefsPlain'. -/
def refsPlainCard : Claim7 := { stood := { row := refsPlainRow, standIns := [], harness := (true, "88c86f1a9c41063df06f6190000909cbdbe2e7a7a1f9a8f0259cefd424b5a466"), looks := false }, kinds := [], alts := [], laidByText := true, laidKinds := [.data], laidTests := true, laidLooks := .later }
def RefsPlainCardSaid : Prop := Claim7.holds Tryd.pinned (.plain (OpenSpec.ofChange refsPlainSpec)) refsPlainCard

/-- THE TIED CARD OF 'anagnostlaw2.RefsParts'. -/
def refsPartsCard : Claim7 := { stood := { row := refsPartsRow, standIns := [], harness := (true, "88c86f1a9c41063df06f6190000909cbdbe2e7a7a1f9a8f0259cefd424b5a466"), looks := false }, kinds := [], alts := [], laidByText := true, laidKinds := [.data], laidTests := true, laidLooks := .later }
def RefsPartsCardSaid : Prop := Claim7.holds Tryd.pinned (.plain (OpenSpec.ofChange refsPartsSpec)) refsPartsCard

/-- THE TIED CARD OF 'anagnostlaw2.RefsKnown'. -/
def refsKnownCard : Claim7 := { stood := { row := refsKnownRow, standIns := [], harness := (true, "88c86f1a9c41063df06f6190000909cbdbe2e7a7a1f9a8f0259cefd424b5a466"), looks := false }, kinds := [], alts := [], laidByText := true, laidKinds := [.data], laidTests := true, laidLooks := .later }
def RefsKnownCardSaid : Prop := Claim7.holds Tryd.pinned (.plain (OpenSpec.ofChange refsKnownSpec)) refsKnownCard

/-- THE SECOND FORM's CARD OF 'anagnostlaw2.RefsNumbers'. -/
def refsNumbersUptoCard : Claim7 := { stood := { row := refsNumbersUptoRow, standIns := [], harness := (true, "88c86f1a9c41063df06f6190000909cbdbe2e7a7a1f9a8f0259cefd424b5a466"), looks := false }, kinds := [], alts := [], laidByText := true, laidKinds := [.data], laidTests := true, laidLooks := .later }
def RefsNumbersUptoCardSaid : Prop := Claim7.holds Tryd.pinned (.plain (OpenSpec.upto refsNumbersSpec)) refsNumbersUptoCard

/-- THE SECOND FORM's CARD OF 'anagnostlaw2.RefsReads'. -/
def refsReadsUptoCard : Claim7 := { stood := { row := refsReadsUptoRow, standIns := [], harness := (true, "88c86f1a9c41063df06f6190000909cbdbe2e7a7a1f9a8f0259cefd424b5a466"), looks := false }, kinds := [], alts := [], laidByText := true, laidKinds := [.data], laidTests := true, laidLooks := .later }
def RefsReadsUptoCardSaid : Prop := Claim7.holds Tryd.pinned (.plain (OpenSpec.upto refsReadsSpec)) refsReadsUptoCard

/-- THE SECOND FORM's CARD OF 'anagnostlaw2.RefsExpands'. -/
def refsExpandsUptoCard : Claim7 := { stood := { row := refsExpandsUptoRow, standIns := [], harness := (true, "88c86f1a9c41063df06f6190000909cbdbe2e7a7a1f9a8f0259cefd424b5a466"), looks := false }, kinds := [], alts := [], laidByText := true, laidKinds := [.data], laidTests := true, laidLooks := .later }
def RefsExpandsUptoCardSaid : Prop := Claim7.holds Tryd.pinned (.plain (OpenSpec.upto refsExpandsSpec)) refsExpandsUptoCard

/-- THE SECOND FORM's CARD OF 'anagnostlaw2.RefsDigits'. -/
def refsDigitsUptoCard : Claim7 := { stood := { row := refsDigitsUptoRow, standIns := [], harness := (true, "88c86f1a9c41063df06f6190000909cbdbe2e7a7a1f9a8f0259cefd424b5a466"), looks := false }, kinds := [], alts := [], laidByText := true, laidKinds := [.data], laidTests := true, laidLooks := .later }
def RefsDigitsUptoCardSaid : Prop := Claim7.holds Tryd.pinned (.plain (OpenSpec.upto refsDigitsSpec)) refsDigitsUptoCard

/-- THE SECOND FORM's CARD OF 'anagnostlaw2.RefsPlain'. -/
def refsPlainUptoCard : Claim7 := { stood := { row := refsPlainUptoRow, standIns := [], harness := (true, "88c86f1a9c41063df06f6190000909cbdbe2e7a7a1f9a8f0259cefd424b5a466"), looks := false }, kinds := [], alts := [], laidByText := true, laidKinds := [.data], laidTests := true, laidLooks := .later }
def RefsPlainUptoCardSaid : Prop := Claim7.holds Tryd.pinned (.plain (OpenSpec.upto refsPlainSpec)) refsPlainUptoCard

/-- THE SECOND FORM's CARD OF 'anagnostlaw2.RefsParts'. -/
def refsPartsUptoCard : Claim7 := { stood := { row := refsPartsUptoRow, standIns := [], harness := (true, "88c86f1a9c41063df06f6190000909cbdbe2e7a7a1f9a8f0259cefd424b5a466"), looks := false }, kinds := [], alts := [], laidByText := true, laidKinds := [.data], laidTests := true, laidLooks := .later }
def RefsPartsUptoCardSaid : Prop := Claim7.holds Tryd.pinned (.plain (OpenSpec.upto refsPartsSpec)) refsPartsUptoCard

/-- THE SECOND FORM's CARD OF 'anagnostlaw2.RefsKnown'. -/
def refsKnownUptoCard : Claim7 := { stood := { row := refsKnownUptoRow, standIns := [], harness := (true, "88c86f1a9c41063df06f6190000909cbdbe2e7a7a1f9a8f0259cefd424b5a466"), looks := false }, kinds := [], alts := [], laidByText := true, laidKinds := [.data], laidTests := true, laidLooks := .later }
def RefsKnownUptoCardSaid : Prop := Claim7.holds Tryd.pinned (.plain (OpenSpec.upto refsKnownSpec)) refsKnownUptoCard
end Rows
end Go.Proofs.YtobgdignanpliaaDoor
