/-
  DERIVED. GIVEN WITH THE SEED: THE CARDS: each row of YtgelgfgcdfnacaaDoorRows.lean that lists a variable, with what it lists TIED to the program's text (the seventh form; the later family's looks); each row that meets fmt, with fmt's text TOLD by the authors' own Lean function (tested against real Go, not proved from fmt's source: count such statements apart). THE CARD IS WHAT COUNTS. Prove the row's statement (the work); the ties are given (YtgelgfgcdfnacaaDoorTie.lean); close each card by the builder's one call (the guide's Derived/Test/ToyasCard.lean, 'card_holds'). Laid BY PROGRAM, IN A SANDBOX (cutbox-door.mjs). By AI agents, Wed Nov 11 2026. No macro, syntax, notation, axiom, sorry.
-/
import Derived.Test.YtgelgfgcdfnacaaDoorRows
import GoSem.ClaimSeven
namespace Go.Proofs.YtgelgfgcdfnacaaDoor
namespace Rows

/-- THE TIED CARD OF 'anagnostlaw4.LexPlaces'. -/
def lexPlacesCard : Claim7 := { stood := { row := lexPlacesRow, standIns := [], harness := (true, "5f7899e51b3c05e1ff54b3c8162912993f2d59fbad28b45dd4fe09a3137d77cd"), looks := false }, kinds := [], alts := [], laidByText := true, laidKinds := [.data, .data, .pinned], laidTests := true, laidLooks := .later }
def LexPlacesCardSaid : Prop := Claim7.holds Tryd.pinned (.plain (OpenSpec.ofChange lexPlacesSpec)) lexPlacesCard

/-- THE TIED CARD OF 'anagnostlaw4.LexNotes'. -/
def lexNotesCard : Claim7 := { stood := { row := lexNotesRow, standIns := [], harness := (true, "5f7899e51b3c05e1ff54b3c8162912993f2d59fbad28b45dd4fe09a3137d77cd"), looks := false }, kinds := [], alts := [], laidByText := true, laidKinds := [.data, .data, .pinned], laidTests := true, laidLooks := .later }
def LexNotesCardSaid : Prop := Claim7.holds Tryd.pinned (.plain (OpenSpec.ofChange lexNotesSpec)) lexNotesCard

/-- THE TIED CARD OF 'anagnostlaw4.LexRaw'. -/
def lexRawCard : Claim7 := { stood := { row := lexRawRow, standIns := [], harness := (true, "5f7899e51b3c05e1ff54b3c8162912993f2d59fbad28b45dd4fe09a3137d77cd"), looks := false }, kinds := [], alts := [], laidByText := true, laidKinds := [.data, .data, .pinned], laidTests := true, laidLooks := .later }
def LexRawCardSaid : Prop := Claim7.holds Tryd.pinned (.plain (OpenSpec.ofChange lexRawSpec)) lexRawCard

/-- THE TIED CARD OF 'anagnostlaw4.LexPlain'. -/
def lexPlainCard : Claim7 := { stood := { row := lexPlainRow, standIns := [], harness := (true, "5f7899e51b3c05e1ff54b3c8162912993f2d59fbad28b45dd4fe09a3137d77cd"), looks := false }, kinds := [], alts := [], laidByText := true, laidKinds := [.data, .data, .pinned], laidTests := true, laidLooks := .later }
def LexPlainCardSaid : Prop := Claim7.holds Tryd.pinned (.plain (OpenSpec.ofChange lexPlainSpec)) lexPlainCard

/-- THE TIED CARD OF 'anagnostlaw4.LexDeep'. -/
def lexDeepCard : Claim7 := { stood := { row := lexDeepRow, standIns := [], harness := (true, "5f7899e51b3c05e1ff54b3c8162912993f2d59fbad28b45dd4fe09a3137d77cd"), looks := false }, kinds := [], alts := [], laidByText := true, laidKinds := [.data, .data, .pinned], laidTests := true, laidLooks := .later }
def LexDeepCardSaid : Prop := Claim7.holds Tryd.pinned (.plain (OpenSpec.ofChange lexDeepSpec)) lexDeepCard

/-- THE TIED CARD OF 'anagnostlaw4.LexTypes'. -/
def lexTypesCard : Claim7 := { stood := { row := lexTypesRow, standIns := [], harness := (true, "5f7899e51b3c05e1ff54b3c8162912993f2d59fbad28b45dd4fe09a3137d77cd"), looks := false }, kinds := [], alts := [], laidByText := true, laidKinds := [.data, .data, .pinned], laidTests := true, laidLooks := .later }
def LexTypesCardSaid : Prop := Claim7.holds Tryd.pinned (.plain (OpenSpec.ofChange lexTypesSpec)) lexTypesCard

/-- THE TIED CARD OF 'anagnostlaw4.LexFolds'. -/
def lexFoldsCard : Claim7 := { stood := { row := lexFoldsRow, standIns := [], harness := (true, "5f7899e51b3c05e1ff54b3c8162912993f2d59fbad28b45dd4fe09a3137d77cd"), looks := false }, kinds := [], alts := [], laidByText := true, laidKinds := [.data, .data, .pinned], laidTests := true, laidLooks := .later }
def LexFoldsCardSaid : Prop := Claim7.holds Tryd.pinned (.plain (OpenSpec.ofChange lexFoldsSpec)) lexFoldsCard

/-- THE TIED CARD OF 'anagnostlaw4.LexKnown'. -/
def lexKnownCard : Claim7 := { stood := { row := lexKnownRow, standIns := [], harness := (true, "5f7899e51b3c05e1ff54b3c8162912993f2d59fbad28b45dd4fe09a3137d77cd"), looks := false }, kinds := [], alts := [], laidByText := true, laidKinds := [.data, .data, .pinned], laidTests := true, laidLooks := .later }
def LexKnownCardSaid : Prop := Claim7.holds Tryd.pinned (.plain (OpenSpec.ofChange lexKnownSpec)) lexKnownCard

/-- THE TIED CARD OF 'anagnostlaw3.TagSames'. -/
def tagSamesCard : Claim7 := { stood := { row := tagSamesRow, standIns := [], harness := (true, "5f7899e51b3c05e1ff54b3c8162912993f2d59fbad28b45dd4fe09a3137d77cd"), looks := false }, kinds := [], alts := [], laidByText := true, laidKinds := [.data, .data, .pinned], laidTests := true, laidLooks := .later }
def TagSamesCardSaid : Prop := Claim7.holds Tryd.pinned (.plain (OpenSpec.ofChange tagSamesSpec)) tagSamesCard

/-- THE SECOND FORM's CARD OF 'anagnostlaw4.LexPlaces'. -/
def lexPlacesUptoCard : Claim7 := { stood := { row := lexPlacesUptoRow, standIns := [], harness := (true, "5f7899e51b3c05e1ff54b3c8162912993f2d59fbad28b45dd4fe09a3137d77cd"), looks := false }, kinds := [], alts := [], laidByText := true, laidKinds := [.data, .data, .pinned], laidTests := true, laidLooks := .later }
def LexPlacesUptoCardSaid : Prop := Claim7.holds Tryd.pinned (.plain (OpenSpec.upto lexPlacesSpec)) lexPlacesUptoCard

/-- THE SECOND FORM's CARD OF 'anagnostlaw4.LexNotes'. -/
def lexNotesUptoCard : Claim7 := { stood := { row := lexNotesUptoRow, standIns := [], harness := (true, "5f7899e51b3c05e1ff54b3c8162912993f2d59fbad28b45dd4fe09a3137d77cd"), looks := false }, kinds := [], alts := [], laidByText := true, laidKinds := [.data, .data, .pinned], laidTests := true, laidLooks := .later }
def LexNotesUptoCardSaid : Prop := Claim7.holds Tryd.pinned (.plain (OpenSpec.upto lexNotesSpec)) lexNotesUptoCard

/-- THE SECOND FORM's CARD OF 'anagnostlaw4.LexRaw'. -/
def lexRawUptoCard : Claim7 := { stood := { row := lexRawUptoRow, standIns := [], harness := (true, "5f7899e51b3c05e1ff54b3c8162912993f2d59fbad28b45dd4fe09a3137d77cd"), looks := false }, kinds := [], alts := [], laidByText := true, laidKinds := [.data, .data, .pinned], laidTests := true, laidLooks := .later }
def LexRawUptoCardSaid : Prop := Claim7.holds Tryd.pinned (.plain (OpenSpec.upto lexRawSpec)) lexRawUptoCard

/-- THE SECOND FORM's CARD OF 'anagnostlaw4.LexPlain'. -/
def lexPlainUptoCard : Claim7 := { stood := { row := lexPlainUptoRow, standIns := [], harness := (true, "5f7899e51b3c05e1ff54b3c8162912993f2d59fbad28b45dd4fe09a3137d77cd"), looks := false }, kinds := [], alts := [], laidByText := true, laidKinds := [.data, .data, .pinned], laidTests := true, laidLooks := .later }
def LexPlainUptoCardSaid : Prop := Claim7.holds Tryd.pinned (.plain (OpenSpec.upto lexPlainSpec)) lexPlainUptoCard

/-- THE SECOND FORM's CARD OF 'anagnostlaw4.LexDeep'. -/
def lexDeepUptoCard : Claim7 := { stood := { row := lexDeepUptoRow, standIns := [], harness := (true, "5f7899e51b3c05e1ff54b3c8162912993f2d59fbad28b45dd4fe09a3137d77cd"), looks := false }, kinds := [], alts := [], laidByText := true, laidKinds := [.data, .data, .pinned], laidTests := true, laidLooks := .later }
def LexDeepUptoCardSaid : Prop := Claim7.holds Tryd.pinned (.plain (OpenSpec.upto lexDeepSpec)) lexDeepUptoCard

/-- THE SECOND FORM's CARD OF 'anagnostlaw4.LexTypes'. -/
def lexTypesUptoCard : Claim7 := { stood := { row := lexTypesUptoRow, standIns := [], harness := (true, "5f7899e51b3c05e1ff54b3c8162912993f2d59fbad28b45dd4fe09a3137d77cd"), looks := false }, kinds := [], alts := [], laidByText := true, laidKinds := [.data, .data, .pinned], laidTests := true, laidLooks := .later }
def LexTypesUptoCardSaid : Prop := Claim7.holds Tryd.pinned (.plain (OpenSpec.upto lexTypesSpec)) lexTypesUptoCard

/-- THE SECOND FORM's CARD OF 'anagnostlaw4.LexFolds'. -/
def lexFoldsUptoCard : Claim7 := { stood := { row := lexFoldsUptoRow, standIns := [], harness := (true, "5f7899e51b3c05e1ff54b3c8162912993f2d59fbad28b45dd4fe09a3137d77cd"), looks := false }, kinds := [], alts := [], laidByText := true, laidKinds := [.data, .data, .pinned], laidTests := true, laidLooks := .later }
def LexFoldsUptoCardSaid : Prop := Claim7.holds Tryd.pinned (.plain (OpenSpec.upto lexFoldsSpec)) lexFoldsUptoCard

/-- THE SECOND FORM's CARD OF 'anagnostlaw4.LexKnown'. -/
def lexKnownUptoCard : Claim7 := { stood := { row := lexKnownUptoRow, standIns := [], harness := (true, "5f7899e51b3c05e1ff54b3c8162912993f2d59fbad28b45dd4fe09a3137d77cd"), looks := false }, kinds := [], alts := [], laidByText := true, laidKinds := [.data, .data, .pinned], laidTests := true, laidLooks := .later }
def LexKnownUptoCardSaid : Prop := Claim7.holds Tryd.pinned (.plain (OpenSpec.upto lexKnownSpec)) lexKnownUptoCard

/-- THE SECOND FORM's CARD OF 'anagnostlaw3.TagSames'. -/
def tagSamesUptoCard : Claim7 := { stood := { row := tagSamesUptoRow, standIns := [], harness := (true, "5f7899e51b3c05e1ff54b3c8162912993f2d59fbad28b45dd4fe09a3137d77cd"), looks := false }, kinds := [], alts := [], laidByText := true, laidKinds := [.data, .data, .pinned], laidTests := true, laidLooks := .later }
def TagSamesUptoCardSaid : Prop := Claim7.holds Tryd.pinned (.plain (OpenSpec.upto tagSamesSpec)) tagSamesUptoCard
end Rows
end Go.Proofs.YtgelgfgcdfnacaaDoor
