/-
  DERIVED. GIVEN WITH THE SEED: THE CARDS: each row of YtklhllgdkmpnmaaDoorRows.lean that lists a variable, with what it lists TIED to the program's text (the seventh form; the later family's looks); each row that meets fmt, with fmt's text TOLD by the authors' own Lean function (tested against real Go, not proved from fmt's source: count such statements apart). THE CARD IS WHAT COUNTS. Prove the row's statement (the work); the ties are given (YtklhllgdkmpnmaaDoorTie.lean); close each card by the builder's one call (the guide's Derived/Test/ToyasCard.lean, 'card_holds'). Laid BY PROGRAM, IN A SANDBOX (cutbox-door.mjs). By AI agents, Wed Nov 11 2026. No macro, syntax, notation, axiom, sorry.
-/
import Derived.Test.YtklhllgdkmpnmaaDoorRows
import GoSem.ClaimSeven
namespace Go.Proofs.YtklhllgdkmpnmaaDoor
namespace Rows

/-- THE TIED CARD OF 'anagnostlaw3.TagAt'. -/
def tagAtCard : Claim7 := { stood := { row := tagAtRow, standIns := [], harness := (true, "11ea507b7d79845729d0244e02eab672ac001210943df1b56e8ac70fa379935a"), looks := false }, kinds := [], alts := [], laidByText := true, laidKinds := [.data, .data, .pinned], laidTests := true, laidLooks := .later }
def TagAtCardSaid : Prop := Claim7.holds Tryd.pinned (.plain (OpenSpec.ofChange tagAtSpec)) tagAtCard

/-- THE TIED CARD OF 'anagnostlaw3.TagReads'. -/
def tagReadsCard : Claim7 := { stood := { row := tagReadsRow, standIns := [], harness := (true, "11ea507b7d79845729d0244e02eab672ac001210943df1b56e8ac70fa379935a"), looks := false }, kinds := [], alts := [], laidByText := true, laidKinds := [.data, .data, .pinned], laidTests := true, laidLooks := .later }
def TagReadsCardSaid : Prop := Claim7.holds Tryd.pinned (.plain (OpenSpec.ofChange tagReadsSpec)) tagReadsCard

/-- THE TIED CARD OF 'anagnostlaw3.TagMade'. -/
def tagMadeCard : Claim7 := { stood := { row := tagMadeRow, standIns := [], harness := (true, "11ea507b7d79845729d0244e02eab672ac001210943df1b56e8ac70fa379935a"), looks := false }, kinds := [], alts := [], laidByText := true, laidKinds := [.data, .data, .pinned], laidTests := true, laidLooks := .later }
def TagMadeCardSaid : Prop := Claim7.holds Tryd.pinned (.plain (OpenSpec.ofChange tagMadeSpec)) tagMadeCard

/-- THE TIED CARD OF 'anagnostlaw3.TagFinds'. -/
def tagFindsCard : Claim7 := { stood := { row := tagFindsRow, standIns := [], harness := (true, "11ea507b7d79845729d0244e02eab672ac001210943df1b56e8ac70fa379935a"), looks := false }, kinds := [], alts := [], laidByText := true, laidKinds := [.data, .data, .pinned], laidTests := true, laidLooks := .later }
def TagFindsCardSaid : Prop := Claim7.holds Tryd.pinned (.plain (OpenSpec.ofChange tagFindsSpec)) tagFindsCard

/-- THE TIED CARD OF 'anagnostlaw3.TagSames'. -/
def tagSamesCard : Claim7 := { stood := { row := tagSamesRow, standIns := [], harness := (true, "11ea507b7d79845729d0244e02eab672ac001210943df1b56e8ac70fa379935a"), looks := false }, kinds := [], alts := [], laidByText := true, laidKinds := [.data, .data, .pinned], laidTests := true, laidLooks := .later }
def TagSamesCardSaid : Prop := Claim7.holds Tryd.pinned (.plain (OpenSpec.ofChange tagSamesSpec)) tagSamesCard

/-- THE TIED CARD OF 'anagnostlaw3.TagOnce'. -/
def tagOnceCard : Claim7 := { stood := { row := tagOnceRow, standIns := [], harness := (true, "11ea507b7d79845729d0244e02eab672ac001210943df1b56e8ac70fa379935a"), looks := false }, kinds := [], alts := [], laidByText := true, laidKinds := [.data, .data, .pinned], laidTests := true, laidLooks := .later }
def TagOnceCardSaid : Prop := Claim7.holds Tryd.pinned (.plain (OpenSpec.ofChange tagOnceSpec)) tagOnceCard

/-- THE TIED CARD OF 'anagnostlaw3.TagCuts'. -/
def tagCutsCard : Claim7 := { stood := { row := tagCutsRow, standIns := [], harness := (true, "11ea507b7d79845729d0244e02eab672ac001210943df1b56e8ac70fa379935a"), looks := false }, kinds := [], alts := [], laidByText := true, laidKinds := [.data, .data, .pinned], laidTests := true, laidLooks := .later }
def TagCutsCardSaid : Prop := Claim7.holds Tryd.pinned (.plain (OpenSpec.ofChange tagCutsSpec)) tagCutsCard

/-- THE TIED CARD OF 'anagnostlaw3.TagValues'. -/
def tagValuesCard : Claim7 := { stood := { row := tagValuesRow, standIns := [], harness := (true, "11ea507b7d79845729d0244e02eab672ac001210943df1b56e8ac70fa379935a"), looks := false }, kinds := [], alts := [], laidByText := true, laidKinds := [.data, .data, .pinned], laidTests := true, laidLooks := .later }
def TagValuesCardSaid : Prop := Claim7.holds Tryd.pinned (.plain (OpenSpec.ofChange tagValuesSpec)) tagValuesCard

/-- THE TIED CARD OF 'anagnostlaw3.TagKnown'. -/
def tagKnownCard : Claim7 := { stood := { row := tagKnownRow, standIns := [], harness := (true, "11ea507b7d79845729d0244e02eab672ac001210943df1b56e8ac70fa379935a"), looks := false }, kinds := [], alts := [], laidByText := true, laidKinds := [.data, .data, .pinned], laidTests := true, laidLooks := .later }
def TagKnownCardSaid : Prop := Claim7.holds Tryd.pinned (.plain (OpenSpec.ofChange tagKnownSpec)) tagKnownCard

/-- THE SECOND FORM's CARD OF 'anagnostlaw3.TagAt'. -/
def tagAtUptoCard : Claim7 := { stood := { row := tagAtUptoRow, standIns := [], harness := (true, "11ea507b7d79845729d0244e02eab672ac001210943df1b56e8ac70fa379935a"), looks := false }, kinds := [], alts := [], laidByText := true, laidKinds := [.data, .data, .pinned], laidTests := true, laidLooks := .later }
def TagAtUptoCardSaid : Prop := Claim7.holds Tryd.pinned (.plain (OpenSpec.upto tagAtSpec)) tagAtUptoCard

/-- THE SECOND FORM's CARD OF 'anagnostlaw3.TagReads'. -/
def tagReadsUptoCard : Claim7 := { stood := { row := tagReadsUptoRow, standIns := [], harness := (true, "11ea507b7d79845729d0244e02eab672ac001210943df1b56e8ac70fa379935a"), looks := false }, kinds := [], alts := [], laidByText := true, laidKinds := [.data, .data, .pinned], laidTests := true, laidLooks := .later }
def TagReadsUptoCardSaid : Prop := Claim7.holds Tryd.pinned (.plain (OpenSpec.upto tagReadsSpec)) tagReadsUptoCard

/-- THE SECOND FORM's CARD OF 'anagnostlaw3.TagMade'. -/
def tagMadeUptoCard : Claim7 := { stood := { row := tagMadeUptoRow, standIns := [], harness := (true, "11ea507b7d79845729d0244e02eab672ac001210943df1b56e8ac70fa379935a"), looks := false }, kinds := [], alts := [], laidByText := true, laidKinds := [.data, .data, .pinned], laidTests := true, laidLooks := .later }
def TagMadeUptoCardSaid : Prop := Claim7.holds Tryd.pinned (.plain (OpenSpec.upto tagMadeSpec)) tagMadeUptoCard

/-- THE SECOND FORM's CARD OF 'anagnostlaw3.TagFinds'. -/
def tagFindsUptoCard : Claim7 := { stood := { row := tagFindsUptoRow, standIns := [], harness := (true, "11ea507b7d79845729d0244e02eab672ac001210943df1b56e8ac70fa379935a"), looks := false }, kinds := [], alts := [], laidByText := true, laidKinds := [.data, .data, .pinned], laidTests := true, laidLooks := .later }
def TagFindsUptoCardSaid : Prop := Claim7.holds Tryd.pinned (.plain (OpenSpec.upto tagFindsSpec)) tagFindsUptoCard

/-- THE SECOND FORM's CARD OF 'anagnostlaw3.TagSames'. -/
def tagSamesUptoCard : Claim7 := { stood := { row := tagSamesUptoRow, standIns := [], harness := (true, "11ea507b7d79845729d0244e02eab672ac001210943df1b56e8ac70fa379935a"), looks := false }, kinds := [], alts := [], laidByText := true, laidKinds := [.data, .data, .pinned], laidTests := true, laidLooks := .later }
def TagSamesUptoCardSaid : Prop := Claim7.holds Tryd.pinned (.plain (OpenSpec.upto tagSamesSpec)) tagSamesUptoCard

/-- THE SECOND FORM's CARD OF 'anagnostlaw3.TagOnce'. -/
def tagOnceUptoCard : Claim7 := { stood := { row := tagOnceUptoRow, standIns := [], harness := (true, "11ea507b7d79845729d0244e02eab672ac001210943df1b56e8ac70fa379935a"), looks := false }, kinds := [], alts := [], laidByText := true, laidKinds := [.data, .data, .pinned], laidTests := true, laidLooks := .later }
def TagOnceUptoCardSaid : Prop := Claim7.holds Tryd.pinned (.plain (OpenSpec.upto tagOnceSpec)) tagOnceUptoCard

/-- THE SECOND FORM's CARD OF 'anagnostlaw3.TagCuts'. -/
def tagCutsUptoCard : Claim7 := { stood := { row := tagCutsUptoRow, standIns := [], harness := (true, "11ea507b7d79845729d0244e02eab672ac001210943df1b56e8ac70fa379935a"), looks := false }, kinds := [], alts := [], laidByText := true, laidKinds := [.data, .data, .pinned], laidTests := true, laidLooks := .later }
def TagCutsUptoCardSaid : Prop := Claim7.holds Tryd.pinned (.plain (OpenSpec.upto tagCutsSpec)) tagCutsUptoCard

/-- THE SECOND FORM's CARD OF 'anagnostlaw3.TagValues'. -/
def tagValuesUptoCard : Claim7 := { stood := { row := tagValuesUptoRow, standIns := [], harness := (true, "11ea507b7d79845729d0244e02eab672ac001210943df1b56e8ac70fa379935a"), looks := false }, kinds := [], alts := [], laidByText := true, laidKinds := [.data, .data, .pinned], laidTests := true, laidLooks := .later }
def TagValuesUptoCardSaid : Prop := Claim7.holds Tryd.pinned (.plain (OpenSpec.upto tagValuesSpec)) tagValuesUptoCard

/-- THE SECOND FORM's CARD OF 'anagnostlaw3.TagKnown'. -/
def tagKnownUptoCard : Claim7 := { stood := { row := tagKnownUptoRow, standIns := [], harness := (true, "11ea507b7d79845729d0244e02eab672ac001210943df1b56e8ac70fa379935a"), looks := false }, kinds := [], alts := [], laidByText := true, laidKinds := [.data, .data, .pinned], laidTests := true, laidLooks := .later }
def TagKnownUptoCardSaid : Prop := Claim7.holds Tryd.pinned (.plain (OpenSpec.upto tagKnownSpec)) tagKnownUptoCard
end Rows
end Go.Proofs.YtklhllgdkmpnmaaDoor
