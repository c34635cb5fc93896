/-
  NARROWER THAN 'FOR EVERY INPUT', by the rows' own cells (each row's printed sentence says how): RefsNumbers: laid · RefsReads: laid · RefsExpands: laid · RefsDigits: laid · RefsPlain: laid · RefsParts: laid · RefsKnown: laid.
  DERIVED. THE GIVEN ROWS OF THIS SEAT. 7 by the template 'for every input the law returns true; each argument reads behind the call as it read before'; 0 by the template 'total and deterministic' (their statements: YtobgdignanpliaaDoorTotals.lean).
  GIVEN WITH THE SEED: the statements are not yours to turn. If you find one false, say at which input.
  Laid BY PROGRAM, IN A SANDBOX (cutbox-rows.mjs): the forced cells as the released guide's own fill.sh prints them over the translation 161ab2d54dab0ef4… (all of the seat's roots in one cut). By AI agents, Wed Nov 11 2026. No macro, syntax, notation, axiom, sorry.
-/
import Derived.Test.YtobgdignanpliaaDoorChecked
import GoSem.Claim
import GoSem.ClaimJoined
import GoSem.ClaimMapViews
import Derived.JoinedTies
import Derived.KernelRfl
namespace Go.Proofs.YtobgdignanpliaaDoor
/- THE CELL 'sum', in the pinned program and in every row, IS THE sha256 OF THE DUMP (.gsa) THAT YtobgdignanpliaaDoorProg.lean LOADS. Nothing in Lean hashes anything: it is a label: what it is worth is what the hold of that sum in a sandbox is worth. -/
noncomputable def Tryd.pinned : Pinned := { name := "ytobgdignanpliaadoor", sum := "161ab2d54dab0ef4f595e3d923ac8318758d031b9aaa05bc0dcbbcaf7ad283e5", checked := Tryd.checked }
namespace Rows
def none {H : Type} : Left H := { results := [], args := [] }

/- WHAT THE LISTED PACKAGE-LEVEL VARIABLES READ AS WHEN THE CALL BEGINS. Each datum BY PROGRAM (the guide's laid-datum.mjs) off the statement by which the dump's own 'gosem.cut.vars' lays the variable. In a bare row this is a premise. The card (YtobgdignanpliaaDoorCards.lean) ties it to the program's text. -/
def laid_anagnost_refs_early {H : Type} : DataW H := .agg [.lit (.int .i32 8364), .lit (.int .i32 129), .lit (.int .i32 8218), .lit (.int .i32 402), .lit (.int .i32 8222), .lit (.int .i32 8230), .lit (.int .i32 8224), .lit (.int .i32 8225), .lit (.int .i32 710), .lit (.int .i32 8240), .lit (.int .i32 352), .lit (.int .i32 8249), .lit (.int .i32 338), .lit (.int .i32 141), .lit (.int .i32 381), .lit (.int .i32 143), .lit (.int .i32 144), .lit (.int .i32 8216), .lit (.int .i32 8217), .lit (.int .i32 8220), .lit (.int .i32 8221), .lit (.int .i32 8226), .lit (.int .i32 8211), .lit (.int .i32 8212), .lit (.int .i32 732), .lit (.int .i32 8482), .lit (.int .i32 353), .lit (.int .i32 8250), .lit (.int .i32 339), .lit (.int .i32 157), .lit (.int .i32 382), .lit (.int .i32 376)]

/-- 'anagnostlaw2.RefsNumbers': WHATEVER THE INPUT: true; the input reads as it did. -/
def refsNumbersSpec : ChangeSpec := { name := "refsNumbers", fn := fun _ => fun
  | [d] => { results := [.lit (.bool true)], args := [d] }
  | _ => none }
def refsNumbersRow : OpenClaim := { program := "ytobgdignanpliaadoor", sum := "161ab2d54dab0ef4f595e3d923ac8318758d031b9aaa05bc0dcbbcaf7ad283e5", func := "anagnost/anagnostlaw2.RefsNumbers", spec := "refsNumbers", named := ["anagnost/refs.early"], apart := false, laid := [("anagnost/refs.early", laid_anagnost_refs_early)] }
def RefsNumbersSaid : Prop := refsNumbersRow.holds Tryd.pinned (OpenSpec.ofChange refsNumbersSpec)

/-- ITS FALSE NEIGHBOUR: 'it returns false'. Refute it at one input. -/
def refsNumbersWrong : ChangeSpec := { name := "refsNumbers", fn := fun _ => fun
  | [d] => { results := [.lit (.bool false)], args := [d] }
  | _ => none }
def RefsNumbersWrongFalsely : Prop := refsNumbersRow.holds Tryd.pinned (OpenSpec.ofChange refsNumbersWrong)

/-- 'anagnostlaw2.RefsReads': WHATEVER THE INPUT: true; the input reads as it did. -/
def refsReadsSpec : ChangeSpec := { name := "refsReads", fn := fun _ => fun
  | [d1, d2, d3] => { results := [.lit (.bool true)], args := [d1, d2, d3] }
  | _ => none }
def refsReadsRow : OpenClaim := { program := "ytobgdignanpliaadoor", sum := "161ab2d54dab0ef4f595e3d923ac8318758d031b9aaa05bc0dcbbcaf7ad283e5", func := "anagnost/anagnostlaw2.RefsReads", spec := "refsReads", named := ["anagnost/refs.early"], apart := false, laid := [("anagnost/refs.early", laid_anagnost_refs_early)] }
def RefsReadsSaid : Prop := refsReadsRow.holds Tryd.pinned (OpenSpec.ofChange refsReadsSpec)

/-- ITS FALSE NEIGHBOUR: 'it returns false'. Refute it at one input. -/
def refsReadsWrong : ChangeSpec := { name := "refsReads", fn := fun _ => fun
  | [d1, d2, d3] => { results := [.lit (.bool false)], args := [d1, d2, d3] }
  | _ => none }
def RefsReadsWrongFalsely : Prop := refsReadsRow.holds Tryd.pinned (OpenSpec.ofChange refsReadsWrong)

/-- 'anagnostlaw2.RefsExpands': WHATEVER THE INPUT: true; the input reads as it did. -/
def refsExpandsSpec : ChangeSpec := { name := "refsExpands", fn := fun _ => fun
  | [d1, d2, d3] => { results := [.lit (.bool true)], args := [d1, d2, d3] }
  | _ => none }
def refsExpandsRow : OpenClaim := { program := "ytobgdignanpliaadoor", sum := "161ab2d54dab0ef4f595e3d923ac8318758d031b9aaa05bc0dcbbcaf7ad283e5", func := "anagnost/anagnostlaw2.RefsExpands", spec := "refsExpands", inPlace := ["internal/abi.NoEscape", "internal/bytealg.MakeNoZero", "internal/bytealg.IndexByteString"], named := ["anagnost/refs.early"], apart := false, laid := [("anagnost/refs.early", laid_anagnost_refs_early)] }
def RefsExpandsSaid : Prop := refsExpandsRow.holds Tryd.pinned (OpenSpec.ofChange refsExpandsSpec)

/-- ITS FALSE NEIGHBOUR: 'it returns false'. Refute it at one input. -/
def refsExpandsWrong : ChangeSpec := { name := "refsExpands", fn := fun _ => fun
  | [d1, d2, d3] => { results := [.lit (.bool false)], args := [d1, d2, d3] }
  | _ => none }
def RefsExpandsWrongFalsely : Prop := refsExpandsRow.holds Tryd.pinned (OpenSpec.ofChange refsExpandsWrong)

/-- 'anagnostlaw2.RefsDigits': WHATEVER THE INPUT: true; the input reads as it did. -/
def refsDigitsSpec : ChangeSpec := { name := "refsDigits", fn := fun _ => fun
  | [d1, d2, d3, d4] => { results := [.lit (.bool true)], args := [d1, d2, d3, d4] }
  | _ => none }
def refsDigitsRow : OpenClaim := { program := "ytobgdignanpliaadoor", sum := "161ab2d54dab0ef4f595e3d923ac8318758d031b9aaa05bc0dcbbcaf7ad283e5", func := "anagnost/anagnostlaw2.RefsDigits", spec := "refsDigits", named := ["anagnost/refs.early"], apart := false, laid := [("anagnost/refs.early", laid_anagnost_refs_early)] }
def RefsDigitsSaid : Prop := refsDigitsRow.holds Tryd.pinned (OpenSpec.ofChange refsDigitsSpec)

/-- ITS FALSE NEIGHBOUR: 'it returns false'. Refute it at one input. -/
def refsDigitsWrong : ChangeSpec := { name := "refsDigits", fn := fun _ => fun
  | [d1, d2, d3, d4] => { results := [.lit (.bool false)], args := [d1, d2, d3, d4] }
  | _ => none }
def RefsDigitsWrongFalsely : Prop := refsDigitsRow.holds Tryd.pinned (OpenSpec.ofChange refsDigitsWrong)

/-- 'anagnostlaw2.RefsPlain': WHATEVER THE INPUT: true; the input reads as it did. -/
def refsPlainSpec : ChangeSpec := { name := "refsPlain", fn := fun _ => fun
  | [d1, d2] => { results := [.lit (.bool true)], args := [d1, d2] }
  | _ => none }
def refsPlainRow : OpenClaim := { program := "ytobgdignanpliaadoor", sum := "161ab2d54dab0ef4f595e3d923ac8318758d031b9aaa05bc0dcbbcaf7ad283e5", func := "anagnost/anagnostlaw2.RefsPlain", spec := "refsPlain", inPlace := ["internal/abi.NoEscape", "internal/bytealg.MakeNoZero", "internal/bytealg.IndexByteString"], named := ["anagnost/refs.early"], apart := false, laid := [("anagnost/refs.early", laid_anagnost_refs_early)] }
def RefsPlainSaid : Prop := refsPlainRow.holds Tryd.pinned (OpenSpec.ofChange refsPlainSpec)

/-- ITS FALSE NEIGHBOUR: 'it returns false'. Refute it at one input. -/
def refsPlainWrong : ChangeSpec := { name := "refsPlain", fn := fun _ => fun
  | [d1, d2] => { results := [.lit (.bool false)], args := [d1, d2] }
  | _ => none }
def RefsPlainWrongFalsely : Prop := refsPlainRow.holds Tryd.pinned (OpenSpec.ofChange refsPlainWrong)

/-- 'anagnostlaw2.RefsParts': WHATEVER THE INPUT: true; the input reads as it did. -/
def refsPartsSpec : ChangeSpec := { name := "refsParts", fn := fun _ => fun
  | [d1, d2] => { results := [.lit (.bool true)], args := [d1, d2] }
  | _ => none }
def refsPartsRow : OpenClaim := { program := "ytobgdignanpliaadoor", sum := "161ab2d54dab0ef4f595e3d923ac8318758d031b9aaa05bc0dcbbcaf7ad283e5", func := "anagnost/anagnostlaw2.RefsParts", spec := "refsParts", inPlace := ["internal/abi.NoEscape", "internal/bytealg.MakeNoZero", "internal/bytealg.IndexByteString"], named := ["anagnost/refs.early"], apart := false, laid := [("anagnost/refs.early", laid_anagnost_refs_early)] }
def RefsPartsSaid : Prop := refsPartsRow.holds Tryd.pinned (OpenSpec.ofChange refsPartsSpec)

/-- ITS FALSE NEIGHBOUR: 'it returns false'. Refute it at one input. -/
def refsPartsWrong : ChangeSpec := { name := "refsParts", fn := fun _ => fun
  | [d1, d2] => { results := [.lit (.bool false)], args := [d1, d2] }
  | _ => none }
def RefsPartsWrongFalsely : Prop := refsPartsRow.holds Tryd.pinned (OpenSpec.ofChange refsPartsWrong)

/-- 'anagnostlaw2.RefsKnown': WHATEVER THE INPUT: true; the input reads as it did. -/
def refsKnownSpec : ChangeSpec := { name := "refsKnown", fn := fun _ => fun
  | [d] => { results := [.lit (.bool true)], args := [d] }
  | _ => none }
def refsKnownRow : OpenClaim := { program := "ytobgdignanpliaadoor", sum := "161ab2d54dab0ef4f595e3d923ac8318758d031b9aaa05bc0dcbbcaf7ad283e5", func := "anagnost/anagnostlaw2.RefsKnown", spec := "refsKnown", inPlace := ["internal/abi.NoEscape", "internal/bytealg.MakeNoZero", "internal/bytealg.IndexByteString"], named := ["anagnost/refs.early"], apart := false, laid := [("anagnost/refs.early", laid_anagnost_refs_early)] }
def RefsKnownSaid : Prop := refsKnownRow.holds Tryd.pinned (OpenSpec.ofChange refsKnownSpec)

/-- ITS FALSE NEIGHBOUR: 'it returns false'. Refute it at one input. -/
def refsKnownWrong : ChangeSpec := { name := "refsKnown", fn := fun _ => fun
  | [d] => { results := [.lit (.bool false)], args := [d] }
  | _ => none }
def RefsKnownWrongFalsely : Prop := refsKnownRow.holds Tryd.pinned (OpenSpec.ofChange refsKnownWrong)

/- THE SECOND FORM. 'bulk': how many values and letters a reading holds, each counted each time it is reached (what is shared counts as often as it is met; a slice's spare places count too). A statement '..UptoSaid' is the law's where the arguments, and the package variables that the reading takes, are together of bulk at most 1048576: NARROWER than '..Said'. Prove '..Said' where nothing that the law and all that it calls make is longer than what came in: it says more and counts as full. Else prove '..UptoSaid'. A law counts once. -/
mutual
def uptoBulk {H : Type} : DataW H → Nat
  | .lit (.string bytes) => bytes.length + 1
  | .lit _ => 1
  | .nil => 1
  | .ptr d => uptoBulk d + 1
  | .slice elems spare => uptoBulkAll elems + uptoBulkAll spare + 1
  | .agg parts => uptoBulkAll parts + 1
  | .iface _ d => uptoBulk d + 1
  | .map entries => uptoBulkEntries entries + 1
  | .held _ => 1
def uptoBulkAll {H : Type} : List (DataW H) → Nat
  | [] => 0
  | d :: r => uptoBulk d + uptoBulkAll r
def uptoBulkEntries {H : Type} : List (Lit × DataW H) → Nat
  | [] => 0
  | x :: r => uptoBulkEntry x + uptoBulkEntries r
def uptoBulkEntry {H : Type} : Lit × DataW H → Nat
  | (.string bytes, d) => bytes.length + uptoBulk d + 1
  | (_, d) => uptoBulk d + 1
 end
def uptoSmall : (H : Type) → List (DataW H) → Bool := fun _ ds => decide (uptoBulkAll ds ≤ 1048576)
def OpenSpec.upto (s : _root_.Go.ChangeSpec) : _root_.Go.OpenSpec := { _root_.Go.OpenSpec.ofChange s with cond := some uptoSmall }

/-- 'anagnostlaw2.RefsNumbers', WHERE WHAT IT READS IS OF BULK AT MOST 1048576: true; the input reads as it did. -/
def refsNumbersUptoRow : OpenClaim := { program := "ytobgdignanpliaadoor", sum := "161ab2d54dab0ef4f595e3d923ac8318758d031b9aaa05bc0dcbbcaf7ad283e5", func := "anagnost/anagnostlaw2.RefsNumbers", spec := "refsNumbers", named := ["anagnost/refs.early"], apart := false, laid := [("anagnost/refs.early", laid_anagnost_refs_early)], narrowed := true }
def RefsNumbersUptoSaid : Prop := refsNumbersUptoRow.holds Tryd.pinned (OpenSpec.upto refsNumbersSpec)

/-- 'anagnostlaw2.RefsReads', WHERE WHAT IT READS IS OF BULK AT MOST 1048576: true; the input reads as it did. -/
def refsReadsUptoRow : OpenClaim := { program := "ytobgdignanpliaadoor", sum := "161ab2d54dab0ef4f595e3d923ac8318758d031b9aaa05bc0dcbbcaf7ad283e5", func := "anagnost/anagnostlaw2.RefsReads", spec := "refsReads", named := ["anagnost/refs.early"], apart := false, laid := [("anagnost/refs.early", laid_anagnost_refs_early)], narrowed := true }
def RefsReadsUptoSaid : Prop := refsReadsUptoRow.holds Tryd.pinned (OpenSpec.upto refsReadsSpec)

/-- 'anagnostlaw2.RefsExpands', WHERE WHAT IT READS IS OF BULK AT MOST 1048576: true; the input reads as it did. -/
def refsExpandsUptoRow : OpenClaim := { program := "ytobgdignanpliaadoor", sum := "161ab2d54dab0ef4f595e3d923ac8318758d031b9aaa05bc0dcbbcaf7ad283e5", func := "anagnost/anagnostlaw2.RefsExpands", spec := "refsExpands", inPlace := ["internal/abi.NoEscape", "internal/bytealg.MakeNoZero", "internal/bytealg.IndexByteString"], named := ["anagnost/refs.early"], apart := false, laid := [("anagnost/refs.early", laid_anagnost_refs_early)], narrowed := true }
def RefsExpandsUptoSaid : Prop := refsExpandsUptoRow.holds Tryd.pinned (OpenSpec.upto refsExpandsSpec)

/-- 'anagnostlaw2.RefsDigits', WHERE WHAT IT READS IS OF BULK AT MOST 1048576: true; the input reads as it did. -/
def refsDigitsUptoRow : OpenClaim := { program := "ytobgdignanpliaadoor", sum := "161ab2d54dab0ef4f595e3d923ac8318758d031b9aaa05bc0dcbbcaf7ad283e5", func := "anagnost/anagnostlaw2.RefsDigits", spec := "refsDigits", named := ["anagnost/refs.early"], apart := false, laid := [("anagnost/refs.early", laid_anagnost_refs_early)], narrowed := true }
def RefsDigitsUptoSaid : Prop := refsDigitsUptoRow.holds Tryd.pinned (OpenSpec.upto refsDigitsSpec)

/-- 'anagnostlaw2.RefsPlain', WHERE WHAT IT READS IS OF BULK AT MOST 1048576: true; the input reads as it did. -/
def refsPlainUptoRow : OpenClaim := { program := "ytobgdignanpliaadoor", sum := "161ab2d54dab0ef4f595e3d923ac8318758d031b9aaa05bc0dcbbcaf7ad283e5", func := "anagnost/anagnostlaw2.RefsPlain", spec := "refsPlain", inPlace := ["internal/abi.NoEscape", "internal/bytealg.MakeNoZero", "internal/bytealg.IndexByteString"], named := ["anagnost/refs.early"], apart := false, laid := [("anagnost/refs.early", laid_anagnost_refs_early)], narrowed := true }
def RefsPlainUptoSaid : Prop := refsPlainUptoRow.holds Tryd.pinned (OpenSpec.upto refsPlainSpec)

/-- 'anagnostlaw2.RefsParts', WHERE WHAT IT READS IS OF BULK AT MOST 1048576: true; the input reads as it did. -/
def refsPartsUptoRow : OpenClaim := { program := "ytobgdignanpliaadoor", sum := "161ab2d54dab0ef4f595e3d923ac8318758d031b9aaa05bc0dcbbcaf7ad283e5", func := "anagnost/anagnostlaw2.RefsParts", spec := "refsParts", inPlace := ["internal/abi.NoEscape", "internal/bytealg.MakeNoZero", "internal/bytealg.IndexByteString"], named := ["anagnost/refs.early"], apart := false, laid := [("anagnost/refs.early", laid_anagnost_refs_early)], narrowed := true }
def RefsPartsUptoSaid : Prop := refsPartsUptoRow.holds Tryd.pinned (OpenSpec.upto refsPartsSpec)

/-- 'anagnostlaw2.RefsKnown', WHERE WHAT IT READS IS OF BULK AT MOST 1048576: true; the input reads as it did. -/
def refsKnownUptoRow : OpenClaim := { program := "ytobgdignanpliaadoor", sum := "161ab2d54dab0ef4f595e3d923ac8318758d031b9aaa05bc0dcbbcaf7ad283e5", func := "anagnost/anagnostlaw2.RefsKnown", spec := "refsKnown", inPlace := ["internal/abi.NoEscape", "internal/bytealg.MakeNoZero", "internal/bytealg.IndexByteString"], named := ["anagnost/refs.early"], apart := false, laid := [("anagnost/refs.early", laid_anagnost_refs_early)], narrowed := true }
def RefsKnownUptoSaid : Prop := refsKnownUptoRow.holds Tryd.pinned (OpenSpec.upto refsKnownSpec)

end Rows
end Go.Proofs.YtobgdignanpliaaDoor
