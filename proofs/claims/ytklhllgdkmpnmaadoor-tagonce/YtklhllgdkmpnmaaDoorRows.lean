/-
  NARROWER THAN 'FOR EVERY INPUT', by the rows' own cells (each row's printed sentence says how): TagAt: laid · TagReads: laid · TagMade: laid · TagFinds: laid · TagSames: laid · TagOnce: laid · TagCuts: laid · TagValues: laid · TagKnown: laid.
  DERIVED. THE GIVEN ROWS OF THIS SEAT. 9 by the template 'for every input the law returns true; each argument reads behind the call as it read before'; 0 by the template 'total and deterministic' (their statements: YtklhllgdkmpnmaaDoorTotals.lean).
  GIVEN WITH THE SEED: the statements are not yours to turn. If you find one false, say at which input.
  Laid BY PROGRAM, IN A SANDBOX (cutbox-rows.mjs): the forced cells as the released guide's own fill.sh prints them over the translation cd5bad981eeb8fc6… (all of the seat's roots in one cut). By AI agents, Wed Nov 11 2026. No macro, syntax, notation, axiom, sorry.
-/
import Derived.Test.YtklhllgdkmpnmaaDoorChecked
import GoSem.PinnedTables
import GoSem.Claim
import GoSem.ClaimJoined
import GoSem.ClaimMapViews
import Derived.JoinedTies
import Derived.KernelRfl
namespace Go.Proofs.YtklhllgdkmpnmaaDoor
/- THE CELL 'sum', in the pinned program and in every row, IS THE sha256 OF THE DUMP (.gsa) THAT YtklhllgdkmpnmaaDoorProg.lean LOADS. Nothing in Lean hashes anything: it is a label: what it is worth is what the hold of that sum in a sandbox is worth. -/
noncomputable def Tryd.pinned : Pinned := { name := "ytklhllgdkmpnmaadoor", sum := "cd5bad981eeb8fc6183db18f1dbabf83c4d71435bfa66fa45a90280cb85333db", checked := Tryd.checked }
namespace Rows
def none {H : Type} : Left H := { results := [], args := [] }

/- WHAT THE LISTED PACKAGE-LEVEL VARIABLES READ AS WHEN THE CALL BEGINS. Each datum BY PROGRAM (the guide's laid-datum.mjs) off the statement by which the dump's own 'gosem.cut.vars' lays the variable. In a bare row this is a premise. The card (YtklhllgdkmpnmaaDoorCards.lean) ties it to the program's text. -/
def laid_unicode_utf8_acceptRanges {H : Type} : DataW H := .agg [.agg [.lit (.int .u8 128), .lit (.int .u8 191)], .agg [.lit (.int .u8 160), .lit (.int .u8 191)], .agg [.lit (.int .u8 128), .lit (.int .u8 159)], .agg [.lit (.int .u8 144), .lit (.int .u8 191)], .agg [.lit (.int .u8 128), .lit (.int .u8 143)], .agg [.lit (.int .u8 0), .lit (.int .u8 0)], .agg [.lit (.int .u8 0), .lit (.int .u8 0)], .agg [.lit (.int .u8 0), .lit (.int .u8 0)], .agg [.lit (.int .u8 0), .lit (.int .u8 0)], .agg [.lit (.int .u8 0), .lit (.int .u8 0)], .agg [.lit (.int .u8 0), .lit (.int .u8 0)], .agg [.lit (.int .u8 0), .lit (.int .u8 0)], .agg [.lit (.int .u8 0), .lit (.int .u8 0)], .agg [.lit (.int .u8 0), .lit (.int .u8 0)], .agg [.lit (.int .u8 0), .lit (.int .u8 0)], .agg [.lit (.int .u8 0), .lit (.int .u8 0)]]
def laid_anagnost_refs_early {H : Type} : DataW H := .agg [.lit (.int .i32 8364), .lit (.int .i32 129), .lit (.int .i32 8218), .lit (.int .i32 402), .lit (.int .i32 8222), .lit (.int .i32 8230), .lit (.int .i32 8224), .lit (.int .i32 8225), .lit (.int .i32 710), .lit (.int .i32 8240), .lit (.int .i32 352), .lit (.int .i32 8249), .lit (.int .i32 338), .lit (.int .i32 141), .lit (.int .i32 381), .lit (.int .i32 143), .lit (.int .i32 144), .lit (.int .i32 8216), .lit (.int .i32 8217), .lit (.int .i32 8220), .lit (.int .i32 8221), .lit (.int .i32 8226), .lit (.int .i32 8211), .lit (.int .i32 8212), .lit (.int .i32 732), .lit (.int .i32 8482), .lit (.int .i32 353), .lit (.int .i32 8250), .lit (.int .i32 339), .lit (.int .i32 157), .lit (.int .i32 382), .lit (.int .i32 376)]
/-- One of Go's own tables, pinned by name: the form's constant. -/
def laid_unicode_utf8_first : DataW Unit := Go.Pinned.utf8First

/-- 'anagnostlaw3.TagAt': WHATEVER THE INPUT: true; the input reads as it did. -/
def tagAtSpec : ChangeSpec := { name := "tagAt", fn := fun _ => fun
  | [d1, d2, d3] => { results := [.lit (.bool true)], args := [d1, d2, d3] }
  | _ => none }
def tagAtRow : OpenClaim := { program := "ytklhllgdkmpnmaadoor", sum := "cd5bad981eeb8fc6183db18f1dbabf83c4d71435bfa66fa45a90280cb85333db", func := "anagnost/anagnostlaw3.TagAt", spec := "tagAt", inPlace := ["internal/bytealg.IndexByteString", "internal/bytealg.CountString", "internal/bytealg.IndexString", "internal/abi.NoEscape", "internal/bytealg.MakeNoZero"], named := ["internal/bytealg.MaxLen", "unicode/utf8.first", "unicode/utf8.acceptRanges", "anagnost/refs.early"], plainKeys := false, apart := false, laid := [("unicode/utf8.acceptRanges", laid_unicode_utf8_acceptRanges), ("anagnost/refs.early", laid_anagnost_refs_early), ("unicode/utf8.first", laid_unicode_utf8_first)] }
def TagAtSaid : Prop := tagAtRow.holds Tryd.pinned (OpenSpec.ofChange tagAtSpec)

/-- ITS FALSE NEIGHBOUR: 'it returns false'. Refute it at one input. -/
def tagAtWrong : ChangeSpec := { name := "tagAt", fn := fun _ => fun
  | [d1, d2, d3] => { results := [.lit (.bool false)], args := [d1, d2, d3] }
  | _ => none }
def TagAtWrongFalsely : Prop := tagAtRow.holds Tryd.pinned (OpenSpec.ofChange tagAtWrong)

/-- 'anagnostlaw3.TagReads': WHATEVER THE INPUT: true; the input reads as it did. -/
def tagReadsSpec : ChangeSpec := { name := "tagReads", fn := fun _ => fun
  | [d1, d2] => { results := [.lit (.bool true)], args := [d1, d2] }
  | _ => none }
def tagReadsRow : OpenClaim := { program := "ytklhllgdkmpnmaadoor", sum := "cd5bad981eeb8fc6183db18f1dbabf83c4d71435bfa66fa45a90280cb85333db", func := "anagnost/anagnostlaw3.TagReads", spec := "tagReads", inPlace := ["internal/bytealg.IndexByteString", "internal/bytealg.CountString", "internal/bytealg.IndexString", "internal/abi.NoEscape", "internal/bytealg.MakeNoZero"], named := ["internal/bytealg.MaxLen", "unicode/utf8.first", "unicode/utf8.acceptRanges", "anagnost/refs.early"], plainKeys := false, apart := false, laid := [("unicode/utf8.acceptRanges", laid_unicode_utf8_acceptRanges), ("anagnost/refs.early", laid_anagnost_refs_early), ("unicode/utf8.first", laid_unicode_utf8_first)] }
def TagReadsSaid : Prop := tagReadsRow.holds Tryd.pinned (OpenSpec.ofChange tagReadsSpec)

/-- ITS FALSE NEIGHBOUR: 'it returns false'. Refute it at one input. -/
def tagReadsWrong : ChangeSpec := { name := "tagReads", fn := fun _ => fun
  | [d1, d2] => { results := [.lit (.bool false)], args := [d1, d2] }
  | _ => none }
def TagReadsWrongFalsely : Prop := tagReadsRow.holds Tryd.pinned (OpenSpec.ofChange tagReadsWrong)

/-- 'anagnostlaw3.TagMade': WHATEVER THE INPUT: true; the input reads as it did. -/
def tagMadeSpec : ChangeSpec := { name := "tagMade", fn := fun _ => fun
  | [d1, d2, d3] => { results := [.lit (.bool true)], args := [d1, d2, d3] }
  | _ => none }
def tagMadeRow : OpenClaim := { program := "ytklhllgdkmpnmaadoor", sum := "cd5bad981eeb8fc6183db18f1dbabf83c4d71435bfa66fa45a90280cb85333db", func := "anagnost/anagnostlaw3.TagMade", spec := "tagMade", inPlace := ["internal/bytealg.IndexByteString", "internal/bytealg.CountString", "internal/bytealg.IndexString", "internal/abi.NoEscape", "internal/bytealg.MakeNoZero"], named := ["internal/bytealg.MaxLen", "unicode/utf8.first", "unicode/utf8.acceptRanges", "anagnost/refs.early"], plainKeys := false, apart := false, laid := [("unicode/utf8.acceptRanges", laid_unicode_utf8_acceptRanges), ("anagnost/refs.early", laid_anagnost_refs_early), ("unicode/utf8.first", laid_unicode_utf8_first)] }
def TagMadeSaid : Prop := tagMadeRow.holds Tryd.pinned (OpenSpec.ofChange tagMadeSpec)

/-- ITS FALSE NEIGHBOUR: 'it returns false'. Refute it at one input. -/
def tagMadeWrong : ChangeSpec := { name := "tagMade", fn := fun _ => fun
  | [d1, d2, d3] => { results := [.lit (.bool false)], args := [d1, d2, d3] }
  | _ => none }
def TagMadeWrongFalsely : Prop := tagMadeRow.holds Tryd.pinned (OpenSpec.ofChange tagMadeWrong)

/-- 'anagnostlaw3.TagFinds': WHATEVER THE INPUT: true; the input reads as it did. -/
def tagFindsSpec : ChangeSpec := { name := "tagFinds", fn := fun _ => fun
  | [d1, d2, d3] => { results := [.lit (.bool true)], args := [d1, d2, d3] }
  | _ => none }
def tagFindsRow : OpenClaim := { program := "ytklhllgdkmpnmaadoor", sum := "cd5bad981eeb8fc6183db18f1dbabf83c4d71435bfa66fa45a90280cb85333db", func := "anagnost/anagnostlaw3.TagFinds", spec := "tagFinds", inPlace := ["internal/bytealg.IndexByteString", "internal/bytealg.CountString", "internal/bytealg.IndexString", "internal/abi.NoEscape", "internal/bytealg.MakeNoZero"], named := ["internal/bytealg.MaxLen", "unicode/utf8.first", "unicode/utf8.acceptRanges", "anagnost/refs.early"], plainKeys := false, apart := false, laid := [("unicode/utf8.acceptRanges", laid_unicode_utf8_acceptRanges), ("anagnost/refs.early", laid_anagnost_refs_early), ("unicode/utf8.first", laid_unicode_utf8_first)] }
def TagFindsSaid : Prop := tagFindsRow.holds Tryd.pinned (OpenSpec.ofChange tagFindsSpec)

/-- ITS FALSE NEIGHBOUR: 'it returns false'. Refute it at one input. -/
def tagFindsWrong : ChangeSpec := { name := "tagFinds", fn := fun _ => fun
  | [d1, d2, d3] => { results := [.lit (.bool false)], args := [d1, d2, d3] }
  | _ => none }
def TagFindsWrongFalsely : Prop := tagFindsRow.holds Tryd.pinned (OpenSpec.ofChange tagFindsWrong)

/-- 'anagnostlaw3.TagSames': WHATEVER THE INPUT: true; the input reads as it did. -/
def tagSamesSpec : ChangeSpec := { name := "tagSames", fn := fun _ => fun
  | [d1, d2, d3] => { results := [.lit (.bool true)], args := [d1, d2, d3] }
  | _ => none }
def tagSamesRow : OpenClaim := { program := "ytklhllgdkmpnmaadoor", sum := "cd5bad981eeb8fc6183db18f1dbabf83c4d71435bfa66fa45a90280cb85333db", func := "anagnost/anagnostlaw3.TagSames", spec := "tagSames", inPlace := ["internal/bytealg.IndexByteString", "internal/bytealg.CountString", "internal/bytealg.IndexString", "internal/abi.NoEscape", "internal/bytealg.MakeNoZero"], named := ["internal/bytealg.MaxLen", "unicode/utf8.first", "unicode/utf8.acceptRanges", "anagnost/refs.early"], plainKeys := false, apart := false, laid := [("unicode/utf8.acceptRanges", laid_unicode_utf8_acceptRanges), ("anagnost/refs.early", laid_anagnost_refs_early), ("unicode/utf8.first", laid_unicode_utf8_first)] }
def TagSamesSaid : Prop := tagSamesRow.holds Tryd.pinned (OpenSpec.ofChange tagSamesSpec)

/-- ITS FALSE NEIGHBOUR: 'it returns false'. Refute it at one input. -/
def tagSamesWrong : ChangeSpec := { name := "tagSames", fn := fun _ => fun
  | [d1, d2, d3] => { results := [.lit (.bool false)], args := [d1, d2, d3] }
  | _ => none }
def TagSamesWrongFalsely : Prop := tagSamesRow.holds Tryd.pinned (OpenSpec.ofChange tagSamesWrong)

/-- 'anagnostlaw3.TagOnce': WHATEVER THE INPUT: true; the input reads as it did. -/
def tagOnceSpec : ChangeSpec := { name := "tagOnce", fn := fun _ => fun
  | [d1, d2] => { results := [.lit (.bool true)], args := [d1, d2] }
  | _ => none }
def tagOnceRow : OpenClaim := { program := "ytklhllgdkmpnmaadoor", sum := "cd5bad981eeb8fc6183db18f1dbabf83c4d71435bfa66fa45a90280cb85333db", func := "anagnost/anagnostlaw3.TagOnce", spec := "tagOnce", inPlace := ["internal/bytealg.IndexByteString", "internal/bytealg.CountString", "internal/bytealg.IndexString", "internal/abi.NoEscape", "internal/bytealg.MakeNoZero"], named := ["internal/bytealg.MaxLen", "unicode/utf8.first", "unicode/utf8.acceptRanges", "anagnost/refs.early"], plainKeys := false, apart := false, laid := [("unicode/utf8.acceptRanges", laid_unicode_utf8_acceptRanges), ("anagnost/refs.early", laid_anagnost_refs_early), ("unicode/utf8.first", laid_unicode_utf8_first)] }
def TagOnceSaid : Prop := tagOnceRow.holds Tryd.pinned (OpenSpec.ofChange tagOnceSpec)

/-- ITS FALSE NEIGHBOUR: 'it returns false'. Refute it at one input. -/
def tagOnceWrong : ChangeSpec := { name := "tagOnce", fn := fun _ => fun
  | [d1, d2] => { results := [.lit (.bool false)], args := [d1, d2] }
  | _ => none }
def TagOnceWrongFalsely : Prop := tagOnceRow.holds Tryd.pinned (OpenSpec.ofChange tagOnceWrong)

/-- 'anagnostlaw3.TagCuts': WHATEVER THE INPUT: true; the input reads as it did. -/
def tagCutsSpec : ChangeSpec := { name := "tagCuts", fn := fun _ => fun
  | [d1, d2] => { results := [.lit (.bool true)], args := [d1, d2] }
  | _ => none }
def tagCutsRow : OpenClaim := { program := "ytklhllgdkmpnmaadoor", sum := "cd5bad981eeb8fc6183db18f1dbabf83c4d71435bfa66fa45a90280cb85333db", func := "anagnost/anagnostlaw3.TagCuts", spec := "tagCuts", inPlace := ["internal/bytealg.IndexByteString", "internal/bytealg.CountString", "internal/bytealg.IndexString", "internal/abi.NoEscape", "internal/bytealg.MakeNoZero"], named := ["internal/bytealg.MaxLen", "unicode/utf8.first", "unicode/utf8.acceptRanges", "anagnost/refs.early"], plainKeys := false, apart := false, laid := [("unicode/utf8.acceptRanges", laid_unicode_utf8_acceptRanges), ("anagnost/refs.early", laid_anagnost_refs_early), ("unicode/utf8.first", laid_unicode_utf8_first)] }
def TagCutsSaid : Prop := tagCutsRow.holds Tryd.pinned (OpenSpec.ofChange tagCutsSpec)

/-- ITS FALSE NEIGHBOUR: 'it returns false'. Refute it at one input. -/
def tagCutsWrong : ChangeSpec := { name := "tagCuts", fn := fun _ => fun
  | [d1, d2] => { results := [.lit (.bool false)], args := [d1, d2] }
  | _ => none }
def TagCutsWrongFalsely : Prop := tagCutsRow.holds Tryd.pinned (OpenSpec.ofChange tagCutsWrong)

/-- 'anagnostlaw3.TagValues': WHATEVER THE INPUT: true; the input reads as it did. -/
def tagValuesSpec : ChangeSpec := { name := "tagValues", fn := fun _ => fun
  | [d1, d2] => { results := [.lit (.bool true)], args := [d1, d2] }
  | _ => none }
def tagValuesRow : OpenClaim := { program := "ytklhllgdkmpnmaadoor", sum := "cd5bad981eeb8fc6183db18f1dbabf83c4d71435bfa66fa45a90280cb85333db", func := "anagnost/anagnostlaw3.TagValues", spec := "tagValues", inPlace := ["internal/bytealg.IndexByteString", "internal/bytealg.CountString", "internal/bytealg.IndexString", "internal/abi.NoEscape", "internal/bytealg.MakeNoZero"], named := ["internal/bytealg.MaxLen", "unicode/utf8.first", "unicode/utf8.acceptRanges", "anagnost/refs.early"], plainKeys := false, apart := false, laid := [("unicode/utf8.acceptRanges", laid_unicode_utf8_acceptRanges), ("anagnost/refs.early", laid_anagnost_refs_early), ("unicode/utf8.first", laid_unicode_utf8_first)] }
def TagValuesSaid : Prop := tagValuesRow.holds Tryd.pinned (OpenSpec.ofChange tagValuesSpec)

/-- ITS FALSE NEIGHBOUR: 'it returns false'. Refute it at one input. -/
def tagValuesWrong : ChangeSpec := { name := "tagValues", fn := fun _ => fun
  | [d1, d2] => { results := [.lit (.bool false)], args := [d1, d2] }
  | _ => none }
def TagValuesWrongFalsely : Prop := tagValuesRow.holds Tryd.pinned (OpenSpec.ofChange tagValuesWrong)

/-- 'anagnostlaw3.TagKnown': WHATEVER THE INPUT: true; the input reads as it did. -/
def tagKnownSpec : ChangeSpec := { name := "tagKnown", fn := fun _ => fun
  | [d] => { results := [.lit (.bool true)], args := [d] }
  | _ => none }
def tagKnownRow : OpenClaim := { program := "ytklhllgdkmpnmaadoor", sum := "cd5bad981eeb8fc6183db18f1dbabf83c4d71435bfa66fa45a90280cb85333db", func := "anagnost/anagnostlaw3.TagKnown", spec := "tagKnown", inPlace := ["internal/bytealg.IndexByteString", "internal/bytealg.CountString", "internal/bytealg.IndexString", "internal/abi.NoEscape", "internal/bytealg.MakeNoZero"], named := ["internal/bytealg.MaxLen", "unicode/utf8.first", "unicode/utf8.acceptRanges", "anagnost/refs.early"], plainKeys := false, apart := false, laid := [("unicode/utf8.acceptRanges", laid_unicode_utf8_acceptRanges), ("anagnost/refs.early", laid_anagnost_refs_early), ("unicode/utf8.first", laid_unicode_utf8_first)] }
def TagKnownSaid : Prop := tagKnownRow.holds Tryd.pinned (OpenSpec.ofChange tagKnownSpec)

/-- ITS FALSE NEIGHBOUR: 'it returns false'. Refute it at one input. -/
def tagKnownWrong : ChangeSpec := { name := "tagKnown", fn := fun _ => fun
  | [d] => { results := [.lit (.bool false)], args := [d] }
  | _ => none }
def TagKnownWrongFalsely : Prop := tagKnownRow.holds Tryd.pinned (OpenSpec.ofChange tagKnownWrong)

/- THE SECOND FORM. 'bulk': how many values and letters a reading holds, each counted each time it is reached (what is shared counts as often as it is met; a slice's spare places count too). A statement '..UptoSaid' is the law's where the arguments, and the package variables that the reading takes, are together of bulk at most 1048576: NARROWER than '..Said'. Prove '..Said' where nothing that the law and all that it calls make is longer than what came in: it says more and counts as full. Else prove '..UptoSaid'. A law counts once. -/
mutual
def uptoBulk {H : Type} : DataW H → Nat
  | .lit (.string bytes) => bytes.length + 1
  | .lit _ => 1
  | .nil => 1
  | .ptr d => uptoBulk d + 1
  | .slice elems spare => uptoBulkAll elems + uptoBulkAll spare + 1
  | .agg parts => uptoBulkAll parts + 1
  | .iface _ d => uptoBulk d + 1
  | .map entries => uptoBulkEntries entries + 1
  | .held _ => 1
def uptoBulkAll {H : Type} : List (DataW H) → Nat
  | [] => 0
  | d :: r => uptoBulk d + uptoBulkAll r
def uptoBulkEntries {H : Type} : List (Lit × DataW H) → Nat
  | [] => 0
  | x :: r => uptoBulkEntry x + uptoBulkEntries r
def uptoBulkEntry {H : Type} : Lit × DataW H → Nat
  | (.string bytes, d) => bytes.length + uptoBulk d + 1
  | (_, d) => uptoBulk d + 1
 end
def uptoSmall : (H : Type) → List (DataW H) → Bool := fun _ ds => decide (uptoBulkAll ds ≤ 1048576)
def OpenSpec.upto (s : _root_.Go.ChangeSpec) : _root_.Go.OpenSpec := { _root_.Go.OpenSpec.ofChange s with cond := some uptoSmall }

/-- 'anagnostlaw3.TagAt', WHERE WHAT IT READS IS OF BULK AT MOST 1048576: true; the input reads as it did. -/
def tagAtUptoRow : OpenClaim := { program := "ytklhllgdkmpnmaadoor", sum := "cd5bad981eeb8fc6183db18f1dbabf83c4d71435bfa66fa45a90280cb85333db", func := "anagnost/anagnostlaw3.TagAt", spec := "tagAt", inPlace := ["internal/bytealg.IndexByteString", "internal/bytealg.CountString", "internal/bytealg.IndexString", "internal/abi.NoEscape", "internal/bytealg.MakeNoZero"], named := ["internal/bytealg.MaxLen", "unicode/utf8.first", "unicode/utf8.acceptRanges", "anagnost/refs.early"], plainKeys := false, apart := false, laid := [("unicode/utf8.acceptRanges", laid_unicode_utf8_acceptRanges), ("anagnost/refs.early", laid_anagnost_refs_early), ("unicode/utf8.first", laid_unicode_utf8_first)], narrowed := true }
def TagAtUptoSaid : Prop := tagAtUptoRow.holds Tryd.pinned (OpenSpec.upto tagAtSpec)

/-- 'anagnostlaw3.TagReads', WHERE WHAT IT READS IS OF BULK AT MOST 1048576: true; the input reads as it did. -/
def tagReadsUptoRow : OpenClaim := { program := "ytklhllgdkmpnmaadoor", sum := "cd5bad981eeb8fc6183db18f1dbabf83c4d71435bfa66fa45a90280cb85333db", func := "anagnost/anagnostlaw3.TagReads", spec := "tagReads", inPlace := ["internal/bytealg.IndexByteString", "internal/bytealg.CountString", "internal/bytealg.IndexString", "internal/abi.NoEscape", "internal/bytealg.MakeNoZero"], named := ["internal/bytealg.MaxLen", "unicode/utf8.first", "unicode/utf8.acceptRanges", "anagnost/refs.early"], plainKeys := false, apart := false, laid := [("unicode/utf8.acceptRanges", laid_unicode_utf8_acceptRanges), ("anagnost/refs.early", laid_anagnost_refs_early), ("unicode/utf8.first", laid_unicode_utf8_first)], narrowed := true }
def TagReadsUptoSaid : Prop := tagReadsUptoRow.holds Tryd.pinned (OpenSpec.upto tagReadsSpec)

/-- 'anagnostlaw3.TagMade', WHERE WHAT IT READS IS OF BULK AT MOST 1048576: true; the input reads as it did. -/
def tagMadeUptoRow : OpenClaim := { program := "ytklhllgdkmpnmaadoor", sum := "cd5bad981eeb8fc6183db18f1dbabf83c4d71435bfa66fa45a90280cb85333db", func := "anagnost/anagnostlaw3.TagMade", spec := "tagMade", inPlace := ["internal/bytealg.IndexByteString", "internal/bytealg.CountString", "internal/bytealg.IndexString", "internal/abi.NoEscape", "internal/bytealg.MakeNoZero"], named := ["internal/bytealg.MaxLen", "unicode/utf8.first", "unicode/utf8.acceptRanges", "anagnost/refs.early"], plainKeys := false, apart := false, laid := [("unicode/utf8.acceptRanges", laid_unicode_utf8_acceptRanges), ("anagnost/refs.early", laid_anagnost_refs_early), ("unicode/utf8.first", laid_unicode_utf8_first)], narrowed := true }
def TagMadeUptoSaid : Prop := tagMadeUptoRow.holds Tryd.pinned (OpenSpec.upto tagMadeSpec)

/-- 'anagnostlaw3.TagFinds', WHERE WHAT IT READS IS OF BULK AT MOST 1048576: true; the input reads as it did. -/
def tagFindsUptoRow : OpenClaim := { program := "ytklhllgdkmpnmaadoor", sum := "cd5bad981eeb8fc6183db18f1dbabf83c4d71435bfa66fa45a90280cb85333db", func := "anagnost/anagnostlaw3.TagFinds", spec := "tagFinds", inPlace := ["internal/bytealg.IndexByteString", "internal/bytealg.CountString", "internal/bytealg.IndexString", "internal/abi.NoEscape", "internal/bytealg.MakeNoZero"], named := ["internal/bytealg.MaxLen", "unicode/utf8.first", "unicode/utf8.acceptRanges", "anagnost/refs.early"], plainKeys := false, apart := false, laid := [("unicode/utf8.acceptRanges", laid_unicode_utf8_acceptRanges), ("anagnost/refs.early", laid_anagnost_refs_early), ("unicode/utf8.first", laid_unicode_utf8_first)], narrowed := true }
def TagFindsUptoSaid : Prop := tagFindsUptoRow.holds Tryd.pinned (OpenSpec.upto tagFindsSpec)

/-- 'anagnostlaw3.TagSames', WHERE WHAT IT READS IS OF BULK AT MOST 1048576: true; the input reads as it did. -/
def tagSamesUptoRow : OpenClaim := { program := "ytklhllgdkmpnmaadoor", sum := "cd5bad981eeb8fc6183db18f1dbabf83c4d71435bfa66fa45a90280cb85333db", func := "anagnost/anagnostlaw3.TagSames", spec := "tagSames", inPlace := ["internal/bytealg.IndexByteString", "internal/bytealg.CountString", "internal/bytealg.IndexString", "internal/abi.NoEscape", "internal/bytealg.MakeNoZero"], named := ["internal/bytealg.MaxLen", "unicode/utf8.first", "unicode/utf8.acceptRanges", "anagnost/refs.early"], plainKeys := false, apart := false, laid := [("unicode/utf8.acceptRanges", laid_unicode_utf8_acceptRanges), ("anagnost/refs.early", laid_anagnost_refs_early), ("unicode/utf8.first", laid_unicode_utf8_first)], narrowed := true }
def TagSamesUptoSaid : Prop := tagSamesUptoRow.holds Tryd.pinned (OpenSpec.upto tagSamesSpec)

/-- 'anagnostlaw3.TagOnce', WHERE WHAT IT READS IS OF BULK AT MOST 1048576: true; the input reads as it did. -/
def tagOnceUptoRow : OpenClaim := { program := "ytklhllgdkmpnmaadoor", sum := "cd5bad981eeb8fc6183db18f1dbabf83c4d71435bfa66fa45a90280cb85333db", func := "anagnost/anagnostlaw3.TagOnce", spec := "tagOnce", inPlace := ["internal/bytealg.IndexByteString", "internal/bytealg.CountString", "internal/bytealg.IndexString", "internal/abi.NoEscape", "internal/bytealg.MakeNoZero"], named := ["internal/bytealg.MaxLen", "unicode/utf8.first", "unicode/utf8.acceptRanges", "anagnost/refs.early"], plainKeys := false, apart := false, laid := [("unicode/utf8.acceptRanges", laid_unicode_utf8_acceptRanges), ("anagnost/refs.early", laid_anagnost_refs_early), ("unicode/utf8.first", laid_unicode_utf8_first)], narrowed := true }
def TagOnceUptoSaid : Prop := tagOnceUptoRow.holds Tryd.pinned (OpenSpec.upto tagOnceSpec)

/-- 'anagnostlaw3.TagCuts', WHERE WHAT IT READS IS OF BULK AT MOST 1048576: true; the input reads as it did. -/
def tagCutsUptoRow : OpenClaim := { program := "ytklhllgdkmpnmaadoor", sum := "cd5bad981eeb8fc6183db18f1dbabf83c4d71435bfa66fa45a90280cb85333db", func := "anagnost/anagnostlaw3.TagCuts", spec := "tagCuts", inPlace := ["internal/bytealg.IndexByteString", "internal/bytealg.CountString", "internal/bytealg.IndexString", "internal/abi.NoEscape", "internal/bytealg.MakeNoZero"], named := ["internal/bytealg.MaxLen", "unicode/utf8.first", "unicode/utf8.acceptRanges", "anagnost/refs.early"], plainKeys := false, apart := false, laid := [("unicode/utf8.acceptRanges", laid_unicode_utf8_acceptRanges), ("anagnost/refs.early", laid_anagnost_refs_early), ("unicode/utf8.first", laid_unicode_utf8_first)], narrowed := true }
def TagCutsUptoSaid : Prop := tagCutsUptoRow.holds Tryd.pinned (OpenSpec.upto tagCutsSpec)

/-- 'anagnostlaw3.TagValues', WHERE WHAT IT READS IS OF BULK AT MOST 1048576: true; the input reads as it did. -/
def tagValuesUptoRow : OpenClaim := { program := "ytklhllgdkmpnmaadoor", sum := "cd5bad981eeb8fc6183db18f1dbabf83c4d71435bfa66fa45a90280cb85333db", func := "anagnost/anagnostlaw3.TagValues", spec := "tagValues", inPlace := ["internal/bytealg.IndexByteString", "internal/bytealg.CountString", "internal/bytealg.IndexString", "internal/abi.NoEscape", "internal/bytealg.MakeNoZero"], named := ["internal/bytealg.MaxLen", "unicode/utf8.first", "unicode/utf8.acceptRanges", "anagnost/refs.early"], plainKeys := false, apart := false, laid := [("unicode/utf8.acceptRanges", laid_unicode_utf8_acceptRanges), ("anagnost/refs.early", laid_anagnost_refs_early), ("unicode/utf8.first", laid_unicode_utf8_first)], narrowed := true }
def TagValuesUptoSaid : Prop := tagValuesUptoRow.holds Tryd.pinned (OpenSpec.upto tagValuesSpec)

/-- 'anagnostlaw3.TagKnown', WHERE WHAT IT READS IS OF BULK AT MOST 1048576: true; the input reads as it did. -/
def tagKnownUptoRow : OpenClaim := { program := "ytklhllgdkmpnmaadoor", sum := "cd5bad981eeb8fc6183db18f1dbabf83c4d71435bfa66fa45a90280cb85333db", func := "anagnost/anagnostlaw3.TagKnown", spec := "tagKnown", inPlace := ["internal/bytealg.IndexByteString", "internal/bytealg.CountString", "internal/bytealg.IndexString", "internal/abi.NoEscape", "internal/bytealg.MakeNoZero"], named := ["internal/bytealg.MaxLen", "unicode/utf8.first", "unicode/utf8.acceptRanges", "anagnost/refs.early"], plainKeys := false, apart := false, laid := [("unicode/utf8.acceptRanges", laid_unicode_utf8_acceptRanges), ("anagnost/refs.early", laid_anagnost_refs_early), ("unicode/utf8.first", laid_unicode_utf8_first)], narrowed := true }
def TagKnownUptoSaid : Prop := tagKnownUptoRow.holds Tryd.pinned (OpenSpec.upto tagKnownSpec)

end Rows
end Go.Proofs.YtklhllgdkmpnmaaDoor
