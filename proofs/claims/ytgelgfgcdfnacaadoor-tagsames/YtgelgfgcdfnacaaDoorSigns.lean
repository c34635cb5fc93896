/-
  The walks of what reads one sign: lead, part of the reference, behind, begun, broken of the program. Any text of at most maxLen bytes.
-/
import Derived.Test.YtgelgfgcdfnacaaDoorShelfAll
import Derived.Test.YtgelgfgcdfnacaaDoorPlainAll
import Derived.WalkKit
import Derived.BigCall
import Derived.WalkLawsBesides
import Derived.Lib.Hide
namespace Go.Proofs.YtgelgfgcdfnacaaDoor
open Go.RowKit

theorem byte_kinds (b : Nat) (h : b < 256) : b < 128 ∨ (128 ≤ b ∧ b < 194) ∨ (194 ≤ b ∧ b < 224) ∨ b = 224 ∨ (225 ≤ b ∧ b < 237) ∨ b = 237 ∨ (238 ≤ b ∧ b < 240) ∨ b = 240 ∨ (241 ≤ b ∧ b < 244) ∨ b = 244 ∨ 245 ≤ b := by omega

/-- What lead tells of a byte. -/
def LeadOut (w : World) (n lo hi : Nat) (e : Ending) (w' : World) : Prop := e = .returned (.tuple #[.int .i64 n, .int .u8 lo, .int .u8 hi]) ∧ w = w'

/-- What behind tells of a byte. -/
def BehindOut (w : World) (lo hi m : Nat) (e : Ending) (w' : World) : Prop := e = .returned (.tuple #[.int .u8 lo, .int .u8 hi, .int .i64 m]) ∧ w = w'

end Go.Proofs.YtgelgfgcdfnacaaDoor
