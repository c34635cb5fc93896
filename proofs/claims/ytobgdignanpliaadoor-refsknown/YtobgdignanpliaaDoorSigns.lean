/-
  The walks of what reads one sign: lead, part of the reference, behind, begun, broken of the program. Any text of at most maxLen bytes.
-/
import Derived.Test.YtobgdignanpliaaDoorShelf
import Derived.Test.YtobgdignanpliaaDoorPlainE
import Derived.WalkKit
import Derived.BigCall
import Derived.WalkLawsBesides
import Derived.Lib.Hide
namespace Go.Proofs.YtobgdignanpliaaDoor
open Go.RowKit

theorem byte_kinds (b : Nat) (h : b < 256) : b < 128 ∨ (128 ≤ b ∧ b < 194) ∨ (194 ≤ b ∧ b < 224) ∨ b = 224 ∨ (225 ≤ b ∧ b < 237) ∨ b = 237 ∨ (238 ≤ b ∧ b < 240) ∨ b = 240 ∨ (241 ≤ b ∧ b < 244) ∨ b = 244 ∨ 245 ≤ b := by omega

/-- What lead tells of a byte. -/
def LeadOut (w : World) (n lo hi : Nat) (e : Ending) (w' : World) : Prop := e = .returned (.tuple #[.int .i64 n, .int .u8 lo, .int .u8 hi]) ∧ w = w'

set_option maxHeartbeats 1000000 in
set_option maxRecDepth 100000 in
theorem lead_at (b n lo hi : Nat) (w : World) (hb : b < 256) (hn : Plain.leadN b = n) (hlo : Plain.leadLo b = lo) (hhi : Plain.leadHi b = hi) :
    Calls Tryd.prog 38 #[.int .u8 (b : Int)] w (LeadOut w n lo hi) := by
  unfold Plain.leadLo at hlo
  unfold Plain.leadHi at hhi
  rw [hn] at hlo hhi
  unfold Plain.leadN at hn
  rcases byte_kinds b hb with h | h | h | h | h | h | h | h | h | h | h
  · obtain rfl : n = 1 := by (repeat' split at hn) <;> omega
    obtain rfl : lo = 0 := by (repeat' split at hlo) <;> omega
    obtain rfl : hi = 0 := by (repeat' split at hhi) <;> omega
    clear hn hlo hhi
    go_enter Tryd.func38, Tryd.ntmps38
    go_wp2
    go_ret3
    exact ⟨rfl, rfl⟩
  · obtain rfl : n = 0 := by (repeat' split at hn) <;> omega
    obtain rfl : lo = 0 := by (repeat' split at hlo) <;> omega
    obtain rfl : hi = 0 := by (repeat' split at hhi) <;> omega
    clear hn hlo hhi
    go_enter Tryd.func38, Tryd.ntmps38
    go_wp2
    go_ret3
    exact ⟨rfl, rfl⟩
  · obtain rfl : n = 2 := by (repeat' split at hn) <;> omega
    obtain rfl : lo = 128 := by (repeat' split at hlo) <;> omega
    obtain rfl : hi = 191 := by (repeat' split at hhi) <;> omega
    clear hn hlo hhi
    go_enter Tryd.func38, Tryd.ntmps38
    go_wp2
    go_ret3
    exact ⟨rfl, rfl⟩
  · obtain rfl : n = 3 := by (repeat' split at hn) <;> omega
    obtain rfl : lo = 160 := by (repeat' split at hlo) <;> omega
    obtain rfl : hi = 191 := by (repeat' split at hhi) <;> omega
    clear hn hlo hhi
    subst h
    go_enter Tryd.func38, Tryd.ntmps38
    go_wp2
    go_ret3
    exact ⟨rfl, rfl⟩
  · obtain rfl : n = 3 := by (repeat' split at hn) <;> omega
    obtain rfl : lo = 128 := by (repeat' split at hlo) <;> omega
    obtain rfl : hi = 191 := by (repeat' split at hhi) <;> omega
    clear hn hlo hhi
    go_enter Tryd.func38, Tryd.ntmps38
    go_wp2
    go_ret3
    exact ⟨rfl, rfl⟩
  · obtain rfl : n = 3 := by (repeat' split at hn) <;> omega
    obtain rfl : lo = 128 := by (repeat' split at hlo) <;> omega
    obtain rfl : hi = 159 := by (repeat' split at hhi) <;> omega
    clear hn hlo hhi
    subst h
    go_enter Tryd.func38, Tryd.ntmps38
    go_wp2
    go_ret3
    exact ⟨rfl, rfl⟩
  · obtain rfl : n = 3 := by (repeat' split at hn) <;> omega
    obtain rfl : lo = 128 := by (repeat' split at hlo) <;> omega
    obtain rfl : hi = 191 := by (repeat' split at hhi) <;> omega
    clear hn hlo hhi
    go_enter Tryd.func38, Tryd.ntmps38
    go_wp2
    go_ret3
    exact ⟨rfl, rfl⟩
  · obtain rfl : n = 4 := by (repeat' split at hn) <;> omega
    obtain rfl : lo = 144 := by (repeat' split at hlo) <;> omega
    obtain rfl : hi = 191 := by (repeat' split at hhi) <;> omega
    clear hn hlo hhi
    subst h
    go_enter Tryd.func38, Tryd.ntmps38
    go_wp2
    go_ret3
    exact ⟨rfl, rfl⟩
  · obtain rfl : n = 4 := by (repeat' split at hn) <;> omega
    obtain rfl : lo = 128 := by (repeat' split at hlo) <;> omega
    obtain rfl : hi = 191 := by (repeat' split at hhi) <;> omega
    clear hn hlo hhi
    go_enter Tryd.func38, Tryd.ntmps38
    go_wp2
    go_ret3
    exact ⟨rfl, rfl⟩
  · obtain rfl : n = 4 := by (repeat' split at hn) <;> omega
    obtain rfl : lo = 128 := by (repeat' split at hlo) <;> omega
    obtain rfl : hi = 143 := by (repeat' split at hhi) <;> omega
    clear hn hlo hhi
    subst h
    go_enter Tryd.func38, Tryd.ntmps38
    go_wp2
    go_ret3
    exact ⟨rfl, rfl⟩
  · obtain rfl : n = 0 := by (repeat' split at hn) <;> omega
    obtain rfl : lo = 0 := by (repeat' split at hlo) <;> omega
    obtain rfl : hi = 0 := by (repeat' split at hhi) <;> omega
    clear hn hlo hhi
    go_enter Tryd.func38, Tryd.ntmps38
    go_wp2
    go_ret3
    exact ⟨rfl, rfl⟩

theorem lead_any (c : UInt8) (w : World) : Calls Tryd.prog 38 #[.int .u8 (c.toNat : Int)] w (LeadOut w (Plain.leadN c.toNat) (Plain.leadLo c.toNat) (Plain.leadHi c.toNat)) :=
  lead_at c.toNat _ _ _ w c.toNat_lt rfl rfl rfl

/-- What behind tells of a byte. -/
def BehindOut (w : World) (lo hi m : Nat) (e : Ending) (w' : World) : Prop := e = .returned (.tuple #[.int .u8 lo, .int .u8 hi, .int .i64 m]) ∧ w = w'

end Go.Proofs.YtobgdignanpliaaDoor
