/-
  The walks of the laws' own, without what chapters 1 to 4 need: within, a tape of numbers. Any slice of numbers.
-/
import Derived.Test.YtbadckkcjjfnoaaDTape
import Derived.Test.YtbadckkcjjfnoaaMMAll
namespace Go.Proofs.Ytbadckkcjjfnoaa
open Go.RowKit

set_option maxHeartbeats 1000000 in
theorem within7 (n : Int) (m : Nat) (w : World) (h0 : -9223372036854775808 ≤ n) (h1 : n ≤ 9223372036854775807) (hm1 : 1 ≤ m) (hm2 : m ≤ 2147483647) :
    Calls Try.prog 26 #[.int .i64 n, .int .i64 (m : Int)] w (Gives (.int .i64 ((Within n m : Nat) : Int)) w) := by
  have HW := Lib.hid (within_lt n m hm1).2
  by_cases hn : 0 ≤ n
  · have g1 := Int.emod_nonneg n (show (m : Int) ≠ 0 by omega)
    go_enter Try.func26, Try.ntmps26
    go_wp2
    go_ret
    exact ⟨ret_is HW.out.symm, rfl⟩
  · obtain ⟨g1, g2, g3, g4⟩ := tmod_facts n m (by omega) hm1
    have G3 := Lib.hid g3
    have G4 := Lib.hid g4
    clear g3 g4
    by_cases hz : n.tmod m < 0
    · go_enter Try.func26, Try.ntmps26
      go_wp2
      go_ret
      exact ⟨ret_is ((G3.out hz).trans HW.out.symm), rfl⟩
    · go_enter Try.func26, Try.ntmps26
      go_wp2
      go_ret
      exact ⟨ret_is ((G4.out hz).trans HW.out.symm), rfl⟩



end Go.Proofs.Ytbadckkcjjfnoaa
