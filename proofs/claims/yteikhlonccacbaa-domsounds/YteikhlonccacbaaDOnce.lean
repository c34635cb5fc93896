/-
  The walk of the reference's once. Any attributes, not too many.
-/
import Derived.Test.YteikhlonccacbaaDSame
namespace Go.Proofs.Yteikhlonccacbaa
open Go.RowKit

set_option maxHeartbeats 1000000 in
set_option maxRecDepth 100000 in
theorem ronceP (v : Value) (rs : List (List UInt8 × List UInt8)) (P : Nat → Prop) (w : World) (ha : AttrsP P w v rs) (hN : rs.length ≤ 4294967296) : Calls Try.prog 56 #[v] w (Brings (.bool (onceA rs)) w) := by
  obtain ⟨p, cap, rfl, hc⟩ := ha
  have HC := Lib.hid hc
  clear hc
  go_enter Try.func56, Try.ntmps56
  go_wp2
  go_loopw [3] (fun i wr => ∃ (k q : Nat), k ≤ rs.length ∧ i = .int .i64 k ∧ wr = w.drewN q ∧ onceA (rs.take k) = true) (fun i _ => rs.length - (intOf i).toNat)
  case atStart => exact ⟨0, 0, Nat.zero_le _, rfl, rfl, rfl⟩
  case round =>
    obtain ⟨k, q, hk, rfl, rfl, hall⟩ := hrel
    have HALL := Lib.hid hall
    clear hall
    by_cases hlt : k < rs.length
    · obtain ⟨g, o, rfl, _, hg, hcell⟩ := HC.out (by omega)
      have HCELL := Lib.hid hcell
      clear hcell
      obtain ⟨h0, h1⟩ := HCELL.out k hlt
      have k0 : (0 : Int) ≤ (k : Int) := by omega
      have k1 : (k : Int) < (rs.length : Int) := by omega
      go_wp2
      go_loopw [4] (fun j wr => ∃ (m r : Nat), m ≤ k ∧ j = .int .i64 m ∧ wr = w.drewN r ∧ ∀ i (_ : i < m) (_ : i < rs.length), rs[k].1 ≠ rs[i].1) (fun j _ => k - (intOf j).toNat)
      case atStart => exact ⟨0, q, Nat.zero_le _, rfl, rfl, fun i h => absurd h (by omega)⟩
      case round =>
        obtain ⟨m, r, hm, rfl, rfl, hno⟩ := hrel
        have HNO := Lib.hid hno
        clear hno
        by_cases hlm : m < k
        · obtain ⟨e0, e1⟩ := HCELL.out m (by omega)
          have m0 : (0 : Int) ≤ (m : Int) := by omega
          have m1 : (m : Int) < (rs.length : Int) := by omega
          by_cases c1 : rs[k].1 = rs[m].1
          · have q1 := str_is c1
            have HE := Lib.hid (onceA_no hlt hlm c1)
            clear c1
            generalize (⟨rs[k].1.toArray⟩ : ByteArray) = A at *
            generalize (⟨rs[m].1.toArray⟩ : ByteArray) = B at *
            go_wp2
            go_quiet (fail)
            go_wp2
            go_ret
            exact ⟨by rw [HE.out]; rfl, below_drewN (below_drewN (Below.refl _ _) _) _⟩
          · have q1 := str_ne c1
            have HE := Lib.hid c1
            clear c1
            generalize (⟨rs[k].1.toArray⟩ : ByteArray) = A at *
            generalize (⟨rs[m].1.toArray⟩ : ByteArray) = B at *
            go_wp2
            go_quiet (fail)
            go_wp2
            refine ⟨⟨m + 1, _, by omega, by go_num, rfl, fun i h1 h2 => ?_⟩, by simp [intOf]; omega⟩
            rcases Nat.lt_or_ge i m with h | h
            · exact HNO.out i h h2
            · have : i = m := by omega
              subst this
              exact HE.out
        · have HE := Lib.hid (onceA_step hlt HALL.out (fun i hi => HNO.out i (by omega) (by omega)))
          go_wp2
          exact ⟨⟨k + 1, r, by omega, by go_num, rfl, HE.out⟩, by simp [intOf]; omega⟩
    · have HE : Hid (onceA rs = true) := by
        have := HALL.out
        rw [List.take_of_length_le (by omega)] at this
        exact Lib.hid this
      go_wp2
      go_ret
      exact ⟨by rw [HE.out]; rfl, below_drewN (Below.refl _ _) _⟩
end Go.Proofs.Yteikhlonccacbaa
