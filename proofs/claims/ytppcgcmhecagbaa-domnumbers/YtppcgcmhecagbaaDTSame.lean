/-
  The walk of the reference's Same of texts, of rows that are one. Any rows.
-/
import Derived.Test.YtppcgcmhecagbaaDText
namespace Go.Proofs.Ytppcgcmhecagbaa
open Go.RowKit
set_option maxHeartbeats 1000000 in
set_option maxRecDepth 100000 in
/-- The reference's Same of texts, of rows that are one. -/
theorem tsameP (a b : Value) (ws : List (List UInt8)) (P Q : Nat → Prop) (w : World) (ha : TextsP P w a ws) (hb : TextsP Q w b ws) (hN : ws.length ≤ 4294967296) : Calls Try.prog 27 #[a, b] w (Yes w) := by
  obtain ⟨p, cap, rfl, hc⟩ := ha
  obtain ⟨p2, cap2, rfl, hc2⟩ := hb
  have HC := Lib.hid hc
  have HC2 := Lib.hid hc2
  clear hc hc2
  go_enter Try.func27, Try.ntmps27
  go_wp2
  go_loopw [5] (fun i wr => ∃ (k q : Nat), k ≤ ws.length ∧ i = .int .i64 k ∧ wr = w.drewN q) (fun i _ => ws.length - (intOf i).toNat)
  case atStart => exact ⟨0, 0, Nat.zero_le _, rfl, rfl⟩
  case round =>
    obtain ⟨k, q, hk, rfl, rfl⟩ := hrel
    by_cases hlt : k < ws.length
    · obtain ⟨g, o, rfl, _, hg, hcell⟩ := HC.out (by omega)
      obtain ⟨g2, o2, rfl, _, hg2, hcell2⟩ := HC2.out (by omega)
      have h1 := hcell k hlt
      have h2 := hcell2 k hlt
      unfold strV at h1 h2
      generalize (⟨ws[k].toArray⟩ : ByteArray) = A at *
      clear hcell hcell2
      have k0 : (0 : Int) ≤ (k : Int) := by omega
      have k1 : (k : Int) < (ws.length : Int) := by omega
      go_wp2
      go_quiet (fail)
      go_wp2
      exact ⟨⟨k + 1, _, by omega, by go_num, rfl⟩, by simp [intOf]; omega⟩
    · go_wp2
      go_ret
      exact ⟨rfl, below_drewN (Below.refl _ _) _⟩

end Go.Proofs.Ytppcgcmhecagbaa
