/-
  The reference's Kids for nodes by numbers. Any nodes, not too many.
-/
import Derived.Test.YtkoijkdhmfnlbaaRfB
namespace Go.Proofs.Ytkoijkdhmfnlbaa
open Go.RowKit

/-- What Kids tells: the row of a node; none of what is not there. -/
def KidsOut6 (S : List Cl) (n : Int) (W : World) (e : Ending) (W' : World) : Prop := ∃ v, e = .returned v ∧ NumsAt W v (if isN S n then rowAt S n.toNat else []) ∧ W = W'
theorem KidsOut6.no {S : List Cl} {n : Int} {W : World} (h : isN S n = false) : KidsOut6 S n W (.returned (.slice none 0 0)) W :=
  ⟨_, rfl, by rw [h]; exact ⟨none, 0, rfl, fun h => absurd h (by simp)⟩, rfl⟩
theorem KidsOut6.yes {S : List Cl} {k : Nat} {W : World} {v : Value} (hk : k < S.length) (h : isN S (k : Int) = true) (hv : NumsAt W v S[k].row) : KidsOut6 S (k : Int) W (.returned v) W :=
  ⟨_, rfl, by rw [if_pos h, Int.toNat_natCast, row_get hk]; exact hv, rfl⟩
set_option maxHeartbeats 1000000 in
set_option maxRecDepth 100000 in
theorem rkids_any (S : List Cl) (B : Nat) (W : World) (n : Int) (h : RDoc S B W) : Calls Try.prog 28 #[.pointer (some ⟨B, 0, none⟩), .int .i64 n] W (KidsOut6 S n W) := by
  have HI := Lib.hid (ris_any S B W n h)
  have hlen := h.len
  obtain ⟨_, gN, cN, gU, cU, gR, cR, _, _, h2, hb⟩ := h
  cases hn : isN S n
  · have HE := Lib.hid (KidsOut6.no (W := W) hn)
    rw [hn] at HI
    clear hb hn
    obtain ⟨Q, hQ⟩ : ∃ Q, Q = KidsOut6 S n W := ⟨_, rfl⟩
    rw [← hQ] at HE ⊢
    clear hQ
    go_enter Try.func28, Try.ntmps28
    go_wp2_with fail
    refine HI.out.mono ?_
    rintro e w1 ⟨rfl, rfl⟩
    go_wp2_with fail
    exact HE.out
  · obtain ⟨n0, n1⟩ := (isN_iff S n).1 hn
    obtain ⟨k, rfl⟩ : ∃ k : Nat, n = (k : Int) := ⟨n.toNat, by omega⟩
    have hk : k < S.length := by omega
    obtain ⟨_, _, v, c0, hv⟩ := hb k hk
    have HE := Lib.hid (KidsOut6.yes (W := W) hk hn hv)
    obtain ⟨p, cap, rfl, _⟩ := hv
    obtain ⟨Q, hQ⟩ : ∃ Q, Q = KidsOut6 S (k : Int) W := ⟨_, rfl⟩
    rw [← hQ] at HE ⊢
    rw [hn] at HI
    rw [Nat.zero_add] at c0
    clear hb hn hQ
    go_enter Try.func28, Try.ntmps28
    go_wp2_with fail
    refine HI.out.mono ?_
    rintro e w1 ⟨rfl, rfl⟩
    go_wp2_with fail
    exact HE.out
end Go.Proofs.Ytkoijkdhmfnlbaa
