/-
  The walk of the reference's Alike. Any two rows of attributes, not too many.
-/
import Derived.Test.YtppcgcmhecagbabMMem
namespace Go.Proofs.Ytppcgcmhecagbab
open Go.RowKit

theorem str_eq (a b : List UInt8) : ((⟨a.toArray⟩ : ByteArray).toList == (⟨b.toArray⟩ : ByteArray).toList) = decide (a = b) := by
  rw [Lib.toList_data, Lib.toList_data, Bool.eq_iff_iff, beq_iff_eq, decide_eq_true_eq]
theorem str_ne {a b : List UInt8} (h : a ≠ b) : ((⟨a.toArray⟩ : ByteArray).toList == (⟨b.toArray⟩ : ByteArray).toList) = false := by rw [str_eq]; simp [h]
theorem str_is {a b : List UInt8} (h : a = b) : ((⟨a.toArray⟩ : ByteArray).toList == (⟨b.toArray⟩ : ByteArray).toList) = true := by rw [str_eq]; simp [h]
theorem list_no {α : Type} {xs ys : List α} {k : Nat} (h1 : k < xs.length) (h2 : k < ys.length) (h : xs[k] ≠ ys[k]) : xs ≠ ys := by
  rintro rfl
  exact h rfl
theorem list_all {α : Type} {xs ys : List α} (hl : xs.length = ys.length) (h : ∀ j (hj : j < xs.length), xs[j] = ys[j]'(hl ▸ hj)) : xs = ys := List.ext_getElem hl fun j h1 _ => h j h1

set_option maxHeartbeats 1000000 in
set_option maxRecDepth 100000 in
theorem ralikeP (a b : Value) (xs ys : List (List UInt8 × List UInt8)) (P Q : Nat → Prop) (w : World) (ha : AttrsP P w a xs) (hb : AttrsP Q w b ys) (hN : xs.length ≤ 4294967296) : Calls Try.prog 51 #[a, b] w (Brings (.bool (decide (xs = ys))) w) := by
  obtain ⟨p, cap, rfl, hc⟩ := ha
  obtain ⟨p2, cap2, rfl, hc2⟩ := hb
  have HC := Lib.hid hc
  have HC2 := Lib.hid hc2
  clear hc hc2
  by_cases hl : xs.length = ys.length
  · have q0 : ((xs.length : Int) == (ys.length : Int)) = true := by simp [hl]
    go_enter Try.func51, Try.ntmps51
    go_wp2
    go_loopw [5] (fun i wr => ∃ (k q : Nat), k ≤ xs.length ∧ i = .int .i64 k ∧ wr = w.drewN q ∧ ∀ j (h1 : j < k) (h2 : j < xs.length) (h3 : j < ys.length), xs[j] = ys[j]) (fun i _ => xs.length - (intOf i).toNat)
    case atStart => exact ⟨0, 0, Nat.zero_le _, rfl, rfl, fun j h => absurd h (by omega)⟩
    case round =>
      obtain ⟨k, q, hk, rfl, rfl, hall⟩ := hrel
      have HALL := Lib.hid hall
      clear hall
      by_cases hlt : k < xs.length
      · have hlt2 : k < ys.length := by omega
        obtain ⟨g, o, rfl, _, hg, hcell⟩ := HC.out (by omega)
        obtain ⟨g2, o2, rfl, _, hg2, hcell2⟩ := HC2.out (by omega)
        obtain ⟨h0, h1⟩ := hcell k hlt
        obtain ⟨e0, e1⟩ := hcell2 k hlt2
        have k0 : (0 : Int) ≤ (k : Int) := by omega
        have k1 : (k : Int) < (xs.length : Int) := by omega
        have k2 : (k : Int) < (ys.length : Int) := by omega
        clear hcell hcell2
        by_cases c1 : xs[k].1 = ys[k].1
        · have q1 := str_is c1
          by_cases c2 : xs[k].2 = ys[k].2
          · have q2 := str_is c2
            have HE := Lib.hid (Prod.ext c1 c2)
            clear c1 c2
            generalize (⟨xs[k].1.toArray⟩ : ByteArray) = A at *
            generalize (⟨xs[k].2.toArray⟩ : ByteArray) = B at *
            generalize (⟨ys[k].1.toArray⟩ : ByteArray) = C at *
            generalize (⟨ys[k].2.toArray⟩ : ByteArray) = D at *
            go_wp2
            go_quiet (fail)
            go_wp2
            refine ⟨⟨k + 1, _, by omega, by go_num, rfl, fun j h1 h2 h3 => ?_⟩, by simp [intOf]; omega⟩
            rcases Nat.lt_or_ge j k with h | h
            · exact HALL.out j h h2 h3
            · have : j = k := by omega
              subst this
              exact HE.out
          · have q2 := str_ne c2
            have HE := Lib.hid (list_no hlt hlt2 (fun e => c2 (by rw [e])))
            clear c1 c2
            generalize (⟨xs[k].1.toArray⟩ : ByteArray) = A at *
            generalize (⟨xs[k].2.toArray⟩ : ByteArray) = B at *
            generalize (⟨ys[k].1.toArray⟩ : ByteArray) = C at *
            generalize (⟨ys[k].2.toArray⟩ : ByteArray) = D at *
            go_wp2
            go_quiet (fail)
            go_wp2
            go_ret
            exact ⟨by rw [decide_eq_false HE.out]; rfl, below_drewN (below_drewN (Below.refl _ _) _) _⟩
        · have q1 := str_ne c1
          have HE := Lib.hid (list_no hlt hlt2 (fun e => c1 (by rw [e])))
          clear c1
          generalize (⟨xs[k].1.toArray⟩ : ByteArray) = A at *
          generalize (⟨xs[k].2.toArray⟩ : ByteArray) = B at *
          generalize (⟨ys[k].1.toArray⟩ : ByteArray) = C at *
          generalize (⟨ys[k].2.toArray⟩ : ByteArray) = D at *
          go_wp2
          go_quiet (fail)
          go_wp2
          go_ret
          exact ⟨by rw [decide_eq_false HE.out]; rfl, below_drewN (below_drewN (Below.refl _ _) _) _⟩
      · have HE : Hid (xs = ys) := Lib.hid (list_all hl fun j hj => HALL.out j (by omega) hj (by omega))
        go_wp2
        go_ret
        exact ⟨by rw [decide_eq_true HE.out]; rfl, below_drewN (Below.refl _ _) _⟩
  · have q0 : ((xs.length : Int) == (ys.length : Int)) = false := by rw [beq_eq_false_iff_ne]; omega
    have HE : Hid (xs ≠ ys) := Lib.hid (fun e => hl (congrArg List.length e))
    clear hl
    go_enter Try.func51, Try.ntmps51
    go_wp2
    go_ret
    exact ⟨by rw [decide_eq_false HE.out]; rfl, Below.refl _ _⟩

end Go.Proofs.Ytppcgcmhecagbab
