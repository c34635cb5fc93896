/-
  The walk of the reference's Same. Any two rows of attributes.
-/
import Derived.Test.YtgelgfgcdfnacaaDoorUFind
namespace Go.Proofs.YtgelgfgcdfnacaaDoor
open Go.RowKit

/-- Is each of the first in the second, and are they of one length? -/
def sameV (xs ys : List (List UInt8 × List UInt8)) : Bool := (xs.all fun a => ys.any fun b => a == b) && decide (xs.length = ys.length)

theorem sameV_no (xs ys : List (List UInt8 × List UInt8)) (k : Nat) (h : k < xs.length) (hn : (ys.any fun b => xs[k] == b) = false) : sameV xs ys = false := by
  have : (xs.all fun a => ys.any fun b => a == b) = false := by
    rw [List.all_eq_false]
    exact ⟨xs[k], List.getElem_mem h, by rw [hn]; decide⟩
  unfold sameV
  rw [this, Bool.false_and]
theorem sameV_step (xs ys : List (List UInt8 × List UInt8)) (k : Nat) (h : k < xs.length) (ha : ((xs.take k).all fun a => ys.any fun b => a == b) = true) (hy : (ys.any fun b => xs[k] == b) = true) : ((xs.take (k + 1)).all fun a => ys.any fun b => a == b) = true := by
  rw [List.take_succ_eq_append_getElem h, List.all_append, ha, Bool.true_and, List.all_cons, hy, List.all_nil]
  rfl

set_option maxHeartbeats 1000000 in
set_option maxRecDepth 100000 in
theorem rsame_any (a b : Value) (xs ys : List (List UInt8 × List UInt8)) (w : World) (ha : AttrsAt w a xs) (hb : AttrsAt w b ys) (hN : xs.length ≤ 4294967296) (hM : ys.length ≤ 4294967296) : Calls Tryd.prog 27 #[a, b] w fun e w' => e = .returned (.bool (sameV xs ys)) ∧ ∃ q, w' = w.drewN q := by
  obtain ⟨p, cap, rfl, hc⟩ := ha
  obtain ⟨p2, cap2, rfl, hc2⟩ := hb
  have HC := Lib.hid hc
  have HC2 := Lib.hid hc2
  clear hc hc2
  go_enter Tryd.func27, Tryd.ntmps27
  go_wp2
  go_loopw [5] (fun i wr => ∃ (k q : Nat), k ≤ xs.length ∧ i = .int .i64 k ∧ wr = w.drewN q ∧ ((xs.take k).all fun a => ys.any fun b => a == b) = true) (fun i _ => xs.length - (intOf i).toNat)
  case atStart => exact ⟨0, 0, Nat.zero_le _, rfl, rfl, rfl⟩
  case round =>
    obtain ⟨k, q, hk, rfl, rfl, hall⟩ := hrel
    have HALL := Lib.hid hall
    clear hall
    by_cases hlt : k < xs.length
    · obtain ⟨g, rfl, hg, h0, h1⟩ := HC.out k hlt
      have k0 : (0 : Int) ≤ (k : Int) := by omega
      have k1 : (k : Int) < (xs.length : Int) := by omega
      obtain ⟨X, HX⟩ : ∃ X : List UInt8 × List UInt8, Hid (xs[k] = X) := ⟨_, Lib.hid rfl⟩
      rw [HX.out] at h0 h1
      go_wp2
      go_loopw [6, 7] (fun s j wr => ∃ (m r : Nat), m ≤ ys.length ∧ j = .int .i64 m ∧ s = .bool ((ys.take m).any fun b => X == b) ∧ wr = w.drewN r) (fun _ j _ => ys.length - (intOf j).toNat)
      case atStart => exact ⟨0, q, Nat.zero_le _, rfl, rfl, rfl⟩
      case round =>
        obtain ⟨m, r, hm, rfl, rfl, rfl⟩ := hrel
        by_cases hlm : m < ys.length
        · obtain ⟨g2, rfl, hg2, e0, e1⟩ := HC2.out m hlm
          have m0 : (0 : Int) ≤ (m : Int) := by omega
          have m1 : (m : Int) < (ys.length : Int) := by omega
          obtain ⟨Y, HY⟩ : ∃ Y : List UInt8 × List UInt8, Hid (ys[m] = Y) := ⟨_, Lib.hid rfl⟩
          rw [HY.out] at e0 e1
          have HT : Hid (((ys.take (m + 1)).any fun b => X == b) = (((ys.take m).any fun b => X == b) || (X == Y))) := by
            refine Lib.hid ?_
            rw [List.take_succ_eq_append_getElem hlm, List.any_append, HY.out]
            simp
          cases hI : ((ys.take m).any fun b => X == b)
          · have HB0 := Lib.hid hI
            clear hI
            by_cases c1 : X.1 = Y.1
            · have q1 : ((⟨X.1.toArray⟩ : ByteArray).toList == (⟨Y.1.toArray⟩ : ByteArray).toList) = true := by rw [c1]; exact beq_self_eq_true _
              by_cases c2 : X.2 = Y.2
              · have q2 : ((⟨X.2.toArray⟩ : ByteArray).toList == (⟨Y.2.toArray⟩ : ByteArray).toList) = true := by rw [c2]; exact beq_self_eq_true _
                have HF : Hid ((((ys.take m).any fun b => X == b) || (X == Y)) = true) := Lib.hid (by rw [HB0.out, Prod.ext c1 c2]; simp)
                clear c1 c2
                generalize (⟨X.1.toArray⟩ : ByteArray) = A at *
                generalize (⟨X.2.toArray⟩ : ByteArray) = B at *
                generalize (⟨Y.1.toArray⟩ : ByteArray) = C at *
                generalize (⟨Y.2.toArray⟩ : ByteArray) = D at *
                go_wp2
                go_quiet (fail)
                go_wp2
                exact ⟨⟨m + 1, _, by omega, by go_num, by rw [HT.out, HF.out], rfl⟩, by simp [intOf]; omega⟩
              · have q2 : ((⟨X.2.toArray⟩ : ByteArray).toList == (⟨Y.2.toArray⟩ : ByteArray).toList) = false := by rw [Lib.toList_data, Lib.toList_data, beq_eq_false_iff_ne]; exact c2
                have HF : Hid ((((ys.take m).any fun b => X == b) || (X == Y)) = false) := Lib.hid (by rw [HB0.out, Bool.false_or, beq_eq_false_iff_ne]; exact fun e => c2 (by rw [e]))
                clear c1 c2
                generalize (⟨X.1.toArray⟩ : ByteArray) = A at *
                generalize (⟨X.2.toArray⟩ : ByteArray) = B at *
                generalize (⟨Y.1.toArray⟩ : ByteArray) = C at *
                generalize (⟨Y.2.toArray⟩ : ByteArray) = D at *
                go_wp2
                go_quiet (fail)
                go_wp2
                exact ⟨⟨m + 1, _, by omega, by go_num, by rw [HT.out, HF.out], rfl⟩, by simp [intOf]; omega⟩
            · have q1 : ((⟨X.1.toArray⟩ : ByteArray).toList == (⟨Y.1.toArray⟩ : ByteArray).toList) = false := by rw [Lib.toList_data, Lib.toList_data, beq_eq_false_iff_ne]; exact c1
              have HF : Hid ((((ys.take m).any fun b => X == b) || (X == Y)) = false) := Lib.hid (by rw [HB0.out, Bool.false_or, beq_eq_false_iff_ne]; exact fun e => c1 (by rw [e]))
              clear c1
              generalize (⟨X.1.toArray⟩ : ByteArray) = A at *
              generalize (⟨X.2.toArray⟩ : ByteArray) = B at *
              generalize (⟨Y.1.toArray⟩ : ByteArray) = C at *
              generalize (⟨Y.2.toArray⟩ : ByteArray) = D at *
              go_wp2
              go_quiet (fail)
              go_wp2
              exact ⟨⟨m + 1, _, by omega, by go_num, by rw [HT.out, HF.out], rfl⟩, by simp [intOf]; omega⟩
          · have HF : Hid ((((ys.take m).any fun b => X == b) || (X == Y)) = true) := Lib.hid (by rw [hI, Bool.true_or])
            go_wp2
            go_quiet (fail)
            go_wp2
            exact ⟨⟨m + 1, _, by omega, by go_num, by rw [HT.out, HF.out], rfl⟩, by simp [intOf]; omega⟩
        · have HE : Hid (ys.take m = ys) := Lib.hid (List.take_of_length_le (by omega))
          rw [HE.out]
          cases hB : (ys.any fun b => X == b)
          · go_wp2
            go_ret
            refine ⟨?_, r, rfl⟩
            rw [sameV_no xs ys k hlt (by rw [HX.out]; exact hB)]
            rfl
          · go_wp2
            exact ⟨⟨k + 1, r, by omega, by go_num, rfl, sameV_step xs ys k hlt HALL.out (by rw [HX.out]; exact hB)⟩, by simp [intOf]; omega⟩
    · have HE : Hid (sameV xs ys = decide (xs.length = ys.length)) := by
        refine Lib.hid ?_
        have := HALL.out
        rw [List.take_of_length_le (by omega)] at this
        unfold sameV
        rw [this, Bool.true_and]
      go_wp2
      go_ret
      refine ⟨?_, q, rfl⟩
      rw [HE.out]
      have e : ((xs.length : Int) == (ys.length : Int)) = decide (xs.length = ys.length) := by
        rw [Bool.eq_iff_iff, beq_iff_eq, decide_eq_true_iff]
        omega
      rw [← e]
      rfl
end Go.Proofs.YtgelgfgcdfnacaaDoor
