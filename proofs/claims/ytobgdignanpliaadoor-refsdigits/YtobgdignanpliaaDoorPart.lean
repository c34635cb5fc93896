/-
  The walks of part of the reference, begun and broken of the program. Any text of at most 2^32 bytes.
-/
import Derived.Test.YtobgdignanpliaaDoorSigns
namespace Go.Proofs.YtobgdignanpliaaDoor
open Go.RowKit

theorem drop_cons (s : ByteArray) (f : Nat) (h : f < s.size) : s.data.toList.drop f = s[f] :: s.data.toList.drop (f + 1) := by
  have := List.drop_eq_getElem_cons (l := s.data.toList) (i := f) (by simpa using h)
  exact this

theorem run_on (m lo hi : Nat) (c : UInt8) (r : List UInt8) (h1 : lo ≤ c.toNat) (h2 : c.toNat ≤ hi) : Plain.run (m + 1) lo hi (c :: r) = 1 + Plain.run m 128 191 r := by simp [Plain.run, h1, h2]
theorem run_off (m lo hi : Nat) (c : UInt8) (r : List UInt8) (h : ¬ (lo ≤ c.toNat ∧ c.toNat ≤ hi)) : Plain.run m lo hi (c :: r) = 0 := by
  cases m with
  | zero => rfl
  | succ m => simp only [Plain.run, if_neg h]
theorem run_nil (m lo hi : Nat) : Plain.run m lo hi [] = 0 := by cases m <;> rfl
theorem run_zero (lo hi : Nat) (r : List UInt8) : Plain.run 0 lo hi r = 0 := rfl

/-- What part tells. -/
def PartOut (w : World) (k : Nat) (b : Bool) (e : Ending) (w' : World) : Prop := e = .returned (.tuple #[.int .i64 k, .bool b]) ∧ w = w'

theorem part_end {w : World} {K k n : Nat} {B : Bool} (hB : B = (K == n)) (hK : K = k) : PartOut w K B (.returned (.tuple #[.int .i64 k, .bool ((k : Int) == (n : Int))])) w := by
  subst hK
  subst hB
  refine ⟨?_, rfl⟩
  have : ((K : Int) == (n : Int)) = (K == n) := by
    rw [Bool.eq_iff_iff]
    simp only [beq_iff_eq]
    omega
  rw [this]

set_option maxHeartbeats 2000000 in
set_option maxRecDepth 100000 in
theorem part_any (s : ByteArray) (at_ : Nat) (w : World) (h : at_ < s.size) (hs : s.size ≤ 4294967296) :
    Calls Tryd.prog 23 #[.string s, .int .i64 at_] w (PartOut w (Plain.partK (s.data.toList.drop at_)) (Plain.partB (s.data.toList.drop at_))) := by
  have hd := drop_cons s at_ h
  have hK : Plain.partK (s.data.toList.drop at_) = if Plain.leadN s[at_].toNat < 2 then Plain.leadN s[at_].toNat else 1 + Plain.run (Plain.leadN s[at_].toNat - 1) (Plain.leadLo s[at_].toNat) (Plain.leadHi s[at_].toNat) (s.data.toList.drop (at_ + 1)) := by
    rw [hd]; rfl
  have hB : Plain.partB (s.data.toList.drop at_) = (decide (1 ≤ Plain.leadN s[at_].toNat) && (Plain.partK (s.data.toList.drop at_) == Plain.leadN s[at_].toNat)) := by
    rw [hd]; rfl
  generalize Plain.partK (s.data.toList.drop at_) = K at *
  generalize Plain.partB (s.data.toList.drop at_) = B at *
  clear hd
  have hn4 := Plain.leadN_le s[at_].toNat
  have hlo : Plain.leadLo s[at_].toNat ≤ 255 := by unfold Plain.leadLo; (repeat' split) <;> omega
  have hhi : Plain.leadHi s[at_].toNat ≤ 255 := by unfold Plain.leadHi; (repeat' split) <;> omega
  have HK := Lib.hid hK
  have HB := Lib.hid hB
  clear hK hB
  go_enter Tryd.func23, Tryd.ntmps23
  go_wp2_with fail
  refine (lead_any _ _).mono ?_
  rintro e w1 ⟨rfl, rfl⟩
  generalize Plain.leadN s[at_].toNat = n at *
  generalize Plain.leadLo s[at_].toNat = lo0 at *
  generalize Plain.leadHi s[at_].toNat = hi0 at *
  by_cases h2 : n < 2
  · have hb1 : B = ((n : Int) == 1) := by
      rw [HB.out, HK.out, if_pos h2]
      have : n = 0 ∨ n = 1 := by omega
      rcases this with rfl | rfl <;> rfl
    have hk1 : K = n := by rw [HK.out, if_pos h2]
    have HB1 := Lib.hid hb1
    have HK1 := Lib.hid hk1
    clear hb1 hk1 HB HK
    go_wp2
    go_ret2
    rw [HB1.out, HK1.out]
    exact ⟨rfl, rfl⟩
  · have hk0 : K = 1 + Plain.run (n - 1) lo0 hi0 (s.data.toList.drop (at_ + 1)) := by rw [HK.out, if_neg h2]
    have hb0 : B = (K == n) := by rw [HB.out]; simp; omega
    have HB1 := Lib.hid hb0
    have HK1 := Lib.hid hk0
    clear hb0 hk0 HB HK
    go_wp2
    go_loop [7, 8, 9] (fun a b c => ∃ k lo hi : Nat, 1 ≤ k ∧ k ≤ n ∧ lo ≤ 255 ∧ hi ≤ 255 ∧ a = .int .u8 lo ∧ b = .int .u8 hi ∧ c = .int .i64 k ∧ K = k + Plain.run (n - k) lo hi (s.data.toList.drop (at_ + k))) (fun _ _ c => n - (intOf c).toNat)
    case atStart => exact ⟨1, lo0, hi0, by omega, by omega, hlo, hhi, rfl, rfl, rfl, HK1.out⟩
    case round =>
      obtain ⟨k, lo, hi, hk1, hkn, hlo', hhi', rfl, rfl, rfl, hrun⟩ := hrel
      have HR := Lib.hid hrun
      clear hrun
      by_cases hlt : k < n
      · by_cases hsz : at_ + k < s.size
        · have HD := Lib.hid (drop_cons s (at_ + k) hsz)
          by_cases hc1 : lo ≤ s[at_ + k].toNat
          · by_cases hc2 : s[at_ + k].toNat ≤ hi
            · have hr : K = (k + 1) + Plain.run (n - (k + 1)) 128 191 (s.data.toList.drop (at_ + (k + 1))) := by
                rw [HR.out, HD.out, show n - k = (n - (k + 1)) + 1 by omega, run_on _ _ _ _ _ hc1 hc2]
                show k + (1 + Plain.run (n - (k + 1)) 128 191 (s.data.toList.drop (at_ + k + 1))) = _
                rw [Nat.add_assoc at_ k 1]
                omega
              have HR2 := Lib.hid hr
              clear hr HR HD
              go_wp2
              exact ⟨⟨k + 1, 128, 191, by omega, by omega, by omega, by omega, rfl, rfl, by go_num, HR2.out⟩, by simp [intOf]; omega⟩
            · have hk : K = k := by rw [HR.out, HD.out, run_off _ _ _ _ _ (fun hh => hc2 hh.2)]; omega
              have HE := Lib.hid hk
              clear hk HR HD
              go_wp2
              go_ret2
              exact part_end HB1.out HE.out
          · have hk : K = k := by rw [HR.out, HD.out, run_off _ _ _ _ _ (fun hh => hc1 hh.1)]; omega
            have HE := Lib.hid hk
            clear hk HR HD
            go_wp2
            go_ret2
            exact part_end HB1.out HE.out
        · have hk : K = k := by rw [HR.out, List.drop_eq_nil_of_le (by simp; omega), run_nil]; omega
          have HE := Lib.hid hk
          clear hk HR
          go_wp2
          go_ret2
          exact part_end HB1.out HE.out
      · have hk : K = k := by rw [HR.out, show n - k = 0 by omega, run_zero]; omega
        have HE := Lib.hid hk
        clear hk HR
        go_wp2
        go_ret2
        exact part_end HB1.out HE.out

end Go.Proofs.YtobgdignanpliaaDoor
