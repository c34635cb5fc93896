/-
  The walk of the law TagAt: true, and nothing old is changed. The library's number MaxLen and the table of package refs are there.
-/
import Derived.Test.YtklhllgdkmpnmaaDoorUTok
namespace Go.Proofs.YtklhllgdkmpnmaaDoor
open Go.RowKit

theorem atPlace_end (l : List UInt8) : atPlace l (l.length : Int) = false := by
  unfold atPlace
  rw [decide_eq_false (show ¬ (l.length : Int) < (l.length : Int) by omega), Bool.false_and, Bool.and_false]
theorem atPlace_neg (l : List UInt8) : atPlace l (-1) = false := by
  unfold atPlace
  rw [decide_eq_false (show ¬ (0 : Int) ≤ -1 by omega), Bool.false_and]

set_option maxHeartbeats 2000000 in
set_option maxRecDepth 100000 in
theorem tagAt_walk (v : Value) (n : Nat) (raw : ByteArray) (z : Int) (w : World) (hv : IntsIn w v n) (hraw : raw.size ≤ maxLen) (h0 : -9223372036854775808 ≤ z) (h1 : z ≤ 9223372036854775807) (hmax : HasMax w) (hea : HasEarly w) :
    Calls Tryd.prog 3 #[v, .string raw, .int .i64 z] w (Yes w) := by
  have HK := Lib.hid (known3_yes w hmax hea)
  have HV := Lib.hid hv
  unfold maxLen at hraw
  clear hmax hea hv
  by_cases hb : 200 < raw.size
  · go_enter Tryd.func3, Tryd.ntmps3
    go_wp2_with fail
    refine HK.out.mono ?_
    rintro e w1 ⟨rfl, b1⟩
    have hb' : (200 : Int) < (raw.size : Int) := by omega
    go_wp2
    go_ret
    exact ⟨rfl, b1⟩
  · have hb' : ¬ (200 : Int) < (raw.size : Int) := by omega
    have HR1 := fun W => Lib.hid (at_any raw z W h0 h1 (by omega))
    have HR2 := fun W => Lib.hid (rat_any raw z W h0 h1 (by omega))
    generalize atPlace raw.data.toList z = br at *
    go_enter Tryd.func3, Tryd.ntmps3
    go_wp2_with fail
    refine HK.out.mono ?_
    rintro e w1 ⟨rfl, b1⟩
    go_wp2_with fail
    refine (html3_any v n w1 (HV.out.below b1)).mono ?_
    rintro e w2 ⟨l, rfl, hl1, hl2, b2⟩
    have B2 := Lib.hid (b1.trans (b2.mono b1.size))
    clear b1 b2
    obtain ⟨s, hs⟩ : ∃ s : ByteArray, s = ⟨l.toArray⟩ := ⟨_, rfl⟩
    have hsz : s.size = l.length := by rw [hs]; show l.toArray.size = _; simp
    have hsl : s.data.toList = l := by rw [hs]
    rw [← hs]
    clear hs
    have hz1 : 1 ≤ s.size := by omega
    have hz2 : s.size ≤ 400 := by omega
    have HW := fun W => Lib.hid (within3 z s.size W h0 h1 hz1 (by omega))
    have hr := (within_lt z s.size hz1).1
    generalize Within z s.size = r at *
    have A1 := fun W => Lib.hid (at_any s (r : Int) W (by omega) (by omega) (by omega))
    have A2 := fun W => Lib.hid (rat_any s (r : Int) W (by omega) (by omega) (by omega))
    have A3 := fun W => Lib.hid (at_any s z W h0 h1 (by omega))
    have A4 := fun W => Lib.hid (rat_any s z W h0 h1 (by omega))
    have A5 := fun W => Lib.hid (at_any s (s.size : Int) W (by omega) (by omega) (by omega))
    have A6 := fun W => Lib.hid (at_any s (-1) W (by omega) (by omega) (by omega))
    rw [← len_of s, atPlace_end, len_of s] at A5
    rw [atPlace_neg] at A6
    generalize atPlace s.data.toList (r : Int) = b3 at *
    generalize atPlace s.data.toList z = b4 at *
    clear hsz hsl hl1 hl2 HV HK
    go_wp2_with fail
    refine (HW _).out.mono ?_
    rintro e w3 ⟨rfl, rfl⟩
    go_wp2_with fail
    refine (A1 _).out.mono ?_
    rintro e w3 ⟨rfl, rfl⟩
    go_wp2_with fail
    refine (A2 _).out.mono ?_
    rintro e w3 ⟨rfl, rfl⟩
    have e3 : (b3 == b3) = true := beq_self_eq_true b3
    have e4 : (b4 == b4) = true := beq_self_eq_true b4
    have e5 : (br == br) = true := beq_self_eq_true br
    go_wp2_with fail
    refine (A3 _).out.mono ?_
    rintro e w3 ⟨rfl, rfl⟩
    go_wp2_with fail
    refine (A4 _).out.mono ?_
    rintro e w3 ⟨rfl, rfl⟩
    go_wp2_with fail
    refine (HR1 _).out.mono ?_
    rintro e w3 ⟨rfl, rfl⟩
    go_wp2_with fail
    refine (HR2 _).out.mono ?_
    rintro e w3 ⟨rfl, rfl⟩
    go_wp2_with fail
    refine (A5 _).out.mono ?_
    rintro e w3 ⟨rfl, rfl⟩
    go_wp2_with fail
    refine (A6 _).out.mono ?_
    rintro e w3 ⟨rfl, rfl⟩
    go_wp2
    go_ret
    exact ⟨rfl, B2.out⟩
end Go.Proofs.YtklhllgdkmpnmaaDoor
