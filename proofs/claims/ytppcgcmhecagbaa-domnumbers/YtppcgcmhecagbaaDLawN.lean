/-
  The walk of the law DomNumbers: true, and nothing old is changed. Any nodes.
-/
import Derived.Test.YtppcgcmhecagbaaDPKnown
import Derived.Test.YtppcgcmhecagbaaDPText
import Derived.Test.YtppcgcmhecagbaaDPNum
import Derived.Test.YtppcgcmhecagbaaDPDeep
import Derived.Test.YtppcgcmhecagbaaDTSame
import Derived.Test.YtppcgcmhecagbaaDSame
import Derived.Test.YtppcgcmhecagbaaDNum
import Derived.Test.YtppcgcmhecagbaaDSmall
namespace Go.Proofs.Ytppcgcmhecagbaa
open Go.RowKit

set_option maxHeartbeats 1000000 in
set_option maxRecDepth 100000 in
theorem domNumbers_walk (v : Value) (f : Fo) (w : World) (h : NodesP (fun _ => True) w v f) (hf : f.fits) (hl : f.len ≤ maxLen) : Calls Try.prog 5 #[v] w (Yes w) := by
  obtain ⟨p1, l1, c1, rfl⟩ := h.slice
  have H1 := Lib.hid (h.mono (Q := fun b => b < w.heap.size) (fun b _ hb => hb))
  have HF := Lib.hid (And.intro hf hl)
  clear h hf hl
  go_enter Try.func5, Try.ntmps5
  go_wp2_with fail
  refine (known6_yes _).mono ?_
  rintro e w1 ⟨rfl, b1⟩
  have B1 := Lib.hid b1
  clear b1
  go_wp2_with fail
  refine (smallP f _ _ w1 HF.out.1 HF.out.2 (H1.out.kept (.of_below B1.out))).mono ?_
  rintro e w2 ⟨s1, rfl, b2, hs1⟩
  have B2 := Lib.hid (B1.out.trans (b2.mono B1.out.size))
  have HS1 := Lib.hid hs1
  clear b2 hs1 B1
  cases s1
  · go_wp2_with fail
    go_ret
    exact ⟨rfl, B2.out⟩
  · have hw1 := HS1.out rfl
    have hwn := Fo.number_wt f 1
    have htl := Fo.texts_le f
    have HT := Lib.hid (Fo.number_texts f 1)
    have HT2 := Lib.hid (congrArg (·.1) (Fo.number_twice f 1))
    have HTD := Lib.hid (Fo.number_deep f 1)
    have HNR := fun W (hN : NodesP (fun b => b < w.heap.size) W (.slice p1 l1 c1) f) (hz : w.heap.size ≤ W.heap.size) => Lib.hid (rNumberP f (fun b => b < w.heap.size) (.slice p1 l1 c1) W (by omega) hN (fun b hb => by omega))
    have HDN := fun W (hN : NodesP (fun b => b < w.heap.size) W (.slice p1 l1 c1) f) => Lib.hid (dnumberP f (fun b => b < w.heap.size) (.slice p1 l1 c1) W (by omega) hN)
    generalize (f.number 1).1 = fn at *
    go_wp2_with fail
    refine (HDN _ (H1.out.kept (.of_below B2.out))).out.mono ?_
    rintro e w3 ⟨vl, rfl, hn3, b3⟩
    have B3 := Lib.hid (B2.out.trans (b3.mono B2.out.size))
    have HL3 := Lib.hid hn3
    obtain ⟨pl, ll, cl, rfl⟩ := hn3.slice
    clear b3 B2 hn3
    go_wp2_with fail
    refine (HNR _ (H1.out.kept (.of_below B3.out)) B3.out.size).out.mono ?_
    rintro e w4 ⟨vr, rfl, hn4, b4⟩
    have B4 := Lib.hid (B3.out.trans (b4.mono B3.out.size))
    have HL4 := Lib.hid (HL3.out.kept (.of_below b4))
    have HR4 := Lib.hid hn4
    obtain ⟨pr, lr, cr, rfl⟩ := hn4.slice
    clear b4 B3 hn4 HL3
    go_wp2_with fail
    refine (rsameP fn fn _ _ _ _ w4 (by omega) HL4.out HR4.out).mono ?_
    rintro e w5 ⟨rfl, b5⟩
    rw [Fo.same_refl]
    have B5 := Lib.hid (B4.out.trans (b5.mono B4.out.size))
    have HL5 := Lib.hid (HL4.out.kept (.of_below b5))
    clear b5 B4 HL4 HR4
    go_wp2_with fail
    refine (dtextsP f _ _ w5 (by omega) (H1.out.kept (.of_below B5.out))).mono ?_
    rintro e w6 ⟨vt, rfl, ht6, b6⟩
    have B6 := Lib.hid (B5.out.trans (b6.mono B5.out.size))
    have HL6 := Lib.hid (HL5.out.kept (.of_below b6))
    have HT6 := Lib.hid ht6
    obtain ⟨pt, lt, ct, rfl⟩ := ht6.slice
    clear b6 B5 HL5 ht6
    go_wp2_with fail
    refine (rtextsP f (fun b => b < w.heap.size) _ w6 (by omega) (H1.out.kept (.of_below B6.out)) (fun b hb => by have := B6.out.size; omega)).mono ?_
    rintro e w7 ⟨vu, rfl, hr7⟩
    have B7 := Lib.hid (B6.out.trans (hr7.below.mono B6.out.size))
    have HL7 := Lib.hid (HL6.out.kept (.of_below hr7.below))
    have HT7 := Lib.hid (HT6.out.kept (.of_below hr7.below))
    have HU7 := Lib.hid hr7.told
    obtain ⟨pu, lu, cu, rfl⟩ := HU7.out.slice
    clear B6 HL6 HT6 hr7
    go_wp2_with fail
    refine (tsameP _ _ f.texts _ _ w7 HT7.out HU7.out (by omega)).mono ?_
    rintro e w8 ⟨rfl, b8⟩
    have B8 := Lib.hid (B7.out.trans (b8.mono B7.out.size))
    have HL8 := Lib.hid (HL7.out.kept (.of_below b8))
    clear b8 B7 HL7 HT7 HU7
    go_wp2_with fail
    refine (dtextsP fn _ _ w8 (by omega) HL8.out).mono ?_
    rintro e w9 ⟨vx, rfl, ht9, b9⟩
    have B9 := Lib.hid (B8.out.trans (b9.mono B8.out.size))
    have HL9 := Lib.hid (HL8.out.kept (.of_below b9))
    rw [HT.out] at ht9
    have HT9 := Lib.hid ht9
    obtain ⟨px, lx, cx, rfl⟩ := ht9.slice
    clear b9 B8 HL8 ht9
    go_wp2_with fail
    refine (dtextsP f _ _ w9 (by omega) (H1.out.kept (.of_below B9.out))).mono ?_
    rintro e w10 ⟨vy, rfl, ht10, b10⟩
    have B10 := Lib.hid (B9.out.trans (b10.mono B9.out.size))
    have HL10 := Lib.hid (HL9.out.kept (.of_below b10))
    have HT10 := Lib.hid (HT9.out.kept (.of_below b10))
    have HU10 := Lib.hid ht10
    obtain ⟨py, ly, cy, rfl⟩ := ht10.slice
    clear b10 B9 HL9 HT9 ht10
    go_wp2_with fail
    refine (tsameP _ _ f.texts _ _ w10 HT10.out HU10.out (by omega)).mono ?_
    rintro e w11 ⟨rfl, b11⟩
    have B11 := Lib.hid (B10.out.trans (b11.mono B10.out.size))
    have HL11 := Lib.hid (HL10.out.kept (.of_below b11))
    clear b11 B10 HL10 HT10 HU10
    go_wp2_with fail
    refine (dnumberP fn _ _ w11 (by omega) HL11.out).mono ?_
    rintro e w12 ⟨vz, rfl, hn12, b12⟩
    rw [HT2.out] at hn12
    have B12 := Lib.hid (B11.out.trans (b12.mono B11.out.size))
    have HL12 := Lib.hid (HL11.out.kept (.of_below b12))
    have HZ12 := Lib.hid hn12
    obtain ⟨pz, lz, cz, rfl⟩ := hn12.slice
    clear b12 B11 HL11 hn12
    go_wp2_with fail
    refine (rsameP fn fn _ _ _ _ w12 (by omega) HZ12.out HL12.out).mono ?_
    rintro e w13 ⟨rfl, b13⟩
    rw [Fo.same_refl]
    have B13 := Lib.hid (B12.out.trans (b13.mono B12.out.size))
    have HL13 := Lib.hid (HL12.out.kept (.of_below b13))
    clear b13 B12 HL12 HZ12
    go_wp2_with fail
    refine (ddeepP fn _ _ w13 (by omega) HL13.out).mono ?_
    rintro e w14 ⟨rfl, b14⟩
    rw [HTD.out]
    have B14 := Lib.hid (B13.out.trans (b14.mono B13.out.size))
    clear b14 B13 HL13
    go_wp2_with fail
    refine (ddeepP f _ _ w14 (by omega) (H1.out.kept (.of_below B14.out))).mono ?_
    rintro e w15 ⟨rfl, b15⟩
    have B15 := Lib.hid (B14.out.trans (b15.mono B14.out.size))
    clear b15 B14
    go_wp2_with fail
    go_ret
    exact ⟨by simp [go_sem], B15.out⟩
end Go.Proofs.Ytppcgcmhecagbaa
