/-
  The walk of the law DomSounds: true, and nothing old is changed. Any nodes.
-/
import Derived.Test.YteikhlonccacbaaDPKnown
import Derived.Test.YteikhlonccacbaaDPSound2
import Derived.Test.YteikhlonccacbaaDPSame2
import Derived.Test.YteikhlonccacbaaDPDeep
import Derived.Test.YteikhlonccacbaaDSound
import Derived.Test.YteikhlonccacbaaDDeep
namespace Go.Proofs.Yteikhlonccacbaa
open Go.RowKit

set_option maxHeartbeats 1000000 in
set_option maxRecDepth 100000 in
theorem domSounds_walk (v1 : Value) (f1 : Fo) (v2 : Value) (f2 : Fo) (w : World) (h1 : NodesP (fun _ => True) w v1 f1) (hf1 : f1.fits) (hl1 : f1.len ≤ maxLen) (h2 : NodesP (fun _ => True) w v2 f2) (hf2 : f2.fits) (hl2 : f2.len ≤ maxLen) : Calls Try.prog 4 #[v1, v2] w (Yes w) := by
  obtain ⟨p1, l1, c1, rfl⟩ := h1.slice
  obtain ⟨p2, l2, c2, rfl⟩ := h2.slice
  have H1 := Lib.hid h1
  have H2 := Lib.hid h2
  have HF := Lib.hid (And.intro (And.intro hf1 hl1) (And.intro hf2 hl2))
  clear h1 h2 hf1 hf2 hl1 hl2
  go_enter Try.func4, Try.ntmps4
  go_wp2_with fail
  refine (known6_yes _).mono ?_
  rintro e w1 ⟨rfl, b1⟩
  have B1 := Lib.hid b1
  clear b1
  go_wp2_with fail
  refine (smallP f1 _ _ w1 HF.out.1.1 HF.out.1.2 (H1.out.kept (.of_below B1.out))).mono ?_
  rintro e w2 ⟨s1, rfl, b2, hs1⟩
  have B2 := Lib.hid (B1.out.trans (b2.mono B1.out.size))
  have HS1 := Lib.hid hs1
  clear b2 hs1 B1
  cases s1
  · go_wp2_with fail
    go_ret
    exact ⟨rfl, B2.out⟩
  · go_wp2_with fail
    refine (smallP f2 _ _ w2 HF.out.2.1 HF.out.2.2 (H2.out.kept (.of_below B2.out))).mono ?_
    rintro e w3 ⟨s2, rfl, b3, hs2⟩
    have B3 := Lib.hid (B2.out.trans (b3.mono B2.out.size))
    have HS2 := Lib.hid hs2
    clear b3 hs2 B2
    cases s2
    · go_wp2_with fail
      go_ret
      exact ⟨rfl, B3.out⟩
    · have hw1 := HS1.out trivial
      have hw2 := HS2.out rfl
      go_wp2_with fail
      refine (dsoundP f1 _ _ w3 (by omega) HF.out.1.1 (H1.out.kept (.of_below B3.out))).mono ?_
      rintro e w4 ⟨rfl, b4⟩
      have B4 := Lib.hid (B3.out.trans (b4.mono B3.out.size))
      clear b4 B3
      go_wp2_with fail
      refine (rsoundP f1 _ _ w4 (by omega) (H1.out.kept (.of_below B4.out))).mono ?_
      rintro e w5 ⟨rfl, b5⟩
      have B5 := Lib.hid (B4.out.trans (b5.mono B4.out.size))
      clear b5 B4
      generalize f1.sound false = S
      go_wp2_with fail
      refine (ddeepP f1 _ _ w5 (by omega) (H1.out.kept (.of_below B5.out))).mono ?_
      rintro e w6 ⟨rfl, b6⟩
      have B6 := Lib.hid (B5.out.trans (b6.mono B5.out.size))
      clear b6 B5
      go_wp2_with fail
      refine (rdeep_any f1 _ _ w6 (by omega) (H1.out.kept (.of_below B6.out))).mono ?_
      rintro e w7 ⟨rfl, b7⟩
      have B7 := Lib.hid (B6.out.trans (b7.mono B6.out.size))
      clear b7 B6
      generalize (f1.deep : Int) = D
      go_wp2_with fail
      refine (dsameP f1 f2 _ _ _ _ w7 (by omega) (H1.out.kept (.of_below B7.out)) (H2.out.kept (.of_below B7.out))).mono ?_
      rintro e w8 ⟨rfl, b8⟩
      have B8 := Lib.hid (B7.out.trans (b8.mono B7.out.size))
      clear b8 B7
      go_wp2_with fail
      refine (rsameP f1 f2 _ _ _ _ w8 (by omega) (H1.out.kept (.of_below B8.out)) (H2.out.kept (.of_below B8.out))).mono ?_
      rintro e w9 ⟨rfl, b9⟩
      have B9 := Lib.hid (B8.out.trans (b9.mono B8.out.size))
      clear b9 B8
      generalize f1.same f2 = T
      go_wp2_with fail
      refine (dsameP f1 f1 _ _ _ _ w9 (by omega) (H1.out.kept (.of_below B9.out)) (H1.out.kept (.of_below B9.out))).mono ?_
      rintro e w10 ⟨rfl, b10⟩
      rw [Fo.same_refl]
      have B10 := Lib.hid (B9.out.trans (b10.mono B9.out.size))
      clear b10 B9
      go_wp2_with fail
      go_ret
      exact ⟨rfl, B10.out⟩

end Go.Proofs.Yteikhlonccacbaa
