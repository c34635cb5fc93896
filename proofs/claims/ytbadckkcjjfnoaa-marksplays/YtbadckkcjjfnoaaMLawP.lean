/-
  The walk of the law MarksPlays: true, and nothing old is changed. Any row of calls.
-/
import Derived.Test.YtbadckkcjjfnoaaMRJ
import Derived.Test.YtbadckkcjjfnoaaMRK
namespace Go.Proofs.Ytbadckkcjjfnoaa
open Go.RowKit

set_option maxHeartbeats 4000000 in
set_option maxRecDepth 100000 in
theorem marksPlays_walk (a : Option Addr) (n cap : Nat) (w : World) (h : OpsIn w (.slice a n cap) n) : Calls Try.prog 5 #[.slice a n cap] w (Yes w) := by
  have HI := Lib.hid h
  clear h
  go_enter Try.func5, Try.ntmps5
  go_wp2_with fail
  refine (known7_yes w).mono ?_
  rintro e w1 ⟨rfl, b1⟩
  have B1 := Lib.hid b1
  have hz1 := b1.size
  clear b1
  go_wp2_with fail
  refine (mkB_new w1).mono ?_
  rintro e w2 ⟨M, B, rfl, h2⟩
  have H2 := Lib.hid h2
  clear h2
  go_wp2_with fail
  refine (rnewP w2).mono ?_
  rintro e w3 ⟨rfl, hr3, b3⟩
  have HP := Lib.hid (Pair7.made H2.out hr3 b3)
  clear hr3 b3 H2
  generalize w2.heap.size = R at *
  go_wp2_with fail
  go_loopw [5] (fun iv wr => ∃ (i : Nat) (M' P : Nat → Prop) (S : List MK), i ≤ 60 ∧ i ≤ n ∧ iv = .int .i64 (i : Int) ∧ Pair7 w1 wr M' P B R S S ∧ S.length ≤ i ∧ Sign S) (fun iv _ => 60 - (intOf iv).toNat)
  case atStart => exact ⟨0, M, _, [], by omega, by omega, rfl, HP.out, Nat.le_refl _, fun y hy => by cases hy⟩
  case round =>
    obtain ⟨i, M', P, S, hi, hin, rfl, hq, hl, hsg⟩ := hrel
    have HQ := Lib.hid hq
    have HSG := Lib.hid hsg
    clear hq hsg HP
    by_cases hlt : i < n
    · by_cases h60 : i < 60
      · have HO := Lib.hid ((HI.out.below B1.out).below HQ.out.m.below)
        obtain ⟨p', cap', e', hn, hc⟩ := HO.out
        injection e' with e1 e2 e3
        subst e1 e3
        obtain ⟨g, o, rfl, hg, hz⟩ := hc i hlt
        obtain ⟨z0, x0, l0, u0⟩ := hz 0 (by omega)
        obtain ⟨z1, x1, l1, u1⟩ := hz 1 (by omega)
        obtain ⟨z2, x2, l2, u2⟩ := hz 2 (by omega)
        obtain ⟨z3, x3, l3, u3⟩ := hz 3 (by omega)
        rw [Nat.add_zero] at x0
        have k0 : (i : Int) < (n : Int) := by omega
        have k1 : (i : Int) < 60 := by omega
        have k2 : (0 : Int) ≤ (i : Int) := by omega
        have H0 := Lib.hid (And.intro l0 u0)
        have H1 := Lib.hid (And.intro l1 u1)
        have H2 := Lib.hid (And.intro l2 u2)
        have H3 := Lib.hid (And.intro l3 u3)
        clear hc hz HO e2 l0 u0 l1 u1 l2 u2 l3 u3
        go_upto_region 9 with fail
        refine plays_reg9 hlt x0 x1 x2 x3 ?_
        intro y27 y28 y29 y30 T w4 t0 t1 t2 t3 hT hTl b4
        have HP4 := Lib.hid (HQ.out.on b4)
        have HT0 := Lib.hid t0
        have HT1 := Lib.hid t1
        have HTM : Hid (¬ M' T ∧ T ≠ R) := Lib.hid ⟨fun k => by have := (HQ.out.m.inn T k).2; omega, fun k => by have := HQ.out.r.lt; omega⟩
        clear x0 x1 x2 x3 hg t0 t1 HQ hT b4
        go_upto_region 10 with fail
        refine plays_reg10 (i := i) hTl t2 t3 (fun W => name7 z2 W H2.out.1 H2.out.2) (fun W => attrs7 z3 W H3.out.1 H3.out.2) ?_
        intro x31 x32 x33 x34 x35 x36 x37 x38 X pa ca w5 c0 c1 c2 hX hXl ha b5
        have hp5 := HP4.out.attrs b5 ha
        have HX : Hid (PlaysX w1 w5 M' (NewP P w4 w5) B R T X S ⟨(i : Int), nm7 (Within z2 5), at7 (Within z3 7)⟩ z0 z1 pa ca) := Lib.hid
          ⟨hp5.1, (b5.cell (p := ⟨T, 0, none⟩) hTl).trans HT0.out, (b5.cell (p := ⟨T, 1, none⟩) hTl).trans HT1.out, c0, c1, c2, Nat.lt_of_lt_of_le hTl b5.size, hXl, HTM.out.1, fun k => by have := (HP4.out.m.inn X k).2; omega, HTM.out.2, fun k => by have := HP4.out.r.lt; omega, hp5.2.1, by omega, HSG.out, by show (0 : Int) ≤ (i : Int); omega, at7_fit _⟩
        clear hp5 c0 c1 c2 hX hXl ha b5 HP4 HT0 HT1 HTM t2 t3 hTl
        go_upto_region 11 with fail
        refine plays_reg11 HX.out.pair.r (by omega) HX.out.t1 H1.out.1 H1.out.2 ?_
        intro p y39 y40 y41 y42 y43 y44 y45 w6 b6
        have HX6 := Lib.hid (HX.out.on b6)
        have t60 := HX6.out.t0
        clear HX b6
        go_wp2_with fail
        refine (within7 z0 9 _ H0.out.1 H0.out.2 (by omega) (by omega)).mono ?_
        rintro e w7 ⟨rfl, rfl⟩
        generalize Within z0 9 = kd at *
        go_upto_block 2 with fail
        refine plays_blk (k := kd) HX6.out ?_
        intro b y49 y50 y51 y52 y53 y54 y55 y56 y57 y58 y59 y60 y61 y62 y63 y64 y65 y66 y67 y68 y69 y70 y71 y72 y73 y74 y75 y76 y77 y78 y79 y80 y81 y82 y83 y84 y85 y86 y87 y88 y89 y90 y91 y92 y93 y94 y95 y96 y97 y98 y99 y100 y101 y102 y103 y104 w8 ho
        obtain ⟨M8, P8, S8, hp8, hl8, hs8⟩ := ho
        have HP8 := Lib.hid hp8
        have HS8 := Lib.hid hs8
        clear hp8 hs8 HX6 t60
        go_upto_region 30 with fail
        refine plays_reg30 HP8.out (by omega) HS8.out ?_
        intro y105 y106 y107 y108 y109 y110 y111 y112 y113 y114 y115 y116 y117 y118 y119 y120 y121 y122 y123 y124 y125 y126 y127 y128 y129 y130 y131 y132 w9 b9
        have HP9 := Lib.hid (HP8.out.on b9)
        clear b9 HP8
        go_wp2_with fail
        exact ⟨⟨i + 1, M8, P8, S8, by omega, by omega, by go_num, HP9.out, by omega, HS8.out⟩, by simp [intOf]; omega⟩
      · have k0 : (i : Int) < (n : Int) := by omega
        have k1 : ¬ (i : Int) < 60 := by omega
        go_wp2_with fail
        go_ret
        exact ⟨rfl, B1.out.trans (HQ.out.m.below.mono B1.out.size)⟩
    · have k0 : ¬ (i : Int) < (n : Int) := by omega
      go_wp2_with fail
      go_ret
      exact ⟨rfl, B1.out.trans (HQ.out.m.below.mono B1.out.size)⟩
end Go.Proofs.Ytbadckkcjjfnoaa
