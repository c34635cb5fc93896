/-
  The walk of the law's own do: a call of both Docs, told alike.
-/
import Derived.Test.YtkoijkdhmfnlbaaDDo1
import Derived.Test.YtkoijkdhmfnlbaaDEq1
namespace Go.Proofs.Ytkoijkdhmfnlbaa
open Go.RowKit

set_option maxHeartbeats 4000000 in
set_option maxRecDepth 100000 in
theorem doP {w0 w : World} {Bd Br k : Nat} {S : List PN} {C : List Cl} (F : Fine S C k) (hk : k ≤ 1000) (h : Two (fun _ => False) w0 w Bd Br S C) (z0 z1 z2 z3 : Int) (s : List UInt8) (h0 : Int64 z0) (h1 : Int64 z1) (h3 : Int64 z3) (hs : s.length ≤ 50) :
    Calls Try.prog 8 #[.pointer (some ⟨Bd, 0, none⟩), .pointer (some ⟨Br, 0, none⟩), .agg #[.int .i64 z0, .int .i64 z1, .int .i64 z2, .int .i64 z3, .string ⟨s.toArray⟩]] w (fun e w' => e = .returned (.bool true) ∧ DoLeft w0 Bd Br k w') := by
  have HF := Lib.hid F
  have HT := Lib.hid h
  have H0 := Lib.hid h0
  have H1 := Lib.hid h1
  have H3 := Lib.hid h3
  have HS := Lib.hid hs
  clear h F h0 h1 h3 hs
  go_enter Try.func8, Try.ntmps8
  go_upto_region 1 with fail
  have hO : OpAt (w.alloc (.cells #[.int .i64 z0, .int .i64 z1, .int .i64 z2, .int .i64 z3, .string ⟨s.toArray⟩] 29)) w.heap.size z0 z1 z2 z3 s :=
    ⟨(World.cell?_alloc_mark w _ 29 (0, 0) 0).trans rfl, (World.cell?_alloc_mark w _ 29 (0, 0) 1).trans rfl, (World.cell?_alloc_mark w _ 29 (0, 0) 2).trans rfl, (World.cell?_alloc_mark w _ 29 (0, 0) 3).trans rfl, (World.cell?_alloc_mark w _ 29 (0, 0) 4).trans rfl, by simp⟩
  have hb : Below w.heap.size w (w.alloc (.cells #[.int .i64 z0, .int .i64 z1, .int .i64 z2, .int .i64 z3, .string ⟨s.toArray⟩] 29)) := (Below.refl _ w).alloc (Nat.le_refl _) _
  generalize w.alloc (.cells #[.int .i64 z0, .int .i64 z1, .int .i64 z2, .int .i64 z3, .string ⟨s.toArray⟩] 29) = w1 at *
  refine do_reg1 hO H3.out ?_
  intro nm y9 y10 y11 y12 y13 y14 w2 hb2
  have b2 := hb.trans (hb2.mono hb.size)
  have HO2 := Lib.hid (hO.on hb2)
  have HB2 := Lib.hid b2
  have c0 := (hO.on hb2).c0
  clear hO hb hb2 b2
  generalize hTT : w.heap.size = T at *
  have HTT := Lib.hid hTT
  clear hTT
  go_wp2_with fail
  refine (within6 z0 8 _ H0.out.1 H0.out.2 (by omega) (by omega)).mono ?_
  rintro e w3 ⟨rfl, rfl⟩
  have HT2 : Hid (Two (fun b => T ≤ b ∧ b < w2.heap.size) w0 w2 Bd Br S C) := Lib.hid (by rw [← HTT.out]; exact HT.out.aside (HTT.out.symm ▸ HB2.out))
  have hj := (within_lt z0 8 (by omega)).1
  generalize Within z0 8 = j at *
  clear c0
  rcases (by omega : j = 0 ∨ j = 1 ∨ j = 2 ∨ j = 3 ∨ j = 4 ∨ j = 5 ∨ j = 6 ∨ j = 7) with rfl | rfl | rfl | rfl | rfl | rfl | rfl | rfl
  · go_upto_region 4 with fail
    refine do_reg4 HO2.out ?_
    intro va y20 y21 y22 y23 w4 b4 ha
    have HO4 := Lib.hid (HO2.out.on b4)
    have HA4 := Lib.hid ha
    have HT4 : Hid (Two (fun b => T ≤ b ∧ b < w4.heap.size) w0 w4 Bd Br S C) := Lib.hid (by
      have hb2 : Below w.heap.size w w2 := HTT.out.symm ▸ HB2.out
      have := HT.out.aside (hb2.trans (b4.mono hb2.size))
      rw [HTT.out] at this
      exact this)
    clear b4 ha
    go_upto_region 5 with fail
    refine do_reg5 HO4.out H1.out HF.out hk HT4.out HA4.out ?_
    intro y24 y25 y26 y27 y28 y29 y30 y31 y32 y33 y34 y35 y36 y37 y38 y39 y40 w5 hl
    go_wp2_with fail
    go_ret
    exact ⟨rfl, hl⟩
  · go_upto_region 7 with fail
    refine do_reg7 HO2.out HS.out HF.out hk HT2.out ?_
    intro y43 y44 y45 y46 y47 y48 y49 y50 y51 w4 hl
    go_wp2_with fail
    go_ret
    exact ⟨rfl, hl⟩
  · go_upto_region 15 with fail
    refine do_reg15 HO2.out HF.out hk HT2.out ?_
    intro y98 y99 y100 y101 y102 y103 y104 y105 y106 y107 y108 y109 y110 y111 y112 y113 y114 w4 hl
    go_wp2_with fail
    go_ret
    exact ⟨rfl, hl⟩
  · go_upto_region 14 with fail
    refine do_reg14 HO2.out HS.out HF.out hk HT2.out ?_
    intro y81 y82 y83 y84 y85 y86 y87 y88 y89 y90 y91 y92 y93 y94 y95 y96 y97 w4 hl
    go_wp2_with fail
    go_ret
    exact ⟨rfl, hl⟩
  · go_upto_region 9 with fail
    refine do_reg9 HO2.out HF.out hk HT2.out ?_
    intro y54 y55 y56 y57 y58 y59 y60 y61 y62 w4 hl
    go_wp2_with fail
    go_ret
    exact ⟨rfl, hl⟩
  · go_upto_region 11 with fail
    refine do_reg11 HO2.out HF.out hk HT2.out ?_
    intro y65 y66 y67 y68 y69 y70 y71 y72 y73 y74 y75 y76 y77 w4 hl
    go_wp2_with fail
    go_ret
    exact ⟨rfl, hl⟩
  · go_upto_region 14 with fail
    refine do_reg14 HO2.out HS.out HF.out hk HT2.out ?_
    intro y81 y82 y83 y84 y85 y86 y87 y88 y89 y90 y91 y92 y93 y94 y95 y96 y97 w4 hl
    go_wp2_with fail
    go_ret
    exact ⟨rfl, hl⟩
  · go_upto_region 15 with fail
    refine do_reg15 HO2.out HF.out hk HT2.out ?_
    intro y98 y99 y100 y101 y102 y103 y104 y105 y106 y107 y108 y109 y110 y111 y112 y113 y114 w4 hl
    go_wp2_with fail
    go_ret
    exact ⟨rfl, hl⟩
end Go.Proofs.Ytkoijkdhmfnlbaa
