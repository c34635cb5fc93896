/-
  The walk of SiteKnown. Any number.
-/
import Derived.Test.YtjlkdhbgomamjaaSWG
import Derived.LoopN
namespace Go.Proofs.Ytjlkdhbgomamjaa
open Go.RowKit Go.Maps

def skRow0 : Obj := .cells #[.string ⟨#[112]⟩, .string ⟨#[100, 105, 118]⟩] 9
def skRow1 : Obj := .cells #[.string ⟨#[112]⟩, .string ⟨#[98, 117, 116, 116, 111, 110]⟩] 9
def skRow2 : Obj := .cells #[.string ⟨#[116, 97, 98, 108, 101]⟩, .string ⟨#[116, 114]⟩] 9
def skRow3 : Obj := .cells #[.string ⟨#[116, 97, 98, 108, 101]⟩, .string ⟨#[116, 101, 109, 112, 108, 97, 116, 101]⟩, .string ⟨#[116, 114]⟩] 9
def skRow4 : Obj := .cells #[.string ⟨#[116, 114]⟩] 9
def skRow5 : Obj := .cells #[.string ⟨#[108, 105]⟩, .string ⟨#[117, 108]⟩] 9
def skTab (w : World) : Obj := .cells #[.slice (some ⟨w.heap.size, 0, none⟩) 2 2, .slice (some ⟨w.heap.size + 1, 0, none⟩) 2 2, .slice (some ⟨w.heap.size + 1 + 1, 0, none⟩) 2 2, .slice (some ⟨w.heap.size + 1 + 1 + 1, 0, none⟩) 3 3, .slice (some ⟨w.heap.size + 1 + 1 + 1 + 1, 0, none⟩) 1 1, .slice (some ⟨w.heap.size + 1 + 1 + 1 + 1 + 1, 0, none⟩) 2 2] 39
def skObjs (w : World) : List Obj := [skRow0, skRow1, skRow2, skRow3, skRow4, skRow5, skTab w]
def skUps : List Obj := [.cells #[.int .i64 2, .int .i64 2, .int .i64 0, .int .i64 2, .int .i64 0, .int .i64 2] 3 , .cells #[.int .i64 (-1), .int .i64 (-1), .int .i64 1, .int .i64 (-1), .int .i64 (-1), .int .i64 (-1)] 3 ]
def sk0S0 : List PN := k8S0
def sk0R0 : List EL := [elRoot]
def sk0R1 : List EL := [elRoot, ⟨1, 1, [112]⟩]
def sk0R2 : List EL := [elRoot, ⟨1, 1, [112]⟩, ⟨2, 1, [100, 105, 118]⟩]
def sk0S1 : List PN := addS false sk0S0 sk0R0 1 [112] []
def sk0S2 : List PN := addS false sk0S1 sk0R1 1 [100, 105, 118] []
def sk0S : Nat → List PN
  | 0 => sk0S0
  | 1 => sk0S1
  | _ => sk0S2
def sk0R : Nat → List EL
  | 0 => sk0R0
  | 1 => sk0R1
  | _ => sk0R2
set_option maxHeartbeats 4000000 in
set_option maxRecDepth 100000 in
theorem sk_0 (k : Int) (w : World) (h0 : -9223372036854775808 ≤ k) (h1 : k ≤ 9223372036854775807) (hk : Within k 6 = 0) : Calls Try.prog 7 #[.int .i64 k] w (Yes w) := by
  have HKN := Lib.hid (known8_yes w)
  have HN : Hid (∀ W, Calls Try.prog 13 #[] W (fun e w' => ∃ B, e = .returned (.pointer (some ⟨B, 0, none⟩)) ∧ SiteB W w' B sk0S0 [] sk0R0 false 1)) := Lib.hid fun W => bNew8 W
  have HWI : Hid (∀ W, Calls Try.prog 20 #[.int .i64 k, .int .i64 6] W (Gives (.int .i64 0) W)) := Lib.hid fun W => by
    have := within8 k 6 W h0 h1 (by decide) (by decide)
    rw [hk] at this
    exact this
  have HA0 : Hid (∀ W0 W M B, SiteK W0 W M B sk0S0 [] sk0R0 false 1 → Calls Try.prog 17 #[.pointer (some ⟨B, 0, none⟩), .int .i64 1, .string ⟨#[112]⟩, .slice none 0 0] W (fun e w' => e = .returned (.int .i64 1) ∧ StepK W0 W M B sk0S1 [] sk0R1 false 2 w')) := Lib.hid fun W0 W M B h => kAdd h (fun _ => False) 1 [112] [] _ (AttrsP.nil _ _ _ _) (by decide) (by decide) (by decide) (by decide) (by decide +kernel) (by decide) 9 (by decide +kernel)
  have HA1 : Hid (∀ W0 W M B, SiteK W0 W M B sk0S1 [] sk0R1 false 2 → Calls Try.prog 17 #[.pointer (some ⟨B, 0, none⟩), .int .i64 1, .string ⟨#[100, 105, 118]⟩, .slice none 0 0] W (fun e w' => e = .returned (.int .i64 2) ∧ StepK W0 W M B sk0S2 [] sk0R2 false 3 w')) := Lib.hid fun W0 W M B h => kAdd h (fun _ => False) 1 [100, 105, 118] [] _ (AttrsP.nil _ _ _ _) (by decide) (by decide) (by decide) (by decide) (by decide +kernel) (by decide) 9 (by decide +kernel)
  have HF : Hid (∀ W0 W M B, SiteK W0 W M B sk0S2 [] sk0R2 false 3 → Calls Try.prog 24 #[.pointer (some ⟨B, 0, none⟩), .bool true] W (fun e w' => e = .returned (.tuple #[]) ∧ StepK W0 W M B sk0S2 [] sk0R2 true 3 w')) := Lib.hid fun W0 W M B h => kFoster h true
  have HT : Hid (∀ W0 W B, SiteB W0 W B sk0S2 [] sk0R2 true 3 → Calls Try.prog 45 #[.pointer (some ⟨B, 0, none⟩)] W (fun e w' => e = .returned (.int .i64 2) ∧ SiteB W0 w' B sk0S2 [] sk0R2 true 3 ∧ Below W.heap.size W w')) := Lib.hid fun W0 W B h => bTop h (by decide) (by decide)
  have HS : Hid (∀ W0 W B, SiteB W0 W B sk0S2 [] sk0R2 true 3 → Calls Try.prog 46 #[.pointer (some ⟨B, 0, none⟩), .int .i64 2] W (fun e w' => e = .returned (.tuple #[.int .i64 2, .int .i64 (-1)]) ∧ SiteB W0 w' B sk0S2 [] sk0R2 true 3 ∧ Below W.heap.size W w')) := Lib.hid fun W0 W B h => by
    have := bSpot h (by decide) (by decide)
    rw [show spotS true (elNamed sk0R2) sk0S2 sk0R2 = (2, (-1)) by decide +kernel] at this
    exact this
  have HH0 : Hid (∀ W0 W B v, SiteB W0 W B sk0S2 [] sk0R2 true 3 → StrsAt W v [[112]] → Calls Try.prog 21 #[.pointer (some ⟨B, 0, none⟩), .int .i64 3, v] W (fun e w' => e = .returned (.bool true) ∧ SiteB W0 w' B sk0S2 [] sk0R2 true 3 ∧ Below W.heap.size W w')) := Lib.hid fun W0 W B v h hv => by
    have := bHas h 3 v [[112]] hv (by decide) (by decide) (by decide) (by decide)
    rw [show hasE sk0R2 3 [[112]] = true by decide +kernel] at this
    exact this
  have HH1 : Hid (∀ W0 W B v, SiteB W0 W B sk0S2 [] sk0R2 true 3 → StrsAt W v [[112]] → Calls Try.prog 21 #[.pointer (some ⟨B, 0, none⟩), .int .i64 3, v] W (fun e w' => e = .returned (.bool true) ∧ SiteB W0 w' B sk0S2 [] sk0R2 true 3 ∧ Below W.heap.size W w')) := Lib.hid fun W0 W B v h hv => by
    have := bHas h 3 v [[112]] hv (by decide) (by decide) (by decide) (by decide)
    rw [show hasE sk0R2 3 [[112]] = true by decide +kernel] at this
    exact this
  have HH2 : Hid (∀ W0 W B v, SiteB W0 W B sk0S2 [] sk0R2 true 3 → StrsAt W v [[116, 97, 98, 108, 101]] → Calls Try.prog 21 #[.pointer (some ⟨B, 0, none⟩), .int .i64 4, v] W (fun e w' => e = .returned (.bool false) ∧ SiteB W0 w' B sk0S2 [] sk0R2 true 3 ∧ Below W.heap.size W w')) := Lib.hid fun W0 W B v h hv => by
    have := bHas h 4 v [[116, 97, 98, 108, 101]] hv (by decide) (by decide) (by decide) (by decide)
    rw [show hasE sk0R2 4 [[116, 97, 98, 108, 101]] = false by decide +kernel] at this
    exact this
  have HH3 : Hid (∀ W0 W B v, SiteB W0 W B sk0S2 [] sk0R2 true 3 → StrsAt W v [[116, 97, 98, 108, 101]] → Calls Try.prog 21 #[.pointer (some ⟨B, 0, none⟩), .int .i64 4, v] W (fun e w' => e = .returned (.bool false) ∧ SiteB W0 w' B sk0S2 [] sk0R2 true 3 ∧ Below W.heap.size W w')) := Lib.hid fun W0 W B v h hv => by
    have := bHas h 4 v [[116, 97, 98, 108, 101]] hv (by decide) (by decide) (by decide) (by decide)
    rw [show hasE sk0R2 4 [[116, 97, 98, 108, 101]] = false by decide +kernel] at this
    exact this
  have HH4 : Hid (∀ W0 W B v, SiteB W0 W B sk0S2 [] sk0R2 true 3 → StrsAt W v [[116, 114]] → Calls Try.prog 21 #[.pointer (some ⟨B, 0, none⟩), .int .i64 1, v] W (fun e w' => e = .returned (.bool false) ∧ SiteB W0 w' B sk0S2 [] sk0R2 true 3 ∧ Below W.heap.size W w')) := Lib.hid fun W0 W B v h hv => by
    have := bHas h 1 v [[116, 114]] hv (by decide) (by decide) (by decide) (by decide)
    rw [show hasE sk0R2 1 [[116, 114]] = false by decide +kernel] at this
    exact this
  have HH5 : Hid (∀ W0 W B v, SiteB W0 W B sk0S2 [] sk0R2 true 3 → StrsAt W v [[108, 105]] → Calls Try.prog 21 #[.pointer (some ⟨B, 0, none⟩), .int .i64 2, v] W (fun e w' => e = .returned (.bool false) ∧ SiteB W0 w' B sk0S2 [] sk0R2 true 3 ∧ Below W.heap.size W w')) := Lib.hid fun W0 W B v h hv => by
    have := bHas h 2 v [[108, 105]] hv (by decide) (by decide) (by decide) (by decide)
    rw [show hasE sk0R2 2 [[108, 105]] = false by decide +kernel] at this
    exact this
  clear h0 h1 hk
  go_enter Try.func7, Try.ntmps7
  go_wp2_with fail
  refine HKN.out.mono ?_
  rintro e w1 ⟨rfl, hb1⟩
  have HB1 := Lib.hid hb1
  clear hb1
  go_wp2_with fail
  refine (HN.out w1).mono ?_
  rintro e w2 ⟨B, rfl, hs2⟩
  obtain ⟨D, MD, hdoc, -, -⟩ := bDoc hs2
  have HD2 := Lib.hid hdoc
  have HS2 := Lib.hid hs2.k
  clear hs2 hdoc
  go_wp2_with fail
  refine HD2.out.mono ?_
  rintro e w2' ⟨rfl, rfl⟩
  go_wp2_with fail
  refine (HWI.out _).mono ?_
  rintro e w3 ⟨rfl, rfl⟩
  go_wp2_with fail
  change Code.wp Try.prog _ _ _ (allocs w2 (skObjs w2))
  have HBA : Hid (Below w2.heap.size w2 (allocs w2 (skObjs w2))) := Lib.hid (allocs_below w2 _)
  have HS3 := Lib.hid (HS2.out.on HBA.out)
  have HBL : Hid (Bes (fun b => w1.heap.size ≤ b ∧ b < w2.heap.size) (allocs w2 (skObjs w2)) (w2.heap.size + 1 + 1 + 1 + 1 + 1 + 1) (skTab w2)) := Lib.hid (Bes.made (fun _ k => k.2) 6 _ rfl)
  have HBN : Hid (Bes (fun b => w1.heap.size ≤ b ∧ b < w2.heap.size) (allocs w2 (skObjs w2)) (w2.heap.size) (skRow0)) := Lib.hid (Bes.made (fun _ k => k.2) 0 _ rfl)
  unfold skTab at HBL
  unfold skRow0 at HBN
  generalize allocs w2 (skObjs w2) = w4 at *
  have HB4 : Hid (Below w.heap.size w w4) := Lib.hid (HB1.out.trans (HS3.out.below.mono HB1.out.size))
  clear HBA HS2
  go_loopw [6] (fun v wr => ∃ (j : Nat) (M : Nat → Prop), j ≤ 2 ∧ v = .int .i64 (j : Int) ∧ SiteK w1 wr M B (sk0S j) [] (sk0R j) false (1 + j) ∧ Bes M wr (w2.heap.size + 1 + 1 + 1 + 1 + 1 + 1) (skTab w2) ∧ Bes M wr (w2.heap.size) skRow0) (fun v _ => 3 - (intOf v).toNat)
  case atStart => exact ⟨0, _, Nat.zero_le _, rfl, HS3.out, HBL.out, HBN.out⟩
  case round =>
    obtain ⟨j, M, hj, rfl, hs, hl, hn⟩ := hrel
    clear HBL HBN HS3 HB4
    have HSJ := Lib.hid hs
    have HBL := Lib.hid hl
    have HBN := Lib.hid hn
    unfold skTab at HBL
    unfold skRow0 at HBN
    have l4 := HBL.out.cell 0
    have s4 := heap_lt HBL.out.2
    have n4 := heap_lt HBN.out.2
    have m40 := HBN.out.cell 0
    have m41 := HBN.out.cell 1
    simp at l4 m40 m41
    clear hs
    obtain rfl | rfl | rfl : j = 0 ∨ j = 1 ∨ j = 2 := by omega
    · have HC := Lib.hid (HA0.out w1 wr M B HSJ.out)
      clear hj
      go_wp2_with fail
      refine HC.out.mono ?_
      rintro e w5 ⟨rfl, M5, k5, ks5, kt5⟩
      have HK := Lib.hid k5
      have HL5 := Lib.hid (hl.step ks5 kt5)
      have HN5 := Lib.hid (hn.step ks5 kt5)
      clear k5 ks5 kt5 hl hn
      go_wp2_with fail
      exact ⟨⟨1, M5, by omega, rfl, HK.out, HL5.out, HN5.out⟩, by simp [intOf]⟩
    · have HC := Lib.hid (HA1.out w1 wr M B HSJ.out)
      clear hj
      go_wp2_with fail
      refine HC.out.mono ?_
      rintro e w5 ⟨rfl, M5, k5, ks5, kt5⟩
      have HK := Lib.hid k5
      have HL5 := Lib.hid (hl.step ks5 kt5)
      have HN5 := Lib.hid (hn.step ks5 kt5)
      clear k5 ks5 kt5 hl hn
      go_wp2_with fail
      exact ⟨⟨2, M5, by omega, rfl, HK.out, HL5.out, HN5.out⟩, by simp [intOf]⟩
    · have HKN2 := Lib.hid (HF.out w1 wr M B HSJ.out)
      clear hj hl hn
      go_wp2_with fail
      refine HKN2.out.mono ?_
      rintro e w20 ⟨rfl, M20, k20, -, -⟩
      have HK20 := Lib.hid k20.b
      clear k20
      go_wp2_with fail
      refine (HT.out _ _ _ HK20.out).mono ?_
      rintro e w21 ⟨rfl, k21, -⟩
      have HK21 := Lib.hid k21
      clear k21 HK20
      go_wp2_with fail
      refine (HS.out _ _ _ HK21.out).mono ?_
      rintro e w22 ⟨rfl, k22, -⟩
      obtain ⟨w23, hw23⟩ : ∃ w23, w23 = (w22.alloc (.cells #[.int .i64 2, .int .i64 2, .int .i64 0, .int .i64 2, .int .i64 0, .int .i64 2] 3)).alloc (.cells #[.int .i64 (-1), .int .i64 (-1), .int .i64 1, .int .i64 (-1), .int .i64 (-1), .int .i64 (-1)] 3) := ⟨_, rfl⟩
      have hwa : w23 = allocs w22 skUps := hw23
      have HBT : Hid (Below w22.heap.size w22 w23) := Lib.hid (by rw [hwa]; exact allocs_below w22 _)
      have HK22 := Lib.hid (k22.on HBT.out)
      have HU : Hid (w23.cell? ⟨w22.heap.size, 0, none⟩ = some (.int .i64 2) ∧ w23.cell? ⟨w22.heap.size + 1, 0, none⟩ = some (.int .i64 (-1)) ∧ w22.heap.size + 1 < w23.heap.size) := Lib.hid (by rw [hwa]; exact ⟨blk_cell (allocs_heap w22 skUps 0 _ rfl) 0, blk_cell (allocs_heap w22 skUps 1 _ rfl) 0, by rw [allocs_size]; simp [skUps]⟩)
      have HW23 := Lib.hid hw23
      have HV0 : Hid (StrsAt (w23.alloc (.cells #[.string ⟨#[112]⟩] 9)) (.slice (some ⟨w22.heap.size + 1 + 1, 0, none⟩) 1 1) [[112]]) := Lib.hid (by
        have hz : w23.heap.size = w22.heap.size + 1 + 1 := by rw [hwa, allocs_size]; rfl
        rw [← hz]
        exact StrsAt.made w23 [[112]] _ _ 1 1 rfl rfl)
      clear hwa hw23
      clear k22 HK21
      go_wp2_with fail
      rw [← HW23.out]
      clear HW23 HBT
      refine (HH0.out _ (w23.alloc (.cells #[.string ⟨#[112]⟩] 9)) _ _ (HK22.out.on ((Below.refl _ _).alloc (Nat.le_refl _) _)) (HV0.out)).mono ?_
      rintro e w30 ⟨rfl, k30, b30⟩
      have HK30 := Lib.hid k30
      have HBB0 : Hid (Below w23.heap.size w23 w30) := Lib.hid (((Below.refl _ _).alloc (Nat.le_refl _) _).trans (b30.mono (by simp)))
      clear k30 b30
      go_wp2_with fail
      refine (HH1.out _ (w30.alloc (.cells #[.string ⟨#[112]⟩] 9)) _ _ (HK30.out.on ((Below.refl _ _).alloc (Nat.le_refl _) _)) (StrsAt.made w30 [[112]] _ _ 1 1 rfl rfl)).mono ?_
      rintro e w31 ⟨rfl, k31, b31⟩
      have HK31 := Lib.hid k31
      have HBB1 : Hid (Below w23.heap.size w23 w31) := Lib.hid ((HBB0.out.alloc HBB0.out.size _).trans (b31.mono (by have := HBB0.out.size; simp; omega)))
      clear k31 b31
      go_wp2_with fail
      refine (HH2.out _ (w31.alloc (.cells #[.string ⟨#[116, 97, 98, 108, 101]⟩] 9)) _ _ (HK31.out.on ((Below.refl _ _).alloc (Nat.le_refl _) _)) (StrsAt.made w31 [[116, 97, 98, 108, 101]] _ _ 1 1 rfl rfl)).mono ?_
      rintro e w32 ⟨rfl, k32, b32⟩
      have HK32 := Lib.hid k32
      have HBB2 : Hid (Below w23.heap.size w23 w32) := Lib.hid ((HBB1.out.alloc HBB1.out.size _).trans (b32.mono (by have := HBB1.out.size; simp; omega)))
      clear k32 b32
      go_wp2_with fail
      refine (HH3.out _ (w32.alloc (.cells #[.string ⟨#[116, 97, 98, 108, 101]⟩] 9)) _ _ (HK32.out.on ((Below.refl _ _).alloc (Nat.le_refl _) _)) (StrsAt.made w32 [[116, 97, 98, 108, 101]] _ _ 1 1 rfl rfl)).mono ?_
      rintro e w33 ⟨rfl, k33, b33⟩
      have HK33 := Lib.hid k33
      have HBB3 : Hid (Below w23.heap.size w23 w33) := Lib.hid ((HBB2.out.alloc HBB2.out.size _).trans (b33.mono (by have := HBB2.out.size; simp; omega)))
      clear k33 b33
      go_wp2_with fail
      refine (HH4.out _ (w33.alloc (.cells #[.string ⟨#[116, 114]⟩] 9)) _ _ (HK33.out.on ((Below.refl _ _).alloc (Nat.le_refl _) _)) (StrsAt.made w33 [[116, 114]] _ _ 1 1 rfl rfl)).mono ?_
      rintro e w34 ⟨rfl, k34, b34⟩
      have HK34 := Lib.hid k34
      have HBB4 : Hid (Below w23.heap.size w23 w34) := Lib.hid ((HBB3.out.alloc HBB3.out.size _).trans (b34.mono (by have := HBB3.out.size; simp; omega)))
      clear k34 b34
      go_wp2_with fail
      refine (HH5.out _ (w34.alloc (.cells #[.string ⟨#[108, 105]⟩] 9)) _ _ (HK34.out.on ((Below.refl _ _).alloc (Nat.le_refl _) _)) (StrsAt.made w34 [[108, 105]] _ _ 1 1 rfl rfl)).mono ?_
      rintro e w35 ⟨rfl, k35, b35⟩
      have HK35 := Lib.hid k35
      have HBB5 : Hid (Below w23.heap.size w23 w35) := Lib.hid ((HBB4.out.alloc HBB4.out.size _).trans (b35.mono (by have := HBB4.out.size; simp; omega)))
      clear k35 b35
      have u1 := (HBB5.out.cell (p := ⟨w22.heap.size, 0, none⟩) (by have := HU.out.2.2; show w22.heap.size < _; omega)).trans HU.out.1
      have u2 := (HBB5.out.cell (p := ⟨w22.heap.size + 1, 0, none⟩) HU.out.2.2).trans HU.out.2.1
      have u3 : w22.heap.size + 1 < w35.heap.size := Nat.lt_of_lt_of_le HU.out.2.2 HBB5.out.size
      have u4 : w22.heap.size < w35.heap.size := by omega
      have HEND : Hid (Below w.heap.size w w35) := Lib.hid (HB1.out.trans (HK35.out.below.mono HB1.out.size))
      go_wp2_with fail
      go_ret
      exact ⟨rfl, HEND.out.alloc HEND.out.size _⟩
def sk1S0 : List PN := k8S0
def sk1R0 : List EL := [elRoot]
def sk1R1 : List EL := [elRoot, ⟨1, 1, [112]⟩]
def sk1R2 : List EL := [elRoot, ⟨1, 1, [112]⟩, ⟨2, 1, [98, 117, 116, 116, 111, 110]⟩]
def sk1S1 : List PN := addS false sk1S0 sk1R0 1 [112] []
def sk1S2 : List PN := addS false sk1S1 sk1R1 1 [98, 117, 116, 116, 111, 110] []
def sk1S : Nat → List PN
  | 0 => sk1S0
  | 1 => sk1S1
  | _ => sk1S2
def sk1R : Nat → List EL
  | 0 => sk1R0
  | 1 => sk1R1
  | _ => sk1R2
set_option maxHeartbeats 4000000 in
set_option maxRecDepth 100000 in
theorem sk_1 (k : Int) (w : World) (h0 : -9223372036854775808 ≤ k) (h1 : k ≤ 9223372036854775807) (hk : Within k 6 = 1) : Calls Try.prog 7 #[.int .i64 k] w (Yes w) := by
  have HKN := Lib.hid (known8_yes w)
  have HN : Hid (∀ W, Calls Try.prog 13 #[] W (fun e w' => ∃ B, e = .returned (.pointer (some ⟨B, 0, none⟩)) ∧ SiteB W w' B sk1S0 [] sk1R0 false 1)) := Lib.hid fun W => bNew8 W
  have HWI : Hid (∀ W, Calls Try.prog 20 #[.int .i64 k, .int .i64 6] W (Gives (.int .i64 1) W)) := Lib.hid fun W => by
    have := within8 k 6 W h0 h1 (by decide) (by decide)
    rw [hk] at this
    exact this
  have HA0 : Hid (∀ W0 W M B, SiteK W0 W M B sk1S0 [] sk1R0 false 1 → Calls Try.prog 17 #[.pointer (some ⟨B, 0, none⟩), .int .i64 1, .string ⟨#[112]⟩, .slice none 0 0] W (fun e w' => e = .returned (.int .i64 1) ∧ StepK W0 W M B sk1S1 [] sk1R1 false 2 w')) := Lib.hid fun W0 W M B h => kAdd h (fun _ => False) 1 [112] [] _ (AttrsP.nil _ _ _ _) (by decide) (by decide) (by decide) (by decide) (by decide +kernel) (by decide) 9 (by decide +kernel)
  have HA1 : Hid (∀ W0 W M B, SiteK W0 W M B sk1S1 [] sk1R1 false 2 → Calls Try.prog 17 #[.pointer (some ⟨B, 0, none⟩), .int .i64 1, .string ⟨#[98, 117, 116, 116, 111, 110]⟩, .slice none 0 0] W (fun e w' => e = .returned (.int .i64 2) ∧ StepK W0 W M B sk1S2 [] sk1R2 false 3 w')) := Lib.hid fun W0 W M B h => kAdd h (fun _ => False) 1 [98, 117, 116, 116, 111, 110] [] _ (AttrsP.nil _ _ _ _) (by decide) (by decide) (by decide) (by decide) (by decide +kernel) (by decide) 9 (by decide +kernel)
  have HF : Hid (∀ W0 W M B, SiteK W0 W M B sk1S2 [] sk1R2 false 3 → Calls Try.prog 24 #[.pointer (some ⟨B, 0, none⟩), .bool true] W (fun e w' => e = .returned (.tuple #[]) ∧ StepK W0 W M B sk1S2 [] sk1R2 true 3 w')) := Lib.hid fun W0 W M B h => kFoster h true
  have HT : Hid (∀ W0 W B, SiteB W0 W B sk1S2 [] sk1R2 true 3 → Calls Try.prog 45 #[.pointer (some ⟨B, 0, none⟩)] W (fun e w' => e = .returned (.int .i64 2) ∧ SiteB W0 w' B sk1S2 [] sk1R2 true 3 ∧ Below W.heap.size W w')) := Lib.hid fun W0 W B h => bTop h (by decide) (by decide)
  have HS : Hid (∀ W0 W B, SiteB W0 W B sk1S2 [] sk1R2 true 3 → Calls Try.prog 46 #[.pointer (some ⟨B, 0, none⟩), .int .i64 2] W (fun e w' => e = .returned (.tuple #[.int .i64 2, .int .i64 (-1)]) ∧ SiteB W0 w' B sk1S2 [] sk1R2 true 3 ∧ Below W.heap.size W w')) := Lib.hid fun W0 W B h => by
    have := bSpot h (by decide) (by decide)
    rw [show spotS true (elNamed sk1R2) sk1S2 sk1R2 = (2, (-1)) by decide +kernel] at this
    exact this
  have HH0 : Hid (∀ W0 W B v, SiteB W0 W B sk1S2 [] sk1R2 true 3 → StrsAt W v [[112]] → Calls Try.prog 21 #[.pointer (some ⟨B, 0, none⟩), .int .i64 3, v] W (fun e w' => e = .returned (.bool false) ∧ SiteB W0 w' B sk1S2 [] sk1R2 true 3 ∧ Below W.heap.size W w')) := Lib.hid fun W0 W B v h hv => by
    have := bHas h 3 v [[112]] hv (by decide) (by decide) (by decide) (by decide)
    rw [show hasE sk1R2 3 [[112]] = false by decide +kernel] at this
    exact this
  have HH1 : Hid (∀ W0 W B v, SiteB W0 W B sk1S2 [] sk1R2 true 3 → StrsAt W v [[112]] → Calls Try.prog 21 #[.pointer (some ⟨B, 0, none⟩), .int .i64 3, v] W (fun e w' => e = .returned (.bool false) ∧ SiteB W0 w' B sk1S2 [] sk1R2 true 3 ∧ Below W.heap.size W w')) := Lib.hid fun W0 W B v h hv => by
    have := bHas h 3 v [[112]] hv (by decide) (by decide) (by decide) (by decide)
    rw [show hasE sk1R2 3 [[112]] = false by decide +kernel] at this
    exact this
  have HH2 : Hid (∀ W0 W B v, SiteB W0 W B sk1S2 [] sk1R2 true 3 → StrsAt W v [[116, 97, 98, 108, 101]] → Calls Try.prog 21 #[.pointer (some ⟨B, 0, none⟩), .int .i64 4, v] W (fun e w' => e = .returned (.bool false) ∧ SiteB W0 w' B sk1S2 [] sk1R2 true 3 ∧ Below W.heap.size W w')) := Lib.hid fun W0 W B v h hv => by
    have := bHas h 4 v [[116, 97, 98, 108, 101]] hv (by decide) (by decide) (by decide) (by decide)
    rw [show hasE sk1R2 4 [[116, 97, 98, 108, 101]] = false by decide +kernel] at this
    exact this
  have HH3 : Hid (∀ W0 W B v, SiteB W0 W B sk1S2 [] sk1R2 true 3 → StrsAt W v [[116, 97, 98, 108, 101]] → Calls Try.prog 21 #[.pointer (some ⟨B, 0, none⟩), .int .i64 4, v] W (fun e w' => e = .returned (.bool false) ∧ SiteB W0 w' B sk1S2 [] sk1R2 true 3 ∧ Below W.heap.size W w')) := Lib.hid fun W0 W B v h hv => by
    have := bHas h 4 v [[116, 97, 98, 108, 101]] hv (by decide) (by decide) (by decide) (by decide)
    rw [show hasE sk1R2 4 [[116, 97, 98, 108, 101]] = false by decide +kernel] at this
    exact this
  have HH4 : Hid (∀ W0 W B v, SiteB W0 W B sk1S2 [] sk1R2 true 3 → StrsAt W v [[116, 114]] → Calls Try.prog 21 #[.pointer (some ⟨B, 0, none⟩), .int .i64 1, v] W (fun e w' => e = .returned (.bool false) ∧ SiteB W0 w' B sk1S2 [] sk1R2 true 3 ∧ Below W.heap.size W w')) := Lib.hid fun W0 W B v h hv => by
    have := bHas h 1 v [[116, 114]] hv (by decide) (by decide) (by decide) (by decide)
    rw [show hasE sk1R2 1 [[116, 114]] = false by decide +kernel] at this
    exact this
  have HH5 : Hid (∀ W0 W B v, SiteB W0 W B sk1S2 [] sk1R2 true 3 → StrsAt W v [[108, 105]] → Calls Try.prog 21 #[.pointer (some ⟨B, 0, none⟩), .int .i64 2, v] W (fun e w' => e = .returned (.bool false) ∧ SiteB W0 w' B sk1S2 [] sk1R2 true 3 ∧ Below W.heap.size W w')) := Lib.hid fun W0 W B v h hv => by
    have := bHas h 2 v [[108, 105]] hv (by decide) (by decide) (by decide) (by decide)
    rw [show hasE sk1R2 2 [[108, 105]] = false by decide +kernel] at this
    exact this
  clear h0 h1 hk
  go_enter Try.func7, Try.ntmps7
  go_wp2_with fail
  refine HKN.out.mono ?_
  rintro e w1 ⟨rfl, hb1⟩
  have HB1 := Lib.hid hb1
  clear hb1
  go_wp2_with fail
  refine (HN.out w1).mono ?_
  rintro e w2 ⟨B, rfl, hs2⟩
  obtain ⟨D, MD, hdoc, -, -⟩ := bDoc hs2
  have HD2 := Lib.hid hdoc
  have HS2 := Lib.hid hs2.k
  clear hs2 hdoc
  go_wp2_with fail
  refine HD2.out.mono ?_
  rintro e w2' ⟨rfl, rfl⟩
  go_wp2_with fail
  refine (HWI.out _).mono ?_
  rintro e w3 ⟨rfl, rfl⟩
  go_wp2_with fail
  change Code.wp Try.prog _ _ _ (allocs w2 (skObjs w2))
  have HBA : Hid (Below w2.heap.size w2 (allocs w2 (skObjs w2))) := Lib.hid (allocs_below w2 _)
  have HS3 := Lib.hid (HS2.out.on HBA.out)
  have HBL : Hid (Bes (fun b => w1.heap.size ≤ b ∧ b < w2.heap.size) (allocs w2 (skObjs w2)) (w2.heap.size + 1 + 1 + 1 + 1 + 1 + 1) (skTab w2)) := Lib.hid (Bes.made (fun _ k => k.2) 6 _ rfl)
  have HBN : Hid (Bes (fun b => w1.heap.size ≤ b ∧ b < w2.heap.size) (allocs w2 (skObjs w2)) (w2.heap.size + 1) (skRow1)) := Lib.hid (Bes.made (fun _ k => k.2) 1 _ rfl)
  unfold skTab at HBL
  unfold skRow1 at HBN
  generalize allocs w2 (skObjs w2) = w4 at *
  have HB4 : Hid (Below w.heap.size w w4) := Lib.hid (HB1.out.trans (HS3.out.below.mono HB1.out.size))
  clear HBA HS2
  go_loopw [6] (fun v wr => ∃ (j : Nat) (M : Nat → Prop), j ≤ 2 ∧ v = .int .i64 (j : Int) ∧ SiteK w1 wr M B (sk1S j) [] (sk1R j) false (1 + j) ∧ Bes M wr (w2.heap.size + 1 + 1 + 1 + 1 + 1 + 1) (skTab w2) ∧ Bes M wr (w2.heap.size + 1) skRow1) (fun v _ => 3 - (intOf v).toNat)
  case atStart => exact ⟨0, _, Nat.zero_le _, rfl, HS3.out, HBL.out, HBN.out⟩
  case round =>
    obtain ⟨j, M, hj, rfl, hs, hl, hn⟩ := hrel
    clear HBL HBN HS3 HB4
    have HSJ := Lib.hid hs
    have HBL := Lib.hid hl
    have HBN := Lib.hid hn
    unfold skTab at HBL
    unfold skRow1 at HBN
    have l4 := HBL.out.cell 1
    have s4 := heap_lt HBL.out.2
    have n4 := heap_lt HBN.out.2
    have m40 := HBN.out.cell 0
    have m41 := HBN.out.cell 1
    simp at l4 m40 m41
    clear hs
    obtain rfl | rfl | rfl : j = 0 ∨ j = 1 ∨ j = 2 := by omega
    · have HC := Lib.hid (HA0.out w1 wr M B HSJ.out)
      clear hj
      go_wp2_with fail
      refine HC.out.mono ?_
      rintro e w5 ⟨rfl, M5, k5, ks5, kt5⟩
      have HK := Lib.hid k5
      have HL5 := Lib.hid (hl.step ks5 kt5)
      have HN5 := Lib.hid (hn.step ks5 kt5)
      clear k5 ks5 kt5 hl hn
      go_wp2_with fail
      exact ⟨⟨1, M5, by omega, rfl, HK.out, HL5.out, HN5.out⟩, by simp [intOf]⟩
    · have HC := Lib.hid (HA1.out w1 wr M B HSJ.out)
      clear hj
      go_wp2_with fail
      refine HC.out.mono ?_
      rintro e w5 ⟨rfl, M5, k5, ks5, kt5⟩
      have HK := Lib.hid k5
      have HL5 := Lib.hid (hl.step ks5 kt5)
      have HN5 := Lib.hid (hn.step ks5 kt5)
      clear k5 ks5 kt5 hl hn
      go_wp2_with fail
      exact ⟨⟨2, M5, by omega, rfl, HK.out, HL5.out, HN5.out⟩, by simp [intOf]⟩
    · have HKN2 := Lib.hid (HF.out w1 wr M B HSJ.out)
      clear hj hl hn
      go_wp2_with fail
      refine HKN2.out.mono ?_
      rintro e w20 ⟨rfl, M20, k20, -, -⟩
      have HK20 := Lib.hid k20.b
      clear k20
      go_wp2_with fail
      refine (HT.out _ _ _ HK20.out).mono ?_
      rintro e w21 ⟨rfl, k21, -⟩
      have HK21 := Lib.hid k21
      clear k21 HK20
      go_wp2_with fail
      refine (HS.out _ _ _ HK21.out).mono ?_
      rintro e w22 ⟨rfl, k22, -⟩
      obtain ⟨w23, hw23⟩ : ∃ w23, w23 = (w22.alloc (.cells #[.int .i64 2, .int .i64 2, .int .i64 0, .int .i64 2, .int .i64 0, .int .i64 2] 3)).alloc (.cells #[.int .i64 (-1), .int .i64 (-1), .int .i64 1, .int .i64 (-1), .int .i64 (-1), .int .i64 (-1)] 3) := ⟨_, rfl⟩
      have hwa : w23 = allocs w22 skUps := hw23
      have HBT : Hid (Below w22.heap.size w22 w23) := Lib.hid (by rw [hwa]; exact allocs_below w22 _)
      have HK22 := Lib.hid (k22.on HBT.out)
      have HU : Hid (w23.cell? ⟨w22.heap.size, 1, none⟩ = some (.int .i64 2) ∧ w23.cell? ⟨w22.heap.size + 1, 1, none⟩ = some (.int .i64 (-1)) ∧ w22.heap.size + 1 < w23.heap.size) := Lib.hid (by rw [hwa]; exact ⟨blk_cell (allocs_heap w22 skUps 0 _ rfl) 1, blk_cell (allocs_heap w22 skUps 1 _ rfl) 1, by rw [allocs_size]; simp [skUps]⟩)
      have HW23 := Lib.hid hw23
      have HV0 : Hid (StrsAt (w23.alloc (.cells #[.string ⟨#[112]⟩] 9)) (.slice (some ⟨w22.heap.size + 1 + 1, 0, none⟩) 1 1) [[112]]) := Lib.hid (by
        have hz : w23.heap.size = w22.heap.size + 1 + 1 := by rw [hwa, allocs_size]; rfl
        rw [← hz]
        exact StrsAt.made w23 [[112]] _ _ 1 1 rfl rfl)
      clear hwa hw23
      clear k22 HK21
      go_wp2_with fail
      rw [← HW23.out]
      clear HW23 HBT
      refine (HH0.out _ (w23.alloc (.cells #[.string ⟨#[112]⟩] 9)) _ _ (HK22.out.on ((Below.refl _ _).alloc (Nat.le_refl _) _)) (HV0.out)).mono ?_
      rintro e w30 ⟨rfl, k30, b30⟩
      have HK30 := Lib.hid k30
      have HBB0 : Hid (Below w23.heap.size w23 w30) := Lib.hid (((Below.refl _ _).alloc (Nat.le_refl _) _).trans (b30.mono (by simp)))
      clear k30 b30
      go_wp2_with fail
      refine (HH1.out _ (w30.alloc (.cells #[.string ⟨#[112]⟩] 9)) _ _ (HK30.out.on ((Below.refl _ _).alloc (Nat.le_refl _) _)) (StrsAt.made w30 [[112]] _ _ 1 1 rfl rfl)).mono ?_
      rintro e w31 ⟨rfl, k31, b31⟩
      have HK31 := Lib.hid k31
      have HBB1 : Hid (Below w23.heap.size w23 w31) := Lib.hid ((HBB0.out.alloc HBB0.out.size _).trans (b31.mono (by have := HBB0.out.size; simp; omega)))
      clear k31 b31
      go_wp2_with fail
      refine (HH2.out _ (w31.alloc (.cells #[.string ⟨#[116, 97, 98, 108, 101]⟩] 9)) _ _ (HK31.out.on ((Below.refl _ _).alloc (Nat.le_refl _) _)) (StrsAt.made w31 [[116, 97, 98, 108, 101]] _ _ 1 1 rfl rfl)).mono ?_
      rintro e w32 ⟨rfl, k32, b32⟩
      have HK32 := Lib.hid k32
      have HBB2 : Hid (Below w23.heap.size w23 w32) := Lib.hid ((HBB1.out.alloc HBB1.out.size _).trans (b32.mono (by have := HBB1.out.size; simp; omega)))
      clear k32 b32
      go_wp2_with fail
      refine (HH3.out _ (w32.alloc (.cells #[.string ⟨#[116, 97, 98, 108, 101]⟩] 9)) _ _ (HK32.out.on ((Below.refl _ _).alloc (Nat.le_refl _) _)) (StrsAt.made w32 [[116, 97, 98, 108, 101]] _ _ 1 1 rfl rfl)).mono ?_
      rintro e w33 ⟨rfl, k33, b33⟩
      have HK33 := Lib.hid k33
      have HBB3 : Hid (Below w23.heap.size w23 w33) := Lib.hid ((HBB2.out.alloc HBB2.out.size _).trans (b33.mono (by have := HBB2.out.size; simp; omega)))
      clear k33 b33
      go_wp2_with fail
      refine (HH4.out _ (w33.alloc (.cells #[.string ⟨#[116, 114]⟩] 9)) _ _ (HK33.out.on ((Below.refl _ _).alloc (Nat.le_refl _) _)) (StrsAt.made w33 [[116, 114]] _ _ 1 1 rfl rfl)).mono ?_
      rintro e w34 ⟨rfl, k34, b34⟩
      have HK34 := Lib.hid k34
      have HBB4 : Hid (Below w23.heap.size w23 w34) := Lib.hid ((HBB3.out.alloc HBB3.out.size _).trans (b34.mono (by have := HBB3.out.size; simp; omega)))
      clear k34 b34
      go_wp2_with fail
      refine (HH5.out _ (w34.alloc (.cells #[.string ⟨#[108, 105]⟩] 9)) _ _ (HK34.out.on ((Below.refl _ _).alloc (Nat.le_refl _) _)) (StrsAt.made w34 [[108, 105]] _ _ 1 1 rfl rfl)).mono ?_
      rintro e w35 ⟨rfl, k35, b35⟩
      have HK35 := Lib.hid k35
      have HBB5 : Hid (Below w23.heap.size w23 w35) := Lib.hid ((HBB4.out.alloc HBB4.out.size _).trans (b35.mono (by have := HBB4.out.size; simp; omega)))
      clear k35 b35
      have u1 := (HBB5.out.cell (p := ⟨w22.heap.size, 1, none⟩) (by have := HU.out.2.2; show w22.heap.size < _; omega)).trans HU.out.1
      have u2 := (HBB5.out.cell (p := ⟨w22.heap.size + 1, 1, none⟩) HU.out.2.2).trans HU.out.2.1
      have u3 : w22.heap.size + 1 < w35.heap.size := Nat.lt_of_lt_of_le HU.out.2.2 HBB5.out.size
      have u4 : w22.heap.size < w35.heap.size := by omega
      have HEND : Hid (Below w.heap.size w w35) := Lib.hid (HB1.out.trans (HK35.out.below.mono HB1.out.size))
      go_wp2_with fail
      go_ret
      exact ⟨rfl, HEND.out.alloc HEND.out.size _⟩
def sk2S0 : List PN := k8S0
def sk2R0 : List EL := [elRoot]
def sk2R1 : List EL := [elRoot, ⟨1, 1, [116, 97, 98, 108, 101]⟩]
def sk2R2 : List EL := [elRoot, ⟨1, 1, [116, 97, 98, 108, 101]⟩, ⟨2, 1, [116, 114]⟩]
def sk2S1 : List PN := addS false sk2S0 sk2R0 1 [116, 97, 98, 108, 101] []
def sk2S2 : List PN := addS false sk2S1 sk2R1 1 [116, 114] []
def sk2S : Nat → List PN
  | 0 => sk2S0
  | 1 => sk2S1
  | _ => sk2S2
def sk2R : Nat → List EL
  | 0 => sk2R0
  | 1 => sk2R1
  | _ => sk2R2
set_option maxHeartbeats 4000000 in
set_option maxRecDepth 100000 in
theorem sk_2 (k : Int) (w : World) (h0 : -9223372036854775808 ≤ k) (h1 : k ≤ 9223372036854775807) (hk : Within k 6 = 2) : Calls Try.prog 7 #[.int .i64 k] w (Yes w) := by
  have HKN := Lib.hid (known8_yes w)
  have HN : Hid (∀ W, Calls Try.prog 13 #[] W (fun e w' => ∃ B, e = .returned (.pointer (some ⟨B, 0, none⟩)) ∧ SiteB W w' B sk2S0 [] sk2R0 false 1)) := Lib.hid fun W => bNew8 W
  have HWI : Hid (∀ W, Calls Try.prog 20 #[.int .i64 k, .int .i64 6] W (Gives (.int .i64 2) W)) := Lib.hid fun W => by
    have := within8 k 6 W h0 h1 (by decide) (by decide)
    rw [hk] at this
    exact this
  have HA0 : Hid (∀ W0 W M B, SiteK W0 W M B sk2S0 [] sk2R0 false 1 → Calls Try.prog 17 #[.pointer (some ⟨B, 0, none⟩), .int .i64 1, .string ⟨#[116, 97, 98, 108, 101]⟩, .slice none 0 0] W (fun e w' => e = .returned (.int .i64 1) ∧ StepK W0 W M B sk2S1 [] sk2R1 false 2 w')) := Lib.hid fun W0 W M B h => kAdd h (fun _ => False) 1 [116, 97, 98, 108, 101] [] _ (AttrsP.nil _ _ _ _) (by decide) (by decide) (by decide) (by decide) (by decide +kernel) (by decide) 9 (by decide +kernel)
  have HA1 : Hid (∀ W0 W M B, SiteK W0 W M B sk2S1 [] sk2R1 false 2 → Calls Try.prog 17 #[.pointer (some ⟨B, 0, none⟩), .int .i64 1, .string ⟨#[116, 114]⟩, .slice none 0 0] W (fun e w' => e = .returned (.int .i64 2) ∧ StepK W0 W M B sk2S2 [] sk2R2 false 3 w')) := Lib.hid fun W0 W M B h => kAdd h (fun _ => False) 1 [116, 114] [] _ (AttrsP.nil _ _ _ _) (by decide) (by decide) (by decide) (by decide) (by decide +kernel) (by decide) 9 (by decide +kernel)
  have HF : Hid (∀ W0 W M B, SiteK W0 W M B sk2S2 [] sk2R2 false 3 → Calls Try.prog 24 #[.pointer (some ⟨B, 0, none⟩), .bool true] W (fun e w' => e = .returned (.tuple #[]) ∧ StepK W0 W M B sk2S2 [] sk2R2 true 3 w')) := Lib.hid fun W0 W M B h => kFoster h true
  have HT : Hid (∀ W0 W B, SiteB W0 W B sk2S2 [] sk2R2 true 3 → Calls Try.prog 45 #[.pointer (some ⟨B, 0, none⟩)] W (fun e w' => e = .returned (.int .i64 2) ∧ SiteB W0 w' B sk2S2 [] sk2R2 true 3 ∧ Below W.heap.size W w')) := Lib.hid fun W0 W B h => bTop h (by decide) (by decide)
  have HS : Hid (∀ W0 W B, SiteB W0 W B sk2S2 [] sk2R2 true 3 → Calls Try.prog 46 #[.pointer (some ⟨B, 0, none⟩), .int .i64 2] W (fun e w' => e = .returned (.tuple #[.int .i64 0, .int .i64 1]) ∧ SiteB W0 w' B sk2S2 [] sk2R2 true 3 ∧ Below W.heap.size W w')) := Lib.hid fun W0 W B h => by
    have := bSpot h (by decide) (by decide)
    rw [show spotS true (elNamed sk2R2) sk2S2 sk2R2 = (0, 1) by decide +kernel] at this
    exact this
  have HH0 : Hid (∀ W0 W B v, SiteB W0 W B sk2S2 [] sk2R2 true 3 → StrsAt W v [[112]] → Calls Try.prog 21 #[.pointer (some ⟨B, 0, none⟩), .int .i64 3, v] W (fun e w' => e = .returned (.bool false) ∧ SiteB W0 w' B sk2S2 [] sk2R2 true 3 ∧ Below W.heap.size W w')) := Lib.hid fun W0 W B v h hv => by
    have := bHas h 3 v [[112]] hv (by decide) (by decide) (by decide) (by decide)
    rw [show hasE sk2R2 3 [[112]] = false by decide +kernel] at this
    exact this
  have HH1 : Hid (∀ W0 W B v, SiteB W0 W B sk2S2 [] sk2R2 true 3 → StrsAt W v [[112]] → Calls Try.prog 21 #[.pointer (some ⟨B, 0, none⟩), .int .i64 3, v] W (fun e w' => e = .returned (.bool false) ∧ SiteB W0 w' B sk2S2 [] sk2R2 true 3 ∧ Below W.heap.size W w')) := Lib.hid fun W0 W B v h hv => by
    have := bHas h 3 v [[112]] hv (by decide) (by decide) (by decide) (by decide)
    rw [show hasE sk2R2 3 [[112]] = false by decide +kernel] at this
    exact this
  have HH2 : Hid (∀ W0 W B v, SiteB W0 W B sk2S2 [] sk2R2 true 3 → StrsAt W v [[116, 97, 98, 108, 101]] → Calls Try.prog 21 #[.pointer (some ⟨B, 0, none⟩), .int .i64 4, v] W (fun e w' => e = .returned (.bool true) ∧ SiteB W0 w' B sk2S2 [] sk2R2 true 3 ∧ Below W.heap.size W w')) := Lib.hid fun W0 W B v h hv => by
    have := bHas h 4 v [[116, 97, 98, 108, 101]] hv (by decide) (by decide) (by decide) (by decide)
    rw [show hasE sk2R2 4 [[116, 97, 98, 108, 101]] = true by decide +kernel] at this
    exact this
  have HH3 : Hid (∀ W0 W B v, SiteB W0 W B sk2S2 [] sk2R2 true 3 → StrsAt W v [[116, 97, 98, 108, 101]] → Calls Try.prog 21 #[.pointer (some ⟨B, 0, none⟩), .int .i64 4, v] W (fun e w' => e = .returned (.bool true) ∧ SiteB W0 w' B sk2S2 [] sk2R2 true 3 ∧ Below W.heap.size W w')) := Lib.hid fun W0 W B v h hv => by
    have := bHas h 4 v [[116, 97, 98, 108, 101]] hv (by decide) (by decide) (by decide) (by decide)
    rw [show hasE sk2R2 4 [[116, 97, 98, 108, 101]] = true by decide +kernel] at this
    exact this
  have HH4 : Hid (∀ W0 W B v, SiteB W0 W B sk2S2 [] sk2R2 true 3 → StrsAt W v [[116, 114]] → Calls Try.prog 21 #[.pointer (some ⟨B, 0, none⟩), .int .i64 1, v] W (fun e w' => e = .returned (.bool true) ∧ SiteB W0 w' B sk2S2 [] sk2R2 true 3 ∧ Below W.heap.size W w')) := Lib.hid fun W0 W B v h hv => by
    have := bHas h 1 v [[116, 114]] hv (by decide) (by decide) (by decide) (by decide)
    rw [show hasE sk2R2 1 [[116, 114]] = true by decide +kernel] at this
    exact this
  have HH5 : Hid (∀ W0 W B v, SiteB W0 W B sk2S2 [] sk2R2 true 3 → StrsAt W v [[108, 105]] → Calls Try.prog 21 #[.pointer (some ⟨B, 0, none⟩), .int .i64 2, v] W (fun e w' => e = .returned (.bool false) ∧ SiteB W0 w' B sk2S2 [] sk2R2 true 3 ∧ Below W.heap.size W w')) := Lib.hid fun W0 W B v h hv => by
    have := bHas h 2 v [[108, 105]] hv (by decide) (by decide) (by decide) (by decide)
    rw [show hasE sk2R2 2 [[108, 105]] = false by decide +kernel] at this
    exact this
  clear h0 h1 hk
  go_enter Try.func7, Try.ntmps7
  go_wp2_with fail
  refine HKN.out.mono ?_
  rintro e w1 ⟨rfl, hb1⟩
  have HB1 := Lib.hid hb1
  clear hb1
  go_wp2_with fail
  refine (HN.out w1).mono ?_
  rintro e w2 ⟨B, rfl, hs2⟩
  obtain ⟨D, MD, hdoc, -, -⟩ := bDoc hs2
  have HD2 := Lib.hid hdoc
  have HS2 := Lib.hid hs2.k
  clear hs2 hdoc
  go_wp2_with fail
  refine HD2.out.mono ?_
  rintro e w2' ⟨rfl, rfl⟩
  go_wp2_with fail
  refine (HWI.out _).mono ?_
  rintro e w3 ⟨rfl, rfl⟩
  go_wp2_with fail
  change Code.wp Try.prog _ _ _ (allocs w2 (skObjs w2))
  have HBA : Hid (Below w2.heap.size w2 (allocs w2 (skObjs w2))) := Lib.hid (allocs_below w2 _)
  have HS3 := Lib.hid (HS2.out.on HBA.out)
  have HBL : Hid (Bes (fun b => w1.heap.size ≤ b ∧ b < w2.heap.size) (allocs w2 (skObjs w2)) (w2.heap.size + 1 + 1 + 1 + 1 + 1 + 1) (skTab w2)) := Lib.hid (Bes.made (fun _ k => k.2) 6 _ rfl)
  have HBN : Hid (Bes (fun b => w1.heap.size ≤ b ∧ b < w2.heap.size) (allocs w2 (skObjs w2)) (w2.heap.size + 1 + 1) (skRow2)) := Lib.hid (Bes.made (fun _ k => k.2) 2 _ rfl)
  unfold skTab at HBL
  unfold skRow2 at HBN
  generalize allocs w2 (skObjs w2) = w4 at *
  have HB4 : Hid (Below w.heap.size w w4) := Lib.hid (HB1.out.trans (HS3.out.below.mono HB1.out.size))
  clear HBA HS2
  go_loopw [6] (fun v wr => ∃ (j : Nat) (M : Nat → Prop), j ≤ 2 ∧ v = .int .i64 (j : Int) ∧ SiteK w1 wr M B (sk2S j) [] (sk2R j) false (1 + j) ∧ Bes M wr (w2.heap.size + 1 + 1 + 1 + 1 + 1 + 1) (skTab w2) ∧ Bes M wr (w2.heap.size + 1 + 1) skRow2) (fun v _ => 3 - (intOf v).toNat)
  case atStart => exact ⟨0, _, Nat.zero_le _, rfl, HS3.out, HBL.out, HBN.out⟩
  case round =>
    obtain ⟨j, M, hj, rfl, hs, hl, hn⟩ := hrel
    clear HBL HBN HS3 HB4
    have HSJ := Lib.hid hs
    have HBL := Lib.hid hl
    have HBN := Lib.hid hn
    unfold skTab at HBL
    unfold skRow2 at HBN
    have l4 := HBL.out.cell 2
    have s4 := heap_lt HBL.out.2
    have n4 := heap_lt HBN.out.2
    have m40 := HBN.out.cell 0
    have m41 := HBN.out.cell 1
    simp at l4 m40 m41
    clear hs
    obtain rfl | rfl | rfl : j = 0 ∨ j = 1 ∨ j = 2 := by omega
    · have HC := Lib.hid (HA0.out w1 wr M B HSJ.out)
      clear hj
      go_wp2_with fail
      refine HC.out.mono ?_
      rintro e w5 ⟨rfl, M5, k5, ks5, kt5⟩
      have HK := Lib.hid k5
      have HL5 := Lib.hid (hl.step ks5 kt5)
      have HN5 := Lib.hid (hn.step ks5 kt5)
      clear k5 ks5 kt5 hl hn
      go_wp2_with fail
      exact ⟨⟨1, M5, by omega, rfl, HK.out, HL5.out, HN5.out⟩, by simp [intOf]⟩
    · have HC := Lib.hid (HA1.out w1 wr M B HSJ.out)
      clear hj
      go_wp2_with fail
      refine HC.out.mono ?_
      rintro e w5 ⟨rfl, M5, k5, ks5, kt5⟩
      have HK := Lib.hid k5
      have HL5 := Lib.hid (hl.step ks5 kt5)
      have HN5 := Lib.hid (hn.step ks5 kt5)
      clear k5 ks5 kt5 hl hn
      go_wp2_with fail
      exact ⟨⟨2, M5, by omega, rfl, HK.out, HL5.out, HN5.out⟩, by simp [intOf]⟩
    · have HKN2 := Lib.hid (HF.out w1 wr M B HSJ.out)
      clear hj hl hn
      go_wp2_with fail
      refine HKN2.out.mono ?_
      rintro e w20 ⟨rfl, M20, k20, -, -⟩
      have HK20 := Lib.hid k20.b
      clear k20
      go_wp2_with fail
      refine (HT.out _ _ _ HK20.out).mono ?_
      rintro e w21 ⟨rfl, k21, -⟩
      have HK21 := Lib.hid k21
      clear k21 HK20
      go_wp2_with fail
      refine (HS.out _ _ _ HK21.out).mono ?_
      rintro e w22 ⟨rfl, k22, -⟩
      obtain ⟨w23, hw23⟩ : ∃ w23, w23 = (w22.alloc (.cells #[.int .i64 2, .int .i64 2, .int .i64 0, .int .i64 2, .int .i64 0, .int .i64 2] 3)).alloc (.cells #[.int .i64 (-1), .int .i64 (-1), .int .i64 1, .int .i64 (-1), .int .i64 (-1), .int .i64 (-1)] 3) := ⟨_, rfl⟩
      have hwa : w23 = allocs w22 skUps := hw23
      have HBT : Hid (Below w22.heap.size w22 w23) := Lib.hid (by rw [hwa]; exact allocs_below w22 _)
      have HK22 := Lib.hid (k22.on HBT.out)
      have HU : Hid (w23.cell? ⟨w22.heap.size, 2, none⟩ = some (.int .i64 0) ∧ w23.cell? ⟨w22.heap.size + 1, 2, none⟩ = some (.int .i64 1) ∧ w22.heap.size + 1 < w23.heap.size) := Lib.hid (by rw [hwa]; exact ⟨blk_cell (allocs_heap w22 skUps 0 _ rfl) 2, blk_cell (allocs_heap w22 skUps 1 _ rfl) 2, by rw [allocs_size]; simp [skUps]⟩)
      have HW23 := Lib.hid hw23
      have HV0 : Hid (StrsAt (w23.alloc (.cells #[.string ⟨#[112]⟩] 9)) (.slice (some ⟨w22.heap.size + 1 + 1, 0, none⟩) 1 1) [[112]]) := Lib.hid (by
        have hz : w23.heap.size = w22.heap.size + 1 + 1 := by rw [hwa, allocs_size]; rfl
        rw [← hz]
        exact StrsAt.made w23 [[112]] _ _ 1 1 rfl rfl)
      clear hwa hw23
      clear k22 HK21
      go_wp2_with fail
      rw [← HW23.out]
      clear HW23 HBT
      refine (HH0.out _ (w23.alloc (.cells #[.string ⟨#[112]⟩] 9)) _ _ (HK22.out.on ((Below.refl _ _).alloc (Nat.le_refl _) _)) (HV0.out)).mono ?_
      rintro e w30 ⟨rfl, k30, b30⟩
      have HK30 := Lib.hid k30
      have HBB0 : Hid (Below w23.heap.size w23 w30) := Lib.hid (((Below.refl _ _).alloc (Nat.le_refl _) _).trans (b30.mono (by simp)))
      clear k30 b30
      go_wp2_with fail
      refine (HH1.out _ (w30.alloc (.cells #[.string ⟨#[112]⟩] 9)) _ _ (HK30.out.on ((Below.refl _ _).alloc (Nat.le_refl _) _)) (StrsAt.made w30 [[112]] _ _ 1 1 rfl rfl)).mono ?_
      rintro e w31 ⟨rfl, k31, b31⟩
      have HK31 := Lib.hid k31
      have HBB1 : Hid (Below w23.heap.size w23 w31) := Lib.hid ((HBB0.out.alloc HBB0.out.size _).trans (b31.mono (by have := HBB0.out.size; simp; omega)))
      clear k31 b31
      go_wp2_with fail
      refine (HH2.out _ (w31.alloc (.cells #[.string ⟨#[116, 97, 98, 108, 101]⟩] 9)) _ _ (HK31.out.on ((Below.refl _ _).alloc (Nat.le_refl _) _)) (StrsAt.made w31 [[116, 97, 98, 108, 101]] _ _ 1 1 rfl rfl)).mono ?_
      rintro e w32 ⟨rfl, k32, b32⟩
      have HK32 := Lib.hid k32
      have HBB2 : Hid (Below w23.heap.size w23 w32) := Lib.hid ((HBB1.out.alloc HBB1.out.size _).trans (b32.mono (by have := HBB1.out.size; simp; omega)))
      clear k32 b32
      go_wp2_with fail
      refine (HH3.out _ (w32.alloc (.cells #[.string ⟨#[116, 97, 98, 108, 101]⟩] 9)) _ _ (HK32.out.on ((Below.refl _ _).alloc (Nat.le_refl _) _)) (StrsAt.made w32 [[116, 97, 98, 108, 101]] _ _ 1 1 rfl rfl)).mono ?_
      rintro e w33 ⟨rfl, k33, b33⟩
      have HK33 := Lib.hid k33
      have HBB3 : Hid (Below w23.heap.size w23 w33) := Lib.hid ((HBB2.out.alloc HBB2.out.size _).trans (b33.mono (by have := HBB2.out.size; simp; omega)))
      clear k33 b33
      go_wp2_with fail
      refine (HH4.out _ (w33.alloc (.cells #[.string ⟨#[116, 114]⟩] 9)) _ _ (HK33.out.on ((Below.refl _ _).alloc (Nat.le_refl _) _)) (StrsAt.made w33 [[116, 114]] _ _ 1 1 rfl rfl)).mono ?_
      rintro e w34 ⟨rfl, k34, b34⟩
      have HK34 := Lib.hid k34
      have HBB4 : Hid (Below w23.heap.size w23 w34) := Lib.hid ((HBB3.out.alloc HBB3.out.size _).trans (b34.mono (by have := HBB3.out.size; simp; omega)))
      clear k34 b34
      go_wp2_with fail
      refine (HH5.out _ (w34.alloc (.cells #[.string ⟨#[108, 105]⟩] 9)) _ _ (HK34.out.on ((Below.refl _ _).alloc (Nat.le_refl _) _)) (StrsAt.made w34 [[108, 105]] _ _ 1 1 rfl rfl)).mono ?_
      rintro e w35 ⟨rfl, k35, b35⟩
      have HK35 := Lib.hid k35
      have HBB5 : Hid (Below w23.heap.size w23 w35) := Lib.hid ((HBB4.out.alloc HBB4.out.size _).trans (b35.mono (by have := HBB4.out.size; simp; omega)))
      clear k35 b35
      have u1 := (HBB5.out.cell (p := ⟨w22.heap.size, 2, none⟩) (by have := HU.out.2.2; show w22.heap.size < _; omega)).trans HU.out.1
      have u2 := (HBB5.out.cell (p := ⟨w22.heap.size + 1, 2, none⟩) HU.out.2.2).trans HU.out.2.1
      have u3 : w22.heap.size + 1 < w35.heap.size := Nat.lt_of_lt_of_le HU.out.2.2 HBB5.out.size
      have u4 : w22.heap.size < w35.heap.size := by omega
      have HEND : Hid (Below w.heap.size w w35) := Lib.hid (HB1.out.trans (HK35.out.below.mono HB1.out.size))
      go_wp2_with fail
      go_ret
      exact ⟨rfl, HEND.out.alloc HEND.out.size _⟩
def sk3S0 : List PN := k8S0
def sk3R0 : List EL := [elRoot]
def sk3R1 : List EL := [elRoot, ⟨1, 1, [116, 97, 98, 108, 101]⟩]
def sk3R2 : List EL := [elRoot, ⟨1, 1, [116, 97, 98, 108, 101]⟩, ⟨2, 1, [116, 101, 109, 112, 108, 97, 116, 101]⟩]
def sk3R3 : List EL := [elRoot, ⟨1, 1, [116, 97, 98, 108, 101]⟩, ⟨2, 1, [116, 101, 109, 112, 108, 97, 116, 101]⟩, ⟨3, 1, [116, 114]⟩]
def sk3S1 : List PN := addS false sk3S0 sk3R0 1 [116, 97, 98, 108, 101] []
def sk3S2 : List PN := addS false sk3S1 sk3R1 1 [116, 101, 109, 112, 108, 97, 116, 101] []
def sk3S3 : List PN := addS false sk3S2 sk3R2 1 [116, 114] []
def sk3S : Nat → List PN
  | 0 => sk3S0
  | 1 => sk3S1
  | 2 => sk3S2
  | _ => sk3S3
def sk3R : Nat → List EL
  | 0 => sk3R0
  | 1 => sk3R1
  | 2 => sk3R2
  | _ => sk3R3
set_option maxHeartbeats 4000000 in
set_option maxRecDepth 100000 in
theorem sk_3 (k : Int) (w : World) (h0 : -9223372036854775808 ≤ k) (h1 : k ≤ 9223372036854775807) (hk : Within k 6 = 3) : Calls Try.prog 7 #[.int .i64 k] w (Yes w) := by
  have HKN := Lib.hid (known8_yes w)
  have HN : Hid (∀ W, Calls Try.prog 13 #[] W (fun e w' => ∃ B, e = .returned (.pointer (some ⟨B, 0, none⟩)) ∧ SiteB W w' B sk3S0 [] sk3R0 false 1)) := Lib.hid fun W => bNew8 W
  have HWI : Hid (∀ W, Calls Try.prog 20 #[.int .i64 k, .int .i64 6] W (Gives (.int .i64 3) W)) := Lib.hid fun W => by
    have := within8 k 6 W h0 h1 (by decide) (by decide)
    rw [hk] at this
    exact this
  have HA0 : Hid (∀ W0 W M B, SiteK W0 W M B sk3S0 [] sk3R0 false 1 → Calls Try.prog 17 #[.pointer (some ⟨B, 0, none⟩), .int .i64 1, .string ⟨#[116, 97, 98, 108, 101]⟩, .slice none 0 0] W (fun e w' => e = .returned (.int .i64 1) ∧ StepK W0 W M B sk3S1 [] sk3R1 false 2 w')) := Lib.hid fun W0 W M B h => kAdd h (fun _ => False) 1 [116, 97, 98, 108, 101] [] _ (AttrsP.nil _ _ _ _) (by decide) (by decide) (by decide) (by decide) (by decide +kernel) (by decide) 9 (by decide +kernel)
  have HA1 : Hid (∀ W0 W M B, SiteK W0 W M B sk3S1 [] sk3R1 false 2 → Calls Try.prog 17 #[.pointer (some ⟨B, 0, none⟩), .int .i64 1, .string ⟨#[116, 101, 109, 112, 108, 97, 116, 101]⟩, .slice none 0 0] W (fun e w' => e = .returned (.int .i64 2) ∧ StepK W0 W M B sk3S2 [] sk3R2 false 3 w')) := Lib.hid fun W0 W M B h => kAdd h (fun _ => False) 1 [116, 101, 109, 112, 108, 97, 116, 101] [] _ (AttrsP.nil _ _ _ _) (by decide) (by decide) (by decide) (by decide) (by decide +kernel) (by decide) 9 (by decide +kernel)
  have HA2 : Hid (∀ W0 W M B, SiteK W0 W M B sk3S2 [] sk3R2 false 3 → Calls Try.prog 17 #[.pointer (some ⟨B, 0, none⟩), .int .i64 1, .string ⟨#[116, 114]⟩, .slice none 0 0] W (fun e w' => e = .returned (.int .i64 3) ∧ StepK W0 W M B sk3S3 [] sk3R3 false 4 w')) := Lib.hid fun W0 W M B h => kAdd h (fun _ => False) 1 [116, 114] [] _ (AttrsP.nil _ _ _ _) (by decide) (by decide) (by decide) (by decide) (by decide +kernel) (by decide) 9 (by decide +kernel)
  have HF : Hid (∀ W0 W M B, SiteK W0 W M B sk3S3 [] sk3R3 false 4 → Calls Try.prog 24 #[.pointer (some ⟨B, 0, none⟩), .bool true] W (fun e w' => e = .returned (.tuple #[]) ∧ StepK W0 W M B sk3S3 [] sk3R3 true 4 w')) := Lib.hid fun W0 W M B h => kFoster h true
  have HT : Hid (∀ W0 W B, SiteB W0 W B sk3S3 [] sk3R3 true 4 → Calls Try.prog 45 #[.pointer (some ⟨B, 0, none⟩)] W (fun e w' => e = .returned (.int .i64 3) ∧ SiteB W0 w' B sk3S3 [] sk3R3 true 4 ∧ Below W.heap.size W w')) := Lib.hid fun W0 W B h => bTop h (by decide) (by decide)
  have HS : Hid (∀ W0 W B, SiteB W0 W B sk3S3 [] sk3R3 true 4 → Calls Try.prog 46 #[.pointer (some ⟨B, 0, none⟩), .int .i64 3] W (fun e w' => e = .returned (.tuple #[.int .i64 2, .int .i64 (-1)]) ∧ SiteB W0 w' B sk3S3 [] sk3R3 true 4 ∧ Below W.heap.size W w')) := Lib.hid fun W0 W B h => by
    have := bSpot h (by decide) (by decide)
    rw [show spotS true (elNamed sk3R3) sk3S3 sk3R3 = (2, (-1)) by decide +kernel] at this
    exact this
  have HH0 : Hid (∀ W0 W B v, SiteB W0 W B sk3S3 [] sk3R3 true 4 → StrsAt W v [[112]] → Calls Try.prog 21 #[.pointer (some ⟨B, 0, none⟩), .int .i64 3, v] W (fun e w' => e = .returned (.bool false) ∧ SiteB W0 w' B sk3S3 [] sk3R3 true 4 ∧ Below W.heap.size W w')) := Lib.hid fun W0 W B v h hv => by
    have := bHas h 3 v [[112]] hv (by decide) (by decide) (by decide) (by decide)
    rw [show hasE sk3R3 3 [[112]] = false by decide +kernel] at this
    exact this
  have HH1 : Hid (∀ W0 W B v, SiteB W0 W B sk3S3 [] sk3R3 true 4 → StrsAt W v [[112]] → Calls Try.prog 21 #[.pointer (some ⟨B, 0, none⟩), .int .i64 3, v] W (fun e w' => e = .returned (.bool false) ∧ SiteB W0 w' B sk3S3 [] sk3R3 true 4 ∧ Below W.heap.size W w')) := Lib.hid fun W0 W B v h hv => by
    have := bHas h 3 v [[112]] hv (by decide) (by decide) (by decide) (by decide)
    rw [show hasE sk3R3 3 [[112]] = false by decide +kernel] at this
    exact this
  have HH2 : Hid (∀ W0 W B v, SiteB W0 W B sk3S3 [] sk3R3 true 4 → StrsAt W v [[116, 97, 98, 108, 101]] → Calls Try.prog 21 #[.pointer (some ⟨B, 0, none⟩), .int .i64 4, v] W (fun e w' => e = .returned (.bool false) ∧ SiteB W0 w' B sk3S3 [] sk3R3 true 4 ∧ Below W.heap.size W w')) := Lib.hid fun W0 W B v h hv => by
    have := bHas h 4 v [[116, 97, 98, 108, 101]] hv (by decide) (by decide) (by decide) (by decide)
    rw [show hasE sk3R3 4 [[116, 97, 98, 108, 101]] = false by decide +kernel] at this
    exact this
  have HH3 : Hid (∀ W0 W B v, SiteB W0 W B sk3S3 [] sk3R3 true 4 → StrsAt W v [[116, 97, 98, 108, 101]] → Calls Try.prog 21 #[.pointer (some ⟨B, 0, none⟩), .int .i64 4, v] W (fun e w' => e = .returned (.bool false) ∧ SiteB W0 w' B sk3S3 [] sk3R3 true 4 ∧ Below W.heap.size W w')) := Lib.hid fun W0 W B v h hv => by
    have := bHas h 4 v [[116, 97, 98, 108, 101]] hv (by decide) (by decide) (by decide) (by decide)
    rw [show hasE sk3R3 4 [[116, 97, 98, 108, 101]] = false by decide +kernel] at this
    exact this
  have HH4 : Hid (∀ W0 W B v, SiteB W0 W B sk3S3 [] sk3R3 true 4 → StrsAt W v [[116, 114]] → Calls Try.prog 21 #[.pointer (some ⟨B, 0, none⟩), .int .i64 1, v] W (fun e w' => e = .returned (.bool true) ∧ SiteB W0 w' B sk3S3 [] sk3R3 true 4 ∧ Below W.heap.size W w')) := Lib.hid fun W0 W B v h hv => by
    have := bHas h 1 v [[116, 114]] hv (by decide) (by decide) (by decide) (by decide)
    rw [show hasE sk3R3 1 [[116, 114]] = true by decide +kernel] at this
    exact this
  have HH5 : Hid (∀ W0 W B v, SiteB W0 W B sk3S3 [] sk3R3 true 4 → StrsAt W v [[108, 105]] → Calls Try.prog 21 #[.pointer (some ⟨B, 0, none⟩), .int .i64 2, v] W (fun e w' => e = .returned (.bool false) ∧ SiteB W0 w' B sk3S3 [] sk3R3 true 4 ∧ Below W.heap.size W w')) := Lib.hid fun W0 W B v h hv => by
    have := bHas h 2 v [[108, 105]] hv (by decide) (by decide) (by decide) (by decide)
    rw [show hasE sk3R3 2 [[108, 105]] = false by decide +kernel] at this
    exact this
  clear h0 h1 hk
  go_enter Try.func7, Try.ntmps7
  go_wp2_with fail
  refine HKN.out.mono ?_
  rintro e w1 ⟨rfl, hb1⟩
  have HB1 := Lib.hid hb1
  clear hb1
  go_wp2_with fail
  refine (HN.out w1).mono ?_
  rintro e w2 ⟨B, rfl, hs2⟩
  obtain ⟨D, MD, hdoc, -, -⟩ := bDoc hs2
  have HD2 := Lib.hid hdoc
  have HS2 := Lib.hid hs2.k
  clear hs2 hdoc
  go_wp2_with fail
  refine HD2.out.mono ?_
  rintro e w2' ⟨rfl, rfl⟩
  go_wp2_with fail
  refine (HWI.out _).mono ?_
  rintro e w3 ⟨rfl, rfl⟩
  go_wp2_with fail
  change Code.wp Try.prog _ _ _ (allocs w2 (skObjs w2))
  have HBA : Hid (Below w2.heap.size w2 (allocs w2 (skObjs w2))) := Lib.hid (allocs_below w2 _)
  have HS3 := Lib.hid (HS2.out.on HBA.out)
  have HBL : Hid (Bes (fun b => w1.heap.size ≤ b ∧ b < w2.heap.size) (allocs w2 (skObjs w2)) (w2.heap.size + 1 + 1 + 1 + 1 + 1 + 1) (skTab w2)) := Lib.hid (Bes.made (fun _ k => k.2) 6 _ rfl)
  have HBN : Hid (Bes (fun b => w1.heap.size ≤ b ∧ b < w2.heap.size) (allocs w2 (skObjs w2)) (w2.heap.size + 1 + 1 + 1) (skRow3)) := Lib.hid (Bes.made (fun _ k => k.2) 3 _ rfl)
  unfold skTab at HBL
  unfold skRow3 at HBN
  generalize allocs w2 (skObjs w2) = w4 at *
  have HB4 : Hid (Below w.heap.size w w4) := Lib.hid (HB1.out.trans (HS3.out.below.mono HB1.out.size))
  clear HBA HS2
  go_loopw [6] (fun v wr => ∃ (j : Nat) (M : Nat → Prop), j ≤ 3 ∧ v = .int .i64 (j : Int) ∧ SiteK w1 wr M B (sk3S j) [] (sk3R j) false (1 + j) ∧ Bes M wr (w2.heap.size + 1 + 1 + 1 + 1 + 1 + 1) (skTab w2) ∧ Bes M wr (w2.heap.size + 1 + 1 + 1) skRow3) (fun v _ => 4 - (intOf v).toNat)
  case atStart => exact ⟨0, _, Nat.zero_le _, rfl, HS3.out, HBL.out, HBN.out⟩
  case round =>
    obtain ⟨j, M, hj, rfl, hs, hl, hn⟩ := hrel
    clear HBL HBN HS3 HB4
    have HSJ := Lib.hid hs
    have HBL := Lib.hid hl
    have HBN := Lib.hid hn
    unfold skTab at HBL
    unfold skRow3 at HBN
    have l4 := HBL.out.cell 3
    have s4 := heap_lt HBL.out.2
    have n4 := heap_lt HBN.out.2
    have m40 := HBN.out.cell 0
    have m41 := HBN.out.cell 1
    have m42 := HBN.out.cell 2
    simp at l4 m40 m41 m42
    clear hs
    obtain rfl | rfl | rfl | rfl : j = 0 ∨ j = 1 ∨ j = 2 ∨ j = 3 := by omega
    · have HC := Lib.hid (HA0.out w1 wr M B HSJ.out)
      clear hj
      go_wp2_with fail
      refine HC.out.mono ?_
      rintro e w5 ⟨rfl, M5, k5, ks5, kt5⟩
      have HK := Lib.hid k5
      have HL5 := Lib.hid (hl.step ks5 kt5)
      have HN5 := Lib.hid (hn.step ks5 kt5)
      clear k5 ks5 kt5 hl hn
      go_wp2_with fail
      exact ⟨⟨1, M5, by omega, rfl, HK.out, HL5.out, HN5.out⟩, by simp [intOf]⟩
    · have HC := Lib.hid (HA1.out w1 wr M B HSJ.out)
      clear hj
      go_wp2_with fail
      refine HC.out.mono ?_
      rintro e w5 ⟨rfl, M5, k5, ks5, kt5⟩
      have HK := Lib.hid k5
      have HL5 := Lib.hid (hl.step ks5 kt5)
      have HN5 := Lib.hid (hn.step ks5 kt5)
      clear k5 ks5 kt5 hl hn
      go_wp2_with fail
      exact ⟨⟨2, M5, by omega, rfl, HK.out, HL5.out, HN5.out⟩, by simp [intOf]⟩
    · have HC := Lib.hid (HA2.out w1 wr M B HSJ.out)
      clear hj
      go_wp2_with fail
      refine HC.out.mono ?_
      rintro e w5 ⟨rfl, M5, k5, ks5, kt5⟩
      have HK := Lib.hid k5
      have HL5 := Lib.hid (hl.step ks5 kt5)
      have HN5 := Lib.hid (hn.step ks5 kt5)
      clear k5 ks5 kt5 hl hn
      go_wp2_with fail
      exact ⟨⟨3, M5, by omega, rfl, HK.out, HL5.out, HN5.out⟩, by simp [intOf]⟩
    · have HKN2 := Lib.hid (HF.out w1 wr M B HSJ.out)
      clear hj hl hn
      go_wp2_with fail
      refine HKN2.out.mono ?_
      rintro e w20 ⟨rfl, M20, k20, -, -⟩
      have HK20 := Lib.hid k20.b
      clear k20
      go_wp2_with fail
      refine (HT.out _ _ _ HK20.out).mono ?_
      rintro e w21 ⟨rfl, k21, -⟩
      have HK21 := Lib.hid k21
      clear k21 HK20
      go_wp2_with fail
      refine (HS.out _ _ _ HK21.out).mono ?_
      rintro e w22 ⟨rfl, k22, -⟩
      obtain ⟨w23, hw23⟩ : ∃ w23, w23 = (w22.alloc (.cells #[.int .i64 2, .int .i64 2, .int .i64 0, .int .i64 2, .int .i64 0, .int .i64 2] 3)).alloc (.cells #[.int .i64 (-1), .int .i64 (-1), .int .i64 1, .int .i64 (-1), .int .i64 (-1), .int .i64 (-1)] 3) := ⟨_, rfl⟩
      have hwa : w23 = allocs w22 skUps := hw23
      have HBT : Hid (Below w22.heap.size w22 w23) := Lib.hid (by rw [hwa]; exact allocs_below w22 _)
      have HK22 := Lib.hid (k22.on HBT.out)
      have HU : Hid (w23.cell? ⟨w22.heap.size, 3, none⟩ = some (.int .i64 2) ∧ w23.cell? ⟨w22.heap.size + 1, 3, none⟩ = some (.int .i64 (-1)) ∧ w22.heap.size + 1 < w23.heap.size) := Lib.hid (by rw [hwa]; exact ⟨blk_cell (allocs_heap w22 skUps 0 _ rfl) 3, blk_cell (allocs_heap w22 skUps 1 _ rfl) 3, by rw [allocs_size]; simp [skUps]⟩)
      have HW23 := Lib.hid hw23
      have HV0 : Hid (StrsAt (w23.alloc (.cells #[.string ⟨#[112]⟩] 9)) (.slice (some ⟨w22.heap.size + 1 + 1, 0, none⟩) 1 1) [[112]]) := Lib.hid (by
        have hz : w23.heap.size = w22.heap.size + 1 + 1 := by rw [hwa, allocs_size]; rfl
        rw [← hz]
        exact StrsAt.made w23 [[112]] _ _ 1 1 rfl rfl)
      clear hwa hw23
      clear k22 HK21
      go_wp2_with fail
      rw [← HW23.out]
      clear HW23 HBT
      refine (HH0.out _ (w23.alloc (.cells #[.string ⟨#[112]⟩] 9)) _ _ (HK22.out.on ((Below.refl _ _).alloc (Nat.le_refl _) _)) (HV0.out)).mono ?_
      rintro e w30 ⟨rfl, k30, b30⟩
      have HK30 := Lib.hid k30
      have HBB0 : Hid (Below w23.heap.size w23 w30) := Lib.hid (((Below.refl _ _).alloc (Nat.le_refl _) _).trans (b30.mono (by simp)))
      clear k30 b30
      go_wp2_with fail
      refine (HH1.out _ (w30.alloc (.cells #[.string ⟨#[112]⟩] 9)) _ _ (HK30.out.on ((Below.refl _ _).alloc (Nat.le_refl _) _)) (StrsAt.made w30 [[112]] _ _ 1 1 rfl rfl)).mono ?_
      rintro e w31 ⟨rfl, k31, b31⟩
      have HK31 := Lib.hid k31
      have HBB1 : Hid (Below w23.heap.size w23 w31) := Lib.hid ((HBB0.out.alloc HBB0.out.size _).trans (b31.mono (by have := HBB0.out.size; simp; omega)))
      clear k31 b31
      go_wp2_with fail
      refine (HH2.out _ (w31.alloc (.cells #[.string ⟨#[116, 97, 98, 108, 101]⟩] 9)) _ _ (HK31.out.on ((Below.refl _ _).alloc (Nat.le_refl _) _)) (StrsAt.made w31 [[116, 97, 98, 108, 101]] _ _ 1 1 rfl rfl)).mono ?_
      rintro e w32 ⟨rfl, k32, b32⟩
      have HK32 := Lib.hid k32
      have HBB2 : Hid (Below w23.heap.size w23 w32) := Lib.hid ((HBB1.out.alloc HBB1.out.size _).trans (b32.mono (by have := HBB1.out.size; simp; omega)))
      clear k32 b32
      go_wp2_with fail
      refine (HH3.out _ (w32.alloc (.cells #[.string ⟨#[116, 97, 98, 108, 101]⟩] 9)) _ _ (HK32.out.on ((Below.refl _ _).alloc (Nat.le_refl _) _)) (StrsAt.made w32 [[116, 97, 98, 108, 101]] _ _ 1 1 rfl rfl)).mono ?_
      rintro e w33 ⟨rfl, k33, b33⟩
      have HK33 := Lib.hid k33
      have HBB3 : Hid (Below w23.heap.size w23 w33) := Lib.hid ((HBB2.out.alloc HBB2.out.size _).trans (b33.mono (by have := HBB2.out.size; simp; omega)))
      clear k33 b33
      go_wp2_with fail
      refine (HH4.out _ (w33.alloc (.cells #[.string ⟨#[116, 114]⟩] 9)) _ _ (HK33.out.on ((Below.refl _ _).alloc (Nat.le_refl _) _)) (StrsAt.made w33 [[116, 114]] _ _ 1 1 rfl rfl)).mono ?_
      rintro e w34 ⟨rfl, k34, b34⟩
      have HK34 := Lib.hid k34
      have HBB4 : Hid (Below w23.heap.size w23 w34) := Lib.hid ((HBB3.out.alloc HBB3.out.size _).trans (b34.mono (by have := HBB3.out.size; simp; omega)))
      clear k34 b34
      go_wp2_with fail
      refine (HH5.out _ (w34.alloc (.cells #[.string ⟨#[108, 105]⟩] 9)) _ _ (HK34.out.on ((Below.refl _ _).alloc (Nat.le_refl _) _)) (StrsAt.made w34 [[108, 105]] _ _ 1 1 rfl rfl)).mono ?_
      rintro e w35 ⟨rfl, k35, b35⟩
      have HK35 := Lib.hid k35
      have HBB5 : Hid (Below w23.heap.size w23 w35) := Lib.hid ((HBB4.out.alloc HBB4.out.size _).trans (b35.mono (by have := HBB4.out.size; simp; omega)))
      clear k35 b35
      have u1 := (HBB5.out.cell (p := ⟨w22.heap.size, 3, none⟩) (by have := HU.out.2.2; show w22.heap.size < _; omega)).trans HU.out.1
      have u2 := (HBB5.out.cell (p := ⟨w22.heap.size + 1, 3, none⟩) HU.out.2.2).trans HU.out.2.1
      have u3 : w22.heap.size + 1 < w35.heap.size := Nat.lt_of_lt_of_le HU.out.2.2 HBB5.out.size
      have u4 : w22.heap.size < w35.heap.size := by omega
      have HEND : Hid (Below w.heap.size w w35) := Lib.hid (HB1.out.trans (HK35.out.below.mono HB1.out.size))
      go_wp2_with fail
      go_ret
      exact ⟨rfl, HEND.out.alloc HEND.out.size _⟩
def sk4S0 : List PN := k8S0
def sk4R0 : List EL := [elRoot]
def sk4R1 : List EL := [elRoot, ⟨1, 1, [116, 114]⟩]
def sk4S1 : List PN := addS false sk4S0 sk4R0 1 [116, 114] []
def sk4S : Nat → List PN
  | 0 => sk4S0
  | _ => sk4S1
def sk4R : Nat → List EL
  | 0 => sk4R0
  | _ => sk4R1
set_option maxHeartbeats 4000000 in
set_option maxRecDepth 100000 in
theorem sk_4 (k : Int) (w : World) (h0 : -9223372036854775808 ≤ k) (h1 : k ≤ 9223372036854775807) (hk : Within k 6 = 4) : Calls Try.prog 7 #[.int .i64 k] w (Yes w) := by
  have HKN := Lib.hid (known8_yes w)
  have HN : Hid (∀ W, Calls Try.prog 13 #[] W (fun e w' => ∃ B, e = .returned (.pointer (some ⟨B, 0, none⟩)) ∧ SiteB W w' B sk4S0 [] sk4R0 false 1)) := Lib.hid fun W => bNew8 W
  have HWI : Hid (∀ W, Calls Try.prog 20 #[.int .i64 k, .int .i64 6] W (Gives (.int .i64 4) W)) := Lib.hid fun W => by
    have := within8 k 6 W h0 h1 (by decide) (by decide)
    rw [hk] at this
    exact this
  have HA0 : Hid (∀ W0 W M B, SiteK W0 W M B sk4S0 [] sk4R0 false 1 → Calls Try.prog 17 #[.pointer (some ⟨B, 0, none⟩), .int .i64 1, .string ⟨#[116, 114]⟩, .slice none 0 0] W (fun e w' => e = .returned (.int .i64 1) ∧ StepK W0 W M B sk4S1 [] sk4R1 false 2 w')) := Lib.hid fun W0 W M B h => kAdd h (fun _ => False) 1 [116, 114] [] _ (AttrsP.nil _ _ _ _) (by decide) (by decide) (by decide) (by decide) (by decide +kernel) (by decide) 9 (by decide +kernel)
  have HF : Hid (∀ W0 W M B, SiteK W0 W M B sk4S1 [] sk4R1 false 2 → Calls Try.prog 24 #[.pointer (some ⟨B, 0, none⟩), .bool true] W (fun e w' => e = .returned (.tuple #[]) ∧ StepK W0 W M B sk4S1 [] sk4R1 true 2 w')) := Lib.hid fun W0 W M B h => kFoster h true
  have HT : Hid (∀ W0 W B, SiteB W0 W B sk4S1 [] sk4R1 true 2 → Calls Try.prog 45 #[.pointer (some ⟨B, 0, none⟩)] W (fun e w' => e = .returned (.int .i64 1) ∧ SiteB W0 w' B sk4S1 [] sk4R1 true 2 ∧ Below W.heap.size W w')) := Lib.hid fun W0 W B h => bTop h (by decide) (by decide)
  have HS : Hid (∀ W0 W B, SiteB W0 W B sk4S1 [] sk4R1 true 2 → Calls Try.prog 46 #[.pointer (some ⟨B, 0, none⟩), .int .i64 1] W (fun e w' => e = .returned (.tuple #[.int .i64 0, .int .i64 (-1)]) ∧ SiteB W0 w' B sk4S1 [] sk4R1 true 2 ∧ Below W.heap.size W w')) := Lib.hid fun W0 W B h => by
    have := bSpot h (by decide) (by decide)
    rw [show spotS true (elNamed sk4R1) sk4S1 sk4R1 = (0, (-1)) by decide +kernel] at this
    exact this
  have HH0 : Hid (∀ W0 W B v, SiteB W0 W B sk4S1 [] sk4R1 true 2 → StrsAt W v [[112]] → Calls Try.prog 21 #[.pointer (some ⟨B, 0, none⟩), .int .i64 3, v] W (fun e w' => e = .returned (.bool false) ∧ SiteB W0 w' B sk4S1 [] sk4R1 true 2 ∧ Below W.heap.size W w')) := Lib.hid fun W0 W B v h hv => by
    have := bHas h 3 v [[112]] hv (by decide) (by decide) (by decide) (by decide)
    rw [show hasE sk4R1 3 [[112]] = false by decide +kernel] at this
    exact this
  have HH1 : Hid (∀ W0 W B v, SiteB W0 W B sk4S1 [] sk4R1 true 2 → StrsAt W v [[112]] → Calls Try.prog 21 #[.pointer (some ⟨B, 0, none⟩), .int .i64 3, v] W (fun e w' => e = .returned (.bool false) ∧ SiteB W0 w' B sk4S1 [] sk4R1 true 2 ∧ Below W.heap.size W w')) := Lib.hid fun W0 W B v h hv => by
    have := bHas h 3 v [[112]] hv (by decide) (by decide) (by decide) (by decide)
    rw [show hasE sk4R1 3 [[112]] = false by decide +kernel] at this
    exact this
  have HH2 : Hid (∀ W0 W B v, SiteB W0 W B sk4S1 [] sk4R1 true 2 → StrsAt W v [[116, 97, 98, 108, 101]] → Calls Try.prog 21 #[.pointer (some ⟨B, 0, none⟩), .int .i64 4, v] W (fun e w' => e = .returned (.bool false) ∧ SiteB W0 w' B sk4S1 [] sk4R1 true 2 ∧ Below W.heap.size W w')) := Lib.hid fun W0 W B v h hv => by
    have := bHas h 4 v [[116, 97, 98, 108, 101]] hv (by decide) (by decide) (by decide) (by decide)
    rw [show hasE sk4R1 4 [[116, 97, 98, 108, 101]] = false by decide +kernel] at this
    exact this
  have HH3 : Hid (∀ W0 W B v, SiteB W0 W B sk4S1 [] sk4R1 true 2 → StrsAt W v [[116, 97, 98, 108, 101]] → Calls Try.prog 21 #[.pointer (some ⟨B, 0, none⟩), .int .i64 4, v] W (fun e w' => e = .returned (.bool false) ∧ SiteB W0 w' B sk4S1 [] sk4R1 true 2 ∧ Below W.heap.size W w')) := Lib.hid fun W0 W B v h hv => by
    have := bHas h 4 v [[116, 97, 98, 108, 101]] hv (by decide) (by decide) (by decide) (by decide)
    rw [show hasE sk4R1 4 [[116, 97, 98, 108, 101]] = false by decide +kernel] at this
    exact this
  have HH4 : Hid (∀ W0 W B v, SiteB W0 W B sk4S1 [] sk4R1 true 2 → StrsAt W v [[116, 114]] → Calls Try.prog 21 #[.pointer (some ⟨B, 0, none⟩), .int .i64 1, v] W (fun e w' => e = .returned (.bool true) ∧ SiteB W0 w' B sk4S1 [] sk4R1 true 2 ∧ Below W.heap.size W w')) := Lib.hid fun W0 W B v h hv => by
    have := bHas h 1 v [[116, 114]] hv (by decide) (by decide) (by decide) (by decide)
    rw [show hasE sk4R1 1 [[116, 114]] = true by decide +kernel] at this
    exact this
  have HH5 : Hid (∀ W0 W B v, SiteB W0 W B sk4S1 [] sk4R1 true 2 → StrsAt W v [[108, 105]] → Calls Try.prog 21 #[.pointer (some ⟨B, 0, none⟩), .int .i64 2, v] W (fun e w' => e = .returned (.bool false) ∧ SiteB W0 w' B sk4S1 [] sk4R1 true 2 ∧ Below W.heap.size W w')) := Lib.hid fun W0 W B v h hv => by
    have := bHas h 2 v [[108, 105]] hv (by decide) (by decide) (by decide) (by decide)
    rw [show hasE sk4R1 2 [[108, 105]] = false by decide +kernel] at this
    exact this
  clear h0 h1 hk
  go_enter Try.func7, Try.ntmps7
  go_wp2_with fail
  refine HKN.out.mono ?_
  rintro e w1 ⟨rfl, hb1⟩
  have HB1 := Lib.hid hb1
  clear hb1
  go_wp2_with fail
  refine (HN.out w1).mono ?_
  rintro e w2 ⟨B, rfl, hs2⟩
  obtain ⟨D, MD, hdoc, -, -⟩ := bDoc hs2
  have HD2 := Lib.hid hdoc
  have HS2 := Lib.hid hs2.k
  clear hs2 hdoc
  go_wp2_with fail
  refine HD2.out.mono ?_
  rintro e w2' ⟨rfl, rfl⟩
  go_wp2_with fail
  refine (HWI.out _).mono ?_
  rintro e w3 ⟨rfl, rfl⟩
  go_wp2_with fail
  change Code.wp Try.prog _ _ _ (allocs w2 (skObjs w2))
  have HBA : Hid (Below w2.heap.size w2 (allocs w2 (skObjs w2))) := Lib.hid (allocs_below w2 _)
  have HS3 := Lib.hid (HS2.out.on HBA.out)
  have HBL : Hid (Bes (fun b => w1.heap.size ≤ b ∧ b < w2.heap.size) (allocs w2 (skObjs w2)) (w2.heap.size + 1 + 1 + 1 + 1 + 1 + 1) (skTab w2)) := Lib.hid (Bes.made (fun _ k => k.2) 6 _ rfl)
  have HBN : Hid (Bes (fun b => w1.heap.size ≤ b ∧ b < w2.heap.size) (allocs w2 (skObjs w2)) (w2.heap.size + 1 + 1 + 1 + 1) (skRow4)) := Lib.hid (Bes.made (fun _ k => k.2) 4 _ rfl)
  unfold skTab at HBL
  unfold skRow4 at HBN
  generalize allocs w2 (skObjs w2) = w4 at *
  have HB4 : Hid (Below w.heap.size w w4) := Lib.hid (HB1.out.trans (HS3.out.below.mono HB1.out.size))
  clear HBA HS2
  go_loopw [6] (fun v wr => ∃ (j : Nat) (M : Nat → Prop), j ≤ 1 ∧ v = .int .i64 (j : Int) ∧ SiteK w1 wr M B (sk4S j) [] (sk4R j) false (1 + j) ∧ Bes M wr (w2.heap.size + 1 + 1 + 1 + 1 + 1 + 1) (skTab w2) ∧ Bes M wr (w2.heap.size + 1 + 1 + 1 + 1) skRow4) (fun v _ => 2 - (intOf v).toNat)
  case atStart => exact ⟨0, _, Nat.zero_le _, rfl, HS3.out, HBL.out, HBN.out⟩
  case round =>
    obtain ⟨j, M, hj, rfl, hs, hl, hn⟩ := hrel
    clear HBL HBN HS3 HB4
    have HSJ := Lib.hid hs
    have HBL := Lib.hid hl
    have HBN := Lib.hid hn
    unfold skTab at HBL
    unfold skRow4 at HBN
    have l4 := HBL.out.cell 4
    have s4 := heap_lt HBL.out.2
    have n4 := heap_lt HBN.out.2
    have m40 := HBN.out.cell 0
    simp at l4 m40
    clear hs
    obtain rfl | rfl : j = 0 ∨ j = 1 := by omega
    · have HC := Lib.hid (HA0.out w1 wr M B HSJ.out)
      clear hj
      go_wp2_with fail
      refine HC.out.mono ?_
      rintro e w5 ⟨rfl, M5, k5, ks5, kt5⟩
      have HK := Lib.hid k5
      have HL5 := Lib.hid (hl.step ks5 kt5)
      have HN5 := Lib.hid (hn.step ks5 kt5)
      clear k5 ks5 kt5 hl hn
      go_wp2_with fail
      exact ⟨⟨1, M5, by omega, rfl, HK.out, HL5.out, HN5.out⟩, by simp [intOf]⟩
    · have HKN2 := Lib.hid (HF.out w1 wr M B HSJ.out)
      clear hj hl hn
      go_wp2_with fail
      refine HKN2.out.mono ?_
      rintro e w20 ⟨rfl, M20, k20, -, -⟩
      have HK20 := Lib.hid k20.b
      clear k20
      go_wp2_with fail
      refine (HT.out _ _ _ HK20.out).mono ?_
      rintro e w21 ⟨rfl, k21, -⟩
      have HK21 := Lib.hid k21
      clear k21 HK20
      go_wp2_with fail
      refine (HS.out _ _ _ HK21.out).mono ?_
      rintro e w22 ⟨rfl, k22, -⟩
      obtain ⟨w23, hw23⟩ : ∃ w23, w23 = (w22.alloc (.cells #[.int .i64 2, .int .i64 2, .int .i64 0, .int .i64 2, .int .i64 0, .int .i64 2] 3)).alloc (.cells #[.int .i64 (-1), .int .i64 (-1), .int .i64 1, .int .i64 (-1), .int .i64 (-1), .int .i64 (-1)] 3) := ⟨_, rfl⟩
      have hwa : w23 = allocs w22 skUps := hw23
      have HBT : Hid (Below w22.heap.size w22 w23) := Lib.hid (by rw [hwa]; exact allocs_below w22 _)
      have HK22 := Lib.hid (k22.on HBT.out)
      have HU : Hid (w23.cell? ⟨w22.heap.size, 4, none⟩ = some (.int .i64 0) ∧ w23.cell? ⟨w22.heap.size + 1, 4, none⟩ = some (.int .i64 (-1)) ∧ w22.heap.size + 1 < w23.heap.size) := Lib.hid (by rw [hwa]; exact ⟨blk_cell (allocs_heap w22 skUps 0 _ rfl) 4, blk_cell (allocs_heap w22 skUps 1 _ rfl) 4, by rw [allocs_size]; simp [skUps]⟩)
      have HW23 := Lib.hid hw23
      have HV0 : Hid (StrsAt (w23.alloc (.cells #[.string ⟨#[112]⟩] 9)) (.slice (some ⟨w22.heap.size + 1 + 1, 0, none⟩) 1 1) [[112]]) := Lib.hid (by
        have hz : w23.heap.size = w22.heap.size + 1 + 1 := by rw [hwa, allocs_size]; rfl
        rw [← hz]
        exact StrsAt.made w23 [[112]] _ _ 1 1 rfl rfl)
      clear hwa hw23
      clear k22 HK21
      go_wp2_with fail
      rw [← HW23.out]
      clear HW23 HBT
      refine (HH0.out _ (w23.alloc (.cells #[.string ⟨#[112]⟩] 9)) _ _ (HK22.out.on ((Below.refl _ _).alloc (Nat.le_refl _) _)) (HV0.out)).mono ?_
      rintro e w30 ⟨rfl, k30, b30⟩
      have HK30 := Lib.hid k30
      have HBB0 : Hid (Below w23.heap.size w23 w30) := Lib.hid (((Below.refl _ _).alloc (Nat.le_refl _) _).trans (b30.mono (by simp)))
      clear k30 b30
      go_wp2_with fail
      refine (HH1.out _ (w30.alloc (.cells #[.string ⟨#[112]⟩] 9)) _ _ (HK30.out.on ((Below.refl _ _).alloc (Nat.le_refl _) _)) (StrsAt.made w30 [[112]] _ _ 1 1 rfl rfl)).mono ?_
      rintro e w31 ⟨rfl, k31, b31⟩
      have HK31 := Lib.hid k31
      have HBB1 : Hid (Below w23.heap.size w23 w31) := Lib.hid ((HBB0.out.alloc HBB0.out.size _).trans (b31.mono (by have := HBB0.out.size; simp; omega)))
      clear k31 b31
      go_wp2_with fail
      refine (HH2.out _ (w31.alloc (.cells #[.string ⟨#[116, 97, 98, 108, 101]⟩] 9)) _ _ (HK31.out.on ((Below.refl _ _).alloc (Nat.le_refl _) _)) (StrsAt.made w31 [[116, 97, 98, 108, 101]] _ _ 1 1 rfl rfl)).mono ?_
      rintro e w32 ⟨rfl, k32, b32⟩
      have HK32 := Lib.hid k32
      have HBB2 : Hid (Below w23.heap.size w23 w32) := Lib.hid ((HBB1.out.alloc HBB1.out.size _).trans (b32.mono (by have := HBB1.out.size; simp; omega)))
      clear k32 b32
      go_wp2_with fail
      refine (HH3.out _ (w32.alloc (.cells #[.string ⟨#[116, 97, 98, 108, 101]⟩] 9)) _ _ (HK32.out.on ((Below.refl _ _).alloc (Nat.le_refl _) _)) (StrsAt.made w32 [[116, 97, 98, 108, 101]] _ _ 1 1 rfl rfl)).mono ?_
      rintro e w33 ⟨rfl, k33, b33⟩
      have HK33 := Lib.hid k33
      have HBB3 : Hid (Below w23.heap.size w23 w33) := Lib.hid ((HBB2.out.alloc HBB2.out.size _).trans (b33.mono (by have := HBB2.out.size; simp; omega)))
      clear k33 b33
      go_wp2_with fail
      refine (HH4.out _ (w33.alloc (.cells #[.string ⟨#[116, 114]⟩] 9)) _ _ (HK33.out.on ((Below.refl _ _).alloc (Nat.le_refl _) _)) (StrsAt.made w33 [[116, 114]] _ _ 1 1 rfl rfl)).mono ?_
      rintro e w34 ⟨rfl, k34, b34⟩
      have HK34 := Lib.hid k34
      have HBB4 : Hid (Below w23.heap.size w23 w34) := Lib.hid ((HBB3.out.alloc HBB3.out.size _).trans (b34.mono (by have := HBB3.out.size; simp; omega)))
      clear k34 b34
      go_wp2_with fail
      refine (HH5.out _ (w34.alloc (.cells #[.string ⟨#[108, 105]⟩] 9)) _ _ (HK34.out.on ((Below.refl _ _).alloc (Nat.le_refl _) _)) (StrsAt.made w34 [[108, 105]] _ _ 1 1 rfl rfl)).mono ?_
      rintro e w35 ⟨rfl, k35, b35⟩
      have HK35 := Lib.hid k35
      have HBB5 : Hid (Below w23.heap.size w23 w35) := Lib.hid ((HBB4.out.alloc HBB4.out.size _).trans (b35.mono (by have := HBB4.out.size; simp; omega)))
      clear k35 b35
      have u1 := (HBB5.out.cell (p := ⟨w22.heap.size, 4, none⟩) (by have := HU.out.2.2; show w22.heap.size < _; omega)).trans HU.out.1
      have u2 := (HBB5.out.cell (p := ⟨w22.heap.size + 1, 4, none⟩) HU.out.2.2).trans HU.out.2.1
      have u3 : w22.heap.size + 1 < w35.heap.size := Nat.lt_of_lt_of_le HU.out.2.2 HBB5.out.size
      have u4 : w22.heap.size < w35.heap.size := by omega
      have HEND : Hid (Below w.heap.size w w35) := Lib.hid (HB1.out.trans (HK35.out.below.mono HB1.out.size))
      go_wp2_with fail
      go_ret
      exact ⟨rfl, HEND.out.alloc HEND.out.size _⟩
def sk5S0 : List PN := k8S0
def sk5R0 : List EL := [elRoot]
def sk5R1 : List EL := [elRoot, ⟨1, 1, [108, 105]⟩]
def sk5R2 : List EL := [elRoot, ⟨1, 1, [108, 105]⟩, ⟨2, 1, [117, 108]⟩]
def sk5S1 : List PN := addS false sk5S0 sk5R0 1 [108, 105] []
def sk5S2 : List PN := addS false sk5S1 sk5R1 1 [117, 108] []
def sk5S : Nat → List PN
  | 0 => sk5S0
  | 1 => sk5S1
  | _ => sk5S2
def sk5R : Nat → List EL
  | 0 => sk5R0
  | 1 => sk5R1
  | _ => sk5R2
set_option maxHeartbeats 4000000 in
set_option maxRecDepth 100000 in
theorem sk_5 (k : Int) (w : World) (h0 : -9223372036854775808 ≤ k) (h1 : k ≤ 9223372036854775807) (hk : Within k 6 = 5) : Calls Try.prog 7 #[.int .i64 k] w (Yes w) := by
  have HKN := Lib.hid (known8_yes w)
  have HN : Hid (∀ W, Calls Try.prog 13 #[] W (fun e w' => ∃ B, e = .returned (.pointer (some ⟨B, 0, none⟩)) ∧ SiteB W w' B sk5S0 [] sk5R0 false 1)) := Lib.hid fun W => bNew8 W
  have HWI : Hid (∀ W, Calls Try.prog 20 #[.int .i64 k, .int .i64 6] W (Gives (.int .i64 5) W)) := Lib.hid fun W => by
    have := within8 k 6 W h0 h1 (by decide) (by decide)
    rw [hk] at this
    exact this
  have HA0 : Hid (∀ W0 W M B, SiteK W0 W M B sk5S0 [] sk5R0 false 1 → Calls Try.prog 17 #[.pointer (some ⟨B, 0, none⟩), .int .i64 1, .string ⟨#[108, 105]⟩, .slice none 0 0] W (fun e w' => e = .returned (.int .i64 1) ∧ StepK W0 W M B sk5S1 [] sk5R1 false 2 w')) := Lib.hid fun W0 W M B h => kAdd h (fun _ => False) 1 [108, 105] [] _ (AttrsP.nil _ _ _ _) (by decide) (by decide) (by decide) (by decide) (by decide +kernel) (by decide) 9 (by decide +kernel)
  have HA1 : Hid (∀ W0 W M B, SiteK W0 W M B sk5S1 [] sk5R1 false 2 → Calls Try.prog 17 #[.pointer (some ⟨B, 0, none⟩), .int .i64 1, .string ⟨#[117, 108]⟩, .slice none 0 0] W (fun e w' => e = .returned (.int .i64 2) ∧ StepK W0 W M B sk5S2 [] sk5R2 false 3 w')) := Lib.hid fun W0 W M B h => kAdd h (fun _ => False) 1 [117, 108] [] _ (AttrsP.nil _ _ _ _) (by decide) (by decide) (by decide) (by decide) (by decide +kernel) (by decide) 9 (by decide +kernel)
  have HF : Hid (∀ W0 W M B, SiteK W0 W M B sk5S2 [] sk5R2 false 3 → Calls Try.prog 24 #[.pointer (some ⟨B, 0, none⟩), .bool true] W (fun e w' => e = .returned (.tuple #[]) ∧ StepK W0 W M B sk5S2 [] sk5R2 true 3 w')) := Lib.hid fun W0 W M B h => kFoster h true
  have HT : Hid (∀ W0 W B, SiteB W0 W B sk5S2 [] sk5R2 true 3 → Calls Try.prog 45 #[.pointer (some ⟨B, 0, none⟩)] W (fun e w' => e = .returned (.int .i64 2) ∧ SiteB W0 w' B sk5S2 [] sk5R2 true 3 ∧ Below W.heap.size W w')) := Lib.hid fun W0 W B h => bTop h (by decide) (by decide)
  have HS : Hid (∀ W0 W B, SiteB W0 W B sk5S2 [] sk5R2 true 3 → Calls Try.prog 46 #[.pointer (some ⟨B, 0, none⟩), .int .i64 2] W (fun e w' => e = .returned (.tuple #[.int .i64 2, .int .i64 (-1)]) ∧ SiteB W0 w' B sk5S2 [] sk5R2 true 3 ∧ Below W.heap.size W w')) := Lib.hid fun W0 W B h => by
    have := bSpot h (by decide) (by decide)
    rw [show spotS true (elNamed sk5R2) sk5S2 sk5R2 = (2, (-1)) by decide +kernel] at this
    exact this
  have HH0 : Hid (∀ W0 W B v, SiteB W0 W B sk5S2 [] sk5R2 true 3 → StrsAt W v [[112]] → Calls Try.prog 21 #[.pointer (some ⟨B, 0, none⟩), .int .i64 3, v] W (fun e w' => e = .returned (.bool false) ∧ SiteB W0 w' B sk5S2 [] sk5R2 true 3 ∧ Below W.heap.size W w')) := Lib.hid fun W0 W B v h hv => by
    have := bHas h 3 v [[112]] hv (by decide) (by decide) (by decide) (by decide)
    rw [show hasE sk5R2 3 [[112]] = false by decide +kernel] at this
    exact this
  have HH1 : Hid (∀ W0 W B v, SiteB W0 W B sk5S2 [] sk5R2 true 3 → StrsAt W v [[112]] → Calls Try.prog 21 #[.pointer (some ⟨B, 0, none⟩), .int .i64 3, v] W (fun e w' => e = .returned (.bool false) ∧ SiteB W0 w' B sk5S2 [] sk5R2 true 3 ∧ Below W.heap.size W w')) := Lib.hid fun W0 W B v h hv => by
    have := bHas h 3 v [[112]] hv (by decide) (by decide) (by decide) (by decide)
    rw [show hasE sk5R2 3 [[112]] = false by decide +kernel] at this
    exact this
  have HH2 : Hid (∀ W0 W B v, SiteB W0 W B sk5S2 [] sk5R2 true 3 → StrsAt W v [[116, 97, 98, 108, 101]] → Calls Try.prog 21 #[.pointer (some ⟨B, 0, none⟩), .int .i64 4, v] W (fun e w' => e = .returned (.bool false) ∧ SiteB W0 w' B sk5S2 [] sk5R2 true 3 ∧ Below W.heap.size W w')) := Lib.hid fun W0 W B v h hv => by
    have := bHas h 4 v [[116, 97, 98, 108, 101]] hv (by decide) (by decide) (by decide) (by decide)
    rw [show hasE sk5R2 4 [[116, 97, 98, 108, 101]] = false by decide +kernel] at this
    exact this
  have HH3 : Hid (∀ W0 W B v, SiteB W0 W B sk5S2 [] sk5R2 true 3 → StrsAt W v [[116, 97, 98, 108, 101]] → Calls Try.prog 21 #[.pointer (some ⟨B, 0, none⟩), .int .i64 4, v] W (fun e w' => e = .returned (.bool false) ∧ SiteB W0 w' B sk5S2 [] sk5R2 true 3 ∧ Below W.heap.size W w')) := Lib.hid fun W0 W B v h hv => by
    have := bHas h 4 v [[116, 97, 98, 108, 101]] hv (by decide) (by decide) (by decide) (by decide)
    rw [show hasE sk5R2 4 [[116, 97, 98, 108, 101]] = false by decide +kernel] at this
    exact this
  have HH4 : Hid (∀ W0 W B v, SiteB W0 W B sk5S2 [] sk5R2 true 3 → StrsAt W v [[116, 114]] → Calls Try.prog 21 #[.pointer (some ⟨B, 0, none⟩), .int .i64 1, v] W (fun e w' => e = .returned (.bool false) ∧ SiteB W0 w' B sk5S2 [] sk5R2 true 3 ∧ Below W.heap.size W w')) := Lib.hid fun W0 W B v h hv => by
    have := bHas h 1 v [[116, 114]] hv (by decide) (by decide) (by decide) (by decide)
    rw [show hasE sk5R2 1 [[116, 114]] = false by decide +kernel] at this
    exact this
  have HH5 : Hid (∀ W0 W B v, SiteB W0 W B sk5S2 [] sk5R2 true 3 → StrsAt W v [[108, 105]] → Calls Try.prog 21 #[.pointer (some ⟨B, 0, none⟩), .int .i64 2, v] W (fun e w' => e = .returned (.bool false) ∧ SiteB W0 w' B sk5S2 [] sk5R2 true 3 ∧ Below W.heap.size W w')) := Lib.hid fun W0 W B v h hv => by
    have := bHas h 2 v [[108, 105]] hv (by decide) (by decide) (by decide) (by decide)
    rw [show hasE sk5R2 2 [[108, 105]] = false by decide +kernel] at this
    exact this
  clear h0 h1 hk
  go_enter Try.func7, Try.ntmps7
  go_wp2_with fail
  refine HKN.out.mono ?_
  rintro e w1 ⟨rfl, hb1⟩
  have HB1 := Lib.hid hb1
  clear hb1
  go_wp2_with fail
  refine (HN.out w1).mono ?_
  rintro e w2 ⟨B, rfl, hs2⟩
  obtain ⟨D, MD, hdoc, -, -⟩ := bDoc hs2
  have HD2 := Lib.hid hdoc
  have HS2 := Lib.hid hs2.k
  clear hs2 hdoc
  go_wp2_with fail
  refine HD2.out.mono ?_
  rintro e w2' ⟨rfl, rfl⟩
  go_wp2_with fail
  refine (HWI.out _).mono ?_
  rintro e w3 ⟨rfl, rfl⟩
  go_wp2_with fail
  change Code.wp Try.prog _ _ _ (allocs w2 (skObjs w2))
  have HBA : Hid (Below w2.heap.size w2 (allocs w2 (skObjs w2))) := Lib.hid (allocs_below w2 _)
  have HS3 := Lib.hid (HS2.out.on HBA.out)
  have HBL : Hid (Bes (fun b => w1.heap.size ≤ b ∧ b < w2.heap.size) (allocs w2 (skObjs w2)) (w2.heap.size + 1 + 1 + 1 + 1 + 1 + 1) (skTab w2)) := Lib.hid (Bes.made (fun _ k => k.2) 6 _ rfl)
  have HBN : Hid (Bes (fun b => w1.heap.size ≤ b ∧ b < w2.heap.size) (allocs w2 (skObjs w2)) (w2.heap.size + 1 + 1 + 1 + 1 + 1) (skRow5)) := Lib.hid (Bes.made (fun _ k => k.2) 5 _ rfl)
  unfold skTab at HBL
  unfold skRow5 at HBN
  generalize allocs w2 (skObjs w2) = w4 at *
  have HB4 : Hid (Below w.heap.size w w4) := Lib.hid (HB1.out.trans (HS3.out.below.mono HB1.out.size))
  clear HBA HS2
  go_loopw [6] (fun v wr => ∃ (j : Nat) (M : Nat → Prop), j ≤ 2 ∧ v = .int .i64 (j : Int) ∧ SiteK w1 wr M B (sk5S j) [] (sk5R j) false (1 + j) ∧ Bes M wr (w2.heap.size + 1 + 1 + 1 + 1 + 1 + 1) (skTab w2) ∧ Bes M wr (w2.heap.size + 1 + 1 + 1 + 1 + 1) skRow5) (fun v _ => 3 - (intOf v).toNat)
  case atStart => exact ⟨0, _, Nat.zero_le _, rfl, HS3.out, HBL.out, HBN.out⟩
  case round =>
    obtain ⟨j, M, hj, rfl, hs, hl, hn⟩ := hrel
    clear HBL HBN HS3 HB4
    have HSJ := Lib.hid hs
    have HBL := Lib.hid hl
    have HBN := Lib.hid hn
    unfold skTab at HBL
    unfold skRow5 at HBN
    have l4 := HBL.out.cell 5
    have s4 := heap_lt HBL.out.2
    have n4 := heap_lt HBN.out.2
    have m40 := HBN.out.cell 0
    have m41 := HBN.out.cell 1
    simp at l4 m40 m41
    clear hs
    obtain rfl | rfl | rfl : j = 0 ∨ j = 1 ∨ j = 2 := by omega
    · have HC := Lib.hid (HA0.out w1 wr M B HSJ.out)
      clear hj
      go_wp2_with fail
      refine HC.out.mono ?_
      rintro e w5 ⟨rfl, M5, k5, ks5, kt5⟩
      have HK := Lib.hid k5
      have HL5 := Lib.hid (hl.step ks5 kt5)
      have HN5 := Lib.hid (hn.step ks5 kt5)
      clear k5 ks5 kt5 hl hn
      go_wp2_with fail
      exact ⟨⟨1, M5, by omega, rfl, HK.out, HL5.out, HN5.out⟩, by simp [intOf]⟩
    · have HC := Lib.hid (HA1.out w1 wr M B HSJ.out)
      clear hj
      go_wp2_with fail
      refine HC.out.mono ?_
      rintro e w5 ⟨rfl, M5, k5, ks5, kt5⟩
      have HK := Lib.hid k5
      have HL5 := Lib.hid (hl.step ks5 kt5)
      have HN5 := Lib.hid (hn.step ks5 kt5)
      clear k5 ks5 kt5 hl hn
      go_wp2_with fail
      exact ⟨⟨2, M5, by omega, rfl, HK.out, HL5.out, HN5.out⟩, by simp [intOf]⟩
    · have HKN2 := Lib.hid (HF.out w1 wr M B HSJ.out)
      clear hj hl hn
      go_wp2_with fail
      refine HKN2.out.mono ?_
      rintro e w20 ⟨rfl, M20, k20, -, -⟩
      have HK20 := Lib.hid k20.b
      clear k20
      go_wp2_with fail
      refine (HT.out _ _ _ HK20.out).mono ?_
      rintro e w21 ⟨rfl, k21, -⟩
      have HK21 := Lib.hid k21
      clear k21 HK20
      go_wp2_with fail
      refine (HS.out _ _ _ HK21.out).mono ?_
      rintro e w22 ⟨rfl, k22, -⟩
      obtain ⟨w23, hw23⟩ : ∃ w23, w23 = (w22.alloc (.cells #[.int .i64 2, .int .i64 2, .int .i64 0, .int .i64 2, .int .i64 0, .int .i64 2] 3)).alloc (.cells #[.int .i64 (-1), .int .i64 (-1), .int .i64 1, .int .i64 (-1), .int .i64 (-1), .int .i64 (-1)] 3) := ⟨_, rfl⟩
      have hwa : w23 = allocs w22 skUps := hw23
      have HBT : Hid (Below w22.heap.size w22 w23) := Lib.hid (by rw [hwa]; exact allocs_below w22 _)
      have HK22 := Lib.hid (k22.on HBT.out)
      have HU : Hid (w23.cell? ⟨w22.heap.size, 5, none⟩ = some (.int .i64 2) ∧ w23.cell? ⟨w22.heap.size + 1, 5, none⟩ = some (.int .i64 (-1)) ∧ w22.heap.size + 1 < w23.heap.size) := Lib.hid (by rw [hwa]; exact ⟨blk_cell (allocs_heap w22 skUps 0 _ rfl) 5, blk_cell (allocs_heap w22 skUps 1 _ rfl) 5, by rw [allocs_size]; simp [skUps]⟩)
      have HW23 := Lib.hid hw23
      have HV0 : Hid (StrsAt (w23.alloc (.cells #[.string ⟨#[112]⟩] 9)) (.slice (some ⟨w22.heap.size + 1 + 1, 0, none⟩) 1 1) [[112]]) := Lib.hid (by
        have hz : w23.heap.size = w22.heap.size + 1 + 1 := by rw [hwa, allocs_size]; rfl
        rw [← hz]
        exact StrsAt.made w23 [[112]] _ _ 1 1 rfl rfl)
      clear hwa hw23
      clear k22 HK21
      go_wp2_with fail
      rw [← HW23.out]
      clear HW23 HBT
      refine (HH0.out _ (w23.alloc (.cells #[.string ⟨#[112]⟩] 9)) _ _ (HK22.out.on ((Below.refl _ _).alloc (Nat.le_refl _) _)) (HV0.out)).mono ?_
      rintro e w30 ⟨rfl, k30, b30⟩
      have HK30 := Lib.hid k30
      have HBB0 : Hid (Below w23.heap.size w23 w30) := Lib.hid (((Below.refl _ _).alloc (Nat.le_refl _) _).trans (b30.mono (by simp)))
      clear k30 b30
      go_wp2_with fail
      refine (HH1.out _ (w30.alloc (.cells #[.string ⟨#[112]⟩] 9)) _ _ (HK30.out.on ((Below.refl _ _).alloc (Nat.le_refl _) _)) (StrsAt.made w30 [[112]] _ _ 1 1 rfl rfl)).mono ?_
      rintro e w31 ⟨rfl, k31, b31⟩
      have HK31 := Lib.hid k31
      have HBB1 : Hid (Below w23.heap.size w23 w31) := Lib.hid ((HBB0.out.alloc HBB0.out.size _).trans (b31.mono (by have := HBB0.out.size; simp; omega)))
      clear k31 b31
      go_wp2_with fail
      refine (HH2.out _ (w31.alloc (.cells #[.string ⟨#[116, 97, 98, 108, 101]⟩] 9)) _ _ (HK31.out.on ((Below.refl _ _).alloc (Nat.le_refl _) _)) (StrsAt.made w31 [[116, 97, 98, 108, 101]] _ _ 1 1 rfl rfl)).mono ?_
      rintro e w32 ⟨rfl, k32, b32⟩
      have HK32 := Lib.hid k32
      have HBB2 : Hid (Below w23.heap.size w23 w32) := Lib.hid ((HBB1.out.alloc HBB1.out.size _).trans (b32.mono (by have := HBB1.out.size; simp; omega)))
      clear k32 b32
      go_wp2_with fail
      refine (HH3.out _ (w32.alloc (.cells #[.string ⟨#[116, 97, 98, 108, 101]⟩] 9)) _ _ (HK32.out.on ((Below.refl _ _).alloc (Nat.le_refl _) _)) (StrsAt.made w32 [[116, 97, 98, 108, 101]] _ _ 1 1 rfl rfl)).mono ?_
      rintro e w33 ⟨rfl, k33, b33⟩
      have HK33 := Lib.hid k33
      have HBB3 : Hid (Below w23.heap.size w23 w33) := Lib.hid ((HBB2.out.alloc HBB2.out.size _).trans (b33.mono (by have := HBB2.out.size; simp; omega)))
      clear k33 b33
      go_wp2_with fail
      refine (HH4.out _ (w33.alloc (.cells #[.string ⟨#[116, 114]⟩] 9)) _ _ (HK33.out.on ((Below.refl _ _).alloc (Nat.le_refl _) _)) (StrsAt.made w33 [[116, 114]] _ _ 1 1 rfl rfl)).mono ?_
      rintro e w34 ⟨rfl, k34, b34⟩
      have HK34 := Lib.hid k34
      have HBB4 : Hid (Below w23.heap.size w23 w34) := Lib.hid ((HBB3.out.alloc HBB3.out.size _).trans (b34.mono (by have := HBB3.out.size; simp; omega)))
      clear k34 b34
      go_wp2_with fail
      refine (HH5.out _ (w34.alloc (.cells #[.string ⟨#[108, 105]⟩] 9)) _ _ (HK34.out.on ((Below.refl _ _).alloc (Nat.le_refl _) _)) (StrsAt.made w34 [[108, 105]] _ _ 1 1 rfl rfl)).mono ?_
      rintro e w35 ⟨rfl, k35, b35⟩
      have HK35 := Lib.hid k35
      have HBB5 : Hid (Below w23.heap.size w23 w35) := Lib.hid ((HBB4.out.alloc HBB4.out.size _).trans (b35.mono (by have := HBB4.out.size; simp; omega)))
      clear k35 b35
      have u1 := (HBB5.out.cell (p := ⟨w22.heap.size, 5, none⟩) (by have := HU.out.2.2; show w22.heap.size < _; omega)).trans HU.out.1
      have u2 := (HBB5.out.cell (p := ⟨w22.heap.size + 1, 5, none⟩) HU.out.2.2).trans HU.out.2.1
      have u3 : w22.heap.size + 1 < w35.heap.size := Nat.lt_of_lt_of_le HU.out.2.2 HBB5.out.size
      have u4 : w22.heap.size < w35.heap.size := by omega
      have HEND : Hid (Below w.heap.size w w35) := Lib.hid (HB1.out.trans (HK35.out.below.mono HB1.out.size))
      go_wp2_with fail
      go_ret
      exact ⟨rfl, HEND.out.alloc HEND.out.size _⟩
theorem siteKnown_walk (k : Int) (w : World) (h0 : -9223372036854775808 ≤ k) (h1 : k ≤ 9223372036854775807) : Calls Try.prog 7 #[.int .i64 k] w (Yes w) := by
  have hl := (within_lt k 6 (by decide)).1
  obtain h | h | h | h | h | h : Within k 6 = 0 ∨ Within k 6 = 1 ∨ Within k 6 = 2 ∨ Within k 6 = 3 ∨ Within k 6 = 4 ∨ Within k 6 = 5 := by omega
  · exact sk_0 k w h0 h1 h
  · exact sk_1 k w h0 h1 h
  · exact sk_2 k w h0 h1 h
  · exact sk_3 k w h0 h1 h
  · exact sk_4 k w h0 h1 h
  · exact sk_5 k w h0 h1 h
end Go.Proofs.Ytjlkdhbgomamjaa
