/-
  The walk of the law TagReads: true, and nothing old is changed. The library's number MaxLen and the table of package refs are there.
-/
import Derived.Test.YtklhllgdkmpnmaaDoorULawA
namespace Go.Proofs.YtklhllgdkmpnmaaDoor
open Go.RowKit

/-- Rows of six texts in a block. -/
def SixAt (B : Nat) (W : World) : Prop := ∀ i, i < 6 → ∃ x : ByteArray, x.size ≤ 1000 ∧ W.cell? ⟨B, i, none⟩ = some (.string x)
theorem SixAt.mk (W : World) (x0 x1 x2 x3 x4 x5 : ByteArray) (h : x0.size ≤ 1000 ∧ x1.size ≤ 1000 ∧ x2.size ≤ 1000 ∧ x3.size ≤ 1000 ∧ x4.size ≤ 1000 ∧ x5.size ≤ 1000) : SixAt W.heap.size (W.alloc (.cells #[.string x0, .string x1, .string x2, .string x3, .string x4, .string x5] 9)) := by
  intro i hi
  have c : ∀ j, (W.alloc (.cells #[.string x0, .string x1, .string x2, .string x3, .string x4, .string x5] 9)).cell? ⟨W.heap.size, j, none⟩ = (#[.string x0, .string x1, .string x2, .string x3, .string x4, .string x5] : Array Value)[j]? := fun j => World.cell?_alloc_mark W _ 9 (0, 0) j
  rw [c i]
  match i, hi with
  | 0, _ => exact ⟨x0, h.1, rfl⟩
  | 1, _ => exact ⟨x1, h.2.1, rfl⟩
  | 2, _ => exact ⟨x2, h.2.2.1, rfl⟩
  | 3, _ => exact ⟨x3, h.2.2.2.1, rfl⟩
  | 4, _ => exact ⟨x4, h.2.2.2.2.1, rfl⟩
  | 5, _ => exact ⟨x5, h.2.2.2.2.2, rfl⟩

set_option maxHeartbeats 2000000 in
set_option maxRecDepth 100000 in
theorem tagReads_walk (v : Value) (n : Nat) (raw : ByteArray) (w : World) (hv : IntsIn w v n) (hraw : raw.size ≤ maxLen) (hmax : HasMax w) (hea : HasEarly w) :
    Calls Tryd.prog 4 #[v, .string raw] w (Yes w) := by
  have HK := Lib.hid (known3_yes w hmax hea)
  have HV := Lib.hid hv
  have HMX := Lib.hid hmax
  have HEA := Lib.hid hea
  have hE := hea.size
  unfold maxLen at hraw
  clear hmax hea hv
  by_cases hb : 200 < raw.size
  · go_enter Tryd.func4, Tryd.ntmps4
    go_wp2_with fail
    refine HK.out.mono ?_
    rintro e w1 ⟨rfl, b1⟩
    have hb' : (200 : Int) < (raw.size : Int) := by omega
    go_wp2
    go_ret
    exact ⟨rfl, b1⟩
  · have hb' : ¬ (200 : Int) < (raw.size : Int) := by omega
    go_enter Tryd.func4, Tryd.ntmps4
    go_wp2_with fail
    refine HK.out.mono ?_
    rintro e w1 ⟨rfl, b1⟩
    go_wp2_with fail
    refine (html3_any v n w1 (HV.out.below b1)).mono ?_
    rintro e w2 ⟨l, rfl, hl1, hl2, b2⟩
    have B2 := b1.trans (b2.mono b1.size)
    have hsl : (⟨l.toArray⟩ : ByteArray).size ≤ 400 := by show l.toArray.size ≤ _; simp; omega
    clear b1 b2
    generalize (⟨l.toArray⟩ : ByteArray) = s1 at *
    go_wp2_with fail
    refine (html3_any v n w2 (HV.out.below B2)).mono ?_
    rintro e w3 ⟨l2, rfl, hk1, hk2, b3⟩
    have B3 := Lib.hid (B2.trans (b3.mono B2.size))
    have hsm : (⟨l2.toArray⟩ : ByteArray).size ≤ 400 := by show l2.toArray.size ≤ _; simp; omega
    clear b3 B2
    generalize (⟨l2.toArray⟩ : ByteArray) = s2 at *
    have z2 : (⟨#[60, 97]⟩ : ByteArray).size = 2 := rfl
    have z3 : (⟨#[60, 47, 97]⟩ : ByteArray).size = 3 := rfl
    have z4 : (⟨#[60, 97, 32]⟩ : ByteArray).size = 3 := rfl
    have z5 : (⟨#[62]⟩ : ByteArray).size = 1 := rfl
    have z6 : (⟨#[60, 97, 32, 98, 61]⟩ : ByteArray).size = 5 := rfl
    have z7 : (⟨#[32, 99, 62]⟩ : ByteArray).size = 3 := rfl
    have HS := Lib.hid (SixAt.mk w3 s1 (⟨#[60, 97]⟩ ++ raw) (⟨#[60, 47, 97]⟩ ++ raw) (⟨#[60, 97, 32]⟩ ++ raw ++ ⟨#[62]⟩) (s2 ++ raw ++ ⟨#[62]⟩) (⟨#[60, 97, 32, 98, 61]⟩ ++ raw ++ ⟨#[32, 99, 62]⟩)
      (by simp only [ByteArray.size_append, z2, z3, z4, z5, z6, z7]; omega))
    clear z2 z3 z4 z5 z6 z7
    go_wp2_with fail
    go_loopw [6] (fun x wr => ∃ i : Nat, i ≤ 6 ∧ x = .int .i64 (i : Int) ∧ Below w.heap.size w wr ∧ SixAt w3.heap.size wr ∧ w3.heap.size < wr.heap.size) (fun x _ => 6 - (intOf x).toNat)
    case atStart => exact ⟨0, by omega, rfl, B3.out.alloc B3.out.size _, HS.out, by simp⟩
    case round =>
      clear HS B3
      obtain ⟨i, hi, rfl, hB, hX, hz⟩ := hrel
      have HB := Lib.hid hB
      have HX := Lib.hid hX
      clear hB hX
      by_cases hlt : i < 6
      · obtain ⟨x, hx, hc⟩ := HX.out i hlt
        have HA := fun W => Lib.hid (rat_any x 0 W (by omega) (by omega) (by omega))
        cases hat : atPlace x.data.toList 0
        · rw [hat] at HA
          clear hat
          go_wp2_with fail
          refine (HA _).out.mono ?_
          rintro e w4 ⟨rfl, rfl⟩
          go_wp2
          exact ⟨⟨i + 1, by omega, by go_num, HB.out, HX.out, hz⟩, by simp [intOf]; omega⟩
        · rw [hat] at HA
          have HT := Lib.hid (read_tk x 0 wr (HMX.out.below HB.out) (HEA.out.below HB.out hE) hat (by omega))
          have HT2 := fun W => Lib.hid (rread_tk x 0 W hat (by omega))
          have hlen := tagT_len x.data.toList 0
          rw [len_of] at hlen
          clear hat
          generalize tagT x.data.toList 0 = T at *
          obtain ⟨tk, tn, ta, ts, tb⟩ := T
          simp only at hlen
          go_wp2_with fail
          refine (HA _).out.mono ?_
          rintro e w4 ⟨rfl, rfl⟩
          go_wp2_with fail
          refine HT.out.mono ?_
          rintro e w4 ⟨v4, rfl, ha4, b4⟩
          simp only at ha4
          have HA4 := Lib.hid ha4
          obtain ⟨p4, c4, rfl, hq4⟩ := ha4
          clear hq4
          have b5 := b4.alloc b4.size (.cells #[.int .i64 tk, .string ⟨tn.toArray⟩, .slice p4 ta.length c4, .bool ts, .string ⟨#[]⟩] 31)
          have k5 := tok_cells w4 (.int .i64 tk) (.string ⟨tn.toArray⟩) (.slice p4 ta.length c4) (.bool ts) (.string ⟨#[]⟩)
          have hz5 : (w4.alloc (.cells #[.int .i64 tk, .string ⟨tn.toArray⟩, .slice p4 ta.length c4, .bool ts, .string ⟨#[]⟩] 31)).heap.size = w4.heap.size + 1 := by simp
          have HA5 := Lib.hid (HA4.out.below ((Below.refl _ w4).alloc (Nat.le_refl _) (.cells #[.int .i64 tk, .string ⟨tn.toArray⟩, .slice p4 ta.length c4, .bool ts, .string ⟨#[]⟩] 31)))
          have hc5 := (b5.cell (p := ⟨w3.heap.size, i, none⟩) hz).trans hc
          have hz4 := b4.size
          go_wp2_with fail
          generalize w4.alloc (.cells #[.int .i64 tk, .string ⟨tn.toArray⟩, .slice p4 ta.length c4, .bool ts, .string ⟨#[]⟩] 31) = W5 at *
          refine (HT2 _).out.mono ?_
          rintro e w6 ⟨v6, rfl, ha6, b6⟩
          simp only at ha6
          have HA6 := Lib.hid ha6
          obtain ⟨p6, c6, rfl, hq6⟩ := ha6
          clear hq6
          have b7 := b6.alloc b6.size (.cells #[.int .i64 tk, .string ⟨tn.toArray⟩, .slice p6 ta.length c6, .bool ts, .string ⟨#[]⟩] 31)
          have m0 := (b7.cell (p := ⟨w4.heap.size, 0, none⟩) (by rw [hz5]; simp)).trans (k5 0)
          have m1 := (b7.cell (p := ⟨w4.heap.size, 1, none⟩) (by rw [hz5]; simp)).trans (k5 1)
          have m2 := (b7.cell (p := ⟨w4.heap.size, 2, none⟩) (by rw [hz5]; simp)).trans (k5 2)
          have m3 := (b7.cell (p := ⟨w4.heap.size, 3, none⟩) (by rw [hz5]; simp)).trans (k5 3)
          have m4 := (b7.cell (p := ⟨w4.heap.size, 4, none⟩) (by rw [hz5]; simp)).trans (k5 4)
          have HA7 := Lib.hid (HA5.out.below b7)
          have HA8 := Lib.hid (HA6.out.below ((Below.refl _ w6).alloc (Nat.le_refl _) (.cells #[.int .i64 tk, .string ⟨tn.toArray⟩, .slice p6 ta.length c6, .bool ts, .string ⟨#[]⟩] 31)))
          have B7 := Lib.hid (b5.trans (b7.mono b5.size))
          clear k5 hc5 b4 b5 b6 b7 HA4 HA5 HA6 HT HT2 HA hc
          go_wp2_with fail
          refine (rone_any tk ⟨tn.toArray⟩ ⟨#[]⟩ ts _ _ ta _ HA7.out HA8.out (by omega)).mono ?_
          rintro e w8 ⟨rfl, b8⟩
          have B8 := Lib.hid (B7.out.trans (b8.mono B7.out.size))
          have e1 : ((tb : Int) != (tb : Int)) = false := by simp
          have HX8 : Hid (SixAt w3.heap.size w8) := Lib.hid fun j hj => by
            obtain ⟨y, hy, hcy⟩ := HX.out j hj
            exact ⟨y, hy, (B8.out.cell (p := ⟨w3.heap.size, j, none⟩) hz).trans hcy⟩
          have hz8 : w3.heap.size < w8.heap.size := Nat.lt_of_lt_of_le hz B8.out.size
          have HB8 := Lib.hid (HB.out.trans (B8.out.mono HB.out.size))
          clear b8 m0 m1 m2 m3 m4 B7 B8
          go_wp2
          exact ⟨⟨i + 1, by omega, by go_num, HB8.out, HX8.out, hz8⟩, by simp [intOf]; omega⟩
      · go_wp2
        go_ret
        exact ⟨rfl, HB.out⟩
end Go.Proofs.YtklhllgdkmpnmaaDoor
