/-
  The walk of the law LexKnown: true, and nothing old is changed. The library's number MaxLen and the table of package refs are there.
-/
import Derived.Test.YtgelgfgcdfnacaaDoorXKnown
namespace Go.Proofs.YtgelgfgcdfnacaaDoor
open Go.RowKit

namespace Plain
def kin4 : List (List UInt8) := [[60, 33, 45, 45, 62, 97], [60, 33, 45, 45, 45, 62, 97], [60, 33, 45, 45, 45, 45, 33, 62, 97], [60, 33, 45, 45, 97], [60, 33, 45, 45, 97, 45, 45, 33, 98, 45, 45, 62], [60, 47, 62, 97], [60, 47], [60, 47, 32, 120, 62, 97], [60, 33, 120, 62], [97, 60, 49], [60, 112], [60, 33, 100, 111, 99, 116, 121, 112, 101, 104, 116, 109, 108, 62, 97], [60, 63, 120, 63, 62], [97, 38, 108, 116, 59, 98]]
def kout4 : List (List UInt8) := [[110, 97], [110, 97], [110, 97], [110], [110], [97], [116], [110, 97], [110], [97, 116], [], [97], [110], [116]]
end Plain
/-- The letter of a token. -/
def markT (t : Tok) : List UInt8 := if t.kind = 4 then [110] else if t.text = [97] then [97] else if t.kind = 3 then [116] else [63]
theorem known_ok : ∀ i, i < 14 → ((allT (Plain.kin4.getD i []) 0 [] 0).dropLast.flatMap markT = Plain.kout4.getD i [] ∧ 1 ≤ (allT (Plain.kin4.getD i []) 0 [] 0).length ∧ (Plain.kin4.getD i []).length ≤ 20) := by decide +kernel
def kinCells : Array Value := (Plain.kin4.map strV).toArray
def koutCells : Array Value := (Plain.kout4.map strV).toArray
theorem kin_at (j : Nat) (h : j < 14) : kinCells[j]? = some (.string ⟨(Plain.kin4.getD j []).toArray⟩) := by
  have hl : Plain.kin4.length = 14 := rfl
  unfold kinCells
  rw [List.getElem?_toArray, List.getElem?_map, List.getElem?_eq_getElem (by omega), List.getD_eq_getElem?_getD, List.getElem?_eq_getElem (by omega)]
  rfl
theorem kout_at (j : Nat) (h : j < 14) : koutCells[j]? = some (.string ⟨(Plain.kout4.getD j []).toArray⟩) := by
  have hl : Plain.kout4.length = 14 := rfl
  unfold koutCells
  rw [List.getElem?_toArray, List.getElem?_map, List.getElem?_eq_getElem (by omega), List.getD_eq_getElem?_getD, List.getElem?_eq_getElem (by omega)]
  rfl
theorem mark_one (t : Tok) : (markT t).length = 1 := by
  unfold markT
  split
  · rfl
  · split
    · rfl
    · split <;> rfl
theorem dropLast_take (ts : List Tok) : ts.dropLast = ts.take (ts.length - 1) := by rw [List.dropLast_eq_take]
set_option maxHeartbeats 4000000 in
set_option maxRecDepth 100000 in
theorem lexKnown_walk (z : Int) (w : World) (h0 : -9223372036854775808 ≤ z) (h1 : z ≤ 9223372036854775807) (hmax : HasMax w) (hea : HasEarly w) :
    Calls Tryd.prog 10 #[.int .i64 z] w (Yes w) := by
  have HR := Lib.hid (Ready.mk hmax hea)
  clear hmax hea
  have HW := fun W => Lib.hid (within4 z 14 W h0 h1 (by omega) (by omega))
  have hr := (within_lt z 14 (by omega)).1
  generalize Within z 14 = r at *
  obtain ⟨W0, hW0⟩ : ∃ W0, W0 = (w.alloc (.cells kinCells 9)).alloc (.cells koutCells 9) := ⟨_, rfl⟩
  have hin : W0.cell? ⟨w.heap.size, r, none⟩ = some (.string ⟨(Plain.kin4.getD r []).toArray⟩) := by
    rw [hW0, World.cell?_alloc_lt _ _ _ (by simp)]
    exact (World.cell?_alloc_mark w kinCells 9 (0, 0) r).trans (kin_at r hr)
  have hout : W0.cell? ⟨w.heap.size + 1, r, none⟩ = some (.string ⟨(Plain.kout4.getD r []).toArray⟩) := by
    have := World.cell?_alloc_mark (w.alloc (.cells kinCells 9)) koutCells 9 (0, 0) r
    rw [show (w.alloc (.cells kinCells 9)).heap.size = w.heap.size + 1 by simp] at this
    rw [hW0]
    exact this.trans (kout_at r hr)
  have hb0 : Below w.heap.size w W0 := by rw [hW0]; exact ((Below.refl _ w).alloc (Nat.le_refl _) _).alloc (by simp) _
  have hz0 : W0.heap.size = w.heap.size + 2 := by rw [hW0]; simp
  obtain ⟨hk1, hk2, hk3⟩ := known_ok r hr
  have HAL := fun W h hs => Lib.hid (all_lex ⟨(Plain.kin4.getD r []).toArray⟩ ⟨#[]⟩ 0 W h (by omega) hs (by decide))
  rw [show (⟨(Plain.kin4.getD r []).toArray⟩ : ByteArray).data.toList = Plain.kin4.getD r [] from rfl, show (⟨#[]⟩ : ByteArray).data.toList = [] from rfl] at HAL
  have hTL : (allT (Plain.kin4.getD r []) 0 [] 0).length ≤ (Plain.kin4.getD r []).length + 1 := allN_len _ _ _ _ _
  generalize allT (Plain.kin4.getD r []) 0 [] 0 = ts at *
  obtain ⟨I, hI⟩ : ∃ I : ByteArray, (⟨(Plain.kin4.getD r []).toArray⟩ : ByteArray) = I := ⟨_, rfl⟩
  have hIs : I.size ≤ 20 := by rw [← hI]; show (Plain.kin4.getD r []).toArray.size ≤ _; rw [List.size_toArray]; exact hk3
  rw [hI] at hin HAL
  have hTL2 : ts.length ≤ 21 := by omega
  clear hI hTL hk3
  have HKO := Lib.hid hk1
  generalize Plain.kout4.getD r [] = O at *
  clear hk1
  have r0 : (0 : Int) ≤ (r : Int) := by omega
  have r1 : (r : Int) < 14 := by omega
  have HIN := Lib.hid hin
  have HOUT := Lib.hid hout
  have HB0 := Lib.hid hb0
  clear hin hout hb0
  go_enter Tryd.func10, Tryd.ntmps10
  go_wp2_with fail
  refine (HW ((w.alloc (.cells kinCells 9)).alloc (.cells koutCells 9))).out.mono ?_
  rintro e w1 ⟨rfl, rfl⟩
  rw [← hW0]
  clear hW0
  have hin := HIN.out
  have hlt : w.heap.size < W0.heap.size := by omega
  go_wp2_with fail
  refine (HAL W0 (HR.out.below HB0.out) (by omega)).out.mono ?_
  rintro e w2 ⟨v2, rfl, ht, b2⟩
  obtain ⟨p2, cap2, hv2⟩ := ht.form
  subst hv2
  have HT := Lib.hid ht
  have HB2 := Lib.hid (HB0.out.trans (b2.mono HB0.out.size))
  have HO2 := Lib.hid ((b2.cell (p := ⟨w.heap.size + 1, r, none⟩) (by rw [hz0]; simp)).trans HOUT.out)
  have hlt2 : w.heap.size + 1 < w2.heap.size := by have := b2.size; omega
  clear ht b2 hin HIN HOUT HAL HW HB0
  go_wp2_with fail
  go_loopw [7, 8] (fun x y wr => ∃ (j : Nat) (acc : List UInt8), x = .string ⟨acc.toArray⟩ ∧ y = .int .i64 (j : Int) ∧ j + 1 ≤ ts.length ∧ acc = (ts.take j).flatMap markT ∧ acc.length ≤ j ∧ w2 = wr) (fun _ y _ => ts.length - (intOf y).toNat)
  case atStart => exact ⟨0, [], rfl, rfl, hk2, rfl, Nat.le_refl _, rfl⟩
  case round =>
    obtain ⟨j, acc, rfl, rfl, hj, hacc, hal, rfl⟩ := hrel
    have HA := Lib.hid hacc
    have hsa : (⟨acc.toArray⟩ : ByteArray).size ≤ 40 := by show acc.toArray.size ≤ _; simp; omega
    clear hacc
    by_cases hlt3 : j + 1 < ts.length
    · have hj' : (j : Int) + 1 < (ts.length : Int) := by omega
      obtain ⟨g, x, rfl, hg, a0, a1, a2, a3, a4⟩ := HT.out.cells j (by omega)
      have HTK : Hid ((ts.take (j + 1)).flatMap markT = (ts.take j).flatMap markT ++ markT ts[j]) := Lib.hid (by rw [List.take_succ_eq_append_getElem (by omega), List.flatMap_append]; simp)
      have j0 : (0 : Int) ≤ (j : Int) := by omega
      have j1 : (j : Int) < (ts.length : Int) := by omega
      have hM : markT ts[j] = markT ts[j] := rfl
      conv at hM => rhs; unfold markT
      obtain ⟨T, hT⟩ : ∃ T, ts[j] = T := ⟨_, rfl⟩
      rw [hT] at a0 a4 hM HTK
      clear a1 a2 a3 hT
      simp only [Nat.add_zero] at a0
      by_cases q4 : T.kind = 4
      · rw [if_pos q4] at hM
        have HM := Lib.hid hM
        have e4 : (T.kind == 4) = true := by simp [q4]
        generalize T.kind = tk at *
        clear q4 hM
        go_wp2_with fail
        exact ⟨⟨j + 1, acc ++ [110], congrArg Value.string (str_app acc [110]), by go_num, by omega, by rw [HTK.out, HM.out, HA.out], by simp; omega, trivial⟩, by simp [intOf]; omega⟩
      · rw [if_neg q4] at hM
        have e4 : (T.kind == 4) = false := beq_eq_false_iff_ne.2 q4
        by_cases q5 : T.text = [97]
        · rw [if_pos q5] at hM
          have HM := Lib.hid hM
          have e5 : (T.text == [97]) = true := by simp [q5]
          have e6 : (⟨T.text.toArray⟩ : ByteArray) = ⟨#[97]⟩ := by rw [q5]
          rw [e6] at a4
          generalize T.kind = tk at *
          clear q4 q5 hM e5 e6
          go_wp2_with fail
          exact ⟨⟨j + 1, acc ++ [97], congrArg Value.string (str_app acc [97]), by go_num, by omega, by rw [HTK.out, HM.out, HA.out], by simp; omega, trivial⟩, by simp [intOf]; omega⟩
        · rw [if_neg q5] at hM
          have e5 : ((⟨T.text.toArray⟩ : ByteArray).toList == [97]) = false := by rw [Lib.toList_data]; exact beq_eq_false_iff_ne.2 q5
          generalize (⟨T.text.toArray⟩ : ByteArray) = TX at *
          by_cases q3 : T.kind = 3
          · rw [if_pos q3] at hM
            have HM := Lib.hid hM
            have e3 : (T.kind == 3) = true := by simp [q3]
            generalize T.kind = tk at *
            clear q4 q5 q3 hM
            go_wp2_with fail
            exact ⟨⟨j + 1, acc ++ [116], congrArg Value.string (str_app acc [116]), by go_num, by omega, by rw [HTK.out, HM.out, HA.out], by simp; omega, trivial⟩, by simp [intOf]; omega⟩
          · rw [if_neg q3] at hM
            have HM := Lib.hid hM
            have e3 : (T.kind == 3) = false := beq_eq_false_iff_ne.2 q3
            generalize T.kind = tk at *
            clear q4 q5 q3 hM
            go_wp2_with fail
            exact ⟨⟨j + 1, acc ++ [63], congrArg Value.string (str_app acc [63]), by go_num, by omega, by rw [HTK.out, HM.out, HA.out], by simp; omega, trivial⟩, by simp [intOf]; omega⟩
    · have hj' : ¬ (j : Int) + 1 < (ts.length : Int) := by omega
      have hO : acc = O := by rw [HA.out, ← HKO.out, dropLast_take, show ts.length - 1 = j by omega]
      subst hO
      have hl1 : (0 : Int) < (ts.length : Int) := by omega
      have HKN : Hid (Calls Tryd.prog 12 #[] w2 fun e w3 => e = .returned (.bool true) ∧ Below w.heap.size w w3 ∧ w3.cell? ⟨w.heap.size + 1, r, none⟩ = some (.string ⟨acc.toArray⟩) ∧ w.heap.size + 1 < w3.heap.size) := by
        refine Lib.hid ((known4_yes w2 (HR.out.below HB2.out)).mono fun e w3 ⟨he, b3'⟩ => ?_)
        exact ⟨he, HB2.out.trans (b3'.mono HB2.out.size), (b3'.cell (p := ⟨w.heap.size + 1, r, none⟩) hlt2).trans HO2.out, Nat.lt_of_lt_of_le hlt2 b3'.size⟩
      generalize (⟨acc.toArray⟩ : ByteArray) = X at *
      have hO2 := HO2.out
      go_wp2_with fail
      refine HKN.out.mono ?_
      rintro e w3 ⟨rfl, b3, hc3, hz3⟩
      go_wp2_with fail
      go_ret
      exact ⟨bool_is (decide_eq_true (by omega)), b3⟩
end Go.Proofs.YtgelgfgcdfnacaaDoor
