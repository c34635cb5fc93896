/-
  The walk of the law LexFolds: true, and nothing old is changed. The library's number MaxLen and the table of package refs are there.
-/
import Derived.Test.YtgelgfgcdfnacaaDoorXLawR
namespace Go.Proofs.YtgelgfgcdfnacaaDoor
open Go.RowKit

/-- The letters turned, up to a place. -/
def turnB (up : Bool) (i : Nat) (c : UInt8) : UInt8 := if up || decide (i % 2 = 0) then UInt8.ofNat (c.toNat - 32) else c
def turnTo (up : Bool) (l : List UInt8) (k : Nat) : List UInt8 := l.mapIdx fun i c => if i < k then turnB up i c else c
theorem turnTo_zero (up : Bool) (l : List UInt8) : turnTo up l 0 = l := by
  unfold turnTo
  refine List.ext_getElem (by simp) fun j h1 h2 => ?_
  simp
theorem turnTo_length (up : Bool) (l : List UInt8) (k : Nat) : (turnTo up l k).length = l.length := by
  unfold turnTo
  simp
theorem turnTo_get (up : Bool) (l : List UInt8) (k : Nat) (hk : k < l.length) : (turnTo up l k)[k]'(by rw [turnTo_length]; exact hk) = l[k] := by
  unfold turnTo
  simp
theorem turnTo_step (up : Bool) (l : List UInt8) (k : Nat) (hk : k < l.length) : turnTo up l (k + 1) = (turnTo up l k).set k (turnB up k l[k]) := by
  unfold turnTo
  refine List.ext_getElem (by simp) fun j h1 h2 => ?_
  rw [List.getElem_set]
  simp only [List.getElem_mapIdx]
  by_cases e : k = j
  · subst e
    simp
  · rw [if_neg e]
    by_cases h : j < k
    · rw [if_pos (by omega), if_pos h]
    · rw [if_neg (by omega), if_neg h]
theorem turnTo_same (up : Bool) (l : List UInt8) (k : Nat) (hk : k < l.length) (h : turnB up k l[k] = l[k]) : turnTo up l (k + 1) = turnTo up l k := by
  rw [turnTo_step up l k hk, h]
  refine List.ext_getElem (by simp) fun j h1 h2 => ?_
  rw [List.getElem_set]
  split
  · rename_i e
    subst e
    exact (turnTo_get up l k hk).symm
  · rfl
def foldsT (nm b : List UInt8) : List UInt8 := [97, 60, 47] ++ nm ++ [120, 62, 60, 47] ++ b ++ [10, 62, 98]
theorem folds_ok : ∀ j, j < 5 → ∀ up : Bool, (2 ≤ (allT (foldsT (rnames.getD j []) (turnTo up (rnames.getD j []) (rnames.getD j []).length)) 2 (rnames.getD j []) 0).length ∧ ((allT (foldsT (rnames.getD j []) (turnTo up (rnames.getD j []) (rnames.getD j []).length)) 2 (rnames.getD j []) 0).map fun t => (t.kind, t.name, t.text)).take 2 = [(3, [], [97, 60, 47] ++ rnames.getD j [] ++ [120, 62]), (2, rnames.getD j [], [])]) := by decide +kernel
theorem rnames_low : ∀ j, j < 5 → ∀ c ∈ rnames.getD j [], 97 ≤ c.toNat ∧ c.toNat ≤ 122 := by decide
set_option maxHeartbeats 8000000 in
set_option maxRecDepth 100000 in
theorem lexFolds_walk (z : Int) (up : Bool) (w : World) (h0 : -9223372036854775808 ≤ z) (h1 : z ≤ 9223372036854775807) (hmax : HasMax w) (hea : HasEarly w) :
    Calls Tryd.prog 9 #[.int .i64 z, .bool up] w (Yes w) := by
  have HK := Lib.hid (known4_yes w ⟨hmax, hea⟩)
  have HR := Lib.hid (Ready.mk hmax hea)
  clear hmax hea
  have HW := fun W => Lib.hid (within4 z 5 W h0 h1 (by omega) (by omega))
  have hr := (within_lt z 5 (by omega)).1
  generalize Within z 5 = r at *
  have r0 : (0 : Int) ≤ (r : Int) := by omega
  have r1 : (r : Int) < 5 := by omega
  go_enter Tryd.func9, Tryd.ntmps9
  go_wp2_with fail
  refine HK.out.mono ?_
  rintro e w1 ⟨rfl, b1⟩
  have HB1 := Lib.hid b1
  clear b1 HK
  go_wp2_with fail
  refine (names_told w1).mono ?_
  rintro e w2 ⟨g, cap, rfl, hg, hcs, b2⟩
  have HB2 := Lib.hid (HB1.out.trans (b2.mono HB1.out.size))
  have hcr := hcs r hr
  obtain ⟨D, hD, hDl⟩ : ∃ D : ByteArray, (⟨(rnames.getD r []).toArray⟩ : ByteArray) = D ∧ D.data.toList = rnames.getD r [] := ⟨_, rfl, rfl⟩
  rw [hD] at hcr
  have hDs : D.size ≤ 10 := by rw [← len_of, hDl]; exact (rnames_ok r hr).2.1
  have HDL := Lib.hid hDl
  clear hD hDl hcs b2 HB1
  go_wp2_with fail
  refine (HW _).out.mono ?_
  rintro e w3 ⟨rfl, rfl⟩
  have hconv := run_bytes_of_string (P := Tryd.prog) w2 9 45 5 D Tryd.underlying9 Tryd.underlying45 Tryd.underlying5
  generalize grownCap w2 D.size 0 5 = cap2 at hconv
  go_wp2_with fail
  have hl : D.data.toList.length = D.size := by simp
  have HL := Lib.hid hl
  have HLO := Lib.hid (rnames_low r hr)
  rw [← HDL.out] at HLO
  clear hl
  go_loopw [7] (fun i wr => ∃ k : Nat, k ≤ D.size ∧ i = .int .i64 k ∧ BytesAt wr w2.heap.size (turnTo up D.data.toList k) ∧ Below w2.heap.size w2 wr) (fun i _ => D.size - (intOf i).toNat)
  case atStart =>
    refine ⟨0, Nat.zero_le _, rfl, ?_, ((Below.refl _ w2).alloc (Nat.le_refl _) _).drew⟩
    rw [turnTo_zero]
    exact (BytesAt.row w2 D cap2 5).drew
  case round =>
    obtain ⟨k, hk, rfl, hB, hb⟩ := hrel
    by_cases hlt : k < D.size
    · have hkl : k < D.data.toList.length := by rw [HL.out]; exact hlt
      have hkf : k < (turnTo up D.data.toList k).length := by rw [turnTo_length]; exact hkl
      have hc : wr.cell? ⟨w2.heap.size, k, none⟩ = some (.int .u8 (D.data.toList[k].toNat : Int)) := by
        have := hB.1 k hkf
        rw [turnTo_get _ _ k hkl] at this
        exact this
      have hf : wr.frozen? ⟨w2.heap.size, k, none⟩ = false := hB.2 k hkf
      have HST := Lib.hid (turnTo_step up D.data.toList k hkl)
      have HSM := Lib.hid (turnTo_same up D.data.toList k hkl)
      have hlo := HLO.out D.data.toList[k] (List.getElem_mem hkl)
      have HB := Lib.hid hB
      clear hB
      generalize D.data.toList[k] = c at *
      have HT1 : Hid (up = true ∨ k % 2 = 0 → turnB up k c = UInt8.ofNat (c.toNat - 32)) := Lib.hid fun h => by
        unfold turnB
        rw [if_pos]
        rcases h with h | h
        · rw [h]; rfl
        · rw [decide_eq_true h]; simp
      have HT2 : Hid (up = false → ¬ k % 2 = 0 → turnB up k c = c) := Lib.hid fun h1 h2 => by
        unfold turnB
        rw [if_neg]
        rw [h1, decide_eq_false h2]
        decide
      have hun : (UInt8.ofNat (c.toNat - 32)).toNat = c.toNat - 32 := by rw [UInt8.toNat_ofNat']; omega
      have HS : Hid (BytesAt (wr.setCell ⟨w2.heap.size, k, none⟩ (.int .u8 ((c.toNat : Int) - 32))) w2.heap.size ((turnTo up D.data.toList k).set k (UInt8.ofNat (c.toNat - 32)))) := by
        have := HB.out.setCell k hkf (UInt8.ofNat (c.toNat - 32))
        rw [hun, show ((c.toNat - 32 : Nat) : Int) = (c.toNat : Int) - 32 by omega] at this
        exact Lib.hid this
      clear hun
      have hk2 : ((k : Int) % 2 == 0) = decide (k % 2 = 0) := by
        by_cases h : k % 2 = 0
        · rw [decide_eq_true h, show (k : Int) % 2 = 0 by omega]; rfl
        · rw [decide_eq_false h]; exact beq_eq_false_iff_ne.2 (by omega)
      cases up
      · by_cases h2 : k % 2 = 0
        · rw [decide_eq_true h2] at hk2
          have HN := Lib.hid (HST.out.trans (by rw [HT1.out (Or.inr h2)]))
          clear h2
          go_wp2_with fail
          exact ⟨⟨k + 1, by omega, by go_num, by rw [HN.out]; exact HS.out, hb.setCell (Nat.le_refl _) _⟩, by simp [intOf]; omega⟩
        · rw [decide_eq_false h2] at hk2
          have HN := Lib.hid (HSM.out (HT2.out rfl h2))
          clear h2
          go_wp2_with fail
          exact ⟨⟨k + 1, by omega, by go_num, by rw [HN.out]; exact HB.out, hb⟩, by simp [intOf]; omega⟩
      · have HN := Lib.hid (HST.out.trans (by rw [HT1.out (Or.inl rfl)]))
        go_wp2_with fail
        exact ⟨⟨k + 1, by omega, by go_num, by rw [HN.out]; exact HS.out, hb.setCell (Nat.le_refl _) _⟩, by simp [intOf]; omega⟩
    · have hkD : k = D.size := by omega
      subst hkD
      have hback := run_convert_bytes_back (P := Tryd.prog) wr 45 9 5 ⟨w2.heap.size, 0, none⟩ cap2 (turnTo up D.data.toList D.size) Tryd.underlying45 Tryd.underlying5 Tryd.underlying9 (fun j hj => by
        rw [addr_add]; exact hB.1 j hj)
      rw [turnTo_length, HL.out] at hback
      have HBW := Lib.hid (HB2.out.trans (hb.mono HB2.out.size))
      obtain ⟨f1, f2⟩ := folds_ok r hr up
      rw [← HDL.out, HL.out] at f1 f2
      obtain ⟨T, hT, hTl⟩ : ∃ T : ByteArray, (⟨(turnTo up D.data.toList D.size).toArray⟩ : ByteArray) = T ∧ T.data.toList = turnTo up D.data.toList D.size := ⟨_, rfl, rfl⟩
      have hTs : T.size = D.size := by rw [← len_of, hTl, turnTo_length, HL.out]
      rw [hT] at hback
      rw [← hTl] at f1 f2
      clear hB hb hT hTl
      obtain ⟨S, hS, hSl⟩ : ∃ S : ByteArray, S = (⟨#[97, 60, 47]⟩ : ByteArray) ++ D ++ ⟨#[120, 62, 60, 47]⟩ ++ T ++ ⟨#[10, 62, 98]⟩ ∧ S.data.toList = foldsT D.data.toList T.data.toList := ⟨_, rfl, by unfold foldsT; simp⟩
      have hSs : S.size ≤ 1000 := by
        rw [hS, ByteArray.size_append, ByteArray.size_append, ByteArray.size_append, ByteArray.size_append]
        show 3 + D.size + 4 + T.size + 3 ≤ _
        omega
      rw [← hSl] at f1 f2
      have HAL := fun W h => Lib.hid (all_lex S D 2 W h (by omega) (by omega) (by omega))
      generalize allT S.data.toList 2 D.data.toList 0 = ts at *
      obtain ⟨t0, t1, rest, hts⟩ : ∃ t0 t1 rest, ts = t0 :: t1 :: rest := by
        match ts, f1 with
        | a :: b :: c, _ => exact ⟨a, b, c, rfl⟩
      subst hts
      simp only [List.map_cons, List.take_succ_cons, List.take_zero, List.cons.injEq, Prod.mk.injEq, and_true] at f2
      obtain ⟨⟨g1, _, g2⟩, g3, g4, _⟩ := f2
      have hq1 : (⟨#[97, 60, 47]⟩ : ByteArray) ++ D ++ ⟨#[120, 62]⟩ = ⟨t0.text.toArray⟩ := by
        rw [g2]
        apply ByteArray.ext
        apply Array.ext'
        simp
      have hq2 : (⟨t1.name.toArray⟩ : ByteArray) = D := by rw [g4]
      go_wp2_with fail
      rw [← hS]
      refine (HAL wr (HR.out.below HBW.out)).out.mono ?_
      rintro e w6 ⟨v6, rfl, ht6, b6⟩
      obtain ⟨p6, cap6, hv6⟩ := ht6.form
      subst hv6
      have HB6 := Lib.hid (HBW.out.trans (b6.mono HBW.out.size))
      clear b6 HAL hS hSl HBW hback
      obtain ⟨g6, y0, rfl, hg6, a0, a1, a2, a3, a4⟩ := ht6.cells 0 (by simp)
      obtain ⟨g', y1, hgg, hg', d0, d1, d2, d3, d4⟩ := ht6.cells 1 (by simp)
      injection hgg with hgg
      injection hgg with hgg
      subst hgg
      simp only [List.getElem_cons_zero, List.getElem_cons_succ] at a0 a1 a2 a3 a4 d0 d1 d2 d3 d4
      rw [← hq1] at a4
      rw [hq2] at d1
      rw [g3] at d0
      have hl2 : (2 : Int) ≤ (((t0 :: t1 :: rest).length : Nat) : Int) := by simp; omega
      clear ht6 a0 a1 a2 a3 d2 d3 d4 hg' hq1 hq2 g1 g2 g3 g4
      generalize (t0 :: t1 :: rest).length = tl at *
      go_wp2_with fail
      go_ret
      exact ⟨rfl, HB6.out⟩
end Go.Proofs.YtgelgfgcdfnacaaDoor
