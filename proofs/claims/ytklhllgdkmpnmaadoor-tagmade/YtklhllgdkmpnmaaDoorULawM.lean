/-
  The walk of the law TagMade: true, and nothing old is changed. The library's number MaxLen and the table of package refs are there.
-/
import Derived.Test.YtklhllgdkmpnmaaDoorUMade
import Derived.Deep.RegionLaw
namespace Go.Proofs.YtklhllgdkmpnmaaDoor
open Go.RowKit

theorem MadeM.start (w : World) (v : Value) (n : Nat) (sf : Bool) (hv : IntsIn w v n) : MadeM w v n sf (.slice none 0 0) [] (((w.alloc (.cells #[v, .int .i64 0] 38)).alloc (.cells mnameCells 9)).alloc (.cells #[.int .i64 1, .string ⟨#[112]⟩, .slice none 0 0, .bool sf, .string ⟨#[]⟩] 31)) := by
  have hT : TapeAt w v n w.heap.size (((w.alloc (.cells #[v, .int .i64 0] 38)).alloc (.cells mnameCells 9)).alloc (.cells #[.int .i64 1, .string ⟨#[112]⟩, .slice none 0 0, .bool sf, .string ⟨#[]⟩] 31)) :=
    ((TapeAt.made w _ n _ hv).on ((Below.refl _ _).alloc (Nat.le_refl _) _) (by simp)).on ((Below.refl _ _).alloc (Nat.le_refl _) _) (by simp; omega)
  refine ⟨hT, by simp, fun j hj => ?_, fun j => ?_, fun j => ?_, ⟨rfl, Or.inl ⟨rfl, rfl⟩⟩⟩
  · have h := World.cell?_alloc_mark (w.alloc (.cells #[v, .int .i64 0] 38)) mnameCells 9 (0, 0) j
    rw [show (w.alloc (.cells #[v, .int .i64 0] 38)).heap.size = w.heap.size + 1 by simp] at h
    rw [World.cell?_alloc_lt _ _ _ (by simp), h, mname_at j hj]
  · have h := World.cell?_alloc_mark ((w.alloc (.cells #[v, .int .i64 0] 38)).alloc (.cells mnameCells 9)) #[.int .i64 1, .string ⟨#[112]⟩, .slice none 0 0, .bool sf, .string ⟨#[]⟩] 31 (0, 0) j
    rw [show ((w.alloc (.cells #[v, .int .i64 0] 38)).alloc (.cells mnameCells 9)).heap.size = w.heap.size + 1 + 1 by simp] at h
    exact h
  · have h : (((w.alloc (.cells #[v, .int .i64 0] 38)).alloc (.cells mnameCells 9)).alloc (.cells #[.int .i64 1, .string ⟨#[112]⟩, .slice none 0 0, .bool sf, .string ⟨#[]⟩] 31)).frozen? ⟨((w.alloc (.cells #[v, .int .i64 0] 38)).alloc (.cells mnameCells 9)).heap.size, j, none⟩ = false := by rw [World.frozen?_alloc_mark]; simp
    rw [show ((w.alloc (.cells #[v, .int .i64 0] 38)).alloc (.cells mnameCells 9)).heap.size = w.heap.size + 1 + 1 by simp] at h
    exact h

set_option maxHeartbeats 4000000 in
set_option maxRecDepth 100000 in
theorem tagMade_walk (v : Value) (n : Nat) (vs : Value) (k : Nat) (sf : Bool) (w : World) (hv : IntsIn w v n) (hvs : TextsArg w vs k) (hmax : HasMax w) (hea : HasEarly w) :
    Calls Tryd.prog 5 #[v, vs, .bool sf] w (Yes w) := by
  have HK := Lib.hid (known3_yes w hmax hea)
  obtain ⟨pt, ct, hvv⟩ : ∃ p cap, v = .slice p n cap := by
    rcases hv with ⟨p, cap, rfl, rfl⟩ | ⟨g, off, cap, rfl, _⟩
    · exact ⟨p, cap, rfl⟩
    · exact ⟨_, cap, rfl⟩
  subst hvv
  have HV := Lib.hid hv
  obtain ⟨pv, cv, rfl, hx⟩ := hvs
  have HVS := Lib.hid hx
  have HMX := Lib.hid hmax
  have HEA := Lib.hid hea
  have hE := hea.size
  clear hmax hea hv hx
  go_enter Tryd.func5, Tryd.ntmps5
  go_wp2_with fail
  refine HK.out.mono ?_
  rintro e w1 ⟨rfl, b1⟩
  have HM := Lib.hid (MadeM.start w1 (.slice pt n ct) n sf (HV.out.below b1))
  have B1 := Lib.hid b1
  clear b1 HK
  go_wp2_with fail
  go_loopw [9, 11] (fun s x wr => ∃ (i : Nat) (acc : ByteArray) (rv : Value) (rs : List (List UInt8 × List UInt8)), i ≤ 6 ∧ x = .int .i64 (i : Int) ∧ s = .string acc ∧ MadeM w1 (.slice pt n ct) n sf rv rs wr ∧ MadeAt acc.data.toList rs ∧ acc.size ≤ 2 + 80 * i ∧ rs.length ≤ i) (fun _ x _ => 6 - (intOf x).toNat)
  case atStart => exact ⟨0, _, _, [], by omega, rfl, rfl, HM.out, MadeAt.start, by decide, by simp⟩
  case round =>
    clear HM
    obtain ⟨i, acc, rv, rs, hi, rfl, rfl, hX, hA, hac, hrl⟩ := hrel
    obtain ⟨vp, vc, rfl, hvc⟩ := AttrsAt.of_row hX.row
    clear hvc
    have HX := Lib.hid hX
    have HA := Lib.hid hA
    clear hX hA
    by_cases hik : i < k ∧ i < 6
    · obtain ⟨hi1, hi2⟩ := hik
      obtain ⟨g, off, x, rfl, hg, hc, hxs⟩ := HVS.out i hi1
      have hs1 := B1.out.size
      have hc1 : wr.cell? ⟨g, off + i, none⟩ = some (.string x) := (HX.out.tape.below.cell (p := ⟨g, off + i, none⟩) (by simp; omega)).trans ((B1.out.cell (p := ⟨g, off + i, none⟩) hg).trans hc)
      have hi1' : (i : Int) < (k : Int) := by omega
      have hi2' : (i : Int) < 6 := by omega
      unfold maxLen at hxs
      by_cases h60 : 60 < x.size
      · have h60' : (60 : Int) < (x.size : Int) := by omega
        go_wp2
        go_ret
        exact ⟨rfl, B1.out.trans (HX.out.tape.below.mono B1.out.size)⟩
      · have h60' : ¬ (60 : Int) < (x.size : Int) := by omega
        have I34 := fun W => Lib.hid (rfind_any x 34 0 W (by omega) (by omega))
        have I38 := fun W => Lib.hid (rfind_any x 38 0 W (by omega) (by omega))
        have I0 := fun W => Lib.hid (rfind_any x 0 0 W (by omega) (by omega))
        rw [show ((0 : Nat) : Int) = 0 from rfl] at I34 I38 I0
        go_wp2_with fail
        refine (I34 _).out.mono ?_
        rintro e w2 ⟨rfl, rfl⟩
        by_cases m34 : (34 : UInt8) ∈ x.data.toList
        · have q1 := findI_some 34 x.data.toList m34
          generalize findI 34 x.data.toList 0 = f34 at *
          go_wp2
          go_ret
          exact ⟨rfl, B1.out.trans (HX.out.tape.below.mono B1.out.size)⟩
        · have q1 := findI_none 34 x.data.toList m34
          have q1' : ¬ 0 ≤ findI 34 x.data.toList 0 := by omega
          clear q1
          generalize findI 34 x.data.toList 0 = f34 at *
          go_wp2_with fail
          refine (I38 _).out.mono ?_
          rintro e w2 ⟨rfl, rfl⟩
          by_cases m38 : (38 : UInt8) ∈ x.data.toList
          · have q2 := findI_some 38 x.data.toList m38
            generalize findI 38 x.data.toList 0 = f38 at *
            go_wp2
            go_ret
            exact ⟨rfl, B1.out.trans (HX.out.tape.below.mono B1.out.size)⟩
          · have q2 := findI_none 38 x.data.toList m38
            have q2' : ¬ 0 ≤ findI 38 x.data.toList 0 := by omega
            clear q2
            generalize findI 38 x.data.toList 0 = f38 at *
            go_wp2_with fail
            refine (I0 _).out.mono ?_
            rintro e w2 ⟨rfl, rfl⟩
            by_cases m0 : (0 : UInt8) ∈ x.data.toList
            · have q3 := findI_some 0 x.data.toList m0
              generalize findI 0 x.data.toList 0 = f0 at *
              go_wp2
              go_ret
              exact ⟨rfl, B1.out.trans (HX.out.tape.below.mono B1.out.size)⟩
            · have q3 := findI_none 0 x.data.toList m0
              have q3' : ¬ 0 ≤ findI 0 x.data.toList 0 := by omega
              have HVAL := Lib.hid (value_asis x.data.toList m38 m0)
              have H34 := Lib.hid m34
              clear q3 m38 m0 m34
              generalize findI 0 x.data.toList 0 = f0 at *
              go_wp2_with fail
              refine (tape_next w1 _ n w1.heap.size 6 _ HX.out.tape (by omega) (by omega)).mono ?_
              rintro e w3 ⟨r, hr, rfl, hS, hT⟩
              have HX3 := Lib.hid (HX.out.step hS hT)
              have hc3 : w3.cell? ⟨g, off + i, none⟩ = some (.string x) := (hS.cell g (off + i) (Or.inl (by omega))).trans hc1
              have hnc := HX3.out.name r hr
              obtain ⟨n0, nr, hnn, hn0, hna, hnm, hnl⟩ := Plain.mnames_ok r hr
              have HNN := Lib.hid hnn
              have HN0 := Lib.hid hn0
              have HNA := Lib.hid hna
              have HNM := Lib.hid hnm
              have r0 : (0 : Int) ≤ (r : Int) := by omega
              have r1 : (r : Int) < 6 := by omega
              obtain ⟨NB, hNB⟩ : ∃ NB : ByteArray, NB = ⟨(Plain.mnames.getD r []).toArray⟩ := ⟨_, rfl⟩
              have hNs : NB.size ≤ 6 := by
                rw [hNB, hnn]
                show (n0 :: nr).toArray.size ≤ 6
                simp
                omega
              rw [← hNB] at hnc
              have HNB := Lib.hid hNB
              have k2 := HX3.out.c 2
              have hFI := Lib.hid (rfindattr_any (.slice vp rs.length vc) rs NB w3 (AttrsAt.of_row HX3.out.row) (by omega))
              clear hS hT hnn hn0 hna hnm hNB hc hc1 HX I34 I38 I0
              go_wp2_with fail
              unfold FindOut at hFI
              rw [findV_has] at hFI
              generalize (findV rs NB.data.toList).getD [] = fv at hFI
              refine hFI.out.mono ?_
              rintro e w4 ⟨rfl, rfl⟩
              have HSIZE : Hid ((acc ++ ⟨#[32]⟩ ++ NB ++ ⟨#[61, 34]⟩ ++ x ++ ⟨#[34]⟩ : ByteArray).size ≤ 2 + 80 * (i + 1)) := Lib.hid (by
                simp only [ByteArray.size_append]
                have z1 : (⟨#[32]⟩ : ByteArray).size = 1 := rfl
                have z2 : (⟨#[61, 34]⟩ : ByteArray).size = 2 := rfl
                have z3 : (⟨#[34]⟩ : ByteArray).size = 1 := rfl
                omega)
              have HMADE : Hid (MadeAt (acc ++ ⟨#[32]⟩ ++ NB ++ ⟨#[61, 34]⟩ ++ x ++ ⟨#[34]⟩ : ByteArray).data.toList (Plain.addAttr true rs (NB.data.toList, x.data.toList))) := Lib.hid (by
                have hl : NB.data.toList = n0 :: nr := by rw [HNB.out, HNN.out]
                have h := HA.out.step n0 nr x.data.toList HN0.out (fun c hc => List.all_eq_true.1 HNA.out c hc) HNM.out H34.out
                rw [HVAL.out] at h
                have e1 : (acc ++ ⟨#[32]⟩ ++ NB ++ ⟨#[61, 34]⟩ ++ x ++ ⟨#[34]⟩ : ByteArray).data.toList = acc.data.toList ++ 32 :: n0 :: (nr ++ 61 :: 34 :: (x.data.toList ++ [34])) := by
                  simp [ByteArray.data_append, hl]
                rw [e1, hl]
                exact h)
              have HADD : Hid (Plain.addAttr true rs (NB.data.toList, x.data.toList) = if !Plain.hasName rs NB.data.toList && true then rs ++ [(NB.data.toList, x.data.toList)] else rs) := Lib.hid rfl
              generalize (acc ++ ⟨#[32]⟩ ++ NB ++ ⟨#[61, 34]⟩ ++ x ++ ⟨#[34]⟩ : ByteArray) = ACC at *
              clear hFI hnc HNB HNN HN0 HNA HNM HA HVAL H34
              cases hh : Plain.hasName rs NB.data.toList
              · have HADD : Hid (Plain.addAttr true rs (NB.data.toList, x.data.toList) = rs ++ [(NB.data.toList, x.data.toList)]) := Lib.hid (by have := HADD.out; rw [hh] at this; exact this)
                clear hh
                rw [HADD.out] at HMADE
                obtain ⟨i0, hi0, hz0, hz1, hz2⟩ := info_attr
                have HI := Lib.hid (And.intro hi0 (And.intro hz0 (And.intro hz1 hz2)))
                clear hi0 hz0 hz1 hz2
                have hlt := HX3.out.lt
                have hgl : g < w3.heap.size := by omega
                have fg : some g ≠ (Value.slice vp rs.length vc).ownBlock := fun e => by have := (HX3.out.row.lt _ e.symm).1; omega
                have fb : some (w1.heap.size + 1 + 1) ≠ (Value.slice vp rs.length vc).ownBlock := fun e => by have := (HX3.out.row.lt _ e.symm).1; omega
                have i0' : (0 : Int) ≤ (i : Int) := by omega
                go_wp2_with fail
                go_region_law (refine step_append_lies _ (by rfl) _ _ 29 (by rfl) (w1.heap.size + 3) 44 i0 (.agg #[.string ByteArray.empty, .string ByteArray.empty]) 2 32 Tryd.underlying29 HI.out.1 HI.out.2.1 HI.out.2.2.1 HI.out.2.2.2 rfl (by omega) (.slice vp rs.length vc) rs.length (attrCells rs) (by rfl) (by first | exact (HX3.out.row.alloc _).drew | exact HX3.out.row.drew.alloc _ | exact HX3.out.row.alloc _) ⟨w3.heap.size, 0, none⟩ 1 1 [.string NB, .string x] (by rfl) (by rfl) (World.news_of_block (cs := #[.string NB, .string x]) (t := 44) (fr := (0, 0)) (heap_alloc_new w3 _)) (by simp [Value.oneCell']) (by omega) (by unfold maxLen; omega) (by omega) (by simp; omega) (w3.heap.size + 1) (by simp) ?_; intro ga capa W5 hr5 hg5 hor5 hlt5; have k5 : W5.cell? ⟨w1.heap.size + 1 + 1, 2, none⟩ = some (.slice vp rs.length vc) := (hg5.cell_far ⟨w1.heap.size + 1 + 1, 2, none⟩ (by simp; omega) fb).trans ((World.cell?_alloc_lt w3 _ _ (by simp; omega)).trans (HX3.out.c 2)); have f5 : W5.frozen? ⟨w1.heap.size + 1 + 1, 2, none⟩ = false := (hg5.frozen_far ⟨w1.heap.size + 1 + 1, 2, none⟩ (by simp; omega) fb).trans ((((Below.refl _ w3).alloc (Nat.le_refl _) (.cells #[.string NB, .string x] 44)).frozen (p := ⟨w1.heap.size + 1 + 1, 2, none⟩) (by simp; omega)).trans (HX3.out.fc 2)); have HM5 := Lib.hid (MadeM.more (a := (NB.data.toList, x.data.toList)) (HX3.out.on (((Below.refl _ w3).alloc (Nat.le_refl _) (.cells #[.string NB, .string x] 44)).drew)) hg5 hr5); clear hr5 hg5 hor5 hlt5)
                all_goals
                  go_wp2
                  exact ⟨⟨i + 1, ACC, _, _, by omega, by go_num, rfl, HM5.out, HMADE.out, HSIZE.out, by simp; omega⟩, by simp [intOf]; omega⟩
              · have HADD : Hid (Plain.addAttr true rs (NB.data.toList, x.data.toList) = rs) := Lib.hid (by have := HADD.out; rw [hh] at this; exact this)
                clear hh
                rw [HADD.out] at HMADE
                go_wp2
                exact ⟨⟨i + 1, ACC, _, rs, by omega, by go_num, rfl, HX3.out, HMADE.out, HSIZE.out, by omega⟩, by simp [intOf]; omega⟩
    · have HBB := Lib.hid (B1.out.trans (HX.out.tape.below.mono B1.out.size))
      have hcond : ¬ (i : Int) < (k : Int) ∨ ((i : Int) < (k : Int) ∧ ¬ (i : Int) < 6) := by omega
      have HT := fun (A : ByteArray) (hA : A.data.toList = (acc.data.toList ++ (if sf then [47] else [])) ++ [62] ++ [60, 120, 62]) (hAs : A.size ≤ 268435456) => Lib.hid (read_tk A 0 wr (HMX.out.below HBB.out) (HEA.out.below HBB.out hE) (by
        rw [hA]
        obtain ⟨⟨m, hm, _⟩, _⟩ := HA.out
        rw [hm]
        exact at_head 112 _ (by decide)) hAs)
      have HCL := Lib.hid (HA.out.close sf)
      have k0 := HX.out.c 0
      have k1 := HX.out.c 1
      have k2 := HX.out.c 2
      have k3 := HX.out.c 3
      have k4 := HX.out.c 4
      have hlt := HX.out.lt
      have HAT := Lib.hid (AttrsAt.of_row HX.out.row)
      clear hik
      cases sf
      · have HTA := HT (acc ++ ⟨#[62]⟩ ++ ⟨#[60, 120, 62]⟩) (by simp [ByteArray.data_append]) (by
          simp only [ByteArray.size_append]
          have z1 : (⟨#[62]⟩ : ByteArray).size = 1 := rfl
          have z2 : (⟨#[47]⟩ : ByteArray).size = 1 := rfl
          have z3 : (⟨#[60, 120, 62]⟩ : ByteArray).size = 3 := rfl
          omega)
        rw [show (acc ++ ⟨#[62]⟩ ++ ⟨#[60, 120, 62]⟩ : ByteArray).data.toList = (acc.data.toList ++ (if false = true then [47] else [])) ++ [62] ++ [60, 120, 62] by simp [ByteArray.data_append], HCL.out] at HTA
        have HLEN : Hid (((acc.data.toList ++ (if false = true then [47] else [])) ++ [62]).length = (acc ++ ⟨#[62]⟩ : ByteArray).size) := Lib.hid (by
          rw [← len_of]
          simp [ByteArray.data_append])
        rw [HLEN.out] at HTA
        have hS1 : (acc ++ ⟨#[62]⟩ : ByteArray).size ≤ 1000 := by
          simp only [ByteArray.size_append]
          have z1 : (⟨#[62]⟩ : ByteArray).size = 1 := rfl
          have z2 : (⟨#[47]⟩ : ByteArray).size = 1 := rfl
          omega
        rcases hcond with hc1 | ⟨hc1, hc2⟩
        all_goals
          clear HT HCL HLEN
          go_wp2_with fail
          refine HTA.out.mono ?_
          rintro e w4 ⟨v4, rfl, ha4, b4⟩
          simp only at ha4
          have HA4 := Lib.hid ha4
          obtain ⟨p4, c4, rfl, hq4⟩ := ha4
          clear hq4
          have b5 := b4.alloc b4.size (.cells #[.int .i64 1, .string ⟨[112].toArray⟩, .slice p4 rs.length c4, .bool false, .string ⟨#[]⟩] 31)
          have HA5 := Lib.hid (HA4.out.below ((Below.refl _ w4).alloc (Nat.le_refl _) (.cells #[.int .i64 1, .string ⟨[112].toArray⟩, .slice p4 rs.length c4, .bool false, .string ⟨#[]⟩] 31)))
          have HW5 := Lib.hid (HAT.out.below b5)
          have m0 := (b5.cell (p := ⟨w1.heap.size + 1 + 1, 0, none⟩) hlt).trans k0
          have m1 := (b5.cell (p := ⟨w1.heap.size + 1 + 1, 1, none⟩) hlt).trans k1
          have m2 := (b5.cell (p := ⟨w1.heap.size + 1 + 1, 2, none⟩) hlt).trans k2
          have m3 := (b5.cell (p := ⟨w1.heap.size + 1 + 1, 3, none⟩) hlt).trans k3
          have m4 := (b5.cell (p := ⟨w1.heap.size + 1 + 1, 4, none⟩) hlt).trans k4
          have hs4 := b4.size
          have B5 := Lib.hid (HBB.out.trans (b5.mono HBB.out.size))
          clear b4 b5 HA4 HTA k0 k1 k2 k3 k4
          have e1 : ∀ z : Int, (z == z) = true := fun z => beq_self_eq_true z
          have e2 := e1 ((acc ++ ⟨#[62]⟩ : ByteArray).size : Int)
          clear e1
          go_wp2_with fail
          refine (rone_any 1 ⟨#[112]⟩ ⟨#[]⟩ false _ _ rs _ HA5.out HW5.out (by omega)).mono ?_
          rintro e w6 ⟨rfl, b6⟩
          have B6 := Lib.hid (B5.out.trans (b6.mono B5.out.size))
          clear b6 m0 m1 m2 m3 m4
          go_wp2
          go_ret
          exact ⟨by simp, B6.out⟩
      · have HTA := HT (acc ++ ⟨#[47]⟩ ++ ⟨#[62]⟩ ++ ⟨#[60, 120, 62]⟩) (by simp [ByteArray.data_append]) (by
          simp only [ByteArray.size_append]
          have z1 : (⟨#[62]⟩ : ByteArray).size = 1 := rfl
          have z2 : (⟨#[47]⟩ : ByteArray).size = 1 := rfl
          have z3 : (⟨#[60, 120, 62]⟩ : ByteArray).size = 3 := rfl
          omega)
        rw [show (acc ++ ⟨#[47]⟩ ++ ⟨#[62]⟩ ++ ⟨#[60, 120, 62]⟩ : ByteArray).data.toList = (acc.data.toList ++ (if true = true then [47] else [])) ++ [62] ++ [60, 120, 62] by simp [ByteArray.data_append], HCL.out] at HTA
        have HLEN : Hid (((acc.data.toList ++ (if true = true then [47] else [])) ++ [62]).length = (acc ++ ⟨#[47]⟩ ++ ⟨#[62]⟩ : ByteArray).size) := Lib.hid (by
          rw [← len_of]
          simp [ByteArray.data_append])
        rw [HLEN.out] at HTA
        have hS1 : (acc ++ ⟨#[47]⟩ ++ ⟨#[62]⟩ : ByteArray).size ≤ 1000 := by
          simp only [ByteArray.size_append]
          have z1 : (⟨#[62]⟩ : ByteArray).size = 1 := rfl
          have z2 : (⟨#[47]⟩ : ByteArray).size = 1 := rfl
          omega
        rcases hcond with hc1 | ⟨hc1, hc2⟩
        all_goals
          clear HT HCL HLEN
          go_wp2_with fail
          refine HTA.out.mono ?_
          rintro e w4 ⟨v4, rfl, ha4, b4⟩
          simp only at ha4
          have HA4 := Lib.hid ha4
          obtain ⟨p4, c4, rfl, hq4⟩ := ha4
          clear hq4
          have b5 := b4.alloc b4.size (.cells #[.int .i64 1, .string ⟨[112].toArray⟩, .slice p4 rs.length c4, .bool true, .string ⟨#[]⟩] 31)
          have HA5 := Lib.hid (HA4.out.below ((Below.refl _ w4).alloc (Nat.le_refl _) (.cells #[.int .i64 1, .string ⟨[112].toArray⟩, .slice p4 rs.length c4, .bool true, .string ⟨#[]⟩] 31)))
          have HW5 := Lib.hid (HAT.out.below b5)
          have m0 := (b5.cell (p := ⟨w1.heap.size + 1 + 1, 0, none⟩) hlt).trans k0
          have m1 := (b5.cell (p := ⟨w1.heap.size + 1 + 1, 1, none⟩) hlt).trans k1
          have m2 := (b5.cell (p := ⟨w1.heap.size + 1 + 1, 2, none⟩) hlt).trans k2
          have m3 := (b5.cell (p := ⟨w1.heap.size + 1 + 1, 3, none⟩) hlt).trans k3
          have m4 := (b5.cell (p := ⟨w1.heap.size + 1 + 1, 4, none⟩) hlt).trans k4
          have hs4 := b4.size
          have B5 := Lib.hid (HBB.out.trans (b5.mono HBB.out.size))
          clear b4 b5 HA4 HTA k0 k1 k2 k3 k4
          have e1 : ∀ z : Int, (z == z) = true := fun z => beq_self_eq_true z
          have e2 := e1 ((acc ++ ⟨#[47]⟩ ++ ⟨#[62]⟩ : ByteArray).size : Int)
          clear e1
          go_wp2_with fail
          refine (rone_any 1 ⟨#[112]⟩ ⟨#[]⟩ true _ _ rs _ HA5.out HW5.out (by omega)).mono ?_
          rintro e w6 ⟨rfl, b6⟩
          have B6 := Lib.hid (B5.out.trans (b6.mono B5.out.size))
          clear b6 m0 m1 m2 m3 m4
          go_wp2
          go_ret
          exact ⟨by simp, B6.out⟩
end Go.Proofs.YtklhllgdkmpnmaaDoor
