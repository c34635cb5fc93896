/-
  The walk of the reference's Read of an end. Any text of at most 2^28 bytes.
-/
import Derived.Test.YtgelgfgcdfnacaaGreatDoorUWayAll
import Derived.Deep.DeepCutAuto
import Derived.Deep.CutBlock
namespace Go.Proofs.YtgelgfgcdfnacaaGreatDoor
open Go.RowKit

theorem findV_has (rs : List (List UInt8 × List UInt8)) (n : List UInt8) : (findV rs n).isSome = Plain.hasName rs n := by
  unfold findV Plain.hasName
  rw [Option.isSome_map, Bool.eq_iff_iff, List.find?_isSome, List.any_eq_true]

set_option maxHeartbeats 4000000 in
set_option maxRecDepth 100000 in
theorem rread_end (s : ByteArray) (k : Nat) (w : World) (K : Int) (st : Bool) (hK : K = 2) (hst : ((K : Int) == 1) = st) (hk : k + 1 < s.size) (h47 : s[k + 1].toNat = 47) (hs : s.size ≤ 268435456) : Calls Tryz.prog 41 #[.string s, .int .i64 (k : Int)] w (ReadOut K (Plain.clear (Plain.fold ((s.data.toList.take (Plain.nameEnd s.data.toList (k + 2))).drop (k + 2)))) (Plain.readT st s.data.toList (Plain.nameEnd s.data.toList (k + 2)) []) w) := by
  have HL := Lib.hid (len_of s)
  have q1 : ((s[k + 1].toNat : Int) == 47) = true := by simp [h47]
  clear h47
  go_enter Tryz.func41, Tryz.ntmps41
  go_upto_block 0 with fail
  have HW := Lib.hid (ReadW.start w 2)
  generalize ((w.alloc (.cells #[.int .i64 0, .string ⟨#[]⟩, .slice none 0 0, .bool false, .string ⟨#[]⟩] 33)).alloc (.cells #[.int .i64 2, .string ⟨#[]⟩, .slice none 0 0, .bool false, .string ⟨#[]⟩] 33)) = W at *
  have HW : Hid (ReadW w K ⟨#[]⟩ (.slice none 0 0) [] W) := by rw [hK]; exact HW
  clear hK
  have hp : k + 2 ≤ s.size := by omega
  rw [show ((k : Int) + 1 + 1) = ((k + 2 : Nat) : Int) by omega]
  generalize k + 2 = p at *
  go_cut [8] (fun q wx => q = .int .i64 ((Plain.nameEnd s.data.toList p : Nat) : Int) ∧ W = wx)
  case first =>
    go_wp2_with fail
    go_loop [8] (fun v => ∃ i : Nat, v = .int .i64 (i : Int) ∧ Plain.RunAt Plain.inName s.data.toList p i) (fun v => s.size - (intOf v).toNat)
    case atStart => exact ⟨p, rfl, Plain.RunAt.start _ _ _ (by rw [HL.out]; omega)⟩
    case round =>
      obtain ⟨i, rfl, hR⟩ := hrel
      have h1 := hR.1
      have h2 := hR.2.1
      rw [HL.out] at h2
      have HR := Lib.hid hR
      clear hR
      have HST : Hid (∀ (_ : ∀ hi : i < s.data.toList.length, Plain.inName s.data.toList[i] = false), Plain.nameEnd s.data.toList p = i) := by
        refine Lib.hid fun h => ?_
        have := HR.out.stop h
        unfold Plain.nameEnd
        rw [this]
        omega
      by_cases hlt : i < s.size
      · have hlt' : i < s.data.toList.length := by rw [HL.out]; exact hlt
        have h8 : s[i].toNat < 256 := s[i].toNat_lt
        cases hbl : Plain.blankB s[i]
        · have HBL := Lib.hid hbl
          by_cases h47 : s[i].toNat = 47
          · have HE := Lib.hid (HST.out fun _ => by show Plain.inName s[i] = false; unfold Plain.inName; simp [h47])
            have q1 : ((s[i].toNat : Int) != 47) = false := by simp [h47]
            clear hbl h47
            go_wp2_with (go_at_call 60; refine (rblank_no _ _ HBL.out).mono ?_; rintro e w1 ⟨rfl, rfl⟩)
            go_meet
            exact ⟨by rw [HE.out], rfl⟩
          · have q1 : ((s[i].toNat : Int) != 47) = true := by simp; omega
            by_cases h62 : s[i].toNat = 62
            · have HE := Lib.hid (HST.out fun _ => by show Plain.inName s[i] = false; unfold Plain.inName; simp [h62])
              have q2 : ((s[i].toNat : Int) != 62) = false := by simp [h62]
              clear hbl h47 h62
              go_wp2_with (go_at_call 60; refine (rblank_no _ _ HBL.out).mono ?_; rintro e w1 ⟨rfl, rfl⟩)
              go_meet
              exact ⟨by rw [HE.out], rfl⟩
            · have q2 : ((s[i].toNat : Int) != 62) = true := by simp; omega
              have HN := Lib.hid (HR.out.step hlt' (show Plain.inName s[i] = true by unfold Plain.inName; simp [hbl, h47, h62]))
              clear hbl h47 h62
              go_wp2_with (go_at_call 60; refine (rblank_no _ _ HBL.out).mono ?_; rintro e w1 ⟨rfl, rfl⟩)
              exact ⟨⟨i + 1, by go_num, HN.out⟩, by simp [intOf]; omega⟩
        · have HBL := Lib.hid hbl
          have HE := Lib.hid (HST.out fun _ => by show Plain.inName s[i] = false; unfold Plain.inName; simp [hbl])
          clear hbl
          go_wp2_with (go_at_call 60; refine (rblank_yes _ _ HBL.out).mono ?_; rintro e w1 ⟨rfl, rfl⟩)
          go_meet
          exact ⟨by rw [HE.out], rfl⟩
      · have HE := Lib.hid (HST.out fun h => absurd h (by rw [HL.out]; exact hlt))
        go_wp2
        go_meet
        exact ⟨by rw [HE.out], rfl⟩
  case rest =>
    obtain ⟨rfl, rfl⟩ := hcut
    have hr1 := Plain.runP_le Plain.inName (s.data.toList.drop p)
    rw [List.length_drop, HL.out] at hr1
    have hE1 : p ≤ Plain.nameEnd s.data.toList p := by unfold Plain.nameEnd; omega
    have hE2 : Plain.nameEnd s.data.toList p ≤ s.size := by unfold Plain.nameEnd; omega
    have hsl := fun W => slice_mid s p (Plain.nameEnd s.data.toList p) W hE1 hE2
    have hxs : (s.extract p (Plain.nameEnd s.data.toList p)).size ≤ 1073741824 := by rw [ByteArray.size_extract]; omega
    have F1 := fun W => Lib.hid (rfold_any (s.extract p (Plain.nameEnd s.data.toList p)) W (by unfold maxLen; omega))
    rw [mid_list] at F1
    have hfl : (Plain.fold ((s.data.toList.take (Plain.nameEnd s.data.toList p)).drop p)).length ≤ 1073741824 := by
      rw [Plain.fold_length, List.length_drop, List.length_take]; omega
    have C1 := fun W => Lib.hid (rclear_any ⟨(Plain.fold ((s.data.toList.take (Plain.nameEnd s.data.toList p)).drop p)).toArray⟩ W (by show (Plain.fold _).toArray.size ≤ _; rw [List.size_toArray]; exact hfl))
    generalize Plain.nameEnd s.data.toList p = E at *
    unfold Gives at C1
    have hd : (⟨(Plain.fold ((s.data.toList.take E).drop p)).toArray⟩ : ByteArray).data.toList = Plain.fold ((s.data.toList.take E).drop p) := rfl
    rw [hd] at C1
    generalize (⟨(Plain.fold ((s.data.toList.take E).drop p)).toArray⟩ : ByteArray) = FB at *
    generalize Plain.clear (Plain.fold ((s.data.toList.take E).drop p)) = NL at *
    clear hr1 hfl hd
    go_wp2_with fail
    refine (F1 _).out.mono ?_
    rintro e w2 ⟨rfl, b2⟩
    go_wp2_with fail
    refine (C1 _).out.mono ?_
    rintro e w3 ⟨rfl, rfl⟩
    have HW2 := Lib.hid (HW.out.on b2)
    have HW3 := Lib.hid (HW2.out.name ⟨NL.toArray⟩)
    have c1 := HW2.out.c 1
    have f1 := HW2.out.fc 1
    clear b2 F1 C1 HW
    go_wp2_with fail
    generalize w2.setCell ⟨w.heap.size + 1, 1, none⟩ (.string ⟨NL.toArray⟩) = W3 at *
    obtain ⟨R, HRR⟩ : ∃ R, Hid (Plain.readT st s.data.toList E [] = R) := ⟨_, Lib.hid rfl⟩
    rw [HRR.out]
    clear c1 f1 HW2
    go_loopw [8] (fun q X => ∃ (i : Nat) (v : Value) (rs : List (List UInt8 × List UInt8)), q = .int .i64 (i : Int) ∧ ReadW w K ⟨NL.toArray⟩ v rs X ∧ rs.length ≤ i ∧ i ≤ s.size ∧ Plain.readT st s.data.toList i rs = R) (fun q _ => s.size - (intOf q).toNat)
    case atStart => exact ⟨E, _, [], rfl, HW3.out, Nat.zero_le _, hE2, HRR.out⟩
    case round =>
      obtain ⟨i, v, rs, rfl, hX, hrl, hi, hRi⟩ := hrel
      obtain ⟨vp, vc, rfl, hvc⟩ := AttrsAt.of_row hX.row
      clear hvc
      have HX := Lib.hid hX
      have HRi := Lib.hid hRi
      clear hX hRi
      go_upto_block 4 with fail
      go_cut [8, 9] (fun q sl wx => q = .int .i64 ((i + Plain.gapN s.data.toList i : Nat) : Int) ∧ sl = .bool (Plain.slashAt s.data.toList i) ∧ wr = wx)
      case first =>
        go_wp2_with fail
        go_loop [8, 9] (fun q sl => ∃ j : Nat, q = .int .i64 (j : Int) ∧ sl = .bool (slB s.data.toList i j) ∧ Plain.RunAt Plain.inGap s.data.toList i j) (fun q _ => s.size - (intOf q).toNat)
        case atStart => exact ⟨i, rfl, by rw [slB_start], Plain.RunAt.start _ _ _ (by rw [HL.out]; omega)⟩
        case round =>
          obtain ⟨j, rfl, rfl, hR⟩ := hrel
          have h1 := hR.1
          have h2 := hR.2.1
          rw [HL.out] at h2
          have HR := Lib.hid hR
          clear hR
          have HST : Hid (∀ (_ : ∀ hi : j < s.data.toList.length, Plain.inGap s.data.toList[j] = false), i + Plain.gapN s.data.toList i = j ∧ Plain.slashAt s.data.toList i = slB s.data.toList i j) := by
            refine Lib.hid fun h => ?_
            have := HR.out.stop h
            have hg : Plain.gapN s.data.toList i = j - i := this
            refine ⟨by omega, ?_⟩
            unfold Plain.slashAt slB
            rw [hg, show i + (j - i) - 1 = j - 1 by omega]
            congr 1
            rw [Bool.eq_iff_iff, decide_eq_true_iff, decide_eq_true_iff]
            omega
          by_cases hlt : j < s.size
          · have hlt' : j < s.data.toList.length := by rw [HL.out]; exact hlt
            have h8 : s[j].toNat < 256 := s[j].toNat_lt
            have HSL := Lib.hid (slB_next s i j h1 hlt)
            cases hbl : Plain.blankB s[j]
            · have HBL := Lib.hid hbl
              by_cases h47 : s[j].toNat = 47
              · have HN := Lib.hid (HR.out.step hlt' (show Plain.inGap s[j] = true by unfold Plain.inGap; simp [h47]))
                have q1 : ((s[j].toNat : Int) == 47) = true := by simp [h47]
                have HS2 : Hid (slB s.data.toList i (j + 1) = true) := Lib.hid (by rw [HSL.out]; simp [h47])
                clear hbl h47
                go_wp2_with (go_at_call 60; refine (rblank_no _ _ HBL.out).mono ?_; rintro e w1 ⟨rfl, rfl⟩)
                exact ⟨⟨j + 1, by go_num, by rw [HS2.out], HN.out⟩, by simp [intOf]; omega⟩
              · have HE := Lib.hid (HST.out fun _ => by show Plain.inGap s[j] = false; unfold Plain.inGap; simp [hbl, h47])
                have q1 : ((s[j].toNat : Int) == 47) = false := by simp; omega
                clear hbl h47
                go_wp2_with (go_at_call 60; refine (rblank_no _ _ HBL.out).mono ?_; rintro e w1 ⟨rfl, rfl⟩)
                go_meet
                exact ⟨by rw [HE.out.1], by rw [HE.out.2], rfl⟩
            · have HBL := Lib.hid hbl
              have h47 : s[j].toNat ≠ 47 := by intro e; rw [Plain.blankB_true] at hbl; omega
              have q1 : ((s[j].toNat : Int) == 47) = false := by simp; omega
              have HN := Lib.hid (HR.out.step hlt' (show Plain.inGap s[j] = true by unfold Plain.inGap; simp [hbl]))
              have HS2 : Hid (slB s.data.toList i (j + 1) = false) := Lib.hid (by rw [HSL.out]; simp [h47])
              clear hbl h47
              go_wp2_with (go_at_call 60; refine (rblank_yes _ _ HBL.out).mono ?_; rintro e w1 ⟨rfl, rfl⟩)
              exact ⟨⟨j + 1, by go_num, by rw [HS2.out], HN.out⟩, by simp [intOf]; omega⟩
          · have HE := Lib.hid (HST.out fun h => absurd h (by rw [HL.out]; exact hlt))
            go_wp2
            go_meet
            exact ⟨by rw [HE.out.1], by rw [HE.out.2], rfl⟩
      case rest =>
        obtain ⟨rfl, rfl, rfl⟩ := hcut
        have hg1 := Plain.runP_le Plain.inGap (s.data.toList.drop i)
        rw [List.length_drop, HL.out] at hg1
        have hg2 : i + Plain.gapN s.data.toList i ≤ s.size := by unfold Plain.gapN; omega
        have hg3 : i ≤ i + Plain.gapN s.data.toList i := by omega
        clear hg1
        have hlt := HX.out.lt
        have r0 := HX.out.r 0
        have r1 := HX.out.r 1
        have r2 := HX.out.r 2
        have r3 := HX.out.r 3
        have r4 := HX.out.r 4
        have fr := HX.out.fr
        have c0 := HX.out.c 0
        have c1 := HX.out.c 1
        have c2 := HX.out.c 2
        have c3 := HX.out.c 3
        have c4 := HX.out.c 4
        have fc := HX.out.fc
        by_cases hje : s.size ≤ i + Plain.gapN s.data.toList i
        · have HRE : Hid (R = (none, s.size)) := Lib.hid (by rw [← HRi.out, Plain.readT_end st _ i rs (by rw [HL.out]; exact hje), HL.out])
          generalize i + Plain.gapN s.data.toList i = j at *
          have hj' : (s.size : Int) ≤ (j : Int) := by omega
          go_wp2
          refine bodyPost_ret (v := .tuple #[.agg #[.int .i64 0, .string ⟨#[]⟩, .slice none 0 0, .bool false, .string ⟨#[]⟩], .int .i64 (s.size : Int)]) (by simp [results, Tryz.results41, go_sem, *]) rfl ⟨?_, ?_⟩
          · left
            rw [HRE.out]
            exact ⟨rfl, rfl⟩
          · repeat (first | exact HX.out.below | refine Below.setCell ?_ (by first | omega | exact Nat.le_refl _ | (simp; omega)) _)
        · have hj : i + Plain.gapN s.data.toList i < s.size := by omega
          by_cases h62 : (s[i + Plain.gapN s.data.toList i]'hj).toNat = 62
          · have HRE : Hid (R = (some (rs, Plain.slashAt s.data.toList i && st), i + Plain.gapN s.data.toList i + 1)) := Lib.hid (by rw [← HRi.out, Plain.readT_close st _ i rs (by rw [HL.out]; exact hje) (by rw [Plain.getD_get s _ hj]; exact h62)])
            have q2 : (((s[i + Plain.gapN s.data.toList i]'hj).toNat : Int) == 62) = true := by simp [h62]
            clear h62 hje
            generalize Plain.slashAt s.data.toList i = sl at *
            generalize i + Plain.gapN s.data.toList i = j at *
            cases sl
            · rw [Bool.false_and] at HRE
              go_wp2
              refine bodyPost_ret (v := .tuple #[.agg #[.int .i64 K, .string ⟨NL.toArray⟩, .slice vp rs.length vc, .bool false, .string ⟨#[]⟩], .int .i64 ((j + 1 : Nat) : Int)]) (by simp [results, Tryz.results41, go_sem, *]) rfl ⟨?_, ?_⟩
              · right
                rw [HRE.out]
                refine ⟨rs, _, .slice vp rs.length vc, rfl, rfl, AttrsAt.of_row (base := w.heap.size + 2) ?_⟩
                iterate 6 refine ownsRow_setCell_below ?_ (by simp) _
                exact HX.out.row
              · iterate 6 refine Below.setCell ?_ (by simp) _
                exact HX.out.below
            · rw [Bool.true_and] at HRE
              go_wp2
              refine bodyPost_ret (v := .tuple #[.agg #[.int .i64 K, .string ⟨NL.toArray⟩, .slice vp rs.length vc, .bool st, .string ⟨#[]⟩], .int .i64 ((j + 1 : Nat) : Int)]) (by simp [results, Tryz.results41, go_sem, *]) rfl ⟨?_, ?_⟩
              · right
                rw [HRE.out]
                refine ⟨rs, _, .slice vp rs.length vc, rfl, rfl, AttrsAt.of_row (base := w.heap.size + 2) ?_⟩
                iterate 6 refine ownsRow_setCell_below ?_ (by simp) _
                exact HX.out.row
              · iterate 6 refine Below.setCell ?_ (by simp) _
                exact HX.out.below
          · have hjl : i + Plain.gapN s.data.toList i < s.data.toList.length := by rw [HL.out]; exact hj
            have HRE : Hid (Plain.readT st s.data.toList (Plain.attrAt s.data.toList (i + Plain.gapN s.data.toList i)).2 (Plain.addAttr st rs (Plain.attrAt s.data.toList (i + Plain.gapN s.data.toList i)).1) = R) := Lib.hid (by rw [← HRi.out, Plain.readT_attr st _ i rs (by rw [HL.out]; exact hje) (by rw [Plain.getD_get s _ hj]; exact h62)])
            have hat1 := Plain.attrAt_le _ _ hjl
            rw [HL.out] at hat1
            have HA := fun W => Lib.hid (rattr_any s (i + Plain.gapN s.data.toList i) W hj hs)
            have h8 : (s[i + Plain.gapN s.data.toList i]'hj).toNat < 256 := (s[i + Plain.gapN s.data.toList i]'hj).toNat_lt
            have q2 : (((s[i + Plain.gapN s.data.toList i]'hj).toNat : Int) == 62) = false := beq_eq_false_iff_ne.2 (by omega)
            clear h62 hje hjl r0 r1 r2 r3 r4 fr c0 c1 c2 c3 c4 fc hlt HRi
            generalize Plain.slashAt s.data.toList i = sl at *
            generalize i + Plain.gapN s.data.toList i = j at *
            generalize Plain.attrAt s.data.toList j = A at *
            obtain ⟨⟨an, av⟩, te⟩ := A
            simp only at hat1 HRE
            go_wp2_with fail
            refine (HA _).out.mono ?_
            rintro e w5 ⟨rfl, b5⟩
            have HX6 := Lib.hid ((HX.out.on b5).on ((Below.refl _ w5).alloc (Nat.le_refl _) (.cells #[.string ⟨an.toArray⟩, .string ⟨av.toArray⟩] 63)))
            have HF := Lib.hid (rfindattr_any (.slice vp rs.length vc) rs ⟨an.toArray⟩ _ (AttrsAt.of_row HX6.out.row) (by omega))
            rw [show (⟨an.toArray⟩ : ByteArray).data.toList = an from rfl] at HF
            unfold FindOut at HF
            rw [findV_has] at HF
            generalize (findV rs an).getD [] = fv at HF
            have hzl : w.heap.size + 1 < w5.heap.size := by have := HX.out.lt; have := b5.size; omega
            have c2 := HX6.out.c 2
            have c0 := HX6.out.c 0
            have fc := HX6.out.fc 2
            clear b5 HA HX
            go_wp2_with fail
            refine HF.out.mono ?_
            rintro e w7 ⟨rfl, rfl⟩
            clear HF
            have HADD : Hid (Plain.addAttr st rs (an, av) = if !Plain.hasName rs an && st then rs ++ [(an, av)] else rs) := Lib.hid rfl
            cases hh : Plain.hasName rs an
            · cases st
              · have HRE : Hid (Plain.readT false s.data.toList te rs = R) := Lib.hid (by have := HRE.out; rw [HADD.out, hh] at this; exact this)
                clear hh HADD
                go_wp2
                exact ⟨⟨te, _, rs, rfl, HX6.out, by omega, by omega, HRE.out⟩, by simp [intOf]; omega⟩
              · have HRE : Hid (Plain.readT true s.data.toList te (rs ++ [(an, av)]) = R) := Lib.hid (by have := HRE.out; rw [HADD.out, hh] at this; exact this)
                clear hh HADD
                obtain ⟨i0, hi0, hz0, hz1, hz2⟩ := info_attr
                have HI := Lib.hid (And.intro hi0 (And.intro hz0 (And.intro hz1 hz2)))
                clear hi0 hz0 hz1 hz2
                have HNEWS : Hid (∀ j u, ([.string ⟨an.toArray⟩, .string ⟨av.toArray⟩] : List Value)[j]? = some u → ((w5.alloc (.cells #[.string ⟨an.toArray⟩, .string ⟨av.toArray⟩] 63)).alloc (.cells #[.string ⟨an.toArray⟩, .string ⟨av.toArray⟩] 63)).cell? ((⟨w5.heap.size + 1, 0, none⟩ : Addr).add j) = some u) := Lib.hid (by
                  have h := World.news_of_block (cs := #[.string ⟨an.toArray⟩, .string ⟨av.toArray⟩]) (heap_alloc_new (w5.alloc (.cells #[.string ⟨an.toArray⟩, .string ⟨av.toArray⟩] 63)) (.cells #[.string ⟨an.toArray⟩, .string ⟨av.toArray⟩] 63))
                  rw [show (w5.alloc (.cells #[.string ⟨an.toArray⟩, .string ⟨av.toArray⟩] 63)).heap.size = w5.heap.size + 1 by simp] at h
                  exact h)
                go_upto_region 22 with fail
                go_wp2_with (first
                  | (at_builtin; refine wpList_append_lies _ rfl _ _ 31 rfl (w.heap.size + 2) 63 i0 (.agg #[.string ByteArray.empty, .string ByteArray.empty]) 2 32 Tryz.underlying31 HI.out.1 HI.out.2.1 HI.out.2.2.1 HI.out.2.2.2 rfl (by omega) _ rs.length (attrCells rs) rfl (HX6.out.row.alloc _) ⟨w5.heap.size + 1, 0, none⟩ 1 1 [.string ⟨an.toArray⟩, .string ⟨av.toArray⟩] rfl rfl HNEWS.out (by simp [Value.oneCell']) (by omega) (by unfold maxLen; omega) (by omega) (by simp; omega) _ rfl ?_)
                  | go_in)
                intro g cap W8 hr8 hg8 hor8 hlt8
                have HX7 := Lib.hid (HX6.out.on ((Below.refl _ _).alloc (Nat.le_refl _) (.cells #[.string ⟨an.toArray⟩, .string ⟨av.toArray⟩] 63)))
                have HX8 := Lib.hid (ReadW.more (a := (an, av)) HX7.out hg8 hr8)
                have fb : some (w.heap.size + 1) ≠ (Value.slice vp rs.length vc).ownBlock := fun e => by have := (HX7.out.row.lt _ e.symm).1; omega
                have k8 := (hg8.cell_far ⟨w.heap.size + 1, 2, none⟩ (by simp; omega) fb).trans (HX7.out.c 2)
                have f8 := (hg8.frozen_far ⟨w.heap.size + 1, 2, none⟩ (by simp; omega) fb).trans (HX7.out.fc 2)
                clear HX6 HX7 fb hr8 hg8 hor8 hlt8 c2 c0 fc
                go_wp2
                exact ⟨⟨te, _, rs ++ [(an, av)], rfl, HX8.out, by simp; omega, by omega, HRE.out⟩, by simp [intOf]; omega⟩
            · have HRE : Hid (Plain.readT st s.data.toList te rs = R) := Lib.hid (by have := HRE.out; rw [HADD.out, hh] at this; exact this)
              clear hh HADD
              go_wp2
              exact ⟨⟨te, _, rs, rfl, HX6.out, by omega, by omega, HRE.out⟩, by simp [intOf]; omega⟩
end Go.Proofs.YtgelgfgcdfnacaaGreatDoor
