/-
  The walk of the reference's attr. Any text of at most 2^28 bytes.
-/
import Derived.Test.YtgelgfgcdfnacaaGreatDoorUTag
import Derived.Deep.DeepCutAuto
import Derived.Deep.CutBlock
namespace Go.Proofs.YtgelgfgcdfnacaaGreatDoor
open Go.RowKit

theorem slice_mid (s : ByteArray) (a b : Nat) (W : World) (h1 : a ≤ b) (h2 : b ≤ s.size) : (Instr.slice 9 (.string s) (some (.int .i64 (a : Int))) (some (.int .i64 (b : Int))) none).run Tryz.prog W = .ok (.string (s.extract a b)) W := by
  rw [run_slice_string W 9 s .i64 .i64 (a : Int) (b : Int) Tryz.underlying9 (by omega) (by omega) (by omega)]
  rfl
theorem mid_list (s : ByteArray) (a b : Nat) : (s.extract a b).data.toList = (s.data.toList.take b).drop a := by
  rw [Lib.extract_data, List.drop_take]
theorem old_cells {w w1 : World} (hb : Below w.heap.size w w1) : (∀ b o, b < w.heap.size → w1.cell? ⟨b, o, none⟩ = w.cell? ⟨b, o, none⟩) ∧ (∀ b o, b < w.heap.size → w1.frozen? ⟨b, o, none⟩ = w.frozen? ⟨b, o, none⟩) :=
  ⟨fun b o h => hb.cell (p := ⟨b, o, none⟩) h, fun b o h => hb.frozen (p := ⟨b, o, none⟩) h⟩

/-- What the world of attr holds: the result's block (w's next), the attribute's block B. -/
structure AttrW (w : World) (B : Nat) (N V : ByteArray) (W : World) : Prop where
  lt : w.heap.size < B ∧ B < W.heap.size
  r0 : W.cell? ⟨w.heap.size, 0, none⟩ = some (.string ⟨#[]⟩)
  r1 : W.cell? ⟨w.heap.size, 1, none⟩ = some (.string ⟨#[]⟩)
  fr0 : W.frozen? ⟨w.heap.size, 0, none⟩ = false
  fr1 : W.frozen? ⟨w.heap.size, 1, none⟩ = false
  c0 : W.cell? ⟨B, 0, none⟩ = some (.string N)
  c1 : W.cell? ⟨B, 1, none⟩ = some (.string V)
  fc1 : W.frozen? ⟨B, 1, none⟩ = false
  below : Below w.heap.size w W
theorem AttrW.on {w W W' : World} {B : Nat} {N V : ByteArray} (h : AttrW w B N V W) (hb : Below W.heap.size W W') : AttrW w B N V W' := by
  have h1 := h.lt
  exact ⟨⟨h1.1, Nat.lt_of_lt_of_le h1.2 hb.size⟩, (hb.cell (p := ⟨w.heap.size, 0, none⟩) (by simp; omega)).trans h.r0, (hb.cell (p := ⟨w.heap.size, 1, none⟩) (by simp; omega)).trans h.r1,
    (hb.frozen (p := ⟨w.heap.size, 0, none⟩) (by simp; omega)).trans h.fr0, (hb.frozen (p := ⟨w.heap.size, 1, none⟩) (by simp; omega)).trans h.fr1, (hb.cell (p := ⟨B, 0, none⟩) h1.2).trans h.c0,
    (hb.cell (p := ⟨B, 1, none⟩) h1.2).trans h.c1, (hb.frozen (p := ⟨B, 1, none⟩) h1.2).trans h.fc1, h.below.trans (hb.mono h.below.size)⟩
theorem AttrW.start (w w2 : World) (N V : ByteArray) (b2 : Below (w.alloc (.cells #[.string ⟨#[]⟩, .string ⟨#[]⟩] 63)).heap.size (w.alloc (.cells #[.string ⟨#[]⟩, .string ⟨#[]⟩] 63)) w2) : AttrW w w2.heap.size N V (w2.alloc (.cells #[.string N, .string V] 63)) := by
  have k0 : ∀ j, (w.alloc (.cells #[.string ⟨#[]⟩, .string ⟨#[]⟩] 63)).cell? ⟨w.heap.size, j, none⟩ = (#[.string ⟨#[]⟩, .string ⟨#[]⟩] : Array Value)[j]? := fun j => World.cell?_alloc_mark w _ 63 (0, 0) j
  have m0 : ∀ j, (w.alloc (.cells #[.string ⟨#[]⟩, .string ⟨#[]⟩] 63)).frozen? ⟨w.heap.size, j, none⟩ = false := fun j => by rw [World.frozen?_alloc_mark]; simp
  have k1 : ∀ j, (w2.alloc (.cells #[.string N, .string V] 63)).cell? ⟨w2.heap.size, j, none⟩ = (#[.string N, .string V] : Array Value)[j]? := fun j => World.cell?_alloc_mark w2 _ 63 (0, 0) j
  have m1 : ∀ j, (w2.alloc (.cells #[.string N, .string V] 63)).frozen? ⟨w2.heap.size, j, none⟩ = false := fun j => by rw [World.frozen?_alloc_mark]; simp
  have b3 : Below (w.alloc (.cells #[.string ⟨#[]⟩, .string ⟨#[]⟩] 63)).heap.size (w.alloc (.cells #[.string ⟨#[]⟩, .string ⟨#[]⟩] 63)) (w2.alloc (.cells #[.string N, .string V] 63)) := b2.alloc b2.size _
  have hz := b2.size
  simp only [World.size_alloc] at hz
  have hlt : w.heap.size < (w.alloc (.cells #[.string ⟨#[]⟩, .string ⟨#[]⟩] 63)).heap.size := by simp
  refine ⟨⟨by omega, by simp⟩, ?_, ?_, ?_, ?_, by rw [k1]; rfl, by rw [k1]; rfl, m1 1, ((Below.refl _ w).alloc (Nat.le_refl _) _).trans (b3.mono (by simp))⟩
  · rw [b3.cell (p := ⟨w.heap.size, 0, none⟩) hlt, k0]; rfl
  · rw [b3.cell (p := ⟨w.heap.size, 1, none⟩) hlt, k0]; rfl
  · rw [b3.frozen (p := ⟨w.heap.size, 0, none⟩) hlt]; exact m0 0
  · rw [b3.frozen (p := ⟨w.heap.size, 1, none⟩) hlt]; exact m0 1
theorem rest_none (s : ByteArray) (q : Nat) (h : s.size ≤ q ∨ (s.data.toList.getD q 0).toNat ≠ 61) : Plain.restAt s.data.toList q = ([], q) := by
  unfold Plain.restAt
  rw [len_of s, if_pos h]

theorem rest_value (s : ByteArray) (q : Nat) (h : q < s.size) (h61 : s[q].toNat = 61) : Plain.restAt s.data.toList q = Plain.valueAt s.data.toList (q + 1 + Plain.runP Plain.blankB (s.data.toList.drop (q + 1))) := by
  unfold Plain.restAt
  rw [len_of s, Plain.getD_get s q h, if_neg (by omega)]
theorem value_none (s : ByteArray) (q : Nat) (h : s.size ≤ q ∨ (s.data.toList.getD q 0).toNat = 62) : Plain.valueAt s.data.toList q = ([], q) := by
  unfold Plain.valueAt
  rw [len_of s, if_pos h]
theorem value_open (s : ByteArray) (q : Nat) (h : q < s.size) (hq : s[q].toNat = 34 ∨ s[q].toNat = 39) (hf : Plain.findB s[q] s.data.toList (q + 1) = none) : Plain.valueAt s.data.toList q = ([], s.size) := by
  unfold Plain.valueAt
  rw [len_of s, Plain.getD_get s q h, if_neg (by omega), if_pos hq, hf]
theorem value_quoted (s : ByteArray) (q : Nat) (h : q < s.size) (hq : s[q].toNat = 34 ∨ s[q].toNat = 39) (en : Nat) (hf : Plain.findB s[q] s.data.toList (q + 1) = some en) : Plain.valueAt s.data.toList q = (Plain.clear (Plain.expand ((s.data.toList.take en).drop (q + 1)) true), en + 1) := by
  unfold Plain.valueAt
  rw [len_of s, Plain.getD_get s q h, if_neg (by omega), if_pos hq, hf]
theorem value_bare (s : ByteArray) (q : Nat) (h : q < s.size) (h62 : s[q].toNat ≠ 62) (hq : ¬ (s[q].toNat = 34 ∨ s[q].toNat = 39)) : Plain.valueAt s.data.toList q = (Plain.clear (Plain.expand ((s.data.toList.drop q).take (Plain.runP Plain.inBare (s.data.toList.drop q))) true), q + Plain.runP Plain.inBare (s.data.toList.drop q)) := by
  unfold Plain.valueAt
  rw [len_of s, Plain.getD_get s q h, if_neg (by omega), if_neg hq]

/-- What attr tells. -/
def AttrOut (a : (List UInt8 × List UInt8) × Nat) (w : World) (e : Ending) (w' : World) : Prop := e = .returned (.tuple #[.agg #[.string ⟨a.1.1.toArray⟩, .string ⟨a.1.2.toArray⟩], .int .i64 (a.2 : Int)]) ∧ Below w.heap.size w w'

set_option maxHeartbeats 2000000 in
set_option maxRecDepth 100000 in
theorem rattr_any (s : ByteArray) (p : Nat) (w : World) (hp : p < s.size) (hs : s.size ≤ 268435456) : Calls Tryz.prog 61 #[.string s, .int .i64 (p : Int)] w (AttrOut (Plain.attrAt s.data.toList p) w) := by
  have HL := Lib.hid (len_of s)
  go_enter Tryz.func61, Tryz.ntmps61
  go_upto_block 0 with fail
  go_cut [6] (fun q wx => q = .int .i64 ((Plain.attrEnd s.data.toList p : Nat) : Int) ∧ w.alloc (.cells #[.string ⟨#[]⟩, .string ⟨#[]⟩] 63) = wx)
  case first =>
    go_wp2_with fail
    go_loop [6] (fun v => ∃ i : Nat, v = .int .i64 (i : Int) ∧ Plain.RunAt Plain.inAttr s.data.toList (p + 1) i) (fun v => s.size - (intOf v).toNat)
    case atStart => exact ⟨p + 1, by go_num, Plain.RunAt.start _ _ _ (by rw [HL.out]; omega)⟩
    case round =>
      obtain ⟨i, rfl, hR⟩ := hrel
      have h1 := hR.1
      have h2 := hR.2.1
      rw [HL.out] at h2
      have HR := Lib.hid hR
      clear hR
      have HST : Hid (∀ (_ : ∀ hi : i < s.data.toList.length, Plain.inAttr s.data.toList[i] = false), Plain.attrEnd s.data.toList p = i) := by
        refine Lib.hid fun h => ?_
        have := HR.out.stop h
        unfold Plain.attrEnd
        rw [this]
        omega
      by_cases hlt : i < s.size
      · have hlt' : i < s.data.toList.length := by rw [HL.out]; exact hlt
        have h8 : s[i].toNat < 256 := s[i].toNat_lt
        cases hbl : Plain.blankB s[i]
        · have HBL := Lib.hid hbl
          by_cases h47 : s[i].toNat = 47
          · have HE := Lib.hid (HST.out fun _ => by show Plain.inAttr s[i] = false; unfold Plain.inAttr Plain.inName; simp [h47])
            have q1 : ((s[i].toNat : Int) != 47) = false := by simp [h47]
            clear hbl h47
            go_wp2_with (go_at_call 60; refine (rblank_no _ _ HBL.out).mono ?_; rintro e w1 ⟨rfl, rfl⟩)
            go_meet
            exact ⟨by rw [HE.out], rfl⟩
          · have q1 : ((s[i].toNat : Int) != 47) = true := by simp; omega
            by_cases h62 : s[i].toNat = 62
            · have HE := Lib.hid (HST.out fun _ => by show Plain.inAttr s[i] = false; unfold Plain.inAttr Plain.inName; simp [h62])
              have q2 : ((s[i].toNat : Int) != 62) = false := by simp [h62]
              clear hbl h47 h62
              go_wp2_with (go_at_call 60; refine (rblank_no _ _ HBL.out).mono ?_; rintro e w1 ⟨rfl, rfl⟩)
              go_meet
              exact ⟨by rw [HE.out], rfl⟩
            · have q2 : ((s[i].toNat : Int) != 62) = true := by simp; omega
              by_cases h61 : s[i].toNat = 61
              · have HE := Lib.hid (HST.out fun _ => by show Plain.inAttr s[i] = false; unfold Plain.inAttr; simp [h61])
                have q3 : ((s[i].toNat : Int) != 61) = false := by simp [h61]
                clear hbl h47 h62 h61
                go_wp2_with (go_at_call 60; refine (rblank_no _ _ HBL.out).mono ?_; rintro e w1 ⟨rfl, rfl⟩)
                go_meet
                exact ⟨by rw [HE.out], rfl⟩
              · have q3 : ((s[i].toNat : Int) != 61) = true := by simp; omega
                have HN := Lib.hid (HR.out.step hlt' (show Plain.inAttr s[i] = true by unfold Plain.inAttr Plain.inName; simp [hbl, h47, h62, h61]))
                clear hbl h47 h62 h61
                go_wp2_with (go_at_call 60; refine (rblank_no _ _ HBL.out).mono ?_; rintro e w1 ⟨rfl, rfl⟩)
                exact ⟨⟨i + 1, by go_num, HN.out⟩, by simp [intOf]; omega⟩
        · have HBL := Lib.hid hbl
          have HE := Lib.hid (HST.out fun _ => by show Plain.inAttr s[i] = false; unfold Plain.inAttr Plain.inName; simp [hbl])
          clear hbl
          go_wp2_with (go_at_call 60; refine (rblank_yes _ _ HBL.out).mono ?_; rintro e w1 ⟨rfl, rfl⟩)
          go_meet
          exact ⟨by rw [HE.out], rfl⟩
      · have HE := Lib.hid (HST.out fun h => absurd h (by rw [HL.out]; exact hlt))
        go_wp2
        go_meet
        exact ⟨by rw [HE.out], rfl⟩
  case rest =>
    obtain ⟨rfl, rfl⟩ := hcut
    have hr1 := Plain.runP_le Plain.inAttr (s.data.toList.drop (p + 1))
    rw [List.length_drop, HL.out] at hr1
    have hE1 : p + 1 ≤ Plain.attrEnd s.data.toList p := by unfold Plain.attrEnd; omega
    have hE2 : Plain.attrEnd s.data.toList p ≤ s.size := by unfold Plain.attrEnd; omega
    have hr2 := Plain.runP_le Plain.blankB (s.data.toList.drop (Plain.attrEnd s.data.toList p))
    rw [List.length_drop, HL.out] at hr2
    have hsl := fun W => slice_mid s p (Plain.attrEnd s.data.toList p) W (by omega) hE2
    have hxs : (s.extract p (Plain.attrEnd s.data.toList p)).size ≤ 1073741824 := by rw [ByteArray.size_extract]; omega
    have F1 := fun W => Lib.hid (rfold_any (s.extract p (Plain.attrEnd s.data.toList p)) W (by unfold maxLen; omega))
    rw [mid_list] at F1
    have hfl : (Plain.fold ((s.data.toList.take (Plain.attrEnd s.data.toList p)).drop p)).length ≤ 1073741824 := by
      rw [Plain.fold_length, List.length_drop, List.length_take]; omega
    have C1 := fun W => Lib.hid (rclear_any ⟨(Plain.fold ((s.data.toList.take (Plain.attrEnd s.data.toList p)).drop p)).toArray⟩ W (by show (Plain.fold _).toArray.size ≤ _; rw [List.size_toArray]; exact hfl))
    have B1 := fun W => Lib.hid (rblanks_any s (Plain.attrEnd s.data.toList p) W hE2 (by omega))
    have HA : Hid (Plain.attrAt s.data.toList p = ((Plain.clear (Plain.fold ((s.data.toList.take (Plain.attrEnd s.data.toList p)).drop p)), (Plain.restAt s.data.toList (Plain.attrEnd s.data.toList p + Plain.runP Plain.blankB (s.data.toList.drop (Plain.attrEnd s.data.toList p)))).1), (Plain.restAt s.data.toList (Plain.attrEnd s.data.toList p + Plain.runP Plain.blankB (s.data.toList.drop (Plain.attrEnd s.data.toList p)))).2)) := Lib.hid rfl
    have hq2 : Plain.attrEnd s.data.toList p + Plain.runP Plain.blankB (s.data.toList.drop (Plain.attrEnd s.data.toList p)) ≤ s.size := by omega
    generalize Plain.attrEnd s.data.toList p + Plain.runP Plain.blankB (s.data.toList.drop (Plain.attrEnd s.data.toList p)) = q at *
    generalize Plain.attrEnd s.data.toList p = E at *
    unfold Gives at C1
    have hd : (⟨(Plain.fold ((s.data.toList.take E).drop p)).toArray⟩ : ByteArray).data.toList = Plain.fold ((s.data.toList.take E).drop p) := rfl
    rw [hd] at C1
    generalize (⟨(Plain.fold ((s.data.toList.take E).drop p)).toArray⟩ : ByteArray) = FB at *
    generalize Plain.clear (Plain.fold ((s.data.toList.take E).drop p)) = NL at *
    clear hr1 hr2 hfl hd
    go_wp2_with fail
    refine (F1 _).out.mono ?_
    rintro e w2 ⟨rfl, b2⟩
    go_wp2_with fail
    refine (C1 _).out.mono ?_
    rintro e w3 ⟨rfl, rfl⟩
    go_wp2_with fail
    refine (B1 _).out.mono ?_
    rintro e w3 ⟨rfl, hw3⟩
    have hA3 : AttrW w w2.heap.size ⟨NL.toArray⟩ ⟨#[]⟩ w3 := by rw [← hw3]; exact AttrW.start w w2 _ _ b2
    clear hw3 b2 F1 C1 B1
    have HA3 := Lib.hid hA3
    have hlt2 := hA3.lt
    have c0 := hA3.r0
    have c1 := hA3.r1
    have f0 := hA3.fr0
    have f1 := hA3.fr1
    have d0 := hA3.c0
    have d1 := hA3.c1
    have g1 := hA3.fc1
    generalize w2.heap.size = B at *
    clear hA3
    by_cases h1 : s.size ≤ q
    · have HR := Lib.hid (rest_none s q (Or.inl h1))
      have h1' : (s.size : Int) ≤ (q : Int) := by omega
      go_wp2
      refine bodyPost_ret (v := .tuple #[.agg #[.string ⟨NL.toArray⟩, .string ⟨#[]⟩], .int .i64 (q : Int)]) (by simp [results, Tryz.results61, go_sem, *]) rfl ⟨?_, ?_⟩
      · rw [HA.out, HR.out]
      · repeat (first | exact HA3.out.below | refine Below.setCell ?_ (by first | omega | exact Nat.le_refl _ | (simp; omega)) _)
    · have hq : q < s.size := by omega
      have h8 : s[q].toNat < 256 := s[q].toNat_lt
      by_cases h61 : s[q].toNat = 61
      · have HR := Lib.hid (rest_value s q hq h61)
        have q1 : ((s[q].toNat : Int) != 61) = false := by simp [h61]
        have B2 := fun W => Lib.hid (rblanks_any s (q + 1) W (by omega) (by omega))
        have hr3 := Plain.runP_le Plain.blankB (s.data.toList.drop (q + 1))
        rw [List.length_drop, HL.out] at hr3
        have hq3 : q + 1 + Plain.runP Plain.blankB (s.data.toList.drop (q + 1)) ≤ s.size := by omega
        have e1 : ((q + 1 : Nat) : Int) = (q : Int) + 1 := by omega
        rw [e1] at B2
        generalize q + 1 + Plain.runP Plain.blankB (s.data.toList.drop (q + 1)) = r at *
        clear h61 hr3 e1
        go_wp2_with fail
        refine (B2 _).out.mono ?_
        rintro e w4 ⟨rfl, rfl⟩
        clear B2
        by_cases h2 : s.size ≤ r
        · have HV := Lib.hid (value_none s r (Or.inl h2))
          have h2' : (s.size : Int) ≤ (r : Int) := by omega
          go_wp2
          refine bodyPost_ret (v := .tuple #[.agg #[.string ⟨NL.toArray⟩, .string ⟨#[]⟩], .int .i64 (r : Int)]) (by simp [results, Tryz.results61, go_sem, *]) rfl ⟨?_, ?_⟩
          · rw [HA.out, HR.out, HV.out]
          · repeat (first | exact HA3.out.below | refine Below.setCell ?_ (by first | omega | exact Nat.le_refl _ | (simp; omega)) _)
        · have hr : r < s.size := by omega
          have h9 : s[r].toNat < 256 := s[r].toNat_lt
          by_cases h62 : s[r].toNat = 62
          · have HV := Lib.hid (value_none s r (Or.inr (by rw [Plain.getD_get s r hr]; exact h62)))
            have q2 : ((s[r].toNat : Int) == 62) = true := by simp [h62]
            clear h62
            go_wp2
            refine bodyPost_ret (v := .tuple #[.agg #[.string ⟨NL.toArray⟩, .string ⟨#[]⟩], .int .i64 (r : Int)]) (by simp [results, Tryz.results61, go_sem, *]) rfl ⟨?_, ?_⟩
            · rw [HA.out, HR.out, HV.out]
            · repeat (first | exact HA3.out.below | refine Below.setCell ?_ (by first | omega | exact Nat.le_refl _ | (simp; omega)) _)
          · have q2 : ((s[r].toNat : Int) == 62) = false := beq_eq_false_iff_ne.2 (by omega)
            by_cases hqt : s[r].toNat = 34 ∨ s[r].toNat = 39
            · have hsb := fun W => byte_text s r W hr
              have FI := fun W => Lib.hid (rfind_any s s[r] (r + 1) W (by omega) (by omega))
              have e1 : ((r + 1 : Nat) : Int) = (r : Int) + 1 := by omega
              rw [e1] at FI
              unfold findI at FI
              have q34 : (((s[r].toNat : Int) == 34) = true) ∨ (((s[r].toNat : Int) == 34) = false ∧ ((s[r].toNat : Int) == 39) = true) := by
                rcases hqt with h | h
                · exact Or.inl (by simp [h])
                · exact Or.inr ⟨by simp [h], by simp [h]⟩
              cases hfd : Plain.findB s[r] s.data.toList (r + 1) with
              | none =>
                have HV := Lib.hid (value_open s r hr hqt hfd)
                rw [hfd] at FI
                simp only at FI
                clear hqt hfd e1
                rcases q34 with q3 | ⟨q3, q4⟩
                all_goals
                  go_wp2_with (go_at_call 63; refine (FI _).out.mono ?_; rintro e w5 ⟨rfl, rfl⟩)
                  refine bodyPost_ret (v := .tuple #[.agg #[.string ⟨NL.toArray⟩, .string ⟨#[]⟩], .int .i64 (s.size : Int)]) (by simp [results, Tryz.results61, go_sem, *]) rfl ⟨?_, ?_⟩
                  · rw [HA.out, HR.out, HV.out]
                  · repeat (first | exact HA3.out.below | refine Below.setCell ?_ (by first | omega | exact Nat.le_refl _ | (simp; omega)) _)
              | some en =>
                have HV := Lib.hid (value_quoted s r hr hqt en hfd)
                have hto := Plain.findB_le _ _ _ _ hfd
                rw [HL.out] at hto
                rw [hfd] at FI
                simp only at FI
                have hsm : ∀ W, (Instr.slice 9 (.string s) (some (.int .i64 ((r : Int) + 1))) (some (.int .i64 (en : Int))) none).run Tryz.prog W = .ok (.string (s.extract (r + 1) en)) W := fun W => slice_mid s (r + 1) en W hto.1 (by omega)
                have hxz : (s.extract (r + 1) en).size ≤ s.size := by rw [ByteArray.size_extract]; omega
                have X1 := fun W => Lib.hid (rexpand_any (s.extract (r + 1) en) true W (by omega))
                unfold Tells at X1
                rw [mid_list] at X1
                have hxl := Plain.expand_len _ ((s.data.toList.take en).drop (r + 1)) true (Nat.le_refl _)
                rw [List.length_drop, List.length_take, HL.out] at hxl
                have hez : (⟨(Plain.expand ((s.data.toList.take en).drop (r + 1)) true).toArray⟩ : ByteArray).size ≤ 1073741824 := by
                  show (Plain.expand ((s.data.toList.take en).drop (r + 1)) true).toArray.size ≤ _
                  rw [List.size_toArray]
                  omega
                have C2 := fun W => Lib.hid (rclear_any _ W hez)
                unfold Gives at C2
                have hd2 : (⟨(Plain.expand ((s.data.toList.take en).drop (r + 1)) true).toArray⟩ : ByteArray).data.toList = Plain.expand ((s.data.toList.take en).drop (r + 1)) true := rfl
                rw [hd2] at C2
                generalize (⟨(Plain.expand ((s.data.toList.take en).drop (r + 1)) true).toArray⟩ : ByteArray) = EB at *
                generalize Plain.clear (Plain.expand ((s.data.toList.take en).drop (r + 1)) true) = VL at *
                have hto1 := hto.1
                have hto2 := hto.2
                clear h62 hqt hfd e1 hd2 hxl hez hto
                rcases q34 with q3 | ⟨q3, q4⟩
                all_goals
                  go_wp2_with fail
                  refine (FI _).out.mono ?_
                  rintro e w5 ⟨rfl, rfl⟩
                  go_wp2_with fail
                  refine (X1 _).out.mono ?_
                  rintro e w5 ⟨rfl, b5⟩
                  have hA5 := HA3.out.on b5
                  clear c0 c1 f0 f1 d0 d1 g1
                  have c0 := hA5.r0
                  have c1 := hA5.r1
                  have f0 := hA5.fr0
                  have f1 := hA5.fr1
                  have d0 := hA5.c0
                  have d1 := hA5.c1
                  have g1 := hA5.fc1
                  have BEL := Lib.hid hA5.below
                  clear hA5 b5
                  go_wp2_with fail
                  refine (C2 _).out.mono ?_
                  rintro e w6 ⟨rfl, rfl⟩
                  go_wp2
                  refine bodyPost_ret (v := .tuple #[.agg #[.string ⟨NL.toArray⟩, .string ⟨VL.toArray⟩], .int .i64 ((en : Int) + 1)]) (by simp [results, Tryz.results61, go_sem, *]) rfl ⟨?_, ?_⟩
                  · rw [HA.out, HR.out, HV.out]; rfl
                  · repeat (first | exact BEL.out | refine Below.setCell ?_ (by first | omega | exact Nat.le_refl _ | (simp; omega)) _)
            · have HV := Lib.hid (value_bare s r hr h62 hqt)
              have q3 : ((s[r].toNat : Int) == 34) = false := beq_eq_false_iff_ne.2 (by omega)
              have q4 : ((s[r].toNat : Int) == 39) = false := beq_eq_false_iff_ne.2 (by omega)
              clear h62 hqt
              go_upto_block 2 with fail
              go_cut [6] (fun x wx => x = .int .i64 ((r + Plain.runP Plain.inBare (s.data.toList.drop r) : Nat) : Int) ∧ w3 = wx)
              case first =>
                go_wp2_with fail
                go_loop [6] (fun v => ∃ i : Nat, v = .int .i64 (i : Int) ∧ Plain.RunAt Plain.inBare s.data.toList r i) (fun v => s.size - (intOf v).toNat)
                case atStart => exact ⟨r, rfl, Plain.RunAt.start _ _ _ (by rw [HL.out]; omega)⟩
                case round =>
                  obtain ⟨i, rfl, hR⟩ := hrel
                  have h1 := hR.1
                  have h2 := hR.2.1
                  rw [HL.out] at h2
                  have HR2 := Lib.hid hR
                  clear hR
                  have HST : Hid (∀ (_ : ∀ hi : i < s.data.toList.length, Plain.inBare s.data.toList[i] = false), r + Plain.runP Plain.inBare (s.data.toList.drop r) = i) := by
                    refine Lib.hid fun h => ?_
                    rw [HR2.out.stop h]
                    omega
                  by_cases hlt : i < s.size
                  · have hlt' : i < s.data.toList.length := by rw [HL.out]; exact hlt
                    have h8 : s[i].toNat < 256 := s[i].toNat_lt
                    cases hbl : Plain.blankB s[i]
                    · have HBL := Lib.hid hbl
                      by_cases h62 : s[i].toNat = 62
                      · have HE := Lib.hid (HST.out fun _ => by show Plain.inBare s[i] = false; unfold Plain.inBare; simp [h62])
                        have q5 : ((s[i].toNat : Int) != 62) = false := by simp [h62]
                        clear hbl h62
                        go_wp2_with (go_at_call 60; refine (rblank_no _ _ HBL.out).mono ?_; rintro e w1 ⟨rfl, rfl⟩)
                        go_meet
                        exact ⟨by rw [HE.out], rfl⟩
                      · have q5 : ((s[i].toNat : Int) != 62) = true := by simp; omega
                        have HN := Lib.hid (HR2.out.step hlt' (show Plain.inBare s[i] = true by unfold Plain.inBare; simp [hbl, h62]))
                        clear hbl h62
                        go_wp2_with (go_at_call 60; refine (rblank_no _ _ HBL.out).mono ?_; rintro e w1 ⟨rfl, rfl⟩)
                        exact ⟨⟨i + 1, by go_num, HN.out⟩, by simp [intOf]; omega⟩
                    · have HBL := Lib.hid hbl
                      have HE := Lib.hid (HST.out fun _ => by show Plain.inBare s[i] = false; unfold Plain.inBare; simp [hbl])
                      clear hbl
                      go_wp2_with (go_at_call 60; refine (rblank_yes _ _ HBL.out).mono ?_; rintro e w1 ⟨rfl, rfl⟩)
                      go_meet
                      exact ⟨by rw [HE.out], rfl⟩
                  · have HE := Lib.hid (HST.out fun h => absurd h (by rw [HL.out]; exact hlt))
                    go_wp2
                    go_meet
                    exact ⟨by rw [HE.out], rfl⟩
              case rest =>
                obtain ⟨rfl, rfl⟩ := hcut
                have hr5 := Plain.runP_le Plain.inBare (s.data.toList.drop r)
                rw [List.length_drop, HL.out] at hr5
                have hml : (s.extract r (r + Plain.runP Plain.inBare (s.data.toList.drop r))).data.toList = (s.data.toList.drop r).take (Plain.runP Plain.inBare (s.data.toList.drop r)) := by rw [ext_part]
                generalize Plain.runP Plain.inBare (s.data.toList.drop r) = d at *
                have hsm : ∀ W, (Instr.slice 9 (.string s) (some (.int .i64 (r : Int))) (some (.int .i64 ((r : Int) + (d : Int)))) none).run Tryz.prog W = .ok (.string (s.extract r (r + d))) W := fun W => slice_part s r d W (by omega)
                have hxz : (s.extract r (r + d)).size ≤ s.size := by rw [ByteArray.size_extract]; omega
                have X1 := fun W => Lib.hid (rexpand_any (s.extract r (r + d)) true W (by omega))
                unfold Tells at X1
                rw [hml] at X1
                have hxl := Plain.expand_len _ ((s.data.toList.drop r).take d) true (Nat.le_refl _)
                rw [List.length_take, List.length_drop, HL.out] at hxl
                have hez : (⟨(Plain.expand ((s.data.toList.drop r).take d) true).toArray⟩ : ByteArray).size ≤ 1073741824 := by
                  show (Plain.expand ((s.data.toList.drop r).take d) true).toArray.size ≤ _
                  rw [List.size_toArray]
                  omega
                have C2 := fun W => Lib.hid (rclear_any _ W hez)
                unfold Gives at C2
                have hd2 : (⟨(Plain.expand ((s.data.toList.drop r).take d) true).toArray⟩ : ByteArray).data.toList = Plain.expand ((s.data.toList.drop r).take d) true := rfl
                rw [hd2] at C2
                generalize (⟨(Plain.expand ((s.data.toList.drop r).take d) true).toArray⟩ : ByteArray) = EB at *
                generalize Plain.clear (Plain.expand ((s.data.toList.drop r).take d) true) = VL at *
                clear hd2 hxl hez hml
                go_wp2_with fail
                refine (X1 _).out.mono ?_
                rintro e w5 ⟨rfl, b5⟩
                have hA5 := HA3.out.on b5
                clear c0 c1 f0 f1 d0 d1 g1
                have c0 := hA5.r0
                have c1 := hA5.r1
                have f0 := hA5.fr0
                have f1 := hA5.fr1
                have d0 := hA5.c0
                have d1 := hA5.c1
                have g1 := hA5.fc1
                have BEL := Lib.hid hA5.below
                clear hA5 b5
                go_wp2_with fail
                refine (C2 _).out.mono ?_
                rintro e w6 ⟨rfl, rfl⟩
                go_wp2
                refine bodyPost_ret (v := .tuple #[.agg #[.string ⟨NL.toArray⟩, .string ⟨VL.toArray⟩], .int .i64 ((r : Int) + (d : Int))]) (by simp [results, Tryz.results61, go_sem, *]) rfl ⟨?_, ?_⟩
                · rw [HA.out, HR.out, HV.out]; rfl
                · repeat (first | exact BEL.out | refine Below.setCell ?_ (by first | omega | exact Nat.le_refl _ | (simp; omega)) _)
      · have HR := Lib.hid (rest_none s q (Or.inr (by rw [Plain.getD_get s q hq]; exact h61)))
        have q1 : ((s[q].toNat : Int) != 61) = true := by simp; omega
        clear h61
        go_wp2
        refine bodyPost_ret (v := .tuple #[.agg #[.string ⟨NL.toArray⟩, .string ⟨#[]⟩], .int .i64 (q : Int)]) (by simp [results, Tryz.results61, go_sem, *]) rfl ⟨?_, ?_⟩
        · rw [HA.out, HR.out]
        · repeat (first | exact HA3.out.below | refine Below.setCell ?_ (by first | omega | exact Nat.le_refl _ | (simp; omega)) _)
end Go.Proofs.YtgelgfgcdfnacaaGreatDoor
