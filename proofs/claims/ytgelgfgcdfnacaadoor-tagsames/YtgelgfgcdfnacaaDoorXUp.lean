/-
  The walks of the program's upTo and begins. Any text of at most 2^28 bytes.
-/
import Derived.Test.YtgelgfgcdfnacaaDoorXCases
import Derived.Deep.RegionWith
namespace Go.Proofs.YtgelgfgcdfnacaaDoor
open Go.RowKit

/-- What is told, and nothing old is changed. -/
def Brings (v : Value) (w : World) (e : Ending) (w' : World) : Prop := e = .returned v ∧ Below w.heap.size w w'

theorem flat_drop (ws : List (List UInt8)) (j : Nat) (h : j < ws.length) : (ws.drop j).flatten = ws[j] ++ (ws.drop (j + 1)).flatten := by
  rw [List.drop_eq_getElem_cons h, List.flatten_cons]

set_option maxHeartbeats 1000000 in
set_option maxRecDepth 100000 in
theorem begins_lex (s : ByteArray) (v : Value) (ws : List (List UInt8)) (w : World) (hv : TextsAt w v ws) (hs : s.size ≤ 268435456) (hN : ws.length ≤ 1000) :
    Calls Tryd.prog 47 #[.string s, v] w (Brings (.bool (begF ws.flatten s.data.toList)) w) := by
  obtain ⟨p, cap, rfl, _, hc⟩ := hv.slice
  have HC := Lib.hid hc
  clear hc hv
  go_enter Tryd.func47, Tryd.ntmps47
  go_wp2
  go_loopw [0, 10] (fun t x wr => ∃ (j : Nat) (T : ByteArray), j ≤ ws.length ∧ x = .int .i64 (j : Int) ∧ t = .string T ∧ T.size ≤ s.size ∧ begF ws.flatten s.data.toList = begF (ws.drop j).flatten T.data.toList ∧ Below w.heap.size w wr) (fun _ x _ => ws.length - (intOf x).toNat)
  case atStart => exact ⟨0, s, Nat.zero_le _, rfl, rfl, Nat.le_refl _, rfl, Below.refl _ _⟩
  case round =>
    obtain ⟨j, T, hj, rfl, rfl, hT, hF, hB⟩ := hrel
    have HF := Lib.hid hF
    have HB := Lib.hid hB
    clear hF hB
    by_cases hlt : j < ws.length
    · obtain ⟨g, rfl, hg, h0⟩ := HC.out j hlt
      have g0 := (HB.out.cell (p := ⟨g, j, none⟩) hg).trans h0
      have hgs := HB.out.size
      have hgr : g < wr.heap.size := by omega
      have HD := Lib.hid (flat_drop ws j hlt)
      clear h0
      obtain ⟨A, hA, hAl⟩ : ∃ A : ByteArray, (⟨ws[j].toArray⟩ : ByteArray) = A ∧ A.data.toList = ws[j] := ⟨_, rfl, rfl⟩
      rw [hA] at g0
      have HAL := Lib.hid hAl
      have hASz : A.data.toList.length = A.size := by simp
      have HAS := Lib.hid hASz
      have HTS := Lib.hid (show T.data.toList.length = T.size by simp)
      clear hA hAl hASz
      by_cases hlen : T.size < A.size
      · have HE : Hid (begF (ws.drop j).flatten T.data.toList = false) := by
          refine Lib.hid (begF_short _ _ ?_)
          rw [HD.out, List.length_append, ← HAL.out, HAS.out, HTS.out]
          omega
        go_wp2
        go_ret
        exact ⟨bool_is (by rw [HF.out, HE.out]), HB.out⟩
      · obtain ⟨wk, hwk⟩ : ∃ wk, wk = wr := ⟨_, rfl⟩
        subst hwk
        go_wp2
        go_loopw [21] (fun x wr => ∃ i : Nat, i ≤ A.size ∧ x = .int .i64 (i : Int) ∧ begF A.data.toList T.data.toList = begF (A.data.toList.drop i) (T.data.toList.drop i) ∧ Below wk.heap.size wk wr) (fun x _ => A.size - (intOf x).toNat)
        case atStart => exact ⟨0, Nat.zero_le _, rfl, rfl, Below.refl _ _⟩
        case round =>
          obtain ⟨i, hi, rfl, hG, hBi⟩ := hrel
          have HG := Lib.hid hG
          have HBI := Lib.hid hBi
          clear hG hBi
          by_cases hil : i < A.size
          · have hiT : i < T.size := by omega
            have hs1 := fun W => byte_text T i W hiT
            have hs2 := fun W => byte_text A i W hil
            have hwr : IntKind.i64.wrap ((i : Int) + 1) = (i : Int) + 1 := IntWalk.i64_in _ (by omega)
            have hs3 := fun W => byte_text T i W hiT
            have hs4 := fun W => byte_text A i W hil
            rw [← hwr] at hs3 hs4
            have HFo := fun W => Lib.hid (fold_any ⟨#[T[i]]⟩ W (by show 1 ≤ maxLen; unfold maxLen; omega))
            have iA : i < A.data.toList.length := by rw [HAS.out]; exact hil
            have iT : i < T.data.toList.length := by rw [HTS.out]; exact hiT
            by_cases he : Plain.foldB T[i] = A[i]
            · have HE := Lib.hid (begF_step A.data.toList T.data.toList i iA iT he)
              have q1 : (Plain.fold [T[i]] == [A[i]]) = true := by simp [Plain.fold, he]
              clear he
              go_wp2_with fail
              go_region_with (go_at_call 44; refine (HFo _).out.mono ?_; rintro e w1 ⟨rfl, b1⟩)
              go_wp2
              exact ⟨⟨i + 1, by omega, by go_num, HG.out.trans HE.out, HBI.out.drew.trans (b1.mono HBI.out.size)⟩, by simp [intOf]; omega⟩
            · have HE := Lib.hid (begF_no A.data.toList T.data.toList i iA iT he)
              have q1 : (Plain.fold [T[i]] == [A[i]]) = false := by simp [Plain.fold, he]
              clear he
              go_wp2_with fail
              go_region_with (go_at_call 44; refine (HFo _).out.mono ?_; rintro e w1 ⟨rfl, b1⟩)
              go_wp2
              go_ret
              refine ⟨bool_is ?_, HB.out.trans ((HBI.out.drew.trans (b1.mono HBI.out.size)).mono HB.out.size)⟩
              rw [HF.out, HD.out, begF_app, ← HAL.out, HG.out, HE.out, Bool.false_and]
          · have HE : Hid (begF A.data.toList T.data.toList = true) := by
              refine Lib.hid ?_
              rw [HG.out, List.drop_eq_nil_of_le (by rw [HAS.out]; omega)]
              rfl
            have hsl := fun W => slice_onu T 0 A.size W (by omega)
            go_wp2
            refine ⟨⟨j + 1, T.extract A.size T.size, by omega, by go_num, rfl, by simp; omega, ?_, HB.out.trans (HBI.out.mono HB.out.size)⟩, by simp [intOf]; omega⟩
            rw [HF.out, HD.out, begF_app, ← HAL.out, HE.out, Bool.true_and, from_list, HAS.out]
    · go_wp2
      go_ret
      refine ⟨bool_is ?_, HB.out⟩
      rw [HF.out, List.drop_eq_nil_of_le (by omega)]
      rfl

theorem find_drop (ends : List (List UInt8)) (P : List UInt8 → Bool) (j : Nat) (h : j < ends.length) (hP : P ends[j] = false) : (ends.drop j).find? P = (ends.drop (j + 1)).find? P := by
  rw [List.drop_eq_getElem_cons h, List.find?_cons_of_neg (by rw [hP]; decide)]
theorem find_at (ends : List (List UInt8)) (P : List UInt8 → Bool) (j : Nat) (h : j < ends.length) (hP : P ends[j] = true) : (ends.drop j).find? P = some ends[j] := by
  rw [List.drop_eq_getElem_cons h, List.find?_cons_of_pos hP]

set_option maxHeartbeats 1000000 in
set_option maxRecDepth 100000 in
theorem upto_lex (s : ByteArray) (f : Nat) (v : Value) (ends : List (List UInt8)) (w : World) (hv : TextsAt w v ends) (hf : f ≤ s.size) (hs : s.size ≤ 268435456) (hN : ends.length ≤ 1000) :
    Calls Tryd.prog 36 #[.string s, .int .i64 (f : Int), v] w (Gives (.tuple #[.int .i64 ((upL ends s.data.toList f).1 : Int), .int .i64 ((upL ends s.data.toList f).2 : Int)]) w) := by
  obtain ⟨p, cap, rfl, _, hc⟩ := hv.slice
  have HC := Lib.hid hc
  clear hc hv
  have HL := Lib.hid (len_of s)
  go_enter Tryd.func36, Tryd.ntmps36
  go_wp2
  go_loop [8] (fun v => ∃ i : Nat, i ≤ s.size ∧ v = .int .i64 (i : Int) ∧ upL ends s.data.toList f = upL ends s.data.toList i) (fun v => s.size - (intOf v).toNat)
  case atStart => exact ⟨f, hf, rfl, rfl⟩
  case round =>
    obtain ⟨i, hi, rfl, hU⟩ := hrel
    have HU := Lib.hid hU
    clear hU
    by_cases hlt : i < s.size
    · have hlt' : i < s.data.toList.length := by rw [HL.out]; exact hlt
      have hsl := fun W => slice_onu s i 0 W (by omega)
      obtain ⟨P, HP⟩ : ∃ P : List UInt8 → Bool, Hid (P = fun e => e.isPrefixOf (s.data.toList.drop i)) := ⟨_, Lib.hid rfl⟩
      go_wp2
      go_loop [20] (fun v => ∃ j : Nat, j ≤ ends.length ∧ v = .int .i64 (j : Int) ∧ ends.find? P = (ends.drop j).find? P) (fun v => ends.length - (intOf v).toNat)
      case atStart => exact ⟨0, Nat.zero_le _, rfl, rfl⟩
      case round =>
        obtain ⟨j, hj, rfl, hF⟩ := hrel
        have HF := Lib.hid hF
        clear hF
        by_cases hjl : j < ends.length
        · obtain ⟨g, rfl, hg, g0⟩ := HC.out j hjl
          obtain ⟨A, hA, hAl⟩ : ∃ A : ByteArray, (⟨ends[j].toArray⟩ : ByteArray) = A ∧ A.data.toList = ends[j] := ⟨_, rfl, rfl⟩
          rw [hA] at g0
          have HAL := Lib.hid hAl
          have HPX := fun W => Lib.hid (Tryd.strings_HasPrefix (s.extract i s.size) A W)
          clear hA hAl
          have e1 : Lib.hasPrefix (s.extract i s.size).data.toList A.data.toList = P ends[j] := by rw [HP.out, from_list, HAL.out]; rfl
          rw [e1] at HPX
          clear e1
          cases hb : P ends[j]
          · have HN := Lib.hid (find_drop ends P j hjl hb)
            rw [hb] at HPX
            clear hb
            go_wp2_with fail
            refine (HPX _).out.mono ?_
            rintro e w1 ⟨rfl, rfl⟩
            go_wp2
            exact ⟨⟨j + 1, by omega, by go_num, HF.out.trans HN.out⟩, by simp [intOf]; omega⟩
          · have HN := Lib.hid (find_at ends P j hjl hb)
            have hpl : i + A.size ≤ s.size := by
              rw [HP.out] at hb
              have := prefix_len _ _ hb
              rw [List.length_drop, HL.out, ← HAL.out, show A.data.toList.length = A.size by simp] at this
              omega
            rw [hb] at HPX
            clear hb
            go_wp2_with fail
            refine (HPX _).out.mono ?_
            rintro e w1 ⟨rfl, rfl⟩
            go_wp2
            go_ret2
            refine ⟨?_, rfl⟩
            have hh : upL ends s.data.toList i = (i, i + ends[j].length) := upL_hit _ _ _ hlt' _ (by rw [← HP.out, HF.out, HN.out])
            rw [HU.out, hh, ← HAL.out, show A.data.toList.length = A.size by simp]
            simp only [Int.natCast_add]
            rfl
        · have HN : Hid (upL ends s.data.toList i = upL ends s.data.toList (i + 1)) := by
            refine Lib.hid (upL_miss _ _ _ hlt' ?_)
            rw [← HP.out, HF.out, List.drop_eq_nil_of_le (by omega)]
            rfl
          go_wp2
          exact ⟨⟨i + 1, by omega, by go_num, HU.out.trans HN.out⟩, by simp [intOf]; omega⟩
    · have HE := Lib.hid (upL_end ends s.data.toList i (by rw [HL.out]; omega))
      go_wp2
      go_ret2
      refine ⟨?_, rfl⟩
      rw [HU.out, HE.out, HL.out]
      rfl
end Go.Proofs.YtgelgfgcdfnacaaDoor
