/-
  The walks of the program's endOf, upToEnd, data. Any text of at most 2^28 bytes; the library's number MaxLen and the table of package refs are there.
-/
import Derived.Test.YtgelgfgcdfnacaaGreatDoorXLex2
namespace Go.Proofs.YtgelgfgcdfnacaaGreatDoor
open Go.RowKit

set_option maxHeartbeats 2000000 in
set_option maxRecDepth 100000 in
theorem endOf_lex (s L : ByteArray) (k : Nat) (last : List UInt8) (w : World) (hL : L.data.toList = Plain.fold last) (hk : k ≤ s.size) (hs : s.size ≤ 268435456) (hl : L.size ≤ 268435456) : Calls Tryz.prog 28 #[.string s, .int .i64 (k : Int), .string L] w (Brings (.int .i64 ((endL last s.data.toList k : Nat) : Int)) w) := by
  have HL := Lib.hid (len_of s)
  have HLL := Lib.hid hL
  clear hL
  go_enter Tryz.func28, Tryz.ntmps28
  go_wp2_with fail
  go_loopw [1] (fun v wr => ∃ i : Nat, i ≤ s.size ∧ v = .int .i64 (i : Int) ∧ endL last s.data.toList k = endL last s.data.toList i ∧ Below w.heap.size w wr) (fun v _ => s.size - (intOf v).toNat)
  case atStart => exact ⟨k, hk, rfl, rfl, Below.refl _ _⟩
  case round =>
    obtain ⟨i, hi, rfl, hM, hB⟩ := hrel
    have HM := Lib.hid hM
    have HB := Lib.hid hB
    clear hM hB
    by_cases hlt : i < s.size
    · have hlt' : i < s.data.toList.length := by rw [HL.out]; exact hlt
      have HE := fun W => Lib.hid (endsAt_lex s L i last W HLL.out hlt hs hl)
      cases he : endA last (s.data.toList.drop i)
      · have HN := Lib.hid (endL_miss last s.data.toList i hlt' he)
        rw [he] at HE
        clear he
        go_wp2_with fail
        refine (HE _).out.mono ?_
        rintro e w1 ⟨rfl, b1⟩
        go_wp2_with fail
        exact ⟨⟨i + 1, by omega, by go_num, HM.out.trans HN.out, HB.out.trans (b1.mono HB.out.size)⟩, by simp [intOf]; omega⟩
      · have HN := Lib.hid (endL_hit last s.data.toList i hlt' he)
        rw [he] at HE
        clear he
        go_wp2_with fail
        refine (HE _).out.mono ?_
        rintro e w1 ⟨rfl, b1⟩
        go_wp2_with fail
        go_ret
        exact ⟨ret_is (by rw [HM.out, HN.out]), HB.out.trans (b1.mono HB.out.size)⟩
    · have HN := Lib.hid (endL_end last s.data.toList i (by rw [HL.out]; omega))
      go_wp2_with fail
      go_ret
      exact ⟨ret_is (by rw [HM.out, HN.out]), HB.out⟩

set_option maxHeartbeats 2000000 in
set_option maxRecDepth 100000 in
theorem upToEnd_lex (s A : ByteArray) (k st : Nat) (w : World) (hR : Ready w) (hk : k < s.size) (hst : st ≤ 4) (hs : s.size ≤ 268435456) (hA : A.size ≤ 268435456) : Calls Tryz.prog 20 #[.string s, .int .i64 (k : Int), .int .i64 (st : Int), .string A] w (LexOut (closedT s.data.toList k st A.data.toList) w) := by
  have HR := Lib.hid hR
  have HX := Lib.hid (ResW.start w)
  clear hR
  have HFo := fun W => Lib.hid (fold_any A W (by unfold maxLen; omega))
  have hfs : (⟨(Plain.fold A.data.toList).toArray⟩ : ByteArray).size ≤ 268435456 := by show (Plain.fold A.data.toList).toArray.size ≤ _; rw [List.size_toArray, Plain.fold_length, len_of]; exact hA
  have HE := fun W => Lib.hid (endOf_lex s ⟨(Plain.fold A.data.toList).toArray⟩ k A.data.toList W rfl (by omega) hs hfs)
  have hle := endL_le A.data.toList s.data.toList k (by rw [len_of]; omega)
  rw [len_of] at hle
  have HC : Hid (closedT s.data.toList k st A.data.toList = if endL A.data.toList s.data.toList k = k then readL s.data.toList k else (textT (insideT st (mid s.data.toList k (endL A.data.toList s.data.toList k))), endL A.data.toList s.data.toList k)) := Lib.hid rfl
  have HAT : Hid (endL A.data.toList s.data.toList k = k → Plain.atTag (s.data.toList.drop k) = true) := by
    refine Lib.hid fun h => ?_
    cases he : endA A.data.toList (s.data.toList.drop k)
    · rw [endL_miss _ _ k (by rw [len_of]; exact hk) he] at h
      have := endL_le A.data.toList s.data.toList (k + 1) (by rw [len_of]; omega)
      omega
    · exact endA_tag _ _ he
  generalize endL A.data.toList s.data.toList k = E at *
  go_enter Tryz.func20, Tryz.ntmps20
  go_wp2_with fail
  refine (HFo _).out.mono ?_
  rintro e w1 ⟨rfl, b1⟩
  have HX1 := Lib.hid (HX.out.on b1)
  clear b1
  go_wp2_with fail
  refine (HE _).out.mono ?_
  rintro e w3 ⟨rfl, b3⟩
  have HX3 := Lib.hid (HX1.out.on b3)
  clear b3 HX HX1 HFo HE
  by_cases h : E = k
  · have HT := Lib.hid (HAT.out h)
    rw [if_pos h] at HC
    subst h
    go_wp2_with fail
    refine (read_lex s E w3 (HR.out.below HX3.out.below) HT.out hs).mono ?_
    rintro e w2 ⟨v2, rfl, ha2, b2⟩
    have HX2 := Lib.hid (HX3.out.on b2)
    obtain ⟨p2, cap2, hv2⟩ := ha2.form
    subst hv2
    have HA2 := Lib.hid ha2
    clear b2 ha2
    have hlt := HX2.out.lt
    have r0 := HX2.out.r 0
    have r1 := HX2.out.r 1
    have r2 := HX2.out.r 2
    have r3 := HX2.out.r 3
    have r4 := HX2.out.r 4
    have fr := HX2.out.fr
    generalize readL s.data.toList E = ST at *
    obtain ⟨⟨tk, tn, ta, ts, tt⟩, tb⟩ := ST
    go_wp2_with fail
    obtain ⟨d1, d2⟩ := HX2.out.done (HA2.out) (.int .i64 tk) (.string ⟨tn.toArray⟩) (.slice p2 ta.length cap2) (.bool ts) (.string ⟨tt.toArray⟩)
    refine bodyPost_ret (v := .tuple #[.agg #[.int .i64 tk, .string ⟨tn.toArray⟩, .slice p2 ta.length cap2, .bool ts, .string ⟨tt.toArray⟩], .int .i64 (tb : Int)]) (by simp [results, Tryz.results20, go_sem, *]) rfl ?_
    rw [HC.out]
    exact ⟨_, rfl, d2, d1⟩
  · rw [if_neg h] at HC
    have q1 : ((E : Int) == (k : Int)) = false := beq_eq_false_iff_ne.2 (by omega)
    have hsl := fun W => slice_mid s k E W hle.1 (by omega)
    have HM := Lib.hid (mid_list s k E)
    have hms : (s.extract k E).size ≤ 268435456 := by simp; omega
    generalize s.extract k E = M at *
    clear h
    go_wp2_with fail
    refine (inside_lex M st w3 (HR.out.below HX3.out.below) hst hms).mono ?_
    rintro e w2 ⟨rfl, b2⟩
    have HX2 := Lib.hid (HX3.out.on b2)
    clear b2 HX3
    have hlt := HX2.out.lt
    have r0 := HX2.out.r 0
    have r1 := HX2.out.r 1
    have r2 := HX2.out.r 2
    have r3 := HX2.out.r 3
    have r4 := HX2.out.r 4
    have fr := HX2.out.fr
    go_wp2_with fail
    obtain ⟨d1, d2⟩ := HX2.out.done (AttrsAt.nil _) (.int .i64 3) (.string ⟨#[]⟩) (.slice none 0 0) (.bool false) (.string ⟨(insideT st M.data.toList).toArray⟩)
    refine bodyPost_ret (v := .tuple #[.agg #[.int .i64 3, .string ⟨#[]⟩, .slice none 0 0, .bool false, .string ⟨(insideT st M.data.toList).toArray⟩], .int .i64 (E : Int)]) (by simp [results, Tryz.results20, go_sem, *]) rfl ?_
    rw [HC.out, show mid s.data.toList k E = M.data.toList from HM.out.symm]
    exact ⟨_, rfl, d2, d1⟩
end Go.Proofs.YtgelgfgcdfnacaaGreatDoor
