/-
  The walks of the laws TextFolds, TextWords, TextLines: any text of at most maxLen bytes, in any world that holds the library's MaxLen: true, and nothing old is changed.
-/
import Derived.Test.YtnikehhcfbeiaaaDoorKnown
namespace Go.Proofs.YtnikehhcfbeiaaaDoor
open Go.RowKit

theorem toList_mk (l : List UInt8) : (⟨l.toArray⟩ : ByteArray).toList = l := by rw [Lib.toList_data]

set_option maxHeartbeats 1000000 in
set_option maxRecDepth 100000 in
theorem folds_walk (s : ByteArray) (w : World) (hs : s.size ≤ maxLen) (hm : HasMax w) : Calls Tryd.prog 6 #[.string s] w (Says true w) := by
  unfold maxLen at hs
  have HK := Lib.hid (known_yes w hm)
  clear hm
  by_cases h3 : 3000 < s.size
  · go_enter Tryd.func6, Tryd.ntmps6
    go_wp2_with (go_at_call 13; refine HK.out.mono ?_; rintro e w1 ⟨rfl, b1⟩)
    go_ret
    exact ⟨rfl, b1⟩
  · have h2 := Plain.fold_twice s.data.toList
    have hl := Plain.fold_length s.data.toList
    rw [show s.data.toList.length = s.size by simp] at hl
    have H1 := fun W => Lib.hid (fold_any s W (by unfold maxLen; omega))
    have H2 := fun W => Lib.hid (rfold_any s W (by unfold maxLen; omega))
    obtain ⟨f, hf⟩ : ∃ f : ByteArray, (⟨(Plain.fold s.data.toList).toArray⟩ : ByteArray) = f := ⟨_, rfl⟩
    have hfd : f.data.toList = Plain.fold s.data.toList := by rw [← hf]
    have hfs : f.size = s.size := by rw [Lib.size_eq, hfd]; exact hl
    have H3 := fun W => Lib.hid (fold_any f W (by unfold maxLen; omega))
    rw [hfd, h2, hf] at H3
    rw [hf] at H1 H2
    have hq : ((f.size : Int) == (s.size : Int)) = true := by rw [hfs]; simp
    clear hf hfd h2 hl hfs
    go_enter Tryd.func6, Tryd.ntmps6
    go_wp2_with fail
    refine HK.out.mono ?_
    rintro e w1 ⟨rfl, b1⟩
    go_wp2_with fail
    refine (H1 w1).out.mono ?_
    rintro e w2 ⟨rfl, b2⟩
    go_wp2_with fail
    refine (H2 w2).out.mono ?_
    rintro e w3 ⟨rfl, b3⟩
    go_wp2_with fail
    refine (H3 w3).out.mono ?_
    rintro e w4 ⟨rfl, b4⟩
    go_wp2
    go_ret
    have c2 := b1.trans (b2.mono b1.size)
    have c3 := c2.trans (b3.mono c2.size)
    exact ⟨rfl, c3.trans (b4.mono c3.size)⟩

set_option maxHeartbeats 1000000 in
set_option maxRecDepth 100000 in
theorem words_walk (s : ByteArray) (w : World) (hs : s.size ≤ maxLen) (hm : HasMax w) : Calls Tryd.prog 7 #[.string s] w (Says true w) := by
  unfold maxLen at hs
  have HK := Lib.hid (known_yes w hm)
  clear hm
  by_cases h3 : 3000 < s.size
  · go_enter Tryd.func7, Tryd.ntmps7
    go_wp2_with (go_at_call 13; refine HK.out.mono ?_; rintro e w1 ⟨rfl, b1⟩)
    go_ret
    exact ⟨rfl, b1⟩
  · have hcount := Plain.words_count s.data.toList
    rw [show s.data.toList.length = s.size by simp] at hcount
    have hN : (Plain.words s.data.toList).length ≤ 4294967297 := by omega
    have H1 := fun W => Lib.hid (words_told s W (by omega))
    have H2 := fun W => Lib.hid (rwords_told s W (by omega))
    have H3 := fun W => Lib.hid (plain_any s W (by omega))
    have H4 := fun W => Lib.hid (rplain_any s W (by omega))
    have H5 := fun W => Lib.hid (trim_any s W (by unfold maxLen; omega))
    have H6 := fun W => Lib.hid (rtrim_any s W (by unfold maxLen; omega))
    generalize Plain.words s.data.toList = ws at *
    generalize (⟨(Plain.plain s.data.toList).toArray⟩ : ByteArray) = P1 at *
    generalize (⟨(Plain.trim s.data.toList).toArray⟩ : ByteArray) = T1 at *
    clear hcount
    go_enter Tryd.func7, Tryd.ntmps7
    go_wp2_with fail
    refine HK.out.mono ?_
    rintro e w1 ⟨rfl, b1⟩
    go_wp2_with fail
    refine (H1 w1).out.mono ?_
    rintro e w2 ⟨v1, rfl, t1, b2⟩
    have c2 := b1.trans (b2.mono b1.size)
    go_wp2_with fail
    refine (H2 w2).out.mono ?_
    rintro e w3 ⟨v2, rfl, t2, b3⟩
    have c3 := c2.trans (b3.mono c2.size)
    have t1' := t1.below b3
    go_wp2_with fail
    refine (same_any v1 v2 ws w3 t1' t2 hN).mono ?_
    rintro e w4 ⟨rfl, b4⟩
    have c4 := c3.trans (b4.mono c3.size)
    clear t1 t2 t1'
    go_wp2_with fail
    refine (H3 w4).out.mono ?_
    rintro e w5 ⟨rfl, b5⟩
    have c5 := c4.trans (b5.mono c4.size)
    go_wp2_with fail
    refine (H4 w5).out.mono ?_
    rintro e w6 ⟨rfl, b6⟩
    have c6 := c5.trans (b6.mono c5.size)
    go_wp2_with fail
    refine (H5 w6).out.mono ?_
    rintro e w7 ⟨rfl, rfl⟩
    go_wp2_with fail
    refine (H6 w6).out.mono ?_
    rintro e w7 ⟨rfl, rfl⟩
    go_wp2
    go_ret
    exact ⟨rfl, c6⟩

set_option maxHeartbeats 1000000 in
set_option maxRecDepth 100000 in
theorem index_no (s : ByteArray) (w : World) (hs : s.size ≤ 4294967296) (hno : ∀ k (h : k < s.size), s[k] ≠ 13) :
    Calls Tryd.prog 21 #[.string s, .string ⟨#[13]⟩, .int .i64 0] w fun e w' => e = .returned (.int .i64 (-1)) ∧ w = w' := by
  have HN := Lib.hid hno
  clear hno
  go_enter Tryd.func21, Tryd.ntmps21
  go_wp2
  go_loop [7] (fun v => ∃ k : Nat, v = .int .i64 k ∧ k ≤ s.size) (fun v => s.size + 1 - (intOf v).toNat)
  case atStart => exact ⟨0, rfl, Nat.zero_le _⟩
  case round =>
    obtain ⟨k, rfl, hk⟩ := hrel
    by_cases hlt : k < s.size
    · have hsl := fun W => slice_one s k W hlt
      have hq : (s[k] == 13) = false := beq_eq_false_iff_ne.2 (HN.out k hlt)
      go_wp2
      exact ⟨⟨k + 1, by go_num, by omega⟩, by simp [intOf]; omega⟩
    · go_wp2
      go_ret
      exact ⟨rfl, rfl⟩

set_option maxHeartbeats 1000000 in
set_option maxRecDepth 100000 in
theorem lines_walk (s : ByteArray) (w : World) (hs : s.size ≤ maxLen) (hm : HasMax w) : Calls Tryd.prog 5 #[.string s] w (Says true w) := by
  unfold maxLen at hs
  have HK := Lib.hid (known_yes w hm)
  have HM := Lib.hid hm
  clear hm
  by_cases h3 : 3000 < s.size
  · go_enter Tryd.func5, Tryd.ntmps5
    go_wp2_with (go_at_call 13; refine HK.out.mono ?_; rintro e w1 ⟨rfl, b1⟩)
    go_ret
    exact ⟨rfl, b1⟩
  · have htw := Plain.lines_twice s.data.toList
    have hln := Plain.lines_len s.data.toList
    have hno := Plain.lines_no s.data.toList
    rw [show s.data.toList.length = s.size by simp] at hln
    have H1 := fun W hW => Lib.hid (lines_any s W hW (by omega))
    have H2 := fun W => Lib.hid (rlines_any s W (by omega))
    obtain ⟨f, hf⟩ : ∃ f : ByteArray, (⟨(Plain.lines s.data.toList).toArray⟩ : ByteArray) = f := ⟨_, rfl⟩
    have hfd : f.data.toList = Plain.lines s.data.toList := by rw [← hf]
    have hfs : f.size ≤ s.size := by rw [Lib.size_eq, hfd]; exact hln
    have H3 := fun W hW => Lib.hid (lines_any f W hW (by omega))
    rw [hfd, htw, hf] at H3
    rw [hf] at H1 H2
    have H4 := fun W => Lib.hid (index_no f W (by omega) (fun k hk => by
      apply hno
      rw [← hfd]
      exact List.getElem_mem (l := f.data.toList) (by simpa using hk)))
    clear hf hfd htw hln hno
    go_enter Tryd.func5, Tryd.ntmps5
    go_wp2_with fail
    refine HK.out.mono ?_
    rintro e w1 ⟨rfl, b1⟩
    have M1 := Lib.hid (HM.out.below b1)
    go_wp2_with fail
    refine (H1 w1 M1.out).out.mono ?_
    rintro e w2 ⟨rfl, b2⟩
    have c2 := b1.trans (b2.mono b1.size)
    have M2 := Lib.hid (M1.out.below b2)
    go_wp2_with fail
    refine (H2 w2).out.mono ?_
    rintro e w3 ⟨rfl, rfl⟩
    go_wp2_with fail
    refine (H3 w2 M2.out).out.mono ?_
    rintro e w3 ⟨rfl, b3⟩
    have c3 := c2.trans (b3.mono c2.size)
    go_wp2_with fail
    refine (H4 w3).out.mono ?_
    rintro e w4 ⟨rfl, rfl⟩
    go_wp2
    go_ret
    exact ⟨rfl, c3⟩
end Go.Proofs.YtnikehhcfbeiaaaDoor
