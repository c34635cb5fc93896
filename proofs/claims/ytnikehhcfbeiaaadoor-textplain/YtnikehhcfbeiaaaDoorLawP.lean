/-
  The walk of the law TextPlain: any text of at most maxLen bytes: true, and nothing old is changed.
-/
import Derived.Test.YtnikehhcfbeiaaaDoorLawA
import Derived.Test.YtnikehhcfbeiaaaDoorPlainG
namespace Go.Proofs.YtnikehhcfbeiaaaDoor
open Go.RowKit

theorem TextsAt.len {w : World} {v : Value} {ws : List (List UInt8)} (h : TextsAt w v ws) : ∃ p cap, v = .slice p ws.length cap := by
  obtain ⟨p, cap, h, _⟩ := h.slice
  exact ⟨p, cap, h⟩

set_option maxHeartbeats 2000000 in
set_option maxRecDepth 100000 in
theorem plain_walk (s : ByteArray) (w : World) (hs : s.size ≤ maxLen) (hm : HasMax w) : Calls Tryd.prog 10 #[.string s] w (Says true w) := by
  unfold maxLen at hs
  have HK := Lib.hid (known_yes w hm)
  clear hm
  by_cases h3 : 3000 < s.size
  · go_enter Tryd.func10, Tryd.ntmps10
    go_wp2_with (go_at_call 13; refine HK.out.mono ?_; rintro e w1 ⟨rfl, b1⟩)
    go_ret
    exact ⟨rfl, b1⟩
  · have hcount := Plain.words_count s.data.toList
    have hplen := Plain.plain_len s.data.toList
    rw [show s.data.toList.length = s.size by simp] at hcount hplen
    have hpp := Plain.plain_plain s.data.toList
    have hwp := Plain.words_plain s.data.toList
    have hbp := Plain.blanks_plain s.data.toList
    have htp := Plain.trim_plain s.data.toList
    obtain ⟨f, hf⟩ : ∃ f : ByteArray, (⟨(Plain.plain s.data.toList).toArray⟩ : ByteArray) = f := ⟨_, rfl⟩
    have hfd : f.data.toList = Plain.plain s.data.toList := by rw [← hf]
    have hfs : f.size ≤ s.size := by rw [Lib.size_eq, hfd]; exact hplen
    have H1 := fun W => Lib.hid (plain_any s W (by omega))
    rw [hf] at H1
    have H2 := fun W => Lib.hid (words_told s W (by omega))
    have H3 := fun W => Lib.hid (plain_any f W (by omega))
    rw [hfd, hpp, hf] at H3
    have H4 := fun W => Lib.hid (words_told f W (by omega))
    rw [hfd, hwp] at H4
    have H5 := fun W => Lib.hid (trim_any f W (by unfold maxLen; omega))
    rw [hfd, htp, hf] at H5
    have hbl : Plain.blanks f.data.toList = (Plain.words s.data.toList).length - 1 := by rw [hfd]; exact hbp
    have hN : (Plain.words s.data.toList).length ≤ 3001 := by omega
    generalize Plain.words s.data.toList = ws at *
    have HBL := Lib.hid hbl
    clear hcount hplen hpp hwp hbp htp hf hfd hbl
    go_enter Tryd.func10, Tryd.ntmps10
    go_wp2_with fail
    refine HK.out.mono ?_
    rintro e w1 ⟨rfl, b1⟩
    go_wp2_with fail
    refine (H1 w1).out.mono ?_
    rintro e w2 ⟨rfl, b2⟩
    have c2 := b1.trans (b2.mono b1.size)
    go_wp2
    go_loop [4, 5] (fun a b => ∃ k : Nat, k ≤ f.size ∧ b = .int .i64 k ∧ a = .int .i64 (Plain.blanks (f.data.toList.take k) : Nat)) (fun _ b => f.size - (intOf b).toNat)
    case atStart => exact ⟨0, Nat.zero_le _, rfl, rfl⟩
    case round =>
      obtain ⟨k, hk, rfl, rfl⟩ := hrel
      have hb1 := Plain.blanks_le (f.data.toList.take k)
      have hb2 : (f.data.toList.take k).length ≤ k := List.length_take_le _ _
      have hbk : Plain.blanks (f.data.toList.take k) ≤ 3000 := by omega
      by_cases hlt : k < f.size
      · have ht := Plain.blanks_take f.data.toList k (by simpa using hlt)
        have ht' : Plain.blanks (f.data.toList.take (k + 1)) = Plain.blanks (f.data.toList.take k) + if Plain.blankB f[k] then 1 else 0 := ht
        clear ht
        cases hb : Plain.blankB f[k]
        · rw [hb] at ht'
          have HB := Lib.hid hb
          have HT := Lib.hid ht'
          clear hb ht' hb1 hb2
          go_wp2_with (go_at_call 32; refine (rblank_no _ _ HB.out).mono ?_; rintro e w3 ⟨rfl, rfl⟩)
          refine ⟨⟨k + 1, by omega, by go_num, ?_⟩, by simp [intOf]; omega⟩
          rw [HT.out]
          simp
        · rw [hb] at ht'
          have HB := Lib.hid hb
          have HT := Lib.hid ht'
          clear hb ht' hb1 hb2
          go_wp2_with (go_at_call 32; refine (rblank_yes _ _ HB.out).mono ?_; rintro e w3 ⟨rfl, rfl⟩)
          refine ⟨⟨k + 1, by omega, by go_num, ?_⟩, by simp [intOf]; omega⟩
          rw [HT.out]
          simp
      · have hall : f.data.toList.take k = f.data.toList := List.take_of_length_le (by simp; omega)
        rw [hall, HBL.out]
        clear hall hb1 hb2 hbk
        have hq : (((ws.length - 1 : Nat) : Int) == max ((ws.length : Int) - 1) 0) = true := by
          rw [beq_iff_eq]; omega
        go_wp2_with fail
        refine (H2 w2).out.mono ?_
        rintro e w3 ⟨v1, rfl, t1, b3⟩
        have c3 := c2.trans (b3.mono c2.size)
        go_wp2_with fail
        refine (H3 w3).out.mono ?_
        rintro e w4 ⟨rfl, b4⟩
        have c4 := c3.trans (b4.mono c3.size)
        have t1' := t1.below b4
        go_wp2_with fail
        refine (H4 w4).out.mono ?_
        rintro e w5 ⟨v2, rfl, t2, b5⟩
        have c5 := c4.trans (b5.mono c4.size)
        have t1'' := t1'.below b5
        obtain ⟨q1, cap1, rfl⟩ := t1.len
        go_wp2_with fail
        refine (same_any v2 _ ws w5 t2 t1'' (by omega)).mono ?_
        rintro e w6 ⟨rfl, b6⟩
        have c6 := c5.trans (b6.mono c5.size)
        clear t1 t2 t1' t1''
        go_wp2_with fail
        refine (H5 w6).out.mono ?_
        rintro e w7 ⟨rfl, rfl⟩
        go_wp2
        go_ret
        exact ⟨rfl, c6⟩
end Go.Proofs.YtnikehhcfbeiaaaDoor
