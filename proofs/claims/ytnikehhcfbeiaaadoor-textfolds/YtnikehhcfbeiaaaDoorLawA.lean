/-
  The walks of the laws TextFolds, TextWords, TextLines: any text of at most maxLen bytes, in any world that holds the library's MaxLen: true, and nothing old is changed.
-/
import Derived.Test.YtnikehhcfbeiaaaDoorKnown
namespace Go.Proofs.YtnikehhcfbeiaaaDoor
open Go.RowKit

theorem toList_mk (l : List UInt8) : (⟨l.toArray⟩ : ByteArray).toList = l := by rw [Lib.toList_data]

set_option maxHeartbeats 1000000 in
set_option maxRecDepth 100000 in
theorem folds_walk (s : ByteArray) (w : World) (hs : s.size ≤ maxLen) (hm : HasMax w) : Calls Tryd.prog 6 #[.string s] w (Says true w) := by
  unfold maxLen at hs
  have HK := Lib.hid (known_yes w hm)
  clear hm
  by_cases h3 : 3000 < s.size
  · go_enter Tryd.func6, Tryd.ntmps6
    go_wp2_with (go_at_call 13; refine HK.out.mono ?_; rintro e w1 ⟨rfl, b1⟩)
    go_ret
    exact ⟨rfl, b1⟩
  · have h2 := Plain.fold_twice s.data.toList
    have hl := Plain.fold_length s.data.toList
    rw [show s.data.toList.length = s.size by simp] at hl
    have H1 := fun W => Lib.hid (fold_any s W (by unfold maxLen; omega))
    have H2 := fun W => Lib.hid (rfold_any s W (by unfold maxLen; omega))
    obtain ⟨f, hf⟩ : ∃ f : ByteArray, (⟨(Plain.fold s.data.toList).toArray⟩ : ByteArray) = f := ⟨_, rfl⟩
    have hfd : f.data.toList = Plain.fold s.data.toList := by rw [← hf]
    have hfs : f.size = s.size := by rw [Lib.size_eq, hfd]; exact hl
    have H3 := fun W => Lib.hid (fold_any f W (by unfold maxLen; omega))
    rw [hfd, h2, hf] at H3
    rw [hf] at H1 H2
    have hq : ((f.size : Int) == (s.size : Int)) = true := by rw [hfs]; simp
    clear hf hfd h2 hl hfs
    go_enter Tryd.func6, Tryd.ntmps6
    go_wp2_with fail
    refine HK.out.mono ?_
    rintro e w1 ⟨rfl, b1⟩
    go_wp2_with fail
    refine (H1 w1).out.mono ?_
    rintro e w2 ⟨rfl, b2⟩
    go_wp2_with fail
    refine (H2 w2).out.mono ?_
    rintro e w3 ⟨rfl, b3⟩
    go_wp2_with fail
    refine (H3 w3).out.mono ?_
    rintro e w4 ⟨rfl, b4⟩
    go_wp2
    go_ret
    have c2 := b1.trans (b2.mono b1.size)
    have c3 := c2.trans (b3.mono c2.size)
    exact ⟨rfl, c3.trans (b4.mono c3.size)⟩
end Go.Proofs.YtnikehhcfbeiaaaDoor
