/-
  The walks of known (what the document fixes), within, Index, Begins. Any world that holds the library's MaxLen.
-/
import Derived.Test.YtnikehhcfbeiaaaDoorFold
import Derived.Test.YtnikehhcfbeiaaaDoorTrims
import Derived.Test.YtnikehhcfbeiaaaDoorDecodeP
import Derived.Test.YtnikehhcfbeiaaaDoorLines
namespace Go.Proofs.YtnikehhcfbeiaaaDoor
open Go.RowKit

theorem kn_bytes (w : World) : BytesIn (w.alloc (.cells #[.int .u8 226, .int .u8 130, .int .u8 65] 5)) (.slice (some ⟨w.heap.size, 0, none⟩) 3 3) ⟨#[226, 130, 65]⟩ := by
  refine Or.inr ⟨w.heap.size, 0, 3, rfl, by simp, fun j hj => ?_⟩
  have hc : ∀ i, (w.alloc (.cells #[.int .u8 226, .int .u8 130, .int .u8 65] 5)).cell? ⟨w.heap.size, i, none⟩ = (#[.int .u8 226, .int .u8 130, .int .u8 65] : Array Value)[i]? := fun i => World.cell?_alloc_mark w _ 5 (0, 0) i
  rw [Nat.zero_add, hc]
  have hj3 : j < 3 := hj
  have : j = 0 ∨ j = 1 ∨ j = 2 := by omega
  rcases this with rfl | rfl | rfl <;> rfl
theorem kn_decode (w : World) : Calls Tryd.prog 14 #[.slice (some ⟨w.heap.size, 0, none⟩) 3 3] (w.alloc (.cells #[.int .u8 226, .int .u8 130, .int .u8 65] 5)) fun e w' => e = .returned (.string ⟨#[239, 191, 189, 65]⟩) ∧ Below w.heap.size w w' := by
  refine (decode_any _ _ _ (kn_bytes w) (by decide)).mono fun e w' ⟨he, hb⟩ => ⟨?_, ?_⟩
  · rw [he]
    have : Plain.decode (⟨#[226, 130, 65]⟩ : ByteArray).data.toList = [239, 191, 189, 65] := by decide
    rw [this]
  · exact ((Below.refl _ w).alloc (Nat.le_refl _) _).trans (hb.mono (by simp))
theorem kn_lines (w : World) (hm : HasMax w) : Calls Tryd.prog 19 #[.string ⟨#[97, 13, 13, 10]⟩] w fun e w' => e = .returned (.string ⟨#[97, 10, 10]⟩) ∧ Below w.heap.size w w' := by
  refine (lines_any _ w hm (by decide)).mono fun e w' ⟨he, hb⟩ => ⟨?_, hb⟩
  rw [he]
  have : Plain.lines (⟨#[97, 13, 13, 10]⟩ : ByteArray).data.toList = [97, 10, 10] := by decide
  rw [this]
theorem kn_plain (w : World) : Calls Tryd.prog 27 #[.string ⟨#[32, 97, 32, 9, 32, 98]⟩] w fun e w' => e = .returned (.string ⟨#[97, 32, 98]⟩) ∧ Below w.heap.size w w' := by
  refine (plain_any _ w (by decide)).mono fun e w' ⟨he, hb⟩ => ⟨?_, hb⟩
  rw [he]
  have : Plain.plain (⟨#[32, 97, 32, 9, 32, 98]⟩ : ByteArray).data.toList = [97, 32, 98] := by decide
  rw [this]
theorem kn_fold (w : World) : Calls Tryd.prog 22 #[.string ⟨#[65, 122]⟩] w fun e w' => e = .returned (.string ⟨#[97, 122]⟩) ∧ Below w.heap.size w w' := by
  refine (fold_any _ w (by decide)).mono fun e w' ⟨he, hb⟩ => ⟨?_, hb⟩
  rw [he]
  have : Plain.fold (⟨#[65, 122]⟩ : ByteArray).data.toList = [97, 122] := by decide
  rw [this]

/-- What a call tells that makes memory and answers a bool. -/
def Says (b : Bool) (w : World) (e : Ending) (w' : World) : Prop := e = .returned (.bool b) ∧ Below w.heap.size w w'

set_option maxHeartbeats 1000000 in
set_option maxRecDepth 100000 in
theorem known_yes (w : World) (hm : HasMax w) : Calls Tryd.prog 13 #[] w (Says true w) := by
  have HM := Lib.hid hm
  clear hm
  go_enter Tryd.func13, Tryd.ntmps13
  go_wp2_with fail
  refine (kn_decode w).mono ?_
  rintro e w1 ⟨rfl, b1⟩
  go_wp2_with fail
  refine (kn_lines w1 (HM.out.below b1)).mono ?_
  rintro e w2 ⟨rfl, b2⟩
  go_wp2_with fail
  refine (kn_plain w2).mono ?_
  rintro e w3 ⟨rfl, b3⟩
  go_wp2_with fail
  refine (kn_fold w3).mono ?_
  rintro e w4 ⟨rfl, b4⟩
  go_wp2
  go_ret
  have c2 := b1.trans (b2.mono b1.size)
  have c3 := c2.trans (b3.mono c2.size)
  exact ⟨rfl, c3.trans (b4.mono c3.size)⟩
end Go.Proofs.YtnikehhcfbeiaaaDoor
