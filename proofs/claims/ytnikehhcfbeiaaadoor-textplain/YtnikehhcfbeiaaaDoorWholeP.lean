/-
  The walk of the program's Whole. Any text of at most 2^32 bytes.
-/
import Derived.Test.YtnikehhcfbeiaaaDoorWholes
import Derived.Lib.OthersKept
namespace Go.Proofs.YtnikehhcfbeiaaaDoor
open Go.RowKit

theorem ext_end (s : ByteArray) (k : Nat) : (s.extract k s.size).data.toList = s.data.toList.drop k := by
  rw [Lib.extract_data, List.take_of_length_le (by simp)]

/-- What range finds where a whole sign stands, and where none does. -/
theorem found_whole (s : ByteArray) (k : Nat) (h : k < s.size) (hb : Plain.partB (s.data.toList.drop k) = true) :
    (Utf8.decode s k).2 = Plain.partK (s.data.toList.drop k) ∧ Lib.encodeRune ((Utf8.decode s k).1 : Int) = (s.data.toList.drop k).take (Plain.partK (s.data.toList.drop k)) ∧ ((Utf8.decode s k).1 = 65533 → Lib.hasPrefix (s.data.toList.drop k) Plain.bad = true) := by
  have hd := drop_cons s k h
  rw [Plain.decode_at s k h]
  rw [hd] at hb ⊢
  exact Plain.decL_good _ _ hb
theorem found_none (s : ByteArray) (k : Nat) (h : k < s.size) (hb : Plain.partB (s.data.toList.drop k) = false) :
    Utf8.decode s k = (65533, 1) ∧ Lib.hasPrefix (s.data.toList.drop k) Plain.bad = false := by
  have hd := drop_cons s k h
  rw [Plain.decode_at s k h]
  rw [hd] at hb ⊢
  refine ⟨Plain.decL_bad _ _ hb, ?_⟩
  cases hh : Lib.hasPrefix (s[k] :: s.data.toList.drop (k + 1)) Plain.bad
  · rfl
  · rw [Plain.bad_whole _ _ hh] at hb
    cases hb

/-- broken, where range found r. -/
theorem broken_at (s : ByteArray) (k : Nat) (w : World) (h : k < s.size) (b : Bool) (hb : Plain.partB (s.data.toList.drop k) = b) :
    Calls Tryd.prog 35 #[.string (s.extract k s.size), .int .i32 ((Utf8.decode s k).1 : Int)] w fun e w' => e = .returned (.bool (!b)) ∧ w = w' := by
  cases b
  · obtain ⟨h1, h2⟩ := found_none s k h hb
    rw [h1]
    have := broken_lost (s.extract k s.size) w
    rw [ext_end, h2] at this
    exact this
  · obtain ⟨h1, h2, h3⟩ := found_whole s k h hb
    by_cases hr : (Utf8.decode s k).1 = 65533
    · have := broken_lost (s.extract k s.size) w
      rw [ext_end, h3 hr] at this
      rw [hr]
      exact this
    · exact broken_other _ _ w (by omega)

set_option maxHeartbeats 4000000 in
set_option maxRecDepth 1000000 in
theorem whole_any (s : ByteArray) (w : World) :
    Calls Tryd.prog 16 #[.string s] w fun e w' => e = .returned (.bool (Plain.whole s.data.toList)) ∧ Below w.heap.size w w' := by
  go_enter Tryd.func16, Tryd.ntmps16
  go_wp2
  go_loopw [] (fun wr => ∃ pos : Nat, wr.heap[w.heap.size]? = some (.stringIter s pos) ∧ Below w.heap.size w wr ∧ pos ≤ s.size ∧ Plain.whole (s.data.toList.drop pos) = Plain.whole s.data.toList) (fun wr => s.size - wr.iterPos w.heap.size)
  case atStart =>
    refine ⟨0, ?_, (Below.refl _ w).alloc (Nat.le_refl _) _, Nat.zero_le _, rfl⟩
    have := World.iter_heap w s 0
    simpa using this
  case round =>
    obtain ⟨pos, hit, hbw, hps, hw⟩ := hrel
    have HW := Lib.hid hw
    clear hw
    have hsz : w.heap.size < wr.heap.size := (Array.getElem?_eq_some_iff.1 hit).1
    by_cases hp : pos < s.size
    · have hnx : ∀ ty, (Instr.next (.pointer (some ⟨w.heap.size, 0, none⟩)) true ty).run Tryd.prog wr = _ := fun ty => Lib.run_next_any_at wr w.heap.size s pos ty hit hp
      have hit2 := Lib.iterAt_heap wr w.heap.size s pos (pos + (Utf8.decode s pos).2) hit
      have hbw2 := Lib.below_iterAt hbw (k := w.heap.size) (by omega) s (pos + (Utf8.decode s pos).2)
      have hpb := part_bound s pos hp
      have HPB := Lib.hid hpb
      have HIT := Lib.hid hit
      have HIT2 := Lib.hid hit2
      clear hpb hit hit2
      cases hb : Plain.partB (s.data.toList.drop pos)
      · have HN := Lib.hid (whole_no s pos hp hb)
        have HB := Lib.hid hb
        clear hb
        go_wp2_with (go_at_call 35; refine (broken_at s pos _ hp false HB.out).mono ?_; rintro e w1 ⟨rfl, rfl⟩)
        go_ret
        refine ⟨?_, hbw2⟩
        rw [← HW.out, HN.out]
        rfl
      · have HY := Lib.hid (whole_yes s pos hp hb)
        have HF := Lib.hid (found_whole s pos hp hb)
        have HB := Lib.hid hb
        clear hb
        go_wp2_with (go_at_call 35; refine (broken_at s pos _ hp true HB.out).mono ?_; rintro e w1 ⟨rfl, rfl⟩)
        obtain ⟨f1, _⟩ := HF.out
        have h1 := HPB.out.2 HB.out
        have h2 := HPB.out.1
        refine ⟨⟨pos + (Utf8.decode s pos).2, HIT2.out, hbw2, by omega, ?_⟩, ?_⟩
        · rw [f1, ← HY.out]; exact HW.out
        · simp only [World.iterPos, HIT2.out, HIT.out]
          omega
    · have hnx : ∀ ty, (Instr.next (.pointer (some ⟨w.heap.size, 0, none⟩)) true ty).run Tryd.prog wr = _ := fun ty => Lib.run_next_end_at wr w.heap.size s pos ty hit hp
      have HE := Lib.hid (whole_end s pos hp)
      go_wp2
      go_ret
      refine ⟨?_, hbw⟩
      rw [← HW.out, HE.out]
      rfl
end Go.Proofs.YtnikehhcfbeiaaaDoor
