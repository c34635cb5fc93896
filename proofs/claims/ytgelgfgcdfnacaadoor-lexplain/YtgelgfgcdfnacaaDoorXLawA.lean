/-
  The walk of the law LexPlain: true, and nothing old is changed. The library's number MaxLen and the table of package refs are there.
-/
import Derived.Test.YtgelgfgcdfnacaaDoorXKnown
namespace Go.Proofs.YtgelgfgcdfnacaaDoor
open Go.RowKit

set_option maxHeartbeats 2000000 in
set_option maxRecDepth 100000 in
theorem lexPlain_walk (v : Value) (n : Nat) (z : Int) (w : World) (hv : IntsIn w v n) (h0 : -9223372036854775808 ≤ z) (h1 : z ≤ 9223372036854775807) (hmax : HasMax w) (hea : HasEarly w) :
    Calls Tryd.prog 6 #[v, .int .i64 z] w (Yes w) := by
  have HK := Lib.hid (known4_yes w ⟨hmax, hea⟩)
  have HR := Lib.hid (Ready.mk hmax hea)
  have HV := Lib.hid hv
  clear hmax hea hv
  go_enter Tryd.func6, Tryd.ntmps6
  go_wp2_with fail
  refine HK.out.mono ?_
  rintro e w1 ⟨rfl, b1⟩
  have HB1 := Lib.hid b1
  clear b1
  go_wp2_with fail
  refine (html4_any v n w1 (HV.out.below HB1.out)).mono ?_
  rintro e w2 ⟨l, rfl, hl, b2⟩
  have HB2 := Lib.hid (HB1.out.trans (b2.mono HB1.out.size))
  clear b2 HB1 HK HV
  obtain ⟨s, hs⟩ : ∃ s : ByteArray, s = ⟨l.toArray⟩ := ⟨_, rfl⟩
  have hsz : s.size ≤ 40000 := by rw [hs]; show l.toArray.size ≤ _; simpa using hl
  rw [← hs]
  clear hs hl
  have HW := fun W => Lib.hid (within4 z (s.size + 1) W h0 h1 (by omega) (by omega))
  have hr := (within_lt z (s.size + 1) (by omega)).1
  rw [show ((s.size + 1 : Nat) : Int) = (s.size : Int) + 1 by omega] at HW
  generalize Within z (s.size + 1) = r at *
  go_wp2_with fail
  refine (HW _).out.mono ?_
  rintro e w3 ⟨rfl, rfl⟩
  go_wp2_with fail
  have HN := Lib.hid (next_lex s ⟨#[112, 108, 97, 105, 110, 116, 101, 120, 116]⟩ r 3 w2 (HR.out.below HB2.out) (by omega) (by omega) (by omega) (by decide))
  by_cases hrs : r = s.size
  · subst hrs
    have e1 : nextT s.data.toList s.size 3 (⟨#[112, 108, 97, 105, 110, 116, 101, 120, 116]⟩ : ByteArray).data.toList = (⟨5, [], [], false, []⟩, s.size) := by
      unfold nextT
      rw [if_pos (by rw [len_of]; omega)]
      unfold stopT
      rw [len_of]
    rw [e1] at HN
    refine HN.out.mono ?_
    rintro e w4 ⟨v4, rfl, ha4, b4⟩
    obtain ⟨p4, cap4, hv4⟩ := ha4.form
    subst hv4
    have HB4 := Lib.hid (HB2.out.trans (b4.mono HB2.out.size))
    clear b4 ha4 HN e1
    go_wp2_with fail
    go_ret
    exact ⟨rfl, HB4.out.alloc HB4.out.size _⟩
  · have e1 : nextT s.data.toList r 3 (⟨#[112, 108, 97, 105, 110, 116, 101, 120, 116]⟩ : ByteArray).data.toList = (textT (Plain.clear (s.data.toList.drop r)), s.size) := by
      unfold nextT
      rw [if_neg (by rw [len_of]; omega), if_pos rfl, len_of]
    rw [e1] at HN
    refine HN.out.mono ?_
    rintro e w4 ⟨v4, rfl, ha4, b4⟩
    obtain ⟨p4, cap4, hv4⟩ := ha4.form
    subst hv4
    have HB4 := Lib.hid (HB2.out.trans (b4.mono HB2.out.size))
    clear b4 ha4 HN e1
    have q1 : ((r : Int) == (s.size : Int)) = false := beq_eq_false_iff_ne.2 (by omega)
    have HC := fun W => Lib.hid (rclear_any (s.extract r s.size) W (by simp; omega))
    rw [from_list] at HC
    unfold textT
    simp only
    generalize Plain.clear (s.data.toList.drop r) = C at *
    go_wp2_with fail
    go_quiet ((go_at_call 20; first | exact quiet_gives HC _ _ _ | exact quiet_gives0 HC _ _))
    go_wp2_with fail
    go_ret
    exact ⟨rfl, below_drewN (HB4.out.alloc HB4.out.size _) _⟩
end Go.Proofs.YtgelgfgcdfnacaaDoor
