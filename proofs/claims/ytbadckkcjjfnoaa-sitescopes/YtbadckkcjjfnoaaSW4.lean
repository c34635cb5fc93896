/-
  The walks of kind.Wall, of the program's Has and last. Any Site, any names, not too many.
-/
import Derived.Test.YtbadckkcjjfnoaaSW3
namespace Go.Proofs.Ytbadckkcjjfnoaa
open Go.RowKit Go.Maps

def wallHtml : List (List UInt8) := [[97, 112, 112, 108, 101, 116], [99, 97, 112, 116, 105, 111, 110], [104, 116, 109, 108], [109, 97, 114, 113, 117, 101, 101], [111, 98, 106, 101, 99, 116], [116, 97, 98, 108, 101], [116, 100], [116, 101, 109, 112, 108, 97, 116, 101], [116, 104]]
def wallMath : List (List UInt8) := [[97, 110, 110, 111, 116, 97, 116, 105, 111, 110, 45, 120, 109, 108], [109, 105], [109, 110], [109, 111], [109, 115], [109, 116, 101, 120, 116]]
def wallSvg : List (List UInt8) := [[100, 101, 115, 99], [102, 111, 114, 101, 105, 103, 110, 79, 98, 106, 101, 99, 116], [116, 105, 116, 108, 101]]
/-- Is it a wall of the scope that all share? -/
def wallAny (sp : Int) (s : List UInt8) : Bool := if sp = 1 then hasS wallHtml s else if sp = 3 then hasS wallMath s else if sp = 2 then hasS wallSvg s else false
def wallK (c sp : Int) (s : List UInt8) : Bool :=
  if c = 1 then wallAny sp s
  else if c = 2 then wallAny sp s || (decide (sp = 1) && (s == [111, 108] || s == [117, 108]))
  else if c = 3 then wallAny sp s || (decide (sp = 1) && s == [98, 117, 116, 116, 111, 110])
  else if c = 4 then decide (sp = 1) && (s == [104, 116, 109, 108] || s == [116, 97, 98, 108, 101] || s == [116, 101, 109, 112, 108, 97, 116, 101])
  else false
theorem beq_rev (l : List UInt8) (c : ByteArray) : (l == c.toList) = (c.toList == l) := by rw [Bool.eq_iff_iff, beq_iff_eq, beq_iff_eq]; exact eq_comm
set_option maxHeartbeats 4000000 in
set_option maxRecDepth 100000 in
theorem wallAnyP (sp : Int) (s : List UInt8) (w : World) : Calls Try.prog 141 #[.int .i64 sp, .string ⟨s.toArray⟩] w (Gives (.bool (wallAny sp s)) w) := by
  obtain ⟨SA, hSA⟩ : ∃ SA : ByteArray, SA = ⟨s.toArray⟩ := ⟨_, rfl⟩
  rw [← hSA]
  have hl : SA.toList = s := by rw [hSA, Lib.toList_data]
  have HD : Hid (wallAny sp s = if (sp == 1) = true then hasS wallHtml SA.toList else if (sp == 3) = true then hasS wallMath SA.toList else if (sp == 2) = true then hasS wallSvg SA.toList else false) := Lib.hid (by rw [hl]; unfold wallAny; simp only [beq_iff_eq])
  clear hSA hl
  obtain ⟨r, hr⟩ : ∃ r, r = wallAny sp s := ⟨_, rfl⟩
  rw [← hr] at HD ⊢
  clear hr
  unfold hasS wallHtml wallMath wallSvg at HD
  simp only [List.any_cons, List.any_nil, Bool.or_false, beq_rev] at HD
  go_enter Try.func141, Try.ntmps141
  go_wp2_with fail
  all_goals first
    | (exfalso; simp_all only [Bool.false_eq_true]; done)
    | (go_ret; refine ⟨bool_is ?_, rfl⟩; rw [HD.out]; clear HD; simp_all only [Bool.true_or, Bool.or_true, Bool.or_false, if_true, if_false, Bool.false_eq_true])
set_option maxHeartbeats 4000000 in
set_option maxRecDepth 100000 in
theorem wallP (c sp : Int) (s : List UInt8) (w : World) : Calls Try.prog 115 #[.int .i64 c, .int .i64 sp, .string ⟨s.toArray⟩] w (Gives (.bool (wallK c sp s)) w) := by
  have HA := Lib.hid (wallAnyP sp s w)
  obtain ⟨SA, hSA⟩ : ∃ SA : ByteArray, SA = ⟨s.toArray⟩ := ⟨_, rfl⟩
  rw [← hSA] at HA ⊢
  have hl : SA.toList = s := by rw [hSA, Lib.toList_data]
  have HD : Hid (wallK c sp s = if (c == 1) = true then wallAny sp s else if (c == 2) = true then wallAny sp s || ((sp == 1) && (SA.toList == [111, 108] || SA.toList == [117, 108])) else if (c == 3) = true then wallAny sp s || ((sp == 1) && SA.toList == [98, 117, 116, 116, 111, 110]) else if (c == 4) = true then (sp == 1) && (SA.toList == [104, 116, 109, 108] || SA.toList == [116, 97, 98, 108, 101] || SA.toList == [116, 101, 109, 112, 108, 97, 116, 101]) else false) := Lib.hid (by rw [hl]; unfold wallK; simp only [beq_iff_eq, int_one, decide_eq_true_eq])
  clear hSA hl
  obtain ⟨r, hr⟩ : ∃ r, r = wallK c sp s := ⟨_, rfl⟩
  rw [← hr] at HD ⊢
  clear hr
  generalize wallAny sp s = WA at *
  go_enter Try.func115, Try.ntmps115
  go_wp2_with fail
  all_goals try (refine HA.out.mono ?_; rintro e w1 ⟨rfl, rfl⟩; go_wp2_with fail)
  all_goals first
    | (exfalso; simp_all only [Bool.false_eq_true]; done)
    | (go_ret; refine ⟨bool_is ?_, rfl⟩; rw [HD.out]; clear HD; simp_all)
end Go.Proofs.Ytbadckkcjjfnoaa
