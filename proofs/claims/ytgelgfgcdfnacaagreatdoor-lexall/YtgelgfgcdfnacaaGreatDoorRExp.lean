/-
  The walk of the reference's Expand. Any text of at most 2^30 bytes.
-/
import Derived.Test.YtgelgfgcdfnacaaGreatDoorRRef2
namespace Go.Proofs.YtgelgfgcdfnacaaGreatDoor
open Go.RowKit

theorem slice_byte (s : ByteArray) (k : Nat) (W : World) (h : k < s.size) : (Instr.slice 9 (.string s) (some (.int .i64 (k : Int))) (some (.int .i64 ((k : Int) + 1))) none).run Tryz.prog W = .ok (.string (s.extract k (k + 1))) W :=
  slice_part s k 1 W (by omega)
theorem drop_at (s : ByteArray) (k : Nat) (h : k < s.size) : s.data.toList.drop k = s[k] :: s.data.toList.drop (k + 1) := List.drop_eq_getElem_cons (by simpa using h)
theorem exp_byte (s : ByteArray) (k : Nat) (attr : Bool) (h : k < s.size) (h0 : (Plain.ref (s.data.toList.drop k) attr).2 = 0) : Plain.expand (s.data.toList.drop k) attr = [s[k]] ++ Plain.expand (s.data.toList.drop (k + 1)) attr := by
  rw [drop_at s k h] at h0 ⊢
  rw [Plain.expand_byte _ _ _ h0]
  rfl
theorem exp_ref (s : ByteArray) (k : Nat) (attr : Bool) (h : k < s.size) (h0 : (Plain.ref (s.data.toList.drop k) attr).2 ≠ 0) :
    Plain.expand (s.data.toList.drop k) attr = (Plain.ref (s.data.toList.drop k) attr).1 ++ Plain.expand (s.data.toList.drop (k + (Plain.ref (s.data.toList.drop k) attr).2)) attr := by
  have e := drop_at s k h
  generalize hR : Plain.ref (s.data.toList.drop k) attr = R at *
  conv => lhs; rw [e]
  rw [e] at hR
  rw [Plain.expand_ref _ _ _ (by rw [hR]; exact h0), hR, ← e, List.drop_drop]

set_option maxHeartbeats 2000000 in
set_option maxRecDepth 100000 in
theorem rexpand_any (s : ByteArray) (attr : Bool) (w : World) (hs : s.size ≤ 1073741824) : Calls Tryz.prog 47 #[.string s, .bool attr] w (Tells (Plain.expand s.data.toList attr) w) := by
  have hl : s.data.toList.length = s.size := by simp
  have HL := Lib.hid hl
  clear hl
  go_enter Tryz.func47, Tryz.ntmps47
  go_wp2
  go_loopw [5, 6] (fun o v wr => ∃ (k : Nat) (acc : List UInt8), k ≤ s.size ∧ v = .int .i64 k ∧ o = .string ⟨acc.toArray⟩ ∧ acc.length ≤ 4 * k ∧ acc ++ Plain.expand (s.data.toList.drop k) attr = Plain.expand s.data.toList attr ∧ Below w.heap.size w wr) (fun _ v _ => s.size - (intOf v).toNat)
  case atStart => exact ⟨0, [], Nat.zero_le _, rfl, rfl, by simp, rfl, Below.refl _ _⟩
  case round =>
    obtain ⟨k, acc, hk, rfl, rfl, hal, hacc, hb⟩ := hrel
    have HA := Lib.hid hacc
    clear hacc
    by_cases hlt : k < s.size
    · have hF := Plain.ref_facts (s.data.toList.drop k) attr
      obtain ⟨_, f2, f3, _, _, _⟩ := hF
      rw [List.length_drop, HL.out] at f3
      have HY := Lib.hid (exp_byte s k attr hlt)
      have HN := Lib.hid (exp_ref s k attr hlt)
      have HR := fun W => Lib.hid (rref_any (s.extract k s.size) attr W (by rw [ByteArray.size_extract]; omega))
      rw [tail_of s k] at HR
      have hsf := fun W => slice_from s k W (by omega)
      have hsb := fun W => slice_byte s k W hlt
      generalize Plain.ref (s.data.toList.drop k) attr = R at *
      obtain ⟨rv, rn⟩ := R
      simp only at f2 f3
      have hsz : (⟨rv.toArray⟩ : ByteArray).size ≤ 4 := by show rv.toArray.size ≤ 4; simpa using f2
      have hsa : (⟨acc.toArray⟩ : ByteArray).size ≤ 4 * k := by show acc.toArray.size ≤ _; simpa using hal
      have hs1 : (s.extract k (k + 1)).size = 1 := by rw [ByteArray.size_extract]; omega
      have hs1' : (s.extract k (k + 1)).size ≤ 1 := by omega
      clear hs1
      by_cases h0 : rn = 0
      · subst h0
        have HY' := Lib.hid (HY.out rfl)
        clear HY HN
        go_wp2_with (go_at_call 64; refine (HR _).out.mono ?_; rintro e w1 ⟨rfl, b1⟩)
        refine ⟨⟨k + 1, acc ++ [s[k]], by omega, by go_num, ?_, by simp; omega, ?_, hb.trans (b1.mono hb.size)⟩, by simp [intOf]; omega⟩
        · rw [ext_part]
          have : (s.data.toList.drop k).take 1 = [s[k]] := by rw [drop_at s k hlt]; rfl
          rw [this]
          exact congrArg Value.string (str_app acc _)
        · rw [List.append_assoc, ← HY'.out]; exact HA.out
      · have hq : ((rn : Int) == 0) = false := beq_eq_false_iff_ne.2 (by omega)
        have HN' := Lib.hid (HN.out h0)
        clear HY HN
        go_wp2_with (go_at_call 64; refine (HR _).out.mono ?_; rintro e w1 ⟨rfl, b1⟩)
        refine ⟨⟨k + rn, acc ++ rv, by omega, by go_num, ?_, by simp; omega, ?_, hb.trans (b1.mono hb.size)⟩, by simp [intOf]; omega⟩
        · exact congrArg Value.string (str_app acc _)
        · rw [List.append_assoc, ← HN'.out]; exact HA.out
    · have hz : Plain.expand (s.data.toList.drop k) attr = [] := by rw [List.drop_eq_nil_of_le (by rw [HL.out]; omega)]; rfl
      have HZ := Lib.hid hz
      clear hz
      go_wp2
      go_ret
      refine ⟨?_, hb⟩
      rw [← HA.out, HZ.out, List.append_nil]
      rfl
end Go.Proofs.YtgelgfgcdfnacaaGreatDoor
