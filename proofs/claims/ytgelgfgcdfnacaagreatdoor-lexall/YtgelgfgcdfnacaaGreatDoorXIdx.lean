/-
  The walks of the reference's Index and Begins. Any text of at most 2^28 bytes.
-/
import Derived.Test.YtgelgfgcdfnacaaGreatDoorXCases
import Derived.Test.YtgelgfgcdfnacaaGreatDoorXUp
import Derived.Test.YtgelgfgcdfnacaaGreatDoorXShift
namespace Go.Proofs.YtgelgfgcdfnacaaGreatDoor
open Go.RowKit

/-- Where a text stands first, from a place on; none: -1. -/
def idxI (x l : List UInt8) (f : Nat) : Int := match upA [x] (l.drop f) with
  | none => -1
  | some (a, _) => ((f + a : Nat) : Int)
theorem find_one (x m : List UInt8) : [x].find? (fun e => e.isPrefixOf m) = if x.isPrefixOf m then some x else none := by
  cases h : x.isPrefixOf m
  · rw [List.find?_cons_of_neg (by rw [h]; decide), List.find?_nil]; rfl
  · rw [List.find?_cons_of_pos (p := fun e : List UInt8 => e.isPrefixOf m) h]; rfl
theorem idxI_hit (x l : List UInt8) (f : Nat) (hf : f < l.length) (h : x.isPrefixOf (l.drop f) = true) : idxI x l f = (f : Int) := by
  unfold idxI
  rw [List.drop_eq_getElem_cons hf] at h ⊢
  rw [upA, find_one, if_pos h]
  rfl
theorem idxI_miss (x l : List UInt8) (f : Nat) (hf : f < l.length) (h : x.isPrefixOf (l.drop f) = false) : idxI x l f = idxI x l (f + 1) := by
  unfold idxI
  rw [List.drop_eq_getElem_cons hf] at h ⊢
  rw [upA, find_one, if_neg (by rw [h]; decide)]
  cases upA [x] (l.drop (f + 1)) with
  | none => rfl
  | some p =>
    obtain ⟨a, n⟩ := p
    simp only
    omega
theorem idxI_end (x l : List UInt8) (f : Nat) (h : l.length ≤ f) : idxI x l f = -1 := by
  unfold idxI
  rw [List.drop_eq_nil_of_le h]
  rfl
theorem idxI_short (x l : List UInt8) (hx : 1 ≤ x.length) : ∀ (m f : Nat), l.length - f = m → l.length < f + x.length → idxI x l f = -1
  | 0, f, hm, _ => idxI_end x l f (by omega)
  | m + 1, f, hm, h => by
    have hn : x.isPrefixOf (l.drop f) = false := by
      cases hp : x.isPrefixOf (l.drop f)
      · rfl
      · have := prefix_len _ _ hp
        rw [List.length_drop] at this
        omega
    rw [idxI_miss x l f (by omega) hn]
    exact idxI_short x l hx m (f + 1) (by omega) (by omega)
theorem part_is (s x : ByteArray) (i : Nat) (h : i + x.size ≤ s.size) : ((s.extract i (i + x.size)).toList == x.toList) = x.data.toList.isPrefixOf (s.data.toList.drop i) := by
  rw [Lib.toList_data, Lib.toList_data, mid_list, beg_take, List.drop_take, len_of, List.length_drop, len_of, decide_eq_true (by omega), Bool.true_and, show i + x.size - i = x.size by omega]

set_option maxHeartbeats 1000000 in
set_option maxRecDepth 100000 in
theorem rindex_any (s x : ByteArray) (f : Nat) (w : World) (hf : f ≤ s.size) (hx : 1 ≤ x.size) (hs : s.size ≤ 268435456) (hxs : x.size ≤ 268435456) : Calls Tryz.prog 63 #[.string s, .string x, .int .i64 (f : Int)] w (Gives (.int .i64 (idxI x.data.toList s.data.toList f)) w) := by
  have HL := Lib.hid (len_of s)
  have HX := Lib.hid (len_of x)
  go_enter Tryz.func63, Tryz.ntmps63
  go_wp2
  go_loop [7] (fun v => ∃ i : Nat, v = .int .i64 (i : Int) ∧ i ≤ s.size ∧ idxI x.data.toList s.data.toList f = idxI x.data.toList s.data.toList i) (fun v => s.size + 1 - (intOf v).toNat)
  case atStart => exact ⟨f, by simp, hf, rfl⟩
  case round =>
    obtain ⟨i, rfl, hi, hI⟩ := hrel
    have HI := Lib.hid hI
    clear hI
    by_cases hlt : i + x.size ≤ s.size
    · have hlt' : (i : Int) + (x.size : Int) ≤ (s.size : Int) := by omega
      have hil : i < s.data.toList.length := by rw [HL.out]; omega
      have hsl : ∀ W, (Instr.slice 9 (.string s) (some (.int .i64 (i : Int))) (some (.int .i64 ((i : Int) + (x.size : Int)))) none).run Tryz.prog W = .ok (.string (s.extract i (i + x.size))) W := fun W => by
        have := slice_mid s i (i + x.size) W (by omega) hlt
        rwa [show ((i + x.size : Nat) : Int) = (i : Int) + (x.size : Int) by omega] at this
      have q := part_is s x i hlt
      generalize s.extract i (i + x.size) = M at *
      cases hb : x.data.toList.isPrefixOf (s.data.toList.drop i)
      · have HN := Lib.hid (idxI_miss _ _ i hil hb)
        rw [hb] at q
        clear hb
        go_wp2
        exact ⟨⟨i + 1, by go_num, by omega, HI.out.trans HN.out⟩, by simp [intOf]; omega⟩
      · have HN := Lib.hid (idxI_hit _ _ i hil hb)
        rw [hb] at q
        clear hb
        go_wp2
        go_ret
        exact ⟨ret_is (by rw [HI.out, HN.out]), rfl⟩
    · have hlt' : ¬ (i : Int) + (x.size : Int) ≤ (s.size : Int) := by omega
      have HN := Lib.hid (idxI_short x.data.toList s.data.toList (by rw [HX.out]; exact hx) _ i rfl (by rw [HL.out, HX.out]; omega))
      go_wp2
      go_ret
      exact ⟨ret_is (by rw [HI.out, HN.out]), rfl⟩
/-- Begins. -/
theorem rbeg_any (s x : ByteArray) (b : Bool) (w : World) (h : x.data.toList.isPrefixOf s.data.toList = b) : Calls Tryz.prog 42 #[.string s, .string x] w (Gives (.bool b) w) := by
  by_cases hlt : x.size ≤ s.size
  · have hsl := fun W => slice_to s x.size W hlt
    have q : ((s.extract 0 x.size).toList == x.toList) = b := by
      have := part_is s x 0 (by omega)
      rw [Nat.zero_add, List.drop_zero, h] at this
      exact this
    have hlt' : (x.size : Int) ≤ (s.size : Int) := by omega
    generalize s.extract 0 x.size = M at *
    go_enter Tryz.func42, Tryz.ntmps42
    go_wp2
    go_ret
    exact ⟨rfl, rfl⟩
  · have hb : b = false := by
      rw [← h]
      cases hp : x.data.toList.isPrefixOf s.data.toList
      · rfl
      · have := prefix_len _ _ hp
        rw [len_of, len_of] at this
        omega
    subst hb
    have hlt' : ¬ (x.size : Int) ≤ (s.size : Int) := by omega
    go_enter Tryz.func42, Tryz.ntmps42
    go_wp2
    go_ret
    exact ⟨rfl, rfl⟩
end Go.Proofs.YtgelgfgcdfnacaaGreatDoor
