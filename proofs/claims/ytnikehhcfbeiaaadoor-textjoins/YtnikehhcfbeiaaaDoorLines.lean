/-
  The walks of Lines: of the program and of the reference; of the reference's Index and Begins. Any text of at most 2^31 bytes.
-/
import Derived.Test.YtnikehhcfbeiaaaDoorWholes
import Derived.Test.YtnikehhcfbeiaaaDoorPlainL
namespace Go.Proofs.YtnikehhcfbeiaaaDoor
open Go.RowKit

/-- The library's own number at the first cell (MaxLen) is there. -/
def HasMax (w : World) : Prop := ∃ m, w.cell? ⟨0, 0, none⟩ = some (.int .i64 m)
theorem HasMax.lt {w : World} (h : HasMax w) : 0 < w.heap.size := by
  obtain ⟨m, h⟩ := h
  rcases Nat.lt_or_ge 0 w.heap.size with h' | h'
  · exact h'
  · unfold World.cell? at h
    rw [Array.getElem?_eq_none h'] at h
    cases h
theorem HasMax.below {w w' : World} (h : HasMax w) (hb : Below w.heap.size w w') : HasMax w' := by
  have hl := h.lt
  obtain ⟨m, h⟩ := h
  exact ⟨m, (hb.cell (p := ⟨0, 0, none⟩) hl).trans h⟩

theorem replace_any (s : ByteArray) (old new : ByteArray) (w : World) (hm : HasMax w) (hs : s.size ≤ 2147483648) (ho : 1 ≤ old.size) (hn : new.size = 1) (hne : old.data.toList ≠ new.data.toList) :
    Calls Tryd.prog 40 #[.string s, .string old, .string new] w fun e w' => e = .returned (.string ⟨(Plain.rep old.data.toList new.data.toList s.data.toList).toArray⟩) ∧ Below w.heap.size w w' := by
  obtain ⟨m, hm⟩ := hm
  have hc := Lib.countB_le old ho s.size s (Nat.le_refl _)
  have := Tryd.strings_ReplaceAll s old new m w (by omega) hm ho (by rw [hn]; omega)
  rw [Plain.rep_all _ _ _ hne] at this
  exact this

set_option maxHeartbeats 1000000 in
set_option maxRecDepth 100000 in
theorem lines_any (s : ByteArray) (w : World) (hm : HasMax w) (hs : s.size ≤ 2147483648) :
    Calls Tryd.prog 19 #[.string s] w fun e w' => e = .returned (.string ⟨(Plain.lines s.data.toList).toArray⟩) ∧ Below w.heap.size w w' := by
  have h1 := replace_any s ⟨#[13, 10]⟩ ⟨#[10]⟩ w hm hs (by decide) rfl (by decide)
  have hlen := Plain.rep_len s.data.toList
  rw [show s.data.toList.length = s.size by simp] at hlen
  have htwo := Plain.rep_two s.data.toList
  obtain ⟨t, ht⟩ : ∃ t : ByteArray, (⟨(Plain.rep [13, 10] [10] s.data.toList).toArray⟩ : ByteArray) = t := ⟨_, rfl⟩
  have hts : t.size ≤ 2147483648 := by
    rw [← ht]
    show (Plain.rep [13, 10] [10] s.data.toList).toArray.size ≤ _
    rw [List.size_toArray]
    omega
  have hfin : Plain.lines s.data.toList = Plain.rep [13] [10] t.data.toList := by rw [← htwo, ← ht]
  have h1' : Calls Tryd.prog 40 #[.string s, .string ⟨#[13, 10]⟩, .string ⟨#[10]⟩] w fun e w' => e = .returned (.string t) ∧ Below w.heap.size w w' := by
    rw [← ht]; exact h1
  have H1 := Lib.hid h1'
  have HF := Lib.hid hfin
  have HM := Lib.hid hm
  clear h1 hlen htwo ht h1' hfin hm
  go_enter Tryd.func19, Tryd.ntmps19
  go_wp2_with fail
  refine H1.out.mono ?_
  rintro e w1 ⟨rfl, hb⟩
  go_wp2_with fail
  refine (replace_any t ⟨#[13]⟩ ⟨#[10]⟩ w1 (HM.out.below hb) hts (by decide) rfl (by decide)).mono ?_
  rintro e w2 ⟨rfl, hb2⟩
  go_wp2
  go_ret
  refine ⟨?_, hb.trans (hb2.mono hb.size)⟩
  rw [HF.out]
  rfl

theorem slice_one (s : ByteArray) (k : Nat) (W : World) (h : k < s.size) : (Instr.slice 9 (.string s) (some (.int .i64 (k : Int))) (some (.int .i64 ((k : Int) + 1))) none).run Tryd.prog W = .ok (.string ⟨[s[k]].toArray⟩) W := by
  rw [run_slice_string W 9 s .i64 .i64 k ((k : Int) + 1) Tryd.underlying9 (by omega) (by omega) (by omega)]
  have : s.extract (k : Int).toNat ((k : Int) + 1).toNat = ⟨[s[k]].toArray⟩ := by
    show s.extract k (k + 1) = _
    rw [ext_part, drop_cons s k h]
    rfl
  rw [this]
theorem head_at (s : ByteArray) (k : Nat) (h : k < s.size) : (s.data.toList.drop k).head? = some s[k] := by rw [drop_cons s k h]; rfl
theorem head_end (s : ByteArray) (k : Nat) (h : ¬ k < s.size) : (s.data.toList.drop k).head? = none := by
  rw [List.drop_eq_nil_of_le (by simp; omega)]
  rfl

set_option maxHeartbeats 1000000 in
set_option maxRecDepth 100000 in
theorem rlines_any (s : ByteArray) (w : World) (hs : s.size ≤ 4294967296) :
    Calls Tryd.prog 20 #[.string s] w fun e w' => e = .returned (.string ⟨(Plain.lines s.data.toList).toArray⟩) ∧ w = w' := by
  go_enter Tryd.func20, Tryd.ntmps20
  go_wp2
  go_loop [3, 4] (fun o v => ∃ (k : Nat) (acc : List UInt8), k ≤ s.size ∧ v = .int .i64 k ∧ o = .string ⟨acc.toArray⟩ ∧ acc.length ≤ k ∧ acc ++ Plain.lines (s.data.toList.drop k) = Plain.lines s.data.toList) (fun _ v => s.size - (intOf v).toNat)
  case atStart => exact ⟨0, [], Nat.zero_le _, rfl, rfl, by simp, rfl⟩
  case round =>
    obtain ⟨k, acc, hk, rfl, rfl, hal, hacc⟩ := hrel
    have HA := Lib.hid hacc
    clear hacc
    by_cases hlt : k < s.size
    · have HDR := Lib.hid (drop_cons s k hlt)
      by_cases hc : s[k] = 13
      · have hcb : ((s[k].toNat : Int) != 13) = false := by rw [hc]; rfl
        by_cases hn : k + 1 < s.size
        · by_cases hd : s[k + 1] = 10
          · have hdb : ((s[k + 1].toNat : Int) != 10) = false := by rw [hd]; rfl
            have hr : acc ++ Plain.lines (s.data.toList.drop (k + 1)) = Plain.lines s.data.toList := by
              rw [← HA.out, HDR.out, hc, Plain.lines_pair _ (by rw [head_at s (k + 1) hn, hd])]
            have HR := Lib.hid hr
            clear hr hc hd HDR HA
            go_wp2
            exact ⟨⟨k + 1, acc, by omega, by go_num, rfl, by omega, HR.out⟩, by simp [intOf]; omega⟩
          · have hdb : ((s[k + 1].toNat : Int) != 10) = true := by
              rw [bne_iff_ne]
              intro e
              exact hd (UInt8.toNat_inj.1 (by show s[k + 1].toNat = 10; omega))
            have hr : (acc ++ [10]) ++ Plain.lines (s.data.toList.drop (k + 1)) = Plain.lines s.data.toList := by
              rw [← HA.out, HDR.out, hc, Plain.lines_one _ (by rw [head_at s (k + 1) hn]; simp [hd])]
              simp
            have HR := Lib.hid hr
            clear hr hc hd HDR HA
            go_wp2
            exact ⟨⟨k + 1, acc ++ [10], by omega, by go_num, congrArg Value.string (str_app acc [10]), by simp; omega, HR.out⟩, by simp [intOf]; omega⟩
        · have hr : (acc ++ [10]) ++ Plain.lines (s.data.toList.drop (k + 1)) = Plain.lines s.data.toList := by
            rw [← HA.out, HDR.out, hc, Plain.lines_one _ (by rw [head_end s (k + 1) hn]; simp)]
            simp
          have HR := Lib.hid hr
          clear hr hc HDR HA
          go_wp2
          exact ⟨⟨k + 1, acc ++ [10], by omega, by go_num, congrArg Value.string (str_app acc [10]), by simp; omega, HR.out⟩, by simp [intOf]; omega⟩
      · have hcb : ((s[k].toNat : Int) != 13) = true := by
          rw [bne_iff_ne]
          intro e
          exact hc (UInt8.toNat_inj.1 (by show s[k].toNat = 13; omega))
        have hsl := fun W => slice_one s k W hlt
        have hr : (acc ++ [s[k]]) ++ Plain.lines (s.data.toList.drop (k + 1)) = Plain.lines s.data.toList := by
          rw [← HA.out, HDR.out, Plain.lines_other _ _ hc]
          simp
        have HR := Lib.hid hr
        clear hr hc HDR HA
        go_wp2
        exact ⟨⟨k + 1, acc ++ [s[k]], by omega, by go_num, congrArg Value.string (str_app acc [s[k]]), by simp; omega, HR.out⟩, by simp [intOf]; omega⟩
    · have hz : Plain.lines (s.data.toList.drop k) = [] := by rw [List.drop_eq_nil_of_le (by simp; omega)]; rfl
      have HZ := Lib.hid hz
      clear hz
      go_wp2
      go_ret
      refine ⟨?_, rfl⟩
      rw [← HA.out, HZ.out, List.append_nil]
      rfl
end Go.Proofs.YtnikehhcfbeiaaaDoor
