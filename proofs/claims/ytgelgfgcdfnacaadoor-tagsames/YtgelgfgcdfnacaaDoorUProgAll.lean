/-
  The walks of the program's small functions of one tag: letter, At, upTo, behindBlanks, withoutZeros. Any text of at most 2^30 bytes.
  The walks of the program's At, named, value. Any text of at most 2^30 bytes.
  The walk of the program's value. Any text of at most 2^28 bytes; the library's number MaxLen is there.
  The walk of the program's begun, where a tag begins. Any text of at most 2^28 bytes; the library's number MaxLen is there.
-/
import Derived.Test.YtgelgfgcdfnacaaDoorUTag
import Derived.Test.YtgelgfgcdfnacaaDoorPlainAll
import Derived.Test.YtgelgfgcdfnacaaDoorLines
import Derived.Test.YtgelgfgcdfnacaaDoorShelfAll
import Derived.Test.YtgelgfgcdfnacaaDoorUFind
import Derived.Test.YtgelgfgcdfnacaaDoorUMem
namespace Go.Proofs.YtgelgfgcdfnacaaDoor
open Go.RowKit

theorem zeros_rep (s : ByteArray) (w : World) (hm : HasMax w) (hs : s.size ≤ 1073741824) :
    Calls Tryd.prog 70 #[.string s, .string ⟨#[0]⟩, .string ⟨#[239, 191, 189]⟩] w (Tells (Plain.clear s.data.toList) w) := by
  obtain ⟨m, hm⟩ := hm
  have hc := Lib.countB_le ⟨#[0]⟩ (by decide) s.size s (Nat.le_refl _)
  have h3 : (⟨#[239, 191, 189]⟩ : ByteArray).size = 3 := rfl
  have := Tryd.strings_ReplaceAll s ⟨#[0]⟩ ⟨#[239, 191, 189]⟩ m w (by omega) hm (by decide) (by rw [h3]; omega)
  rw [Plain.rep_all _ _ _ (by decide)] at this
  rw [← Plain.rep_zero]
  exact this
set_option maxHeartbeats 1000000 in
set_option maxRecDepth 100000 in
theorem zeros_any (s : ByteArray) (w : World) (hm : HasMax w) (hs : s.size ≤ 1073741824) : Calls Tryd.prog 58 #[.string s] w (Tells (Plain.clear s.data.toList) w) := by
  have H := Lib.hid (zeros_rep s w hm hs)
  clear hm
  go_enter Tryd.func58, Tryd.ntmps58
  go_wp2_with fail
  refine H.out.mono ?_
  rintro e w1 ⟨rfl, hb⟩
  go_wp2
  go_ret
  exact ⟨rfl, hb⟩

theorem bool_is {a b : Bool} (h : a = b) : Ending.returned (.bool a) = .returned (.bool b) := by rw [h]
set_option maxHeartbeats 1000000 in
set_option maxRecDepth 100000 in
theorem letter_any (c : UInt8) (w : World) : Calls Tryd.prog 60 #[.int .u8 (c.toNat : Int)] w (Gives (.bool (Plain.isLetter c)) w) := by
  have h8 : c.toNat < 256 := c.toNat_lt
  have hv : Plain.isLetter c = (decide ((97 : Int) ≤ (c.toNat : Int)) && decide ((c.toNat : Int) ≤ 122) || (decide ((65 : Int) ≤ (c.toNat : Int)) && decide ((c.toNat : Int) ≤ 90))) := by
    unfold Plain.isLetter
    rw [Bool.eq_iff_iff]
    simp
    omega
  rw [hv]
  clear hv
  generalize c.toNat = n at *
  by_cases h1 : (97 : Int) ≤ (n : Int)
  · by_cases h2 : (n : Int) ≤ 122
    · go_enter Tryd.func60, Tryd.ntmps60
      go_wp2
      go_ret
      exact ⟨bool_is (by rw [Bool.eq_iff_iff]; (try simp); (try omega)), rfl⟩
    · have h3 : (65 : Int) ≤ (n : Int) := by omega
      have h4 : ¬ (n : Int) ≤ 90 := by omega
      go_enter Tryd.func60, Tryd.ntmps60
      go_wp2
      go_ret
      exact ⟨bool_is (by rw [Bool.eq_iff_iff]; (try simp); (try omega)), rfl⟩
  · by_cases h3 : (65 : Int) ≤ (n : Int)
    · by_cases h4 : (n : Int) ≤ 90
      · go_enter Tryd.func60, Tryd.ntmps60
        go_wp2
        go_ret
        exact ⟨bool_is (by rw [Bool.eq_iff_iff]; (try simp); (try omega)), rfl⟩
      · go_enter Tryd.func60, Tryd.ntmps60
        go_wp2
        go_ret
        exact ⟨bool_is (by rw [Bool.eq_iff_iff]; (try simp); (try omega)), rfl⟩
    · go_enter Tryd.func60, Tryd.ntmps60
      go_wp2
      go_ret
      exact ⟨bool_is (by rw [Bool.eq_iff_iff]; (try simp); (try omega)), rfl⟩

set_option maxHeartbeats 1000000 in
set_option maxRecDepth 100000 in
theorem behind_blanks (s : ByteArray) (p : Nat) (w : World) (hp : p ≤ s.size) (hs : s.size ≤ 1073741824) : Calls Tryd.prog 56 #[.string s, .int .i64 (p : Int)] w (Gives (.int .i64 ((p + Plain.runP Plain.blankB (s.data.toList.drop p) : Nat) : Int)) w) := by
  have hl := len_of s
  have HL := Lib.hid hl
  clear hl
  go_enter Tryd.func56, Tryd.ntmps56
  go_wp2
  go_loop [1] (fun v => ∃ i : Nat, v = .int .i64 (i : Int) ∧ Plain.RunAt Plain.blankB s.data.toList p i) (fun v => s.size - (intOf v).toNat)
  case atStart => exact ⟨p, rfl, Plain.RunAt.start _ _ _ (by rw [HL.out]; exact hp)⟩
  case round =>
    obtain ⟨i, rfl, hR⟩ := hrel
    have h1 := hR.1
    have h2 := hR.2.1
    rw [HL.out] at h2
    have HR := Lib.hid hR
    clear hR
    by_cases hlt : i < s.size
    · have hlt' : i < s.data.toList.length := by rw [HL.out]; exact hlt
      cases hbl : Plain.blankB s[i]
      · have HST := Lib.hid (HR.out.stop (fun _ => hbl))
        have HBL := Lib.hid hbl
        clear hbl
        go_wp2_with (go_at_call 54; refine (blank_no _ _ HBL.out).mono ?_; rintro e w1 ⟨rfl, rfl⟩)
        go_ret
        exact ⟨ret_is (by rw [HST.out]; omega), rfl⟩
      · have HST := Lib.hid (HR.out.step hlt' hbl)
        have HBL := Lib.hid hbl
        clear hbl
        go_wp2_with (go_at_call 54; refine (blank_yes _ _ HBL.out).mono ?_; rintro e w1 ⟨rfl, rfl⟩)
        exact ⟨⟨i + 1, by go_num, HST.out⟩, by simp [intOf]; omega⟩
    · have HST := Lib.hid (HR.out.stop (fun h => absurd h (by rw [HL.out]; exact hlt)))
      go_wp2
      go_ret
      exact ⟨ret_is (by rw [HST.out]; omega), rfl⟩

theorem index_in (ends : ByteArray) (c : UInt8) (w : World) : Calls Tryd.prog 64 #[.string ends, .int .u8 (c.toNat : Int)] w fun e w' => ∃ r : Int, e = .returned (.int .i64 r) ∧ w = w' ∧ (r < 0 ↔ ends.data.toList.contains c = false) := by
  refine (Tryd.strings_IndexByte ends (c.toNat : Int) w).mono ?_
  rintro e w1 ⟨rfl, rfl⟩
  refine ⟨_, rfl, rfl, ?_⟩
  have e1 : ((c.toNat : Int).toNat.toUInt8) = c := by simp
  rw [e1]
  have hg := Lib.indexByte_ge ends.data.toList c
  constructor
  · intro h
    have h1 : Lib.indexByte ends.data.toList c = -1 := by omega
    cases hc : ends.data.toList.contains c
    · rfl
    · exfalso
      rw [List.contains_iff_mem] at hc
      obtain ⟨k, hk, hkc⟩ := List.getElem_of_mem hc
      have := Lib.indexByte_none h1 k
      rw [List.getElem?_eq_getElem hk, hkc] at this
      exact this rfl
  · intro h
    rcases Int.lt_or_le (Lib.indexByte ends.data.toList c) 0 with h1 | h1
    · exact h1
    · exfalso
      obtain ⟨o, ho⟩ : ∃ o : Nat, Lib.indexByte ends.data.toList c = (o : Int) := ⟨(Lib.indexByte ends.data.toList c).toNat, by omega⟩
      obtain ⟨h2, _⟩ := Lib.indexByte_some ho
      have : c ∈ ends.data.toList := List.mem_of_getElem? h2
      rw [← List.contains_iff_mem, h] at this
      cases this
set_option maxHeartbeats 1000000 in
set_option maxRecDepth 100000 in
theorem upto_any (s ends : ByteArray) (p : Nat) (w : World) (hp : p ≤ s.size) (hs : s.size ≤ 1073741824) : Calls Tryd.prog 68 #[.string s, .int .i64 (p : Int), .string ends] w (Gives (.int .i64 ((p + Plain.runP (Plain.endIn ends.data.toList) (s.data.toList.drop p) : Nat) : Int)) w) := by
  have hl := len_of s
  have HL := Lib.hid hl
  clear hl
  go_enter Tryd.func68, Tryd.ntmps68
  go_wp2
  go_loop [1] (fun v => ∃ i : Nat, v = .int .i64 (i : Int) ∧ Plain.RunAt (Plain.endIn ends.data.toList) s.data.toList p i) (fun v => s.size - (intOf v).toNat)
  case atStart => exact ⟨p, rfl, Plain.RunAt.start _ _ _ (by rw [HL.out]; exact hp)⟩
  case round =>
    obtain ⟨i, rfl, hR⟩ := hrel
    have h1 := hR.1
    have h2 := hR.2.1
    rw [HL.out] at h2
    have HR := Lib.hid hR
    clear hR
    by_cases hlt : i < s.size
    · have hlt' : i < s.data.toList.length := by rw [HL.out]; exact hlt
      cases hbl : Plain.blankB s[i]
      · have HBL := Lib.hid hbl
        have HIX := fun W => Lib.hid (index_in ends s[i] W)
        cases hc : ends.data.toList.contains s[i]
        · have HST := Lib.hid (HR.out.step hlt' (show Plain.endIn ends.data.toList s[i] = true by unfold Plain.endIn; rw [hbl, hc]; rfl))
          have HC := Lib.hid hc
          clear hbl hc
          go_wp2_with (first
            | (go_at_call 54; refine (blank_no _ _ HBL.out).mono ?_; rintro e w1 ⟨rfl, rfl⟩)
            | (go_at_call 64; refine (HIX _).out.mono ?_; rintro e w1 ⟨r, rfl, rfl, hr⟩; replace hr := hr.2 HC.out))
          exact ⟨⟨i + 1, by go_num, HST.out⟩, by simp [intOf]; omega⟩
        · have HST := Lib.hid (HR.out.stop (fun _ => show Plain.endIn ends.data.toList s[i] = false by unfold Plain.endIn; rw [hbl, hc]; rfl))
          have HC := Lib.hid hc
          clear hbl hc
          go_wp2_with (first
            | (go_at_call 54; refine (blank_no _ _ HBL.out).mono ?_; rintro e w1 ⟨rfl, rfl⟩)
            | (go_at_call 64; refine (HIX _).out.mono ?_; rintro e w1 ⟨r, rfl, rfl, hr⟩; replace hr : ¬ r < 0 := fun q => by have := hr.1 q; rw [HC.out] at this; cases this))
          go_ret
          exact ⟨ret_is (by rw [HST.out]; omega), rfl⟩
      · have HST := Lib.hid (HR.out.stop (fun _ => show Plain.endIn ends.data.toList s[i] = false by unfold Plain.endIn; rw [hbl]; rfl))
        have HBL := Lib.hid hbl
        clear hbl
        go_wp2_with (go_at_call 54; refine (blank_yes _ _ HBL.out).mono ?_; rintro e w1 ⟨rfl, rfl⟩)
        go_ret
        exact ⟨ret_is (by rw [HST.out]; omega), rfl⟩
    · have HST := Lib.hid (HR.out.stop (fun h => absurd h (by rw [HL.out]; exact hlt)))
      go_wp2
      go_ret
      exact ⟨ret_is (by rw [HST.out]; omega), rfl⟩
end Go.Proofs.YtgelgfgcdfnacaaDoor
namespace Go.Proofs.YtgelgfgcdfnacaaDoor
open Go.RowKit

theorem slice_onu (s : ByteArray) (o n : Nat) (W : World) (h : o + n ≤ s.size) : (Instr.slice 9 (.string s) (some (.int .i64 ((o : Int) + (n : Int)))) none none).run Tryd.prog W = .ok (.string (s.extract (o + n) s.size)) W := by
  rw [run_slice_string_from_if W 9 s .i64 ((o : Int) + (n : Int)) Tryd.underlying9, if_pos (by omega)]
  rfl
theorem slice_fr1 (s : ByteArray) (k : Nat) (W : World) (h : k + 1 ≤ s.size) : (Instr.slice 9 (.string s) (some (.int .i64 ((k : Int) + 1))) none none).run Tryd.prog W = .ok (.string (s.extract (k + 1) s.size)) W := slice_onu s k 1 W h
theorem from_list (s : ByteArray) (k : Nat) : (s.extract k s.size).data.toList = s.data.toList.drop k := by
  rw [Lib.extract_data, List.take_of_length_le (by simp)]
theorem trim_to (s B : ByteArray) (k : Nat) (W : World) (h : Lib.trimPrefix (s.data.toList.drop (k + 1)) [47] = B.data.toList) : Calls Tryd.prog 59 #[.string (s.extract (k + 1) s.size), .string ⟨#[47]⟩] W (Gives (.string B) W) := by
  have := Tryd.strings_TrimPrefix (s.extract (k + 1) s.size) ⟨#[47]⟩ W
  rw [from_list] at this
  rw [show (⟨#[47]⟩ : ByteArray).data.toList = [47] from rfl, h] at this
  refine this.mono ?_
  rintro e w1 ⟨rfl, rfl⟩
  exact ⟨rfl, rfl⟩
theorem trim_none : Lib.trimPrefix [] [47] = [] := rfl
theorem trim_slash (r : List UInt8) : Lib.trimPrefix (47 :: r) [47] = r := by simp [Lib.trimPrefix, Lib.hasPrefix]
theorem trim_other (c : UInt8) (r : List UInt8) (h : c.toNat ≠ 47) : Lib.trimPrefix (c :: r) [47] = c :: r := by
  have hp : Lib.hasPrefix (c :: r) [47] = false := by
    show ((47 == c) && _) = false
    rw [beq_false_of_ne (fun e => h (by rw [← e]; rfl))]
    rfl
  simp [Lib.trimPrefix, hp]
theorem first_of (s : ByteArray) (k : Nat) (h : k < s.size) : ∃ hz : 0 < (s.extract k s.size).size, (s.extract k s.size)[0]'hz = s[k] := by
  have hz : 0 < (s.extract k s.size).size := by rw [ByteArray.size_extract]; omega
  refine ⟨hz, ?_⟩
  rw [ByteArray.getElem_extract]
  simp
theorem text_some (B : ByteArray) (h : 0 < B.size) : ¬ B.toList = [] := by
  rw [Lib.toList_data]
  intro e
  have h2 : B.data.toList.length = B.size := len_of B
  rw [e] at h2
  simp at h2
  omega
theorem text_none (B : ByteArray) (h : B.data.toList = []) : B.toList = [] := by
  rw [Lib.toList_data, h]

set_option maxHeartbeats 2000000 in
set_option maxRecDepth 100000 in
theorem at_none (s : ByteArray) (k : Nat) (B : ByteArray) (w : World) (hk : k < s.size) (h60 : s[k].toNat = 60) (hs : s.size ≤ 1073741824) (hB : Lib.trimPrefix (s.data.toList.drop (k + 1)) [47] = B.data.toList) (h0 : B.data.toList = []) : Calls Tryd.prog 41 #[.string s, .int .i64 (k : Int)] w (Gives (.bool false) w) := by
  have q0 : ((s[k].toNat : Int) != 60) = false := by simp [h60]
  have q1 := text_none B h0
  have HT := fun W => Lib.hid (trim_to s B k W hB)
  have hsl := fun W => slice_fr1 s k W hk
  have hk' : ¬ (s.size : Int) ≤ (k : Int) := by omega
  clear h60 hB h0
  go_enter Tryd.func41, Tryd.ntmps41
  go_wp2_with (go_at_call 59; refine (HT _).out.mono ?_; rintro e w1 ⟨rfl, rfl⟩)
  go_ret
  exact ⟨rfl, rfl⟩
set_option maxHeartbeats 2000000 in
set_option maxRecDepth 100000 in
theorem at_some (s : ByteArray) (k : Nat) (B : ByteArray) (w : World) (hk : k < s.size) (h60 : s[k].toNat = 60) (hs : s.size ≤ 1073741824) (hB : Lib.trimPrefix (s.data.toList.drop (k + 1)) [47] = B.data.toList) (h0 : 0 < B.size) : Calls Tryd.prog 41 #[.string s, .int .i64 (k : Int)] w (Gives (.bool (Plain.isLetter B[0])) w) := by
  have q0 : ((s[k].toNat : Int) != 60) = false := by simp [h60]
  have q1 := text_some B h0
  have Q : Hid (B.toList.isEmpty = false) := Lib.hid (by simpa using q1)
  have HT := fun W => Lib.hid (trim_to s B k W hB)
  have HL := fun W => Lib.hid (letter_any B[0] W)
  have hsl := fun W => slice_fr1 s k W hk
  have hk' : ¬ (s.size : Int) ≤ (k : Int) := by omega
  clear h60 hB
  generalize Plain.isLetter B[0] = R at *
  go_enter Tryd.func41, Tryd.ntmps41
  go_wp2_with (first
    | (go_at_call 59; refine (HT _).out.mono ?_; rintro e w1 ⟨rfl, rfl⟩)
    | (go_at_call 60; refine (HL _).out.mono ?_; rintro e w1 ⟨rfl, rfl⟩))
  go_ret
  refine ⟨?_, rfl⟩
  show Ending.returned (Value.bool (!B.toList.isEmpty && R)) = _
  rw [Q.out]
  rfl
set_option maxHeartbeats 2000000 in
set_option maxRecDepth 100000 in
theorem at_any (s : ByteArray) (at_ : Int) (w : World) (h0 : -9223372036854775808 ≤ at_) (h1 : at_ ≤ 9223372036854775807) (hs : s.size ≤ 1073741824) : Calls Tryd.prog 41 #[.string s, .int .i64 at_] w (Gives (.bool (atPlace s.data.toList at_)) w) := by
  unfold atPlace
  rw [len_of s]
  by_cases hn : at_ < 0
  · rw [decide_eq_false (by omega), Bool.false_and]
    go_enter Tryd.func41, Tryd.ntmps41
    go_wp2
    go_ret
    exact ⟨rfl, rfl⟩
  · by_cases hb : at_ < (s.size : Int)
    · rw [decide_eq_true (by omega), decide_eq_true hb, Bool.true_and, Bool.true_and]
      obtain ⟨k, rfl⟩ : ∃ k : Nat, at_ = (k : Int) := ⟨at_.toNat, by omega⟩
      rw [Int.toNat_natCast]
      have hk : k < s.size := by omega
      have h8 : s[k].toNat < 256 := s[k].toNat_lt
      by_cases h60 : s[k].toNat = 60
      · by_cases hk1 : k + 1 < s.size
        · have hd := drop_at s (k + 1) hk1
          by_cases h47 : s[k + 1].toNat = 47
          · rw [at_slash s k hk1 h60 h47]
            have h47' : s[k + 1] = 47 := UInt8.toNat_inj.1 h47
            rw [h47'] at hd
            by_cases hk2 : k + 2 < s.size
            · rw [Plain.getD_get s (k + 2) hk2]
              obtain ⟨hz, hf⟩ := first_of s (k + 2) hk2
              have := at_some s k (s.extract (k + 2) s.size) w hk h60 hs (by rw [hd, trim_slash, from_list]) hz
              rwa [hf] at this
            · rw [Plain.getD_end s (k + 2) hk2, show Plain.isLetter 0 = false by decide]
              exact at_none s k (s.extract (k + 2) s.size) w hk h60 hs (by rw [hd, trim_slash, from_list]) (by rw [from_list, List.drop_eq_nil_of_le (by simp; omega)])
          · rw [at_letter s k hk1 h60 h47]
            obtain ⟨hz, hf⟩ := first_of s (k + 1) hk1
            have := at_some s k (s.extract (k + 1) s.size) w hk h60 hs (by rw [hd, trim_other _ _ h47, from_list, hd]) hz
            rwa [hf] at this
        · rw [at_short s k hk1]
          have hd : s.data.toList.drop (k + 1) = [] := List.drop_eq_nil_of_le (by simp; omega)
          exact at_none s k (s.extract (k + 1) s.size) w hk h60 hs (by rw [from_list, hd, trim_none]) (by rw [from_list, hd])
      · rw [at_first s k hk h60]
        have q0 : ((s[k].toNat : Int) != 60) = true := by simp; omega
        have hk' : ¬ (s.size : Int) ≤ (k : Int) := by omega
        clear h60
        go_enter Tryd.func41, Tryd.ntmps41
        go_wp2
        go_ret
        exact ⟨rfl, rfl⟩
    · rw [decide_eq_false hb, Bool.false_and, Bool.and_false]
      have hb' : (s.size : Int) ≤ at_ := by omega
      go_enter Tryd.func41, Tryd.ntmps41
      go_wp2
      go_ret
      exact ⟨rfl, rfl⟩

/-- named: the name from a place on, cleared and folded, and the place behind it. -/
def endOf (ends : List UInt8) (l : List UInt8) (i : Nat) : Nat := i + Plain.runP (Plain.endIn ends) (l.drop i)
theorem endOf_le (ends : List UInt8) (s : ByteArray) (i : Nat) (h : i ≤ s.size) : i ≤ endOf ends s.data.toList i ∧ endOf ends s.data.toList i ≤ s.size := by
  have := Plain.runP_le (Plain.endIn ends) (s.data.toList.drop i)
  rw [List.length_drop, len_of] at this
  unfold endOf
  omega
set_option maxHeartbeats 2000000 in
set_option maxRecDepth 100000 in
theorem named_tag (s ends : ByteArray) (f i : Nat) (w : World) (hm : HasMax w) (hf : f ≤ i) (hi : i ≤ s.size) (hs : s.size ≤ 268435456) : Calls Tryd.prog 55 #[.string s, .int .i64 (f : Int), .int .i64 (i : Int), .string ends] w (Tells2 (Plain.clear (Plain.fold ((s.data.toList.take (endOf ends.data.toList s.data.toList i)).drop f)), endOf ends.data.toList s.data.toList i) w) := by
  have HU := fun W => Lib.hid (upto_any s ends i W hi (by omega))
  have hle := endOf_le ends.data.toList s i hi
  have he : i + Plain.runP (Plain.endIn ends.data.toList) (s.data.toList.drop i) = endOf ends.data.toList s.data.toList i := rfl
  rw [he] at HU
  generalize endOf ends.data.toList s.data.toList i = E at *
  have hsl := fun W => slice_mid s f E W (by omega) hle.2
  have hxs : (s.extract f E).size ≤ 268435456 := by rw [ByteArray.size_extract]; omega
  have F1 := fun W => Lib.hid (fold_any (s.extract f E) W (by unfold maxLen; omega))
  rw [mid_list] at F1
  have hfl : (Plain.fold ((s.data.toList.take E).drop f)).length ≤ 268435456 := by
    rw [Plain.fold_length, List.length_drop, List.length_take, len_of]; omega
  have C1 := fun W h => Lib.hid (zeros_any ⟨(Plain.fold ((s.data.toList.take E).drop f)).toArray⟩ W h (by show (Plain.fold _).toArray.size ≤ _; rw [List.size_toArray]; omega))
  have hd : (⟨(Plain.fold ((s.data.toList.take E).drop f)).toArray⟩ : ByteArray).data.toList = Plain.fold ((s.data.toList.take E).drop f) := rfl
  rw [hd] at C1
  generalize (⟨(Plain.fold ((s.data.toList.take E).drop f)).toArray⟩ : ByteArray) = FB at *
  generalize Plain.clear (Plain.fold ((s.data.toList.take E).drop f)) = NL at *
  have HM := Lib.hid hm
  clear hfl hd he hm
  go_enter Tryd.func55, Tryd.ntmps55
  go_wp2_with fail
  refine (HU _).out.mono ?_
  rintro e w1 ⟨rfl, rfl⟩
  go_wp2_with fail
  refine (F1 _).out.mono ?_
  rintro e w2 ⟨rfl, b2⟩
  go_wp2_with fail
  refine (C1 _ (HM.out.below b2)).out.mono ?_
  rintro e w3 ⟨rfl, b3⟩
  go_wp2
  go_ret2
  exact tells2_of rfl rfl (b2.trans (b3.mono b2.size))
end Go.Proofs.YtgelgfgcdfnacaaDoor
namespace Go.Proofs.YtgelgfgcdfnacaaDoor
open Go.RowKit

theorem raw_end (s : ByteArray) (q : Nat) (h : s.size ≤ q ∨ (s.data.toList.getD q 0).toNat = 62) : Plain.rawAt s.data.toList q = ([], q) := by
  unfold Plain.rawAt
  rw [len_of, if_pos h]
theorem raw_bare (s : ByteArray) (q : Nat) (h : q < s.size) (h62 : s[q].toNat ≠ 62) (hq : ¬ (s[q].toNat = 34 ∨ s[q].toNat = 39)) : Plain.rawAt s.data.toList q = ((s.data.toList.take (q + Plain.runP Plain.inBare (s.data.toList.drop q))).drop q, q + Plain.runP Plain.inBare (s.data.toList.drop q)) := by
  unfold Plain.rawAt
  rw [len_of, Plain.getD_get s q h, if_neg (by omega), if_neg hq, List.drop_take, Nat.add_sub_cancel_left]
theorem raw_open (s : ByteArray) (q : Nat) (h : q < s.size) (hq : s[q].toNat = 34 ∨ s[q].toNat = 39) (hc : (s.data.toList.drop (q + 1)).contains s[q] = false) : Plain.rawAt s.data.toList q = ([], s.size) := by
  unfold Plain.rawAt
  rw [len_of, Plain.getD_get s q h, if_neg (by omega), if_pos hq, if_neg (by rw [hc]; decide)]
theorem raw_quoted (s : ByteArray) (q : Nat) (h : q < s.size) (hq : s[q].toNat = 34 ∨ s[q].toNat = 39) (hc : (s.data.toList.drop (q + 1)).contains s[q] = true) :
    Plain.rawAt s.data.toList q = ((s.data.toList.drop (q + 1)).take (Plain.runP (fun x => x != s[q]) (s.data.toList.drop (q + 1))), q + 1 + Plain.runP (fun x => x != s[q]) (s.data.toList.drop (q + 1)) + 1) := by
  unfold Plain.rawAt
  rw [len_of, Plain.getD_get s q h, if_neg (by omega), if_pos hq, if_pos hc]

/-- What Cut tells: the text ahead, something, and whether the sign is there. -/
def CutOut (A : ByteArray) (f : Bool) (B : ByteArray) (w : World) (e : Ending) (w' : World) : Prop := e = .returned (.tuple #[.string A, .string B, .bool f]) ∧ ∃ n, w' = w.drewN n
theorem cut_yes (s : ByteArray) (q : Nat) (w : World) (hm : HasMax w) (h : q < s.size) (hs : s.size ≤ 268435456) (hc : (s.data.toList.drop (q + 1)).contains s[q] = true) :
    Calls Tryd.prog 69 #[.string (s.extract (q + 1) s.size), .string ⟨#[s[q]]⟩] w (CutOut ⟨((s.data.toList.drop (q + 1)).take (Plain.runP (fun x => x != s[q]) (s.data.toList.drop (q + 1)))).toArray⟩ true ⟨((s.data.toList.drop (q + 1)).drop (Plain.runP (fun x => x != s[q]) (s.data.toList.drop (q + 1)) + 1)).toArray⟩ w) := by
  obtain ⟨m, hm⟩ := hm
  have H := Tryd.strings_Cut (s.extract (q + 1) s.size) ⟨#[s[q]]⟩ m w (by rw [ByteArray.size_extract]; omega) hm
  rw [from_list, show (⟨#[s[q]]⟩ : ByteArray).data.toList = [s[q]] from rfl] at H
  have hi := Plain.index_one s[q] (s.data.toList.drop (q + 1))
  rw [if_pos hc] at hi
  have hcut : Lib.cut (s.data.toList.drop (q + 1)) [s[q]] = ((s.data.toList.drop (q + 1)).take (Plain.runP (fun x => x != s[q]) (s.data.toList.drop (q + 1))), (s.data.toList.drop (q + 1)).drop (Plain.runP (fun x => x != s[q]) (s.data.toList.drop (q + 1)) + 1), true) := by
    unfold Lib.cut
    rw [hi, if_pos (by omega)]
    rfl
  rw [hcut] at H
  exact H
theorem cut_no (s : ByteArray) (q : Nat) (w : World) (hm : HasMax w) (h : q < s.size) (hs : s.size ≤ 268435456) (hc : (s.data.toList.drop (q + 1)).contains s[q] = false) :
    Calls Tryd.prog 69 #[.string (s.extract (q + 1) s.size), .string ⟨#[s[q]]⟩] w (CutOut ⟨(s.data.toList.drop (q + 1)).toArray⟩ false ⟨([] : List UInt8).toArray⟩ w) := by
  obtain ⟨m, hm⟩ := hm
  have H := Tryd.strings_Cut (s.extract (q + 1) s.size) ⟨#[s[q]]⟩ m w (by rw [ByteArray.size_extract]; omega) hm
  rw [from_list, show (⟨#[s[q]]⟩ : ByteArray).data.toList = [s[q]] from rfl] at H
  have hi := Plain.index_one s[q] (s.data.toList.drop (q + 1))
  rw [if_neg (by rw [hc]; decide)] at hi
  have hcut : Lib.cut (s.data.toList.drop (q + 1)) [s[q]] = (s.data.toList.drop (q + 1), [], false) := by
    unfold Lib.cut
    rw [hi, if_neg (by omega)]
  rw [hcut] at H
  exact H

/-- A text and a number; the world is as it was but for its draws. -/
def TellsD (t : List UInt8 × Nat) (w : World) (e : Ending) (w' : World) : Prop := e = .returned (.tuple #[.string ⟨t.1.toArray⟩, .int .i64 (t.2 : Int)]) ∧ ∃ n, w' = w.drewN n
theorem tellsD_of {v : ByteArray} {m : Int} {n : Nat} {t : List UInt8 × Nat} {w : World} (h1 : v.data.toList = t.1) (h2 : m = (t.2 : Int)) : TellsD t w (.returned (.tuple #[.string v, .int .i64 m])) (w.drewN n) := by
  refine ⟨?_, n, rfl⟩
  rw [← h1, h2]
theorem drew0 (w : World) : w.drewN 0 = w := rfl
theorem tellsD_of0 {v : ByteArray} {m : Int} {t : List UInt8 × Nat} {w : World} (h1 : v.data.toList = t.1) (h2 : m = (t.2 : Int)) : TellsD t w (.returned (.tuple #[.string v, .int .i64 m])) w := tellsD_of (n := 0) h1 h2
set_option maxHeartbeats 2000000 in
set_option maxRecDepth 100000 in
theorem value_any (s : ByteArray) (q : Nat) (w : World) (hm : HasMax w) (hq : q ≤ s.size) (hs : s.size ≤ 268435456) : Calls Tryd.prog 57 #[.string s, .int .i64 (q : Int)] w (TellsD (Plain.rawAt s.data.toList q) w) := by
  by_cases he : q < s.size
  · have h8 : s[q].toNat < 256 := s[q].toNat_lt
    have he' : ((q : Int) == (s.size : Int)) = false := beq_eq_false_iff_ne.2 (by omega)
    by_cases h62 : s[q].toNat = 62
    · have HR := Lib.hid (raw_end s q (Or.inr (by rw [Plain.getD_get s q he]; exact h62)))
      have q1 : ((s[q].toNat : Int) == 62) = true := by simp [h62]
      clear h62 hm
      go_enter Tryd.func57, Tryd.ntmps57
      go_wp2
      go_ret2
      exact tellsD_of0 (by rw [HR.out]) (by rw [HR.out])
    · have q1 : ((s[q].toNat : Int) == 62) = false := by simp; omega
      by_cases hqu : s[q].toNat = 34 ∨ s[q].toNat = 39
      · have hsl := fun W => slice_fr1 s q W he
        have hsb := fun W => byte_text s q W he
        have hwr : IntKind.i64.wrap ((q : Int) + 1) = (q : Int) + 1 := IntWalk.i64_in _ (by omega)
        cases hc : (s.data.toList.drop (q + 1)).contains s[q]
        · have HR := Lib.hid (raw_open s q he hqu hc)
          have HCUT := fun n => Lib.hid (cut_no s q (w.drewN n) hm he hs hc)
          clear hc hm
          generalize (⟨(s.data.toList.drop (q + 1)).toArray⟩ : ByteArray) = A at *
          generalize (⟨([] : List UInt8).toArray⟩ : ByteArray) = B at HCUT
          rcases hqu with h34 | h39
          · have q2 : ((s[q].toNat : Int) != 34) = false := by simp [h34]
            clear h34 h62
            go_enter Tryd.func57, Tryd.ntmps57
            go_wp2
            go_quiet (first | (go_at_call 69; exact Calls.quiet_of (HCUT _).out))
            go_wp2
            go_ret2
            exact tellsD_of (by rw [HR.out]) (by rw [HR.out])
          · have q2 : ((s[q].toNat : Int) != 34) = true := by simp; omega
            have q3 : ((s[q].toNat : Int) != 39) = false := by simp [h39]
            clear h39 h62
            go_enter Tryd.func57, Tryd.ntmps57
            go_wp2
            go_quiet (first | (go_at_call 69; exact Calls.quiet_of (HCUT _).out))
            go_wp2
            go_ret2
            exact tellsD_of (by rw [HR.out]) (by rw [HR.out])
        · have HR := Lib.hid (raw_quoted s q he hqu hc)
          have HCUT := fun n => Lib.hid (cut_yes s q (w.drewN n) hm he hs hc)
          have hrl := Plain.runP_le (fun x => x != s[q]) (s.data.toList.drop (q + 1))
          rw [List.length_drop, len_of] at hrl
          have hln : ((s.data.toList.drop (q + 1)).take (Plain.runP (fun x => x != s[q]) (s.data.toList.drop (q + 1)))).length = Plain.runP (fun x => x != s[q]) (s.data.toList.drop (q + 1)) := by
            rw [List.length_take, List.length_drop, len_of]; omega
          clear hc hm
          generalize Plain.runP (fun x => x != s[q]) (s.data.toList.drop (q + 1)) = n at *
          generalize (⟨((s.data.toList.drop (q + 1)).drop (n + 1)).toArray⟩ : ByteArray) = B at *
          generalize (s.data.toList.drop (q + 1)).take n = l at *
          obtain ⟨A, hA⟩ : ∃ A : ByteArray, (⟨l.toArray⟩ : ByteArray) = A := ⟨_, rfl⟩
          have hAl : A.data.toList = l := by rw [← hA]
          have hAs : A.size = n := by rw [← len_of, hAl]; exact hln
          rw [hA] at HCUT
          have HA := Lib.hid hAl
          clear hA hAl hln
          subst hAs
          rcases hqu with h34 | h39
          · have q2 : ((s[q].toNat : Int) != 34) = false := by simp [h34]
            clear h34 h62
            go_enter Tryd.func57, Tryd.ntmps57
            go_wp2
            go_quiet (first | (go_at_call 69; exact Calls.quiet_of (HCUT _).out))
            go_wp2
            go_ret2
            exact tellsD_of (by rw [HR.out]; exact HA.out) (by rw [HR.out]; simp only; omega)
          · have q2 : ((s[q].toNat : Int) != 34) = true := by simp; omega
            have q3 : ((s[q].toNat : Int) != 39) = false := by simp [h39]
            clear h39 h62
            go_enter Tryd.func57, Tryd.ntmps57
            go_wp2
            go_quiet (first | (go_at_call 69; exact Calls.quiet_of (HCUT _).out))
            go_wp2
            go_ret2
            exact tellsD_of (by rw [HR.out]; exact HA.out) (by rw [HR.out]; simp only; omega)
      · have HR := Lib.hid (raw_bare s q he h62 hqu)
        have HU := fun W => Lib.hid (upto_any s ⟨#[62]⟩ q W hq (by omega))
        rw [show (⟨#[62]⟩ : ByteArray).data.toList = [62] from rfl, Plain.endIn_bare] at HU
        have hrl := Plain.runP_le Plain.inBare (s.data.toList.drop q)
        rw [List.length_drop, len_of] at hrl
        have hsl := fun W => slice_mid s q (q + Plain.runP Plain.inBare (s.data.toList.drop q)) W (by omega) (by omega)
        have q2 : ((s[q].toNat : Int) != 34) = true := by simp; omega
        have q3 : ((s[q].toNat : Int) != 39) = true := by simp; omega
        clear hqu h62 hm
        generalize q + Plain.runP Plain.inBare (s.data.toList.drop q) = E at *
        go_enter Tryd.func57, Tryd.ntmps57
        go_wp2_with (go_at_call 68; refine (HU _).out.mono ?_; rintro e w1 ⟨rfl, rfl⟩)
        go_ret2
        exact tellsD_of0 (by rw [HR.out, mid_list]) (by rw [HR.out])
  · have HR := Lib.hid (raw_end s q (Or.inl (by omega)))
    have he' : ((q : Int) == (s.size : Int)) = true := beq_iff_eq.2 (by omega)
    clear hm
    go_enter Tryd.func57, Tryd.ntmps57
    go_wp2
    go_ret2
    exact tellsD_of0 (by rw [HR.out]) (by rw [HR.out])
end Go.Proofs.YtgelgfgcdfnacaaDoor
namespace Go.Proofs.YtgelgfgcdfnacaaDoor
open Go.RowKit

/-- What begun tells: the kind, the name, the place behind it. -/
def BegunOut (K : Int) (nm : List UInt8) (E : Nat) (w : World) (e : Ending) (w' : World) : Prop :=
  e = .returned (.tuple #[.agg #[.int .i64 K, .string ⟨nm.toArray⟩, .slice none 0 0, .bool false, .string ⟨#[]⟩], .int .i64 (E : Int)]) ∧ Below w.heap.size w w'
theorem endOf_name (l : List UInt8) (p : Nat) : endOf [47, 62] l p = Plain.nameEnd l p := by
  unfold endOf Plain.nameEnd
  rw [Plain.endIn_name]
set_option maxHeartbeats 2000000 in
set_option maxRecDepth 100000 in
theorem begun_end (s : ByteArray) (k : Nat) (w : World) (hm : HasMax w) (hk : k + 2 < s.size) (h47 : s[k + 1].toNat = 47) (hat : atPlace s.data.toList (k : Int) = true) (hs : s.size ≤ 268435456) :
    Calls Tryd.prog 53 #[.string s, .int .i64 (k : Int)] w (BegunOut 2 (Plain.clear (Plain.fold ((s.data.toList.take (Plain.nameEnd s.data.toList (k + 2))).drop (k + 2)))) (Plain.nameEnd s.data.toList (k + 2)) w) := by
  have HA := fun W => Lib.hid (at_any s (k : Int) W (by omega) (by omega) (by omega))
  rw [hat] at HA
  have HN := fun W h => Lib.hid (named_tag s ⟨#[47, 62]⟩ (k + 2) (k + 2) W h (Nat.le_refl _) (by omega) hs)
  rw [show (⟨#[47, 62]⟩ : ByteArray).data.toList = [47, 62] from rfl, endOf_name] at HN
  generalize Plain.nameEnd s.data.toList (k + 2) = E at *
  generalize Plain.clear (Plain.fold ((s.data.toList.take E).drop (k + 2))) = NL at *
  have q1 : ((s[k + 1].toNat : Int) == 47) = true := by simp [h47]
  have HM := Lib.hid hm
  have EK : Hid (((k : Int) + 1 + 1) = ((k + 2 : Nat) : Int)) := Lib.hid (by omega)
  clear h47 hat hm
  go_enter Tryd.func53, Tryd.ntmps53
  go_wp2_with fail
  refine (HA _).out.mono ?_
  rintro e w1 ⟨rfl, rfl⟩
  go_wp2_with fail
  have HW := Lib.hid (ReadW.start w 2)
  generalize hW : ((w.alloc (.cells #[.int .i64 0, .string ⟨#[]⟩, .slice none 0 0, .bool false, .string ⟨#[]⟩] 27)).alloc (.cells #[.int .i64 2, .string ⟨#[]⟩, .slice none 0 0, .bool false, .string ⟨#[]⟩] 27)) = W at *
  clear hW
  rw [EK.out]
  refine (HN _ (HM.out.below HW.out.below)).out.mono ?_
  rintro e w2 ⟨rfl, b2⟩
  have HW2 := Lib.hid (HW.out.on b2)
  have hlt := HW2.out.lt
  have r0 := HW2.out.r 0
  have r1 := HW2.out.r 1
  have r2 := HW2.out.r 2
  have r3 := HW2.out.r 3
  have r4 := HW2.out.r 4
  have fr := HW2.out.fr
  have c0 := HW2.out.c 0
  have c1 := HW2.out.c 1
  have c2 := HW2.out.c 2
  have c3 := HW2.out.c 3
  have c4 := HW2.out.c 4
  have fc := HW2.out.fc
  clear b2 HA HN HW
  go_wp2
  refine bodyPost_ret (v := .tuple #[.agg #[.int .i64 2, .string ⟨NL.toArray⟩, .slice none 0 0, .bool false, .string ⟨#[]⟩], .int .i64 (E : Int)]) (by simp [results, Tryd.results53, go_sem, *]) rfl ⟨rfl, ?_⟩
  iterate 6 refine Below.setCell ?_ (by simp) _
  exact HW2.out.below
set_option maxHeartbeats 2000000 in
set_option maxRecDepth 100000 in
theorem begun_start (s : ByteArray) (k : Nat) (w : World) (hm : HasMax w) (hk : k + 1 < s.size) (h47 : s[k + 1].toNat ≠ 47) (hat : atPlace s.data.toList (k : Int) = true) (hs : s.size ≤ 268435456) :
    Calls Tryd.prog 53 #[.string s, .int .i64 (k : Int)] w (BegunOut 1 (Plain.clear (Plain.fold ((s.data.toList.take (Plain.nameEnd s.data.toList (k + 1))).drop (k + 1)))) (Plain.nameEnd s.data.toList (k + 1)) w) := by
  have HA := fun W => Lib.hid (at_any s (k : Int) W (by omega) (by omega) (by omega))
  rw [hat] at HA
  have HN := fun W h => Lib.hid (named_tag s ⟨#[47, 62]⟩ (k + 1) (k + 1) W h (Nat.le_refl _) (by omega) hs)
  rw [show (⟨#[47, 62]⟩ : ByteArray).data.toList = [47, 62] from rfl, endOf_name] at HN
  generalize Plain.nameEnd s.data.toList (k + 1) = E at *
  generalize Plain.clear (Plain.fold ((s.data.toList.take E).drop (k + 1))) = NL at *
  have h8 : s[k + 1].toNat < 256 := s[k + 1].toNat_lt
  have q1 : ((s[k + 1].toNat : Int) == 47) = false := beq_eq_false_iff_ne.2 (by omega)
  have HM := Lib.hid hm
  rw [show ((k + 1 : Nat) : Int) = (k : Int) + 1 by omega] at HN
  clear h47 hat hm
  go_enter Tryd.func53, Tryd.ntmps53
  go_wp2_with fail
  refine (HA _).out.mono ?_
  rintro e w1 ⟨rfl, rfl⟩
  go_wp2_with fail
  have HW := Lib.hid (ReadW.start w 1)
  generalize hW : ((w.alloc (.cells #[.int .i64 0, .string ⟨#[]⟩, .slice none 0 0, .bool false, .string ⟨#[]⟩] 27)).alloc (.cells #[.int .i64 1, .string ⟨#[]⟩, .slice none 0 0, .bool false, .string ⟨#[]⟩] 27)) = W at *
  clear hW
  refine (HN _ (HM.out.below HW.out.below)).out.mono ?_
  rintro e w2 ⟨rfl, b2⟩
  have HW2 := Lib.hid (HW.out.on b2)
  have hlt := HW2.out.lt
  have r0 := HW2.out.r 0
  have r1 := HW2.out.r 1
  have r2 := HW2.out.r 2
  have r3 := HW2.out.r 3
  have r4 := HW2.out.r 4
  have fr := HW2.out.fr
  have c0 := HW2.out.c 0
  have c1 := HW2.out.c 1
  have c2 := HW2.out.c 2
  have c3 := HW2.out.c 3
  have c4 := HW2.out.c 4
  have fc := HW2.out.fc
  clear b2 HA HN HW
  go_wp2
  refine bodyPost_ret (v := .tuple #[.agg #[.int .i64 1, .string ⟨NL.toArray⟩, .slice none 0 0, .bool false, .string ⟨#[]⟩], .int .i64 (E : Int)]) (by simp [results, Tryd.results53, go_sem, *]) rfl ⟨rfl, ?_⟩
  iterate 6 refine Below.setCell ?_ (by simp) _
  exact HW2.out.below
end Go.Proofs.YtgelgfgcdfnacaaDoor
