/-
  The walk of the reference's step, in the states of data (deep). Any text of at most 2^28 bytes.
-/
import Derived.Test.YtgelgfgcdfnacaaGreatDoorXRef4
import Derived.Test.YtgelgfgcdfnacaaGreatDoorXLex4
namespace Go.Proofs.YtgelgfgcdfnacaaGreatDoor
open Go.RowKit

set_option maxHeartbeats 1600000 in
set_option maxRecDepth 100000 in
theorem rs4_bangn (s A : ByteArray) (k : Nat) (w : World) (hk : k < s.size) (hs : s.size ≤ 268435456) (h1 : Plain.atTag (s.data.toList.drop k) = false) (h2 : [60, 33, 45, 45].isPrefixOf (s.data.toList.drop k) = false) (hsec : section_.isPrefixOf (s.data.toList.drop k) = false) (h9 : 9 ≤ s.size - k) (h3 : begF doctype (s.data.toList.drop k) = false) (h4 : [60, 33].isPrefixOf (s.data.toList.drop k) = true) : Calls Tryz.prog 25 #[.string s, .int .i64 (k : Int), .int .i64 4, .string A] w (StepOut s.data.toList k 4 A.data.toList w) := by
  have HX := Lib.hid (ResW.start w)
  have hk' : k < s.data.toList.length := by rw [len_of]; exact hk
  have hst : (4 : Nat) = 0 ∨ (4 : Nat) = 4 := by omega
  have HXL := Lib.hid (from_list s k)
  have hXs : (s.extract k s.size).size = s.size - k := by simp
  have HAT := fun W => Lib.hid (rat_lex s k false hk hs h1 W)
  have HB2 := fun W => Lib.hid (rbeg_any (s.extract k s.size) ⟨#[60, 33, 45, 45]⟩ false W (by rw [from_list]; exact h2))
  have HBS := fun W => Lib.hid (rbeg_any (s.extract k s.size) ⟨#[60, 33, 91, 67, 68, 65, 84, 65, 91]⟩ false W (by rw [from_list]; exact hsec))
  have HB4 := fun W => Lib.hid (rbeg_any (s.extract k s.size) ⟨#[60, 33]⟩ true W (by rw [from_list]; exact h4))
  have q9 : (9 : Int) ≤ ((s.extract k s.size).size : Int) := by omega
  have hsl9 : ∀ W, (Instr.slice 9 (.string (s.extract k s.size)) none (some (.int .i64 9)) none).run Tryz.prog W = .ok (.string ((s.extract k s.size).extract 0 9)) W := fun W => slice_to (s.extract k s.size) 9 W (by omega)
  have HFO := fun W => Lib.hid (rfold_any ((s.extract k s.size).extract 0 9) W (by unfold maxLen; simp; omega))
  rw [head_of, from_list] at HFO
  obtain ⟨FX, hFX, hFXl⟩ : ∃ FX : ByteArray, (⟨(Plain.fold ((s.data.toList.drop k).take 9)).toArray⟩ : ByteArray) = FX ∧ FX.data.toList = Plain.fold ((s.data.toList.drop k).take 9) := ⟨_, rfl, rfl⟩
  rw [hFX] at HFO
  have qd : (FX.toList == doctype) = false := by
    rw [← h3, begF_take doctype, Lib.toList_data, hFXl, decide_eq_true (by rw [List.length_drop, len_of]; exact h9), Bool.true_and]
    rfl
  unfold doctype at qd
  clear hFX hFXl
  generalize (s.extract k s.size).extract 0 9 = X9 at *
  have hp2 := isPrefix_drop _ _ k h4
  rw [len_of] at hp2
  simp at hp2
  have HNX := Lib.hid (case_bang s.data.toList k 4 A.data.toList hk' hst h4 h2 h3 (fun _ => hsec))
  clear h1 h2 hsec h3 h4
  go_enter Tryz.func25, Tryz.ntmps25
  go_wp2_with fail
  generalize w.alloc (.cells #[.int .i64 0, .string ⟨#[]⟩, .slice none 0 0, .bool false, .string ⟨#[]⟩] 33) = W0 at *
  refine (HAT W0).out.mono ?_
  rintro e w9 ⟨rfl, rfl⟩
  go_wp2_with fail
  refine (HB2 W0).out.mono ?_
  rintro e w9 ⟨rfl, rfl⟩
  go_wp2_with fail
  refine (HBS W0).out.mono ?_
  rintro e w9 ⟨rfl, rfl⟩
  go_wp2_with fail
  refine (HFO W0).out.mono ?_
  rintro e w1 ⟨rfl, b1⟩
  have HX1 := Lib.hid (HX.out.on b1)
  clear b1 HX
  go_wp2_with fail
  refine (HB4 w1).out.mono ?_
  rintro e w9 ⟨rfl, rfl⟩
  go_wp2_with fail
  refine (rnote_any s (k + 2) w1 (by omega) hs).mono ?_
  rintro e w2 ⟨v2, rfl, ha2, b2⟩
  have HX2 := Lib.hid (HX1.out.on b2)
  obtain ⟨p2, cap2, hv2⟩ := ha2.form
  subst hv2
  have HA2 := Lib.hid ha2
  clear b2 ha2
  have hlt := HX2.out.lt
  have r0 := HX2.out.r 0
  have r1 := HX2.out.r 1
  have r2 := HX2.out.r 2
  have r3 := HX2.out.r 3
  have r4 := HX2.out.r 4
  have fr := HX2.out.fr
  generalize noteTo [[62]] s.data.toList (k + 2) = ST at *
  obtain ⟨⟨tk, tn, ta, ts, tt⟩, tb⟩ := ST
  go_wp2_with fail
  obtain ⟨d1, d2⟩ := HX2.out.done (HA2.out) (.int .i64 tk) (.string ⟨tn.toArray⟩) (.slice p2 ta.length cap2) (.bool ts) (.string ⟨tt.toArray⟩)
  refine bodyPost_ret (v := .tuple #[.agg #[.int .i64 tk, .string ⟨tn.toArray⟩, .slice p2 ta.length cap2, .bool ts, .string ⟨tt.toArray⟩], .int .i64 (tb : Int), .bool true]) (by simp [results, Tryz.results25, go_sem, *]) rfl ?_
  refine Or.inl ?_
  rw [HNX.out]
  exact ⟨_, rfl, d2, d1⟩
set_option maxHeartbeats 1600000 in
set_option maxRecDepth 100000 in
theorem rs4_askn (s A : ByteArray) (k : Nat) (w : World) (hk : k < s.size) (hs : s.size ≤ 268435456) (h1 : Plain.atTag (s.data.toList.drop k) = false) (h2 : [60, 33, 45, 45].isPrefixOf (s.data.toList.drop k) = false) (hsec : section_.isPrefixOf (s.data.toList.drop k) = false) (h9 : 9 ≤ s.size - k) (h3 : begF doctype (s.data.toList.drop k) = false) (h4 : [60, 33].isPrefixOf (s.data.toList.drop k) = false) (h5 : [60, 63].isPrefixOf (s.data.toList.drop k) = true) : Calls Tryz.prog 25 #[.string s, .int .i64 (k : Int), .int .i64 4, .string A] w (StepOut s.data.toList k 4 A.data.toList w) := by
  have HX := Lib.hid (ResW.start w)
  have hk' : k < s.data.toList.length := by rw [len_of]; exact hk
  have hst : (4 : Nat) = 0 ∨ (4 : Nat) = 4 := by omega
  have HXL := Lib.hid (from_list s k)
  have hXs : (s.extract k s.size).size = s.size - k := by simp
  have HAT := fun W => Lib.hid (rat_lex s k false hk hs h1 W)
  have HB2 := fun W => Lib.hid (rbeg_any (s.extract k s.size) ⟨#[60, 33, 45, 45]⟩ false W (by rw [from_list]; exact h2))
  have HBS := fun W => Lib.hid (rbeg_any (s.extract k s.size) ⟨#[60, 33, 91, 67, 68, 65, 84, 65, 91]⟩ false W (by rw [from_list]; exact hsec))
  have HB4 := fun W => Lib.hid (rbeg_any (s.extract k s.size) ⟨#[60, 33]⟩ false W (by rw [from_list]; exact h4))
  have HB5 := fun W => Lib.hid (rbeg_any (s.extract k s.size) ⟨#[60, 63]⟩ true W (by rw [from_list]; exact h5))
  have q9 : (9 : Int) ≤ ((s.extract k s.size).size : Int) := by omega
  have hsl9 : ∀ W, (Instr.slice 9 (.string (s.extract k s.size)) none (some (.int .i64 9)) none).run Tryz.prog W = .ok (.string ((s.extract k s.size).extract 0 9)) W := fun W => slice_to (s.extract k s.size) 9 W (by omega)
  have HFO := fun W => Lib.hid (rfold_any ((s.extract k s.size).extract 0 9) W (by unfold maxLen; simp; omega))
  rw [head_of, from_list] at HFO
  obtain ⟨FX, hFX, hFXl⟩ : ∃ FX : ByteArray, (⟨(Plain.fold ((s.data.toList.drop k).take 9)).toArray⟩ : ByteArray) = FX ∧ FX.data.toList = Plain.fold ((s.data.toList.drop k).take 9) := ⟨_, rfl, rfl⟩
  rw [hFX] at HFO
  have qd : (FX.toList == doctype) = false := by
    rw [← h3, begF_take doctype, Lib.toList_data, hFXl, decide_eq_true (by rw [List.length_drop, len_of]; exact h9), Bool.true_and]
    rfl
  unfold doctype at qd
  clear hFX hFXl
  generalize (s.extract k s.size).extract 0 9 = X9 at *
  have HNX := Lib.hid (case_ask s.data.toList k 4 A.data.toList hk' hst h5)
  clear h1 h2 hsec h3 h4 h5
  go_enter Tryz.func25, Tryz.ntmps25
  go_wp2_with fail
  generalize w.alloc (.cells #[.int .i64 0, .string ⟨#[]⟩, .slice none 0 0, .bool false, .string ⟨#[]⟩] 33) = W0 at *
  refine (HAT W0).out.mono ?_
  rintro e w9 ⟨rfl, rfl⟩
  go_wp2_with fail
  refine (HB2 W0).out.mono ?_
  rintro e w9 ⟨rfl, rfl⟩
  go_wp2_with fail
  refine (HBS W0).out.mono ?_
  rintro e w9 ⟨rfl, rfl⟩
  go_wp2_with fail
  refine (HFO W0).out.mono ?_
  rintro e w1 ⟨rfl, b1⟩
  have HX1 := Lib.hid (HX.out.on b1)
  clear b1 HX
  go_wp2_with fail
  refine (HB4 w1).out.mono ?_
  rintro e w9 ⟨rfl, rfl⟩
  go_wp2_with fail
  refine (HB5 w1).out.mono ?_
  rintro e w9 ⟨rfl, rfl⟩
  go_wp2_with fail
  refine (rnote_any s (k + 1) w1 (by omega) hs).mono ?_
  rintro e w2 ⟨v2, rfl, ha2, b2⟩
  have HX2 := Lib.hid (HX1.out.on b2)
  obtain ⟨p2, cap2, hv2⟩ := ha2.form
  subst hv2
  have HA2 := Lib.hid ha2
  clear b2 ha2
  have hlt := HX2.out.lt
  have r0 := HX2.out.r 0
  have r1 := HX2.out.r 1
  have r2 := HX2.out.r 2
  have r3 := HX2.out.r 3
  have r4 := HX2.out.r 4
  have fr := HX2.out.fr
  generalize noteTo [[62]] s.data.toList (k + 1) = ST at *
  obtain ⟨⟨tk, tn, ta, ts, tt⟩, tb⟩ := ST
  go_wp2_with fail
  obtain ⟨d1, d2⟩ := HX2.out.done (HA2.out) (.int .i64 tk) (.string ⟨tn.toArray⟩) (.slice p2 ta.length cap2) (.bool ts) (.string ⟨tt.toArray⟩)
  refine bodyPost_ret (v := .tuple #[.agg #[.int .i64 tk, .string ⟨tn.toArray⟩, .slice p2 ta.length cap2, .bool ts, .string ⟨tt.toArray⟩], .int .i64 (tb : Int), .bool true]) (by simp [results, Tryz.results25, go_sem, *]) rfl ?_
  refine Or.inl ?_
  rw [HNX.out]
  exact ⟨_, rfl, d2, d1⟩
set_option maxHeartbeats 1600000 in
set_option maxRecDepth 100000 in
theorem rs4_gapn (s A : ByteArray) (k : Nat) (w : World) (hk : k < s.size) (hs : s.size ≤ 268435456) (h1 : Plain.atTag (s.data.toList.drop k) = false) (h2 : [60, 33, 45, 45].isPrefixOf (s.data.toList.drop k) = false) (hsec : section_.isPrefixOf (s.data.toList.drop k) = false) (h9 : 9 ≤ s.size - k) (h3 : begF doctype (s.data.toList.drop k) = false) (h4 : [60, 33].isPrefixOf (s.data.toList.drop k) = false) (h5 : [60, 63].isPrefixOf (s.data.toList.drop k) = false) (h6 : [60, 47, 62].isPrefixOf (s.data.toList.drop k) = true) : Calls Tryz.prog 25 #[.string s, .int .i64 (k : Int), .int .i64 4, .string A] w (StepOut s.data.toList k 4 A.data.toList w) := by
  have HX := Lib.hid (ResW.start w)
  have hk' : k < s.data.toList.length := by rw [len_of]; exact hk
  have hst : (4 : Nat) = 0 ∨ (4 : Nat) = 4 := by omega
  have HXL := Lib.hid (from_list s k)
  have hXs : (s.extract k s.size).size = s.size - k := by simp
  have HAT := fun W => Lib.hid (rat_lex s k false hk hs h1 W)
  have HB2 := fun W => Lib.hid (rbeg_any (s.extract k s.size) ⟨#[60, 33, 45, 45]⟩ false W (by rw [from_list]; exact h2))
  have HBS := fun W => Lib.hid (rbeg_any (s.extract k s.size) ⟨#[60, 33, 91, 67, 68, 65, 84, 65, 91]⟩ false W (by rw [from_list]; exact hsec))
  have HB4 := fun W => Lib.hid (rbeg_any (s.extract k s.size) ⟨#[60, 33]⟩ false W (by rw [from_list]; exact h4))
  have HB5 := fun W => Lib.hid (rbeg_any (s.extract k s.size) ⟨#[60, 63]⟩ false W (by rw [from_list]; exact h5))
  have HB6 := fun W => Lib.hid (rbeg_any (s.extract k s.size) ⟨#[60, 47, 62]⟩ true W (by rw [from_list]; exact h6))
  have q9 : (9 : Int) ≤ ((s.extract k s.size).size : Int) := by omega
  have hsl9 : ∀ W, (Instr.slice 9 (.string (s.extract k s.size)) none (some (.int .i64 9)) none).run Tryz.prog W = .ok (.string ((s.extract k s.size).extract 0 9)) W := fun W => slice_to (s.extract k s.size) 9 W (by omega)
  have HFO := fun W => Lib.hid (rfold_any ((s.extract k s.size).extract 0 9) W (by unfold maxLen; simp; omega))
  rw [head_of, from_list] at HFO
  obtain ⟨FX, hFX, hFXl⟩ : ∃ FX : ByteArray, (⟨(Plain.fold ((s.data.toList.drop k).take 9)).toArray⟩ : ByteArray) = FX ∧ FX.data.toList = Plain.fold ((s.data.toList.drop k).take 9) := ⟨_, rfl, rfl⟩
  rw [hFX] at HFO
  have qd : (FX.toList == doctype) = false := by
    rw [← h3, begF_take doctype, Lib.toList_data, hFXl, decide_eq_true (by rw [List.length_drop, len_of]; exact h9), Bool.true_and]
    rfl
  unfold doctype at qd
  clear hFX hFXl
  generalize (s.extract k s.size).extract 0 9 = X9 at *
  obtain ⟨hn1, hn2⟩ := case_gap s.data.toList k 4 A.data.toList hst h6
  rw [len_of] at hn2
  have HNX := Lib.hid hn1
  clear hn1
  clear h1 h2 hsec h3 h4 h5 h6
  go_enter Tryz.func25, Tryz.ntmps25
  go_wp2_with fail
  generalize w.alloc (.cells #[.int .i64 0, .string ⟨#[]⟩, .slice none 0 0, .bool false, .string ⟨#[]⟩] 33) = W0 at *
  refine (HAT W0).out.mono ?_
  rintro e w9 ⟨rfl, rfl⟩
  go_wp2_with fail
  refine (HB2 W0).out.mono ?_
  rintro e w9 ⟨rfl, rfl⟩
  go_wp2_with fail
  refine (HBS W0).out.mono ?_
  rintro e w9 ⟨rfl, rfl⟩
  go_wp2_with fail
  refine (HFO W0).out.mono ?_
  rintro e w1 ⟨rfl, b1⟩
  have HX1 := Lib.hid (HX.out.on b1)
  clear b1 HX
  go_wp2_with fail
  refine (HB4 w1).out.mono ?_
  rintro e w9 ⟨rfl, rfl⟩
  go_wp2_with fail
  refine (HB5 w1).out.mono ?_
  rintro e w9 ⟨rfl, rfl⟩
  go_wp2_with fail
  refine (HB6 w1).out.mono ?_
  rintro e w9 ⟨rfl, rfl⟩
  have hlt := HX1.out.lt
  have r0 := HX1.out.r 0
  have r1 := HX1.out.r 1
  have r2 := HX1.out.r 2
  have r3 := HX1.out.r 3
  have r4 := HX1.out.r 4
  have fr := HX1.out.fr
  go_wp2_with fail
  obtain ⟨d1, d2⟩ := HX1.out.done (AttrsAt.nil _) (.int .i64 0) (.string ⟨#[]⟩) (.slice none 0 0) (.bool false) (.string ⟨#[]⟩)
  refine bodyPost_ret (v := .tuple #[.agg #[.int .i64 0, .string ⟨#[]⟩, .slice none 0 0, .bool false, .string ⟨#[]⟩], .int .i64 ((k : Int) + 3 : Int), .bool false]) (by simp [results, Tryz.results25, go_sem, *]) rfl ?_
  exact Or.inr ⟨0, ⟨#[]⟩, none, 0, 0, false, ⟨#[]⟩, k + 3, by simp only [Int.natCast_add]; rfl, by omega, by rw [len_of]; omega, HNX.out.symm, d1⟩
set_option maxHeartbeats 1600000 in
set_option maxRecDepth 100000 in
theorem rs4_slashn (s A : ByteArray) (k : Nat) (w : World) (hk : k < s.size) (hs : s.size ≤ 268435456) (h1 : Plain.atTag (s.data.toList.drop k) = false) (h2 : [60, 33, 45, 45].isPrefixOf (s.data.toList.drop k) = false) (hsec : section_.isPrefixOf (s.data.toList.drop k) = false) (h9 : 9 ≤ s.size - k) (h3 : begF doctype (s.data.toList.drop k) = false) (h4 : [60, 33].isPrefixOf (s.data.toList.drop k) = false) (h5 : [60, 63].isPrefixOf (s.data.toList.drop k) = false) (h6 : [60, 47, 62].isPrefixOf (s.data.toList.drop k) = false) (h7 : [60, 47].isPrefixOf (s.data.toList.drop k) = true) (hl2 : k + 2 < s.size) : Calls Tryz.prog 25 #[.string s, .int .i64 (k : Int), .int .i64 4, .string A] w (StepOut s.data.toList k 4 A.data.toList w) := by
  have HX := Lib.hid (ResW.start w)
  have hk' : k < s.data.toList.length := by rw [len_of]; exact hk
  have hst : (4 : Nat) = 0 ∨ (4 : Nat) = 4 := by omega
  have HXL := Lib.hid (from_list s k)
  have hXs : (s.extract k s.size).size = s.size - k := by simp
  have HAT := fun W => Lib.hid (rat_lex s k false hk hs h1 W)
  have HB2 := fun W => Lib.hid (rbeg_any (s.extract k s.size) ⟨#[60, 33, 45, 45]⟩ false W (by rw [from_list]; exact h2))
  have HBS := fun W => Lib.hid (rbeg_any (s.extract k s.size) ⟨#[60, 33, 91, 67, 68, 65, 84, 65, 91]⟩ false W (by rw [from_list]; exact hsec))
  have HB4 := fun W => Lib.hid (rbeg_any (s.extract k s.size) ⟨#[60, 33]⟩ false W (by rw [from_list]; exact h4))
  have HB5 := fun W => Lib.hid (rbeg_any (s.extract k s.size) ⟨#[60, 63]⟩ false W (by rw [from_list]; exact h5))
  have HB6 := fun W => Lib.hid (rbeg_any (s.extract k s.size) ⟨#[60, 47, 62]⟩ false W (by rw [from_list]; exact h6))
  have HB7 := fun W => Lib.hid (rbeg_any (s.extract k s.size) ⟨#[60, 47]⟩ true W (by rw [from_list]; exact h7))
  have q9 : (9 : Int) ≤ ((s.extract k s.size).size : Int) := by omega
  have hsl9 : ∀ W, (Instr.slice 9 (.string (s.extract k s.size)) none (some (.int .i64 9)) none).run Tryz.prog W = .ok (.string ((s.extract k s.size).extract 0 9)) W := fun W => slice_to (s.extract k s.size) 9 W (by omega)
  have HFO := fun W => Lib.hid (rfold_any ((s.extract k s.size).extract 0 9) W (by unfold maxLen; simp; omega))
  rw [head_of, from_list] at HFO
  obtain ⟨FX, hFX, hFXl⟩ : ∃ FX : ByteArray, (⟨(Plain.fold ((s.data.toList.drop k).take 9)).toArray⟩ : ByteArray) = FX ∧ FX.data.toList = Plain.fold ((s.data.toList.drop k).take 9) := ⟨_, rfl, rfl⟩
  rw [hFX] at HFO
  have qd : (FX.toList == doctype) = false := by
    rw [← h3, begF_take doctype, Lib.toList_data, hFXl, decide_eq_true (by rw [List.length_drop, len_of]; exact h9), Bool.true_and]
    rfl
  unfold doctype at qd
  clear hFX hFXl
  generalize (s.extract k s.size).extract 0 9 = X9 at *
  have q2 : (2 : Int) < ((s.extract k s.size).size : Int) := by omega
  have HNX := Lib.hid (case_slash s.data.toList k 4 A.data.toList hst h7 (by rw [len_of]; exact hl2) h1 h6)
  clear h1 h2 hsec h3 h4 h5 h6 h7
  go_enter Tryz.func25, Tryz.ntmps25
  go_wp2_with fail
  generalize w.alloc (.cells #[.int .i64 0, .string ⟨#[]⟩, .slice none 0 0, .bool false, .string ⟨#[]⟩] 33) = W0 at *
  refine (HAT W0).out.mono ?_
  rintro e w9 ⟨rfl, rfl⟩
  go_wp2_with fail
  refine (HB2 W0).out.mono ?_
  rintro e w9 ⟨rfl, rfl⟩
  go_wp2_with fail
  refine (HBS W0).out.mono ?_
  rintro e w9 ⟨rfl, rfl⟩
  go_wp2_with fail
  refine (HFO W0).out.mono ?_
  rintro e w1 ⟨rfl, b1⟩
  have HX1 := Lib.hid (HX.out.on b1)
  clear b1 HX
  go_wp2_with fail
  refine (HB4 w1).out.mono ?_
  rintro e w9 ⟨rfl, rfl⟩
  go_wp2_with fail
  refine (HB5 w1).out.mono ?_
  rintro e w9 ⟨rfl, rfl⟩
  go_wp2_with fail
  refine (HB6 w1).out.mono ?_
  rintro e w9 ⟨rfl, rfl⟩
  go_wp2_with fail
  refine (HB7 w1).out.mono ?_
  rintro e w9 ⟨rfl, rfl⟩
  go_wp2_with fail
  refine (rnote_any s (k + 2) w1 (by omega) hs).mono ?_
  rintro e w2 ⟨v2, rfl, ha2, b2⟩
  have HX2 := Lib.hid (HX1.out.on b2)
  obtain ⟨p2, cap2, hv2⟩ := ha2.form
  subst hv2
  have HA2 := Lib.hid ha2
  clear b2 ha2
  have hlt := HX2.out.lt
  have r0 := HX2.out.r 0
  have r1 := HX2.out.r 1
  have r2 := HX2.out.r 2
  have r3 := HX2.out.r 3
  have r4 := HX2.out.r 4
  have fr := HX2.out.fr
  generalize noteTo [[62]] s.data.toList (k + 2) = ST at *
  obtain ⟨⟨tk, tn, ta, ts, tt⟩, tb⟩ := ST
  go_wp2_with fail
  obtain ⟨d1, d2⟩ := HX2.out.done (HA2.out) (.int .i64 tk) (.string ⟨tn.toArray⟩) (.slice p2 ta.length cap2) (.bool ts) (.string ⟨tt.toArray⟩)
  refine bodyPost_ret (v := .tuple #[.agg #[.int .i64 tk, .string ⟨tn.toArray⟩, .slice p2 ta.length cap2, .bool ts, .string ⟨tt.toArray⟩], .int .i64 (tb : Int), .bool true]) (by simp [results, Tryz.results25, go_sem, *]) rfl ?_
  refine Or.inl ?_
  rw [HNX.out]
  exact ⟨_, rfl, d2, d1⟩
set_option maxHeartbeats 1600000 in
set_option maxRecDepth 100000 in
theorem rs4_textn (s A : ByteArray) (k : Nat) (w : World) (hk : k < s.size) (hs : s.size ≤ 268435456) (h1 : Plain.atTag (s.data.toList.drop k) = false) (h2 : [60, 33, 45, 45].isPrefixOf (s.data.toList.drop k) = false) (hsec : section_.isPrefixOf (s.data.toList.drop k) = false) (h9 : 9 ≤ s.size - k) (h3 : begF doctype (s.data.toList.drop k) = false) (h4 : [60, 33].isPrefixOf (s.data.toList.drop k) = false) (h5 : [60, 63].isPrefixOf (s.data.toList.drop k) = false) (h6 : [60, 47, 62].isPrefixOf (s.data.toList.drop k) = false) (h7 : [60, 47].isPrefixOf (s.data.toList.drop k) = false) : Calls Tryz.prog 25 #[.string s, .int .i64 (k : Int), .int .i64 4, .string A] w (StepOut s.data.toList k 4 A.data.toList w) := by
  have HX := Lib.hid (ResW.start w)
  have hk' : k < s.data.toList.length := by rw [len_of]; exact hk
  have hst : (4 : Nat) = 0 ∨ (4 : Nat) = 4 := by omega
  have HXL := Lib.hid (from_list s k)
  have hXs : (s.extract k s.size).size = s.size - k := by simp
  have HAT := fun W => Lib.hid (rat_lex s k false hk hs h1 W)
  have HB2 := fun W => Lib.hid (rbeg_any (s.extract k s.size) ⟨#[60, 33, 45, 45]⟩ false W (by rw [from_list]; exact h2))
  have HBS := fun W => Lib.hid (rbeg_any (s.extract k s.size) ⟨#[60, 33, 91, 67, 68, 65, 84, 65, 91]⟩ false W (by rw [from_list]; exact hsec))
  have HB4 := fun W => Lib.hid (rbeg_any (s.extract k s.size) ⟨#[60, 33]⟩ false W (by rw [from_list]; exact h4))
  have HB5 := fun W => Lib.hid (rbeg_any (s.extract k s.size) ⟨#[60, 63]⟩ false W (by rw [from_list]; exact h5))
  have HB6 := fun W => Lib.hid (rbeg_any (s.extract k s.size) ⟨#[60, 47, 62]⟩ false W (by rw [from_list]; exact h6))
  have HB7 := fun W => Lib.hid (rbeg_any (s.extract k s.size) ⟨#[60, 47]⟩ false W (by rw [from_list]; exact h7))
  have q9 : (9 : Int) ≤ ((s.extract k s.size).size : Int) := by omega
  have hsl9 : ∀ W, (Instr.slice 9 (.string (s.extract k s.size)) none (some (.int .i64 9)) none).run Tryz.prog W = .ok (.string ((s.extract k s.size).extract 0 9)) W := fun W => slice_to (s.extract k s.size) 9 W (by omega)
  have HFO := fun W => Lib.hid (rfold_any ((s.extract k s.size).extract 0 9) W (by unfold maxLen; simp; omega))
  rw [head_of, from_list] at HFO
  obtain ⟨FX, hFX, hFXl⟩ : ∃ FX : ByteArray, (⟨(Plain.fold ((s.data.toList.drop k).take 9)).toArray⟩ : ByteArray) = FX ∧ FX.data.toList = Plain.fold ((s.data.toList.drop k).take 9) := ⟨_, rfl, rfl⟩
  rw [hFX] at HFO
  have qd : (FX.toList == doctype) = false := by
    rw [← h3, begF_take doctype, Lib.toList_data, hFXl, decide_eq_true (by rw [List.length_drop, len_of]; exact h9), Bool.true_and]
    rfl
  unfold doctype at qd
  clear hFX hFXl
  generalize (s.extract k s.size).extract 0 9 = X9 at *
  have q2 : ((s.extract k s.size).toList == [60, 47]) = false := by
    rw [text_is _ _ (from_list s k), beq_eq_false_iff_ne]
    intro q
    rw [q] at h7
    cases h7
  have HNX := Lib.hid (case_text s.data.toList k 4 A.data.toList hk' hst h1 h4 h5 (Or.inl h7))
  clear h1 h2 hsec h3 h4 h5 h6 h7
  go_enter Tryz.func25, Tryz.ntmps25
  go_wp2_with fail
  generalize w.alloc (.cells #[.int .i64 0, .string ⟨#[]⟩, .slice none 0 0, .bool false, .string ⟨#[]⟩] 33) = W0 at *
  refine (HAT W0).out.mono ?_
  rintro e w9 ⟨rfl, rfl⟩
  go_wp2_with fail
  refine (HB2 W0).out.mono ?_
  rintro e w9 ⟨rfl, rfl⟩
  go_wp2_with fail
  refine (HBS W0).out.mono ?_
  rintro e w9 ⟨rfl, rfl⟩
  go_wp2_with fail
  refine (HFO W0).out.mono ?_
  rintro e w1 ⟨rfl, b1⟩
  have HX1 := Lib.hid (HX.out.on b1)
  clear b1 HX
  go_wp2_with fail
  refine (HB4 w1).out.mono ?_
  rintro e w9 ⟨rfl, rfl⟩
  go_wp2_with fail
  refine (HB5 w1).out.mono ?_
  rintro e w9 ⟨rfl, rfl⟩
  go_wp2_with fail
  refine (HB6 w1).out.mono ?_
  rintro e w9 ⟨rfl, rfl⟩
  go_wp2_with fail
  refine (HB7 w1).out.mono ?_
  rintro e w9 ⟨rfl, rfl⟩
  go_wp2_with fail
  go_loop [18] (fun v => ∃ i : Nat, v = .int .i64 (i : Int) ∧ 1 ≤ i ∧ i ≤ (s.extract k s.size).size ∧ upL [[60]] s.data.toList (k + 1) = upL [[60]] s.data.toList (k + i)) (fun v => s.size - (intOf v).toNat)
  case atStart => exact ⟨1, rfl, by omega, by omega, rfl⟩
  case round =>
    obtain ⟨i, rfl, hi1, hi2, hU⟩ := hrel
    have HU := Lib.hid hU
    clear hU
    by_cases hlt : i < (s.extract k s.size).size
    · have hki : k + i < s.size := by omega
      have hgx : (s.extract k s.size)[i] = s[k + i] := by
        have e2 : (s.extract k s.size).data.toList[i]? = (s.data.toList.drop k)[i]? := by rw [HXL.out]
        rw [List.getElem?_drop, List.getElem?_eq_getElem (by rw [len_of]; exact hlt), List.getElem?_eq_getElem (by rw [len_of]; exact hki)] at e2
        exact Option.some.inj e2
      have h8 : s[k + i].toNat < 256 := s[k + i].toNat_lt
      by_cases h60 : s[k + i] = 60
      · have hh : upL [[60]] s.data.toList (k + i) = (k + i, k + i + 1) := upL_hit _ _ _ (by rw [len_of]; exact hki) [60] (by rw [find_one, drop_at s (k + i) hki, h60]; rfl)
        have q60 : (((s.extract k s.size)[i].toNat : Int) != 60) = false := by rw [hgx, h60]; rfl
        have HH := Lib.hid (HU.out.trans hh)
        clear hh h60 hgx
        have hsl : ∀ W, (Instr.slice 9 (.string (s.extract k s.size)) none (some (.int .i64 (i : Int))) none).run Tryz.prog W = .ok (.string ((s.extract k s.size).extract 0 i)) W := fun W => slice_to (s.extract k s.size) i W (by omega)
        have HML : Hid (((s.extract k s.size).extract 0 i).data.toList = mid s.data.toList k (k + i)) := Lib.hid (by rw [head_of, from_list]; unfold mid; rw [List.drop_take, Nat.add_sub_cancel_left])
        have hMs : ((s.extract k s.size).extract 0 i).size ≤ 268435456 := by simp; omega
        generalize (s.extract k s.size).extract 0 i = M at *
        have HEX := fun W => Lib.hid (rexpand_any M false W (by omega))
        go_wp2_with fail
        refine (HEX w1).out.mono ?_
        rintro e w2 ⟨rfl, b2⟩
        have HX2 := Lib.hid (HX1.out.on b2)
        clear b2 HX1
        have hlt := HX2.out.lt
        have r0 := HX2.out.r 0
        have r1 := HX2.out.r 1
        have r2 := HX2.out.r 2
        have r3 := HX2.out.r 3
        have r4 := HX2.out.r 4
        have fr := HX2.out.fr
        go_wp2_with fail
        obtain ⟨d1, d2⟩ := HX2.out.done (AttrsAt.nil _) (.int .i64 3) (.string ⟨#[]⟩) (.slice none 0 0) (.bool false) (.string ⟨(Plain.expand M.data.toList false).toArray⟩)
        refine bodyPost_ret (v := .tuple #[.agg #[.int .i64 3, .string ⟨#[]⟩, .slice none 0 0, .bool false, .string ⟨(Plain.expand M.data.toList false).toArray⟩], .int .i64 ((k : Int) + (i : Int)), .bool true]) (by simp [results, Tryz.results25, go_sem, *]) rfl ?_
        refine Or.inl ?_
        rw [HNX.out, HH.out]
        simp only
        rw [← HML.out]
        exact ⟨_, by simp only [Int.natCast_add]; rfl, d2, d1⟩
      · have hh : upL [[60]] s.data.toList (k + i) = upL [[60]] s.data.toList (k + (i + 1)) := up_skip 60 _ _ (by rw [len_of]; exact hki) h60
        have q60 : (((s.extract k s.size)[i].toNat : Int) != 60) = true := by rw [hgx]; simp; intro q; exact h60 (UInt8.toNat_inj.1 (show s[k + i].toNat = 60 by omega))
        have HH := Lib.hid (HU.out.trans hh)
        clear hh h60 hgx
        go_wp2_with fail
        exact ⟨⟨i + 1, by go_num, by omega, by omega, HH.out⟩, by simp [intOf]; omega⟩
    · have hii : k + i = s.size := by omega
      have hh : upL [[60]] s.data.toList (k + i) = (s.size, s.size) := by rw [upL_end _ _ _ (by rw [len_of]; omega), len_of]
      have HH : Hid (upL [[60]] s.data.toList (k + 1) = (k + i, s.size)) := Lib.hid (by rw [HU.out, hh, hii])
      clear hh
      have hsl : ∀ W, (Instr.slice 9 (.string (s.extract k s.size)) none (some (.int .i64 (i : Int))) none).run Tryz.prog W = .ok (.string ((s.extract k s.size).extract 0 i)) W := fun W => slice_to (s.extract k s.size) i W (by omega)
      have HML : Hid (((s.extract k s.size).extract 0 i).data.toList = mid s.data.toList k (k + i)) := Lib.hid (by rw [head_of, from_list]; unfold mid; rw [List.drop_take, Nat.add_sub_cancel_left])
      have hMs : ((s.extract k s.size).extract 0 i).size ≤ 268435456 := by simp; omega
      generalize (s.extract k s.size).extract 0 i = M at *
      have HEX := fun W => Lib.hid (rexpand_any M false W (by omega))
      go_wp2_with fail
      refine (HEX w1).out.mono ?_
      rintro e w2 ⟨rfl, b2⟩
      have HX2 := Lib.hid (HX1.out.on b2)
      clear b2 HX1
      have hlt := HX2.out.lt
      have r0 := HX2.out.r 0
      have r1 := HX2.out.r 1
      have r2 := HX2.out.r 2
      have r3 := HX2.out.r 3
      have r4 := HX2.out.r 4
      have fr := HX2.out.fr
      go_wp2_with fail
      obtain ⟨d1, d2⟩ := HX2.out.done (AttrsAt.nil _) (.int .i64 3) (.string ⟨#[]⟩) (.slice none 0 0) (.bool false) (.string ⟨(Plain.expand M.data.toList false).toArray⟩)
      refine bodyPost_ret (v := .tuple #[.agg #[.int .i64 3, .string ⟨#[]⟩, .slice none 0 0, .bool false, .string ⟨(Plain.expand M.data.toList false).toArray⟩], .int .i64 ((k : Int) + (i : Int)), .bool true]) (by simp [results, Tryz.results25, go_sem, *]) rfl ?_
      refine Or.inl ?_
      rw [HNX.out, HH.out]
      simp only
      rw [← HML.out]
      exact ⟨_, by simp only [Int.natCast_add]; rfl, d2, d1⟩
set_option maxHeartbeats 1600000 in
set_option maxRecDepth 100000 in
theorem rs4_bangs (s A : ByteArray) (k : Nat) (w : World) (hk : k < s.size) (hs : s.size ≤ 268435456) (h1 : Plain.atTag (s.data.toList.drop k) = false) (h2 : [60, 33, 45, 45].isPrefixOf (s.data.toList.drop k) = false) (hsec : section_.isPrefixOf (s.data.toList.drop k) = false) (h9 : ¬ 9 ≤ s.size - k) (h3 : begF doctype (s.data.toList.drop k) = false) (h4 : [60, 33].isPrefixOf (s.data.toList.drop k) = true) : Calls Tryz.prog 25 #[.string s, .int .i64 (k : Int), .int .i64 4, .string A] w (StepOut s.data.toList k 4 A.data.toList w) := by
  have HX := Lib.hid (ResW.start w)
  have hk' : k < s.data.toList.length := by rw [len_of]; exact hk
  have hst : (4 : Nat) = 0 ∨ (4 : Nat) = 4 := by omega
  have HXL := Lib.hid (from_list s k)
  have hXs : (s.extract k s.size).size = s.size - k := by simp
  have HAT := fun W => Lib.hid (rat_lex s k false hk hs h1 W)
  have HB2 := fun W => Lib.hid (rbeg_any (s.extract k s.size) ⟨#[60, 33, 45, 45]⟩ false W (by rw [from_list]; exact h2))
  have HBS := fun W => Lib.hid (rbeg_any (s.extract k s.size) ⟨#[60, 33, 91, 67, 68, 65, 84, 65, 91]⟩ false W (by rw [from_list]; exact hsec))
  have HB4 := fun W => Lib.hid (rbeg_any (s.extract k s.size) ⟨#[60, 33]⟩ true W (by rw [from_list]; exact h4))
  have q9 : ¬ (9 : Int) ≤ ((s.extract k s.size).size : Int) := by omega
  have hp2 := isPrefix_drop _ _ k h4
  rw [len_of] at hp2
  simp at hp2
  have HNX := Lib.hid (case_bang s.data.toList k 4 A.data.toList hk' hst h4 h2 h3 (fun _ => hsec))
  clear h1 h2 hsec h3 h4
  go_enter Tryz.func25, Tryz.ntmps25
  go_wp2_with fail
  generalize w.alloc (.cells #[.int .i64 0, .string ⟨#[]⟩, .slice none 0 0, .bool false, .string ⟨#[]⟩] 33) = W0 at *
  refine (HAT W0).out.mono ?_
  rintro e w9 ⟨rfl, rfl⟩
  go_wp2_with fail
  refine (HB2 W0).out.mono ?_
  rintro e w9 ⟨rfl, rfl⟩
  go_wp2_with fail
  refine (HBS W0).out.mono ?_
  rintro e w9 ⟨rfl, rfl⟩
  go_wp2_with fail
  refine (HB4 W0).out.mono ?_
  rintro e w9 ⟨rfl, rfl⟩
  go_wp2_with fail
  refine (rnote_any s (k + 2) W0 (by omega) hs).mono ?_
  rintro e w2 ⟨v2, rfl, ha2, b2⟩
  have HX2 := Lib.hid (HX.out.on b2)
  obtain ⟨p2, cap2, hv2⟩ := ha2.form
  subst hv2
  have HA2 := Lib.hid ha2
  clear b2 ha2
  have hlt := HX2.out.lt
  have r0 := HX2.out.r 0
  have r1 := HX2.out.r 1
  have r2 := HX2.out.r 2
  have r3 := HX2.out.r 3
  have r4 := HX2.out.r 4
  have fr := HX2.out.fr
  generalize noteTo [[62]] s.data.toList (k + 2) = ST at *
  obtain ⟨⟨tk, tn, ta, ts, tt⟩, tb⟩ := ST
  go_wp2_with fail
  obtain ⟨d1, d2⟩ := HX2.out.done (HA2.out) (.int .i64 tk) (.string ⟨tn.toArray⟩) (.slice p2 ta.length cap2) (.bool ts) (.string ⟨tt.toArray⟩)
  refine bodyPost_ret (v := .tuple #[.agg #[.int .i64 tk, .string ⟨tn.toArray⟩, .slice p2 ta.length cap2, .bool ts, .string ⟨tt.toArray⟩], .int .i64 (tb : Int), .bool true]) (by simp [results, Tryz.results25, go_sem, *]) rfl ?_
  refine Or.inl ?_
  rw [HNX.out]
  exact ⟨_, rfl, d2, d1⟩
set_option maxHeartbeats 1600000 in
set_option maxRecDepth 100000 in
theorem rs4_asks (s A : ByteArray) (k : Nat) (w : World) (hk : k < s.size) (hs : s.size ≤ 268435456) (h1 : Plain.atTag (s.data.toList.drop k) = false) (h2 : [60, 33, 45, 45].isPrefixOf (s.data.toList.drop k) = false) (hsec : section_.isPrefixOf (s.data.toList.drop k) = false) (h9 : ¬ 9 ≤ s.size - k) (h4 : [60, 33].isPrefixOf (s.data.toList.drop k) = false) (h5 : [60, 63].isPrefixOf (s.data.toList.drop k) = true) : Calls Tryz.prog 25 #[.string s, .int .i64 (k : Int), .int .i64 4, .string A] w (StepOut s.data.toList k 4 A.data.toList w) := by
  have HX := Lib.hid (ResW.start w)
  have hk' : k < s.data.toList.length := by rw [len_of]; exact hk
  have hst : (4 : Nat) = 0 ∨ (4 : Nat) = 4 := by omega
  have HXL := Lib.hid (from_list s k)
  have hXs : (s.extract k s.size).size = s.size - k := by simp
  have HAT := fun W => Lib.hid (rat_lex s k false hk hs h1 W)
  have HB2 := fun W => Lib.hid (rbeg_any (s.extract k s.size) ⟨#[60, 33, 45, 45]⟩ false W (by rw [from_list]; exact h2))
  have HBS := fun W => Lib.hid (rbeg_any (s.extract k s.size) ⟨#[60, 33, 91, 67, 68, 65, 84, 65, 91]⟩ false W (by rw [from_list]; exact hsec))
  have HB4 := fun W => Lib.hid (rbeg_any (s.extract k s.size) ⟨#[60, 33]⟩ false W (by rw [from_list]; exact h4))
  have HB5 := fun W => Lib.hid (rbeg_any (s.extract k s.size) ⟨#[60, 63]⟩ true W (by rw [from_list]; exact h5))
  have q9 : ¬ (9 : Int) ≤ ((s.extract k s.size).size : Int) := by omega
  have HNX := Lib.hid (case_ask s.data.toList k 4 A.data.toList hk' hst h5)
  clear h1 h2 hsec h4 h5
  go_enter Tryz.func25, Tryz.ntmps25
  go_wp2_with fail
  generalize w.alloc (.cells #[.int .i64 0, .string ⟨#[]⟩, .slice none 0 0, .bool false, .string ⟨#[]⟩] 33) = W0 at *
  refine (HAT W0).out.mono ?_
  rintro e w9 ⟨rfl, rfl⟩
  go_wp2_with fail
  refine (HB2 W0).out.mono ?_
  rintro e w9 ⟨rfl, rfl⟩
  go_wp2_with fail
  refine (HBS W0).out.mono ?_
  rintro e w9 ⟨rfl, rfl⟩
  go_wp2_with fail
  refine (HB4 W0).out.mono ?_
  rintro e w9 ⟨rfl, rfl⟩
  go_wp2_with fail
  refine (HB5 W0).out.mono ?_
  rintro e w9 ⟨rfl, rfl⟩
  go_wp2_with fail
  refine (rnote_any s (k + 1) W0 (by omega) hs).mono ?_
  rintro e w2 ⟨v2, rfl, ha2, b2⟩
  have HX2 := Lib.hid (HX.out.on b2)
  obtain ⟨p2, cap2, hv2⟩ := ha2.form
  subst hv2
  have HA2 := Lib.hid ha2
  clear b2 ha2
  have hlt := HX2.out.lt
  have r0 := HX2.out.r 0
  have r1 := HX2.out.r 1
  have r2 := HX2.out.r 2
  have r3 := HX2.out.r 3
  have r4 := HX2.out.r 4
  have fr := HX2.out.fr
  generalize noteTo [[62]] s.data.toList (k + 1) = ST at *
  obtain ⟨⟨tk, tn, ta, ts, tt⟩, tb⟩ := ST
  go_wp2_with fail
  obtain ⟨d1, d2⟩ := HX2.out.done (HA2.out) (.int .i64 tk) (.string ⟨tn.toArray⟩) (.slice p2 ta.length cap2) (.bool ts) (.string ⟨tt.toArray⟩)
  refine bodyPost_ret (v := .tuple #[.agg #[.int .i64 tk, .string ⟨tn.toArray⟩, .slice p2 ta.length cap2, .bool ts, .string ⟨tt.toArray⟩], .int .i64 (tb : Int), .bool true]) (by simp [results, Tryz.results25, go_sem, *]) rfl ?_
  refine Or.inl ?_
  rw [HNX.out]
  exact ⟨_, rfl, d2, d1⟩
set_option maxHeartbeats 1600000 in
set_option maxRecDepth 100000 in
theorem rs4_gaps (s A : ByteArray) (k : Nat) (w : World) (hk : k < s.size) (hs : s.size ≤ 268435456) (h1 : Plain.atTag (s.data.toList.drop k) = false) (h2 : [60, 33, 45, 45].isPrefixOf (s.data.toList.drop k) = false) (hsec : section_.isPrefixOf (s.data.toList.drop k) = false) (h9 : ¬ 9 ≤ s.size - k) (h4 : [60, 33].isPrefixOf (s.data.toList.drop k) = false) (h5 : [60, 63].isPrefixOf (s.data.toList.drop k) = false) (h6 : [60, 47, 62].isPrefixOf (s.data.toList.drop k) = true) : Calls Tryz.prog 25 #[.string s, .int .i64 (k : Int), .int .i64 4, .string A] w (StepOut s.data.toList k 4 A.data.toList w) := by
  have HX := Lib.hid (ResW.start w)
  have hk' : k < s.data.toList.length := by rw [len_of]; exact hk
  have hst : (4 : Nat) = 0 ∨ (4 : Nat) = 4 := by omega
  have HXL := Lib.hid (from_list s k)
  have hXs : (s.extract k s.size).size = s.size - k := by simp
  have HAT := fun W => Lib.hid (rat_lex s k false hk hs h1 W)
  have HB2 := fun W => Lib.hid (rbeg_any (s.extract k s.size) ⟨#[60, 33, 45, 45]⟩ false W (by rw [from_list]; exact h2))
  have HBS := fun W => Lib.hid (rbeg_any (s.extract k s.size) ⟨#[60, 33, 91, 67, 68, 65, 84, 65, 91]⟩ false W (by rw [from_list]; exact hsec))
  have HB4 := fun W => Lib.hid (rbeg_any (s.extract k s.size) ⟨#[60, 33]⟩ false W (by rw [from_list]; exact h4))
  have HB5 := fun W => Lib.hid (rbeg_any (s.extract k s.size) ⟨#[60, 63]⟩ false W (by rw [from_list]; exact h5))
  have HB6 := fun W => Lib.hid (rbeg_any (s.extract k s.size) ⟨#[60, 47, 62]⟩ true W (by rw [from_list]; exact h6))
  have q9 : ¬ (9 : Int) ≤ ((s.extract k s.size).size : Int) := by omega
  obtain ⟨hn1, hn2⟩ := case_gap s.data.toList k 4 A.data.toList hst h6
  rw [len_of] at hn2
  have HNX := Lib.hid hn1
  clear hn1
  clear h1 h2 hsec h4 h5 h6
  go_enter Tryz.func25, Tryz.ntmps25
  go_wp2_with fail
  generalize w.alloc (.cells #[.int .i64 0, .string ⟨#[]⟩, .slice none 0 0, .bool false, .string ⟨#[]⟩] 33) = W0 at *
  refine (HAT W0).out.mono ?_
  rintro e w9 ⟨rfl, rfl⟩
  go_wp2_with fail
  refine (HB2 W0).out.mono ?_
  rintro e w9 ⟨rfl, rfl⟩
  go_wp2_with fail
  refine (HBS W0).out.mono ?_
  rintro e w9 ⟨rfl, rfl⟩
  go_wp2_with fail
  refine (HB4 W0).out.mono ?_
  rintro e w9 ⟨rfl, rfl⟩
  go_wp2_with fail
  refine (HB5 W0).out.mono ?_
  rintro e w9 ⟨rfl, rfl⟩
  go_wp2_with fail
  refine (HB6 W0).out.mono ?_
  rintro e w9 ⟨rfl, rfl⟩
  have hlt := HX.out.lt
  have r0 := HX.out.r 0
  have r1 := HX.out.r 1
  have r2 := HX.out.r 2
  have r3 := HX.out.r 3
  have r4 := HX.out.r 4
  have fr := HX.out.fr
  go_wp2_with fail
  obtain ⟨d1, d2⟩ := HX.out.done (AttrsAt.nil _) (.int .i64 0) (.string ⟨#[]⟩) (.slice none 0 0) (.bool false) (.string ⟨#[]⟩)
  refine bodyPost_ret (v := .tuple #[.agg #[.int .i64 0, .string ⟨#[]⟩, .slice none 0 0, .bool false, .string ⟨#[]⟩], .int .i64 ((k : Int) + 3 : Int), .bool false]) (by simp [results, Tryz.results25, go_sem, *]) rfl ?_
  exact Or.inr ⟨0, ⟨#[]⟩, none, 0, 0, false, ⟨#[]⟩, k + 3, by simp only [Int.natCast_add]; rfl, by omega, by rw [len_of]; omega, HNX.out.symm, d1⟩
set_option maxHeartbeats 1600000 in
set_option maxRecDepth 100000 in
theorem rs4_slashs (s A : ByteArray) (k : Nat) (w : World) (hk : k < s.size) (hs : s.size ≤ 268435456) (h1 : Plain.atTag (s.data.toList.drop k) = false) (h2 : [60, 33, 45, 45].isPrefixOf (s.data.toList.drop k) = false) (hsec : section_.isPrefixOf (s.data.toList.drop k) = false) (h9 : ¬ 9 ≤ s.size - k) (h4 : [60, 33].isPrefixOf (s.data.toList.drop k) = false) (h5 : [60, 63].isPrefixOf (s.data.toList.drop k) = false) (h6 : [60, 47, 62].isPrefixOf (s.data.toList.drop k) = false) (h7 : [60, 47].isPrefixOf (s.data.toList.drop k) = true) (hl2 : k + 2 < s.size) : Calls Tryz.prog 25 #[.string s, .int .i64 (k : Int), .int .i64 4, .string A] w (StepOut s.data.toList k 4 A.data.toList w) := by
  have HX := Lib.hid (ResW.start w)
  have hk' : k < s.data.toList.length := by rw [len_of]; exact hk
  have hst : (4 : Nat) = 0 ∨ (4 : Nat) = 4 := by omega
  have HXL := Lib.hid (from_list s k)
  have hXs : (s.extract k s.size).size = s.size - k := by simp
  have HAT := fun W => Lib.hid (rat_lex s k false hk hs h1 W)
  have HB2 := fun W => Lib.hid (rbeg_any (s.extract k s.size) ⟨#[60, 33, 45, 45]⟩ false W (by rw [from_list]; exact h2))
  have HBS := fun W => Lib.hid (rbeg_any (s.extract k s.size) ⟨#[60, 33, 91, 67, 68, 65, 84, 65, 91]⟩ false W (by rw [from_list]; exact hsec))
  have HB4 := fun W => Lib.hid (rbeg_any (s.extract k s.size) ⟨#[60, 33]⟩ false W (by rw [from_list]; exact h4))
  have HB5 := fun W => Lib.hid (rbeg_any (s.extract k s.size) ⟨#[60, 63]⟩ false W (by rw [from_list]; exact h5))
  have HB6 := fun W => Lib.hid (rbeg_any (s.extract k s.size) ⟨#[60, 47, 62]⟩ false W (by rw [from_list]; exact h6))
  have HB7 := fun W => Lib.hid (rbeg_any (s.extract k s.size) ⟨#[60, 47]⟩ true W (by rw [from_list]; exact h7))
  have q9 : ¬ (9 : Int) ≤ ((s.extract k s.size).size : Int) := by omega
  have q2 : (2 : Int) < ((s.extract k s.size).size : Int) := by omega
  have HNX := Lib.hid (case_slash s.data.toList k 4 A.data.toList hst h7 (by rw [len_of]; exact hl2) h1 h6)
  clear h1 h2 hsec h4 h5 h6 h7
  go_enter Tryz.func25, Tryz.ntmps25
  go_wp2_with fail
  generalize w.alloc (.cells #[.int .i64 0, .string ⟨#[]⟩, .slice none 0 0, .bool false, .string ⟨#[]⟩] 33) = W0 at *
  refine (HAT W0).out.mono ?_
  rintro e w9 ⟨rfl, rfl⟩
  go_wp2_with fail
  refine (HB2 W0).out.mono ?_
  rintro e w9 ⟨rfl, rfl⟩
  go_wp2_with fail
  refine (HBS W0).out.mono ?_
  rintro e w9 ⟨rfl, rfl⟩
  go_wp2_with fail
  refine (HB4 W0).out.mono ?_
  rintro e w9 ⟨rfl, rfl⟩
  go_wp2_with fail
  refine (HB5 W0).out.mono ?_
  rintro e w9 ⟨rfl, rfl⟩
  go_wp2_with fail
  refine (HB6 W0).out.mono ?_
  rintro e w9 ⟨rfl, rfl⟩
  go_wp2_with fail
  refine (HB7 W0).out.mono ?_
  rintro e w9 ⟨rfl, rfl⟩
  go_wp2_with fail
  refine (rnote_any s (k + 2) W0 (by omega) hs).mono ?_
  rintro e w2 ⟨v2, rfl, ha2, b2⟩
  have HX2 := Lib.hid (HX.out.on b2)
  obtain ⟨p2, cap2, hv2⟩ := ha2.form
  subst hv2
  have HA2 := Lib.hid ha2
  clear b2 ha2
  have hlt := HX2.out.lt
  have r0 := HX2.out.r 0
  have r1 := HX2.out.r 1
  have r2 := HX2.out.r 2
  have r3 := HX2.out.r 3
  have r4 := HX2.out.r 4
  have fr := HX2.out.fr
  generalize noteTo [[62]] s.data.toList (k + 2) = ST at *
  obtain ⟨⟨tk, tn, ta, ts, tt⟩, tb⟩ := ST
  go_wp2_with fail
  obtain ⟨d1, d2⟩ := HX2.out.done (HA2.out) (.int .i64 tk) (.string ⟨tn.toArray⟩) (.slice p2 ta.length cap2) (.bool ts) (.string ⟨tt.toArray⟩)
  refine bodyPost_ret (v := .tuple #[.agg #[.int .i64 tk, .string ⟨tn.toArray⟩, .slice p2 ta.length cap2, .bool ts, .string ⟨tt.toArray⟩], .int .i64 (tb : Int), .bool true]) (by simp [results, Tryz.results25, go_sem, *]) rfl ?_
  refine Or.inl ?_
  rw [HNX.out]
  exact ⟨_, rfl, d2, d1⟩
set_option maxHeartbeats 1600000 in
set_option maxRecDepth 100000 in
theorem rs4_texts (s A : ByteArray) (k : Nat) (w : World) (hk : k < s.size) (hs : s.size ≤ 268435456) (h1 : Plain.atTag (s.data.toList.drop k) = false) (h2 : [60, 33, 45, 45].isPrefixOf (s.data.toList.drop k) = false) (hsec : section_.isPrefixOf (s.data.toList.drop k) = false) (h9 : ¬ 9 ≤ s.size - k) (h4 : [60, 33].isPrefixOf (s.data.toList.drop k) = false) (h5 : [60, 63].isPrefixOf (s.data.toList.drop k) = false) (h6 : [60, 47, 62].isPrefixOf (s.data.toList.drop k) = false) (h7 : [60, 47].isPrefixOf (s.data.toList.drop k) = false) : Calls Tryz.prog 25 #[.string s, .int .i64 (k : Int), .int .i64 4, .string A] w (StepOut s.data.toList k 4 A.data.toList w) := by
  have HX := Lib.hid (ResW.start w)
  have hk' : k < s.data.toList.length := by rw [len_of]; exact hk
  have hst : (4 : Nat) = 0 ∨ (4 : Nat) = 4 := by omega
  have HXL := Lib.hid (from_list s k)
  have hXs : (s.extract k s.size).size = s.size - k := by simp
  have HAT := fun W => Lib.hid (rat_lex s k false hk hs h1 W)
  have HB2 := fun W => Lib.hid (rbeg_any (s.extract k s.size) ⟨#[60, 33, 45, 45]⟩ false W (by rw [from_list]; exact h2))
  have HBS := fun W => Lib.hid (rbeg_any (s.extract k s.size) ⟨#[60, 33, 91, 67, 68, 65, 84, 65, 91]⟩ false W (by rw [from_list]; exact hsec))
  have HB4 := fun W => Lib.hid (rbeg_any (s.extract k s.size) ⟨#[60, 33]⟩ false W (by rw [from_list]; exact h4))
  have HB5 := fun W => Lib.hid (rbeg_any (s.extract k s.size) ⟨#[60, 63]⟩ false W (by rw [from_list]; exact h5))
  have HB6 := fun W => Lib.hid (rbeg_any (s.extract k s.size) ⟨#[60, 47, 62]⟩ false W (by rw [from_list]; exact h6))
  have HB7 := fun W => Lib.hid (rbeg_any (s.extract k s.size) ⟨#[60, 47]⟩ false W (by rw [from_list]; exact h7))
  have q9 : ¬ (9 : Int) ≤ ((s.extract k s.size).size : Int) := by omega
  have q2 : ((s.extract k s.size).toList == [60, 47]) = false := by
    rw [text_is _ _ (from_list s k), beq_eq_false_iff_ne]
    intro q
    rw [q] at h7
    cases h7
  have HNX := Lib.hid (case_text s.data.toList k 4 A.data.toList hk' hst h1 h4 h5 (Or.inl h7))
  clear h1 h2 hsec h4 h5 h6 h7
  go_enter Tryz.func25, Tryz.ntmps25
  go_wp2_with fail
  generalize w.alloc (.cells #[.int .i64 0, .string ⟨#[]⟩, .slice none 0 0, .bool false, .string ⟨#[]⟩] 33) = W0 at *
  refine (HAT W0).out.mono ?_
  rintro e w9 ⟨rfl, rfl⟩
  go_wp2_with fail
  refine (HB2 W0).out.mono ?_
  rintro e w9 ⟨rfl, rfl⟩
  go_wp2_with fail
  refine (HBS W0).out.mono ?_
  rintro e w9 ⟨rfl, rfl⟩
  go_wp2_with fail
  refine (HB4 W0).out.mono ?_
  rintro e w9 ⟨rfl, rfl⟩
  go_wp2_with fail
  refine (HB5 W0).out.mono ?_
  rintro e w9 ⟨rfl, rfl⟩
  go_wp2_with fail
  refine (HB6 W0).out.mono ?_
  rintro e w9 ⟨rfl, rfl⟩
  go_wp2_with fail
  refine (HB7 W0).out.mono ?_
  rintro e w9 ⟨rfl, rfl⟩
  go_wp2_with fail
  go_loop [18] (fun v => ∃ i : Nat, v = .int .i64 (i : Int) ∧ 1 ≤ i ∧ i ≤ (s.extract k s.size).size ∧ upL [[60]] s.data.toList (k + 1) = upL [[60]] s.data.toList (k + i)) (fun v => s.size - (intOf v).toNat)
  case atStart => exact ⟨1, rfl, by omega, by omega, rfl⟩
  case round =>
    obtain ⟨i, rfl, hi1, hi2, hU⟩ := hrel
    have HU := Lib.hid hU
    clear hU
    by_cases hlt : i < (s.extract k s.size).size
    · have hki : k + i < s.size := by omega
      have hgx : (s.extract k s.size)[i] = s[k + i] := by
        have e2 : (s.extract k s.size).data.toList[i]? = (s.data.toList.drop k)[i]? := by rw [HXL.out]
        rw [List.getElem?_drop, List.getElem?_eq_getElem (by rw [len_of]; exact hlt), List.getElem?_eq_getElem (by rw [len_of]; exact hki)] at e2
        exact Option.some.inj e2
      have h8 : s[k + i].toNat < 256 := s[k + i].toNat_lt
      by_cases h60 : s[k + i] = 60
      · have hh : upL [[60]] s.data.toList (k + i) = (k + i, k + i + 1) := upL_hit _ _ _ (by rw [len_of]; exact hki) [60] (by rw [find_one, drop_at s (k + i) hki, h60]; rfl)
        have q60 : (((s.extract k s.size)[i].toNat : Int) != 60) = false := by rw [hgx, h60]; rfl
        have HH := Lib.hid (HU.out.trans hh)
        clear hh h60 hgx
        have hsl : ∀ W, (Instr.slice 9 (.string (s.extract k s.size)) none (some (.int .i64 (i : Int))) none).run Tryz.prog W = .ok (.string ((s.extract k s.size).extract 0 i)) W := fun W => slice_to (s.extract k s.size) i W (by omega)
        have HML : Hid (((s.extract k s.size).extract 0 i).data.toList = mid s.data.toList k (k + i)) := Lib.hid (by rw [head_of, from_list]; unfold mid; rw [List.drop_take, Nat.add_sub_cancel_left])
        have hMs : ((s.extract k s.size).extract 0 i).size ≤ 268435456 := by simp; omega
        generalize (s.extract k s.size).extract 0 i = M at *
        have HEX := fun W => Lib.hid (rexpand_any M false W (by omega))
        go_wp2_with fail
        refine (HEX W0).out.mono ?_
        rintro e w2 ⟨rfl, b2⟩
        have HX2 := Lib.hid (HX.out.on b2)
        clear b2 HX
        have hlt := HX2.out.lt
        have r0 := HX2.out.r 0
        have r1 := HX2.out.r 1
        have r2 := HX2.out.r 2
        have r3 := HX2.out.r 3
        have r4 := HX2.out.r 4
        have fr := HX2.out.fr
        go_wp2_with fail
        obtain ⟨d1, d2⟩ := HX2.out.done (AttrsAt.nil _) (.int .i64 3) (.string ⟨#[]⟩) (.slice none 0 0) (.bool false) (.string ⟨(Plain.expand M.data.toList false).toArray⟩)
        refine bodyPost_ret (v := .tuple #[.agg #[.int .i64 3, .string ⟨#[]⟩, .slice none 0 0, .bool false, .string ⟨(Plain.expand M.data.toList false).toArray⟩], .int .i64 ((k : Int) + (i : Int)), .bool true]) (by simp [results, Tryz.results25, go_sem, *]) rfl ?_
        refine Or.inl ?_
        rw [HNX.out, HH.out]
        simp only
        rw [← HML.out]
        exact ⟨_, by simp only [Int.natCast_add]; rfl, d2, d1⟩
      · have hh : upL [[60]] s.data.toList (k + i) = upL [[60]] s.data.toList (k + (i + 1)) := up_skip 60 _ _ (by rw [len_of]; exact hki) h60
        have q60 : (((s.extract k s.size)[i].toNat : Int) != 60) = true := by rw [hgx]; simp; intro q; exact h60 (UInt8.toNat_inj.1 (show s[k + i].toNat = 60 by omega))
        have HH := Lib.hid (HU.out.trans hh)
        clear hh h60 hgx
        go_wp2_with fail
        exact ⟨⟨i + 1, by go_num, by omega, by omega, HH.out⟩, by simp [intOf]; omega⟩
    · have hii : k + i = s.size := by omega
      have hh : upL [[60]] s.data.toList (k + i) = (s.size, s.size) := by rw [upL_end _ _ _ (by rw [len_of]; omega), len_of]
      have HH : Hid (upL [[60]] s.data.toList (k + 1) = (k + i, s.size)) := Lib.hid (by rw [HU.out, hh, hii])
      clear hh
      have hsl : ∀ W, (Instr.slice 9 (.string (s.extract k s.size)) none (some (.int .i64 (i : Int))) none).run Tryz.prog W = .ok (.string ((s.extract k s.size).extract 0 i)) W := fun W => slice_to (s.extract k s.size) i W (by omega)
      have HML : Hid (((s.extract k s.size).extract 0 i).data.toList = mid s.data.toList k (k + i)) := Lib.hid (by rw [head_of, from_list]; unfold mid; rw [List.drop_take, Nat.add_sub_cancel_left])
      have hMs : ((s.extract k s.size).extract 0 i).size ≤ 268435456 := by simp; omega
      generalize (s.extract k s.size).extract 0 i = M at *
      have HEX := fun W => Lib.hid (rexpand_any M false W (by omega))
      go_wp2_with fail
      refine (HEX W0).out.mono ?_
      rintro e w2 ⟨rfl, b2⟩
      have HX2 := Lib.hid (HX.out.on b2)
      clear b2 HX
      have hlt := HX2.out.lt
      have r0 := HX2.out.r 0
      have r1 := HX2.out.r 1
      have r2 := HX2.out.r 2
      have r3 := HX2.out.r 3
      have r4 := HX2.out.r 4
      have fr := HX2.out.fr
      go_wp2_with fail
      obtain ⟨d1, d2⟩ := HX2.out.done (AttrsAt.nil _) (.int .i64 3) (.string ⟨#[]⟩) (.slice none 0 0) (.bool false) (.string ⟨(Plain.expand M.data.toList false).toArray⟩)
      refine bodyPost_ret (v := .tuple #[.agg #[.int .i64 3, .string ⟨#[]⟩, .slice none 0 0, .bool false, .string ⟨(Plain.expand M.data.toList false).toArray⟩], .int .i64 ((k : Int) + (i : Int)), .bool true]) (by simp [results, Tryz.results25, go_sem, *]) rfl ?_
      refine Or.inl ?_
      rw [HNX.out, HH.out]
      simp only
      rw [← HML.out]
      exact ⟨_, by simp only [Int.natCast_add]; rfl, d2, d1⟩
set_option maxHeartbeats 1600000 in
set_option maxRecDepth 100000 in
theorem rs4_pair (s A : ByteArray) (k : Nat) (w : World) (hk : k < s.size) (hs : s.size ≤ 268435456) (h1 : Plain.atTag (s.data.toList.drop k) = false) (h2 : [60, 33, 45, 45].isPrefixOf (s.data.toList.drop k) = false) (hsec : section_.isPrefixOf (s.data.toList.drop k) = false) (h9 : ¬ 9 ≤ s.size - k) (h4 : [60, 33].isPrefixOf (s.data.toList.drop k) = false) (h5 : [60, 63].isPrefixOf (s.data.toList.drop k) = false) (h6 : [60, 47, 62].isPrefixOf (s.data.toList.drop k) = false) (h7 : [60, 47].isPrefixOf (s.data.toList.drop k) = true) (hl2 : ¬ k + 2 < s.size) : Calls Tryz.prog 25 #[.string s, .int .i64 (k : Int), .int .i64 4, .string A] w (StepOut s.data.toList k 4 A.data.toList w) := by
  have HX := Lib.hid (ResW.start w)
  have hk' : k < s.data.toList.length := by rw [len_of]; exact hk
  have hst : (4 : Nat) = 0 ∨ (4 : Nat) = 4 := by omega
  have HXL := Lib.hid (from_list s k)
  have hXs : (s.extract k s.size).size = s.size - k := by simp
  have HAT := fun W => Lib.hid (rat_lex s k false hk hs h1 W)
  have HB2 := fun W => Lib.hid (rbeg_any (s.extract k s.size) ⟨#[60, 33, 45, 45]⟩ false W (by rw [from_list]; exact h2))
  have HBS := fun W => Lib.hid (rbeg_any (s.extract k s.size) ⟨#[60, 33, 91, 67, 68, 65, 84, 65, 91]⟩ false W (by rw [from_list]; exact hsec))
  have HB4 := fun W => Lib.hid (rbeg_any (s.extract k s.size) ⟨#[60, 33]⟩ false W (by rw [from_list]; exact h4))
  have HB5 := fun W => Lib.hid (rbeg_any (s.extract k s.size) ⟨#[60, 63]⟩ false W (by rw [from_list]; exact h5))
  have HB6 := fun W => Lib.hid (rbeg_any (s.extract k s.size) ⟨#[60, 47, 62]⟩ false W (by rw [from_list]; exact h6))
  have HB7 := fun W => Lib.hid (rbeg_any (s.extract k s.size) ⟨#[60, 47]⟩ true W (by rw [from_list]; exact h7))
  have q9 : ¬ (9 : Int) ≤ ((s.extract k s.size).size : Int) := by omega
  have q2 : ¬ (2 : Int) < ((s.extract k s.size).size : Int) := by omega
  have hp2 := isPrefix_drop _ _ k h7
  rw [len_of] at hp2
  simp at hp2
  have q2b : ((s.extract k s.size).toList == [60, 47]) = true := by
    rw [text_is _ _ (from_list s k), beq_iff_eq]
    obtain ⟨r, hr⟩ := prefix_split _ _ h7
    have hln := congrArg List.length hr
    rw [List.length_drop, len_of, List.length_append] at hln
    simp at hln
    rw [hr, List.eq_nil_of_length_eq_zero (show r.length = 0 by omega)]
    rfl
  have hsk : upL [[60]] s.data.toList (k + 1) = upL [[60]] s.data.toList (k + 2) := by
    obtain ⟨r, hr⟩ := prefix_split _ _ h7
    have hg : s.data.toList[k + 1]? = some 47 := by
      have : (s.data.toList.drop k)[1]? = some 47 := by rw [hr]; rfl
      rwa [List.getElem?_drop] at this
    have hl1 : k + 1 < s.data.toList.length := by rw [len_of]; omega
    rw [List.getElem?_eq_getElem hl1] at hg
    exact up_skip 60 _ _ hl1 (by rw [Option.some.inj hg]; decide)
  have HNX := Lib.hid (case_text s.data.toList k 4 A.data.toList hk' hst h1 h4 h5 (Or.inr (by rw [len_of]; exact hl2)))
  rw [hsk] at HNX
  clear hsk
  clear h1 h2 hsec h4 h5 h6 h7
  go_enter Tryz.func25, Tryz.ntmps25
  go_wp2_with fail
  generalize w.alloc (.cells #[.int .i64 0, .string ⟨#[]⟩, .slice none 0 0, .bool false, .string ⟨#[]⟩] 33) = W0 at *
  refine (HAT W0).out.mono ?_
  rintro e w9 ⟨rfl, rfl⟩
  go_wp2_with fail
  refine (HB2 W0).out.mono ?_
  rintro e w9 ⟨rfl, rfl⟩
  go_wp2_with fail
  refine (HBS W0).out.mono ?_
  rintro e w9 ⟨rfl, rfl⟩
  go_wp2_with fail
  refine (HB4 W0).out.mono ?_
  rintro e w9 ⟨rfl, rfl⟩
  go_wp2_with fail
  refine (HB5 W0).out.mono ?_
  rintro e w9 ⟨rfl, rfl⟩
  go_wp2_with fail
  refine (HB6 W0).out.mono ?_
  rintro e w9 ⟨rfl, rfl⟩
  go_wp2_with fail
  refine (HB7 W0).out.mono ?_
  rintro e w9 ⟨rfl, rfl⟩
  go_wp2_with fail
  go_loop [18] (fun v => ∃ i : Nat, v = .int .i64 (i : Int) ∧ 1 ≤ i ∧ i ≤ (s.extract k s.size).size ∧ upL [[60]] s.data.toList (k + 2) = upL [[60]] s.data.toList (k + i)) (fun v => s.size - (intOf v).toNat)
  case atStart => exact ⟨2, rfl, by omega, by omega, rfl⟩
  case round =>
    obtain ⟨i, rfl, hi1, hi2, hU⟩ := hrel
    have HU := Lib.hid hU
    clear hU
    by_cases hlt : i < (s.extract k s.size).size
    · have hki : k + i < s.size := by omega
      have hgx : (s.extract k s.size)[i] = s[k + i] := by
        have e2 : (s.extract k s.size).data.toList[i]? = (s.data.toList.drop k)[i]? := by rw [HXL.out]
        rw [List.getElem?_drop, List.getElem?_eq_getElem (by rw [len_of]; exact hlt), List.getElem?_eq_getElem (by rw [len_of]; exact hki)] at e2
        exact Option.some.inj e2
      have h8 : s[k + i].toNat < 256 := s[k + i].toNat_lt
      by_cases h60 : s[k + i] = 60
      · have hh : upL [[60]] s.data.toList (k + i) = (k + i, k + i + 1) := upL_hit _ _ _ (by rw [len_of]; exact hki) [60] (by rw [find_one, drop_at s (k + i) hki, h60]; rfl)
        have q60 : (((s.extract k s.size)[i].toNat : Int) != 60) = false := by rw [hgx, h60]; rfl
        have HH := Lib.hid (HU.out.trans hh)
        clear hh h60 hgx
        have hsl : ∀ W, (Instr.slice 9 (.string (s.extract k s.size)) none (some (.int .i64 (i : Int))) none).run Tryz.prog W = .ok (.string ((s.extract k s.size).extract 0 i)) W := fun W => slice_to (s.extract k s.size) i W (by omega)
        have HML : Hid (((s.extract k s.size).extract 0 i).data.toList = mid s.data.toList k (k + i)) := Lib.hid (by rw [head_of, from_list]; unfold mid; rw [List.drop_take, Nat.add_sub_cancel_left])
        have hMs : ((s.extract k s.size).extract 0 i).size ≤ 268435456 := by simp; omega
        generalize (s.extract k s.size).extract 0 i = M at *
        have HEX := fun W => Lib.hid (rexpand_any M false W (by omega))
        go_wp2_with fail
        refine (HEX W0).out.mono ?_
        rintro e w2 ⟨rfl, b2⟩
        have HX2 := Lib.hid (HX.out.on b2)
        clear b2 HX
        have hlt := HX2.out.lt
        have r0 := HX2.out.r 0
        have r1 := HX2.out.r 1
        have r2 := HX2.out.r 2
        have r3 := HX2.out.r 3
        have r4 := HX2.out.r 4
        have fr := HX2.out.fr
        go_wp2_with fail
        obtain ⟨d1, d2⟩ := HX2.out.done (AttrsAt.nil _) (.int .i64 3) (.string ⟨#[]⟩) (.slice none 0 0) (.bool false) (.string ⟨(Plain.expand M.data.toList false).toArray⟩)
        refine bodyPost_ret (v := .tuple #[.agg #[.int .i64 3, .string ⟨#[]⟩, .slice none 0 0, .bool false, .string ⟨(Plain.expand M.data.toList false).toArray⟩], .int .i64 ((k : Int) + (i : Int)), .bool true]) (by simp [results, Tryz.results25, go_sem, *]) rfl ?_
        refine Or.inl ?_
        rw [HNX.out, HH.out]
        simp only
        rw [← HML.out]
        exact ⟨_, by simp only [Int.natCast_add]; rfl, d2, d1⟩
      · have hh : upL [[60]] s.data.toList (k + i) = upL [[60]] s.data.toList (k + (i + 1)) := up_skip 60 _ _ (by rw [len_of]; exact hki) h60
        have q60 : (((s.extract k s.size)[i].toNat : Int) != 60) = true := by rw [hgx]; simp; intro q; exact h60 (UInt8.toNat_inj.1 (show s[k + i].toNat = 60 by omega))
        have HH := Lib.hid (HU.out.trans hh)
        clear hh h60 hgx
        go_wp2_with fail
        exact ⟨⟨i + 1, by go_num, by omega, by omega, HH.out⟩, by simp [intOf]; omega⟩
    · have hii : k + i = s.size := by omega
      have hh : upL [[60]] s.data.toList (k + i) = (s.size, s.size) := by rw [upL_end _ _ _ (by rw [len_of]; omega), len_of]
      have HH : Hid (upL [[60]] s.data.toList (k + 2) = (k + i, s.size)) := Lib.hid (by rw [HU.out, hh, hii])
      clear hh
      have hsl : ∀ W, (Instr.slice 9 (.string (s.extract k s.size)) none (some (.int .i64 (i : Int))) none).run Tryz.prog W = .ok (.string ((s.extract k s.size).extract 0 i)) W := fun W => slice_to (s.extract k s.size) i W (by omega)
      have HML : Hid (((s.extract k s.size).extract 0 i).data.toList = mid s.data.toList k (k + i)) := Lib.hid (by rw [head_of, from_list]; unfold mid; rw [List.drop_take, Nat.add_sub_cancel_left])
      have hMs : ((s.extract k s.size).extract 0 i).size ≤ 268435456 := by simp; omega
      generalize (s.extract k s.size).extract 0 i = M at *
      have HEX := fun W => Lib.hid (rexpand_any M false W (by omega))
      go_wp2_with fail
      refine (HEX W0).out.mono ?_
      rintro e w2 ⟨rfl, b2⟩
      have HX2 := Lib.hid (HX.out.on b2)
      clear b2 HX
      have hlt := HX2.out.lt
      have r0 := HX2.out.r 0
      have r1 := HX2.out.r 1
      have r2 := HX2.out.r 2
      have r3 := HX2.out.r 3
      have r4 := HX2.out.r 4
      have fr := HX2.out.fr
      go_wp2_with fail
      obtain ⟨d1, d2⟩ := HX2.out.done (AttrsAt.nil _) (.int .i64 3) (.string ⟨#[]⟩) (.slice none 0 0) (.bool false) (.string ⟨(Plain.expand M.data.toList false).toArray⟩)
      refine bodyPost_ret (v := .tuple #[.agg #[.int .i64 3, .string ⟨#[]⟩, .slice none 0 0, .bool false, .string ⟨(Plain.expand M.data.toList false).toArray⟩], .int .i64 ((k : Int) + (i : Int)), .bool true]) (by simp [results, Tryz.results25, go_sem, *]) rfl ?_
      refine Or.inl ?_
      rw [HNX.out, HH.out]
      simp only
      rw [← HML.out]
      exact ⟨_, by simp only [Int.natCast_add]; rfl, d2, d1⟩
set_option maxHeartbeats 1600000 in
set_option maxRecDepth 100000 in
theorem rs4_type (s A : ByteArray) (k : Nat) (w : World) (hk : k < s.size) (hs : s.size ≤ 268435456) (h1 : Plain.atTag (s.data.toList.drop k) = false) (h2 : [60, 33, 45, 45].isPrefixOf (s.data.toList.drop k) = false) (hsec : section_.isPrefixOf (s.data.toList.drop k) = false) (h9 : 9 ≤ s.size - k) (h3 : begF doctype (s.data.toList.drop k) = true) : Calls Tryz.prog 25 #[.string s, .int .i64 (k : Int), .int .i64 4, .string A] w (StepOut s.data.toList k 4 A.data.toList w) := by
  have HX := Lib.hid (ResW.start w)
  have hk' : k < s.data.toList.length := by rw [len_of]; exact hk
  have hst : (4 : Nat) = 0 ∨ (4 : Nat) = 4 := by omega
  have HXL := Lib.hid (from_list s k)
  have hXs : (s.extract k s.size).size = s.size - k := by simp
  have HAT := fun W => Lib.hid (rat_lex s k false hk hs h1 W)
  have HB2 := fun W => Lib.hid (rbeg_any (s.extract k s.size) ⟨#[60, 33, 45, 45]⟩ false W (by rw [from_list]; exact h2))
  have HBS := fun W => Lib.hid (rbeg_any (s.extract k s.size) ⟨#[60, 33, 91, 67, 68, 65, 84, 65, 91]⟩ false W (by rw [from_list]; exact hsec))
  have q9 : (9 : Int) ≤ ((s.extract k s.size).size : Int) := by omega
  have hsl9 : ∀ W, (Instr.slice 9 (.string (s.extract k s.size)) none (some (.int .i64 9)) none).run Tryz.prog W = .ok (.string ((s.extract k s.size).extract 0 9)) W := fun W => slice_to (s.extract k s.size) 9 W (by omega)
  have HFO := fun W => Lib.hid (rfold_any ((s.extract k s.size).extract 0 9) W (by unfold maxLen; simp; omega))
  rw [head_of, from_list] at HFO
  obtain ⟨FX, hFX, hFXl⟩ : ∃ FX : ByteArray, (⟨(Plain.fold ((s.data.toList.drop k).take 9)).toArray⟩ : ByteArray) = FX ∧ FX.data.toList = Plain.fold ((s.data.toList.drop k).take 9) := ⟨_, rfl, rfl⟩
  rw [hFX] at HFO
  have qd : (FX.toList == doctype) = true := by
    rw [← h3, begF_take doctype, Lib.toList_data, hFXl, decide_eq_true (by rw [List.length_drop, len_of]; exact h9), Bool.true_and]
    rfl
  unfold doctype at qd
  clear hFX hFXl
  generalize (s.extract k s.size).extract 0 9 = X9 at *
  obtain ⟨hn1, hn2, hn3⟩ := case_doctype s.data.toList k 4 A.data.toList hst h3
  have HU := fun W => Lib.hid (rupTo_any s ⟨#[62]⟩ (k + 9) W (by omega) (by decide) hs (by decide))
  rw [show (⟨#[62]⟩ : ByteArray).data.toList = [62] from rfl] at HU
  unfold upV at HU
  have HNX := Lib.hid hn1
  clear hn1
  generalize upL [[62]] s.data.toList (k + 9) = U at *
  obtain ⟨ua, ub⟩ := U
  simp only at hn2 hn3 HU
  rw [show ((k + 9 : Nat) : Int) = (k : Int) + 9 by omega] at HU
  rw [len_of] at hn3
  clear h1 h2 hsec h3
  go_enter Tryz.func25, Tryz.ntmps25
  go_wp2_with fail
  generalize w.alloc (.cells #[.int .i64 0, .string ⟨#[]⟩, .slice none 0 0, .bool false, .string ⟨#[]⟩] 33) = W0 at *
  refine (HAT W0).out.mono ?_
  rintro e w9 ⟨rfl, rfl⟩
  go_wp2_with fail
  refine (HB2 W0).out.mono ?_
  rintro e w9 ⟨rfl, rfl⟩
  go_wp2_with fail
  refine (HBS W0).out.mono ?_
  rintro e w9 ⟨rfl, rfl⟩
  go_wp2_with fail
  refine (HFO W0).out.mono ?_
  rintro e w1 ⟨rfl, b1⟩
  have HX1 := Lib.hid (HX.out.on b1)
  clear b1 HX
  go_wp2_with fail
  refine (HU w1).out.mono ?_
  rintro e w9 ⟨rfl, rfl⟩
  have hlt := HX1.out.lt
  have r0 := HX1.out.r 0
  have r1 := HX1.out.r 1
  have r2 := HX1.out.r 2
  have r3 := HX1.out.r 3
  have r4 := HX1.out.r 4
  have fr := HX1.out.fr
  go_wp2_with fail
  obtain ⟨d1, d2⟩ := HX1.out.done (AttrsAt.nil _) (.int .i64 0) (.string ⟨#[]⟩) (.slice none 0 0) (.bool false) (.string ⟨#[]⟩)
  refine bodyPost_ret (v := .tuple #[.agg #[.int .i64 0, .string ⟨#[]⟩, .slice none 0 0, .bool false, .string ⟨#[]⟩], .int .i64 (ub : Int), .bool false]) (by simp [results, Tryz.results25, go_sem, *]) rfl ?_
  exact Or.inr ⟨0, ⟨#[]⟩, none, 0, 0, false, ⟨#[]⟩, ub, rfl, hn2, by rw [len_of]; exact hn3, HNX.out.symm, d1⟩
set_option maxHeartbeats 1600000 in
set_option maxRecDepth 100000 in
theorem rs4_sect (s A : ByteArray) (k : Nat) (w : World) (hk : k < s.size) (hs : s.size ≤ 268435456) (h1 : Plain.atTag (s.data.toList.drop k) = false) (h2 : [60, 33, 45, 45].isPrefixOf (s.data.toList.drop k) = false) (hsec : section_.isPrefixOf (s.data.toList.drop k) = true) : Calls Tryz.prog 25 #[.string s, .int .i64 (k : Int), .int .i64 4, .string A] w (StepOut s.data.toList k 4 A.data.toList w) := by
  have HX := Lib.hid (ResW.start w)
  have hk' : k < s.data.toList.length := by rw [len_of]; exact hk
  have hst : (4 : Nat) = 0 ∨ (4 : Nat) = 4 := by omega
  have HXL := Lib.hid (from_list s k)
  have hXs : (s.extract k s.size).size = s.size - k := by simp
  have HAT := fun W => Lib.hid (rat_lex s k false hk hs h1 W)
  have HB2 := fun W => Lib.hid (rbeg_any (s.extract k s.size) ⟨#[60, 33, 45, 45]⟩ false W (by rw [from_list]; exact h2))
  have HBS := fun W => Lib.hid (rbeg_any (s.extract k s.size) ⟨#[60, 33, 91, 67, 68, 65, 84, 65, 91]⟩ true W (by rw [from_list]; exact hsec))
  have HNX := Lib.hid (case_section s.data.toList k A.data.toList hk' hsec)
  have hp2 := isPrefix_drop _ _ k hsec
  rw [len_of] at hp2
  simp [section_] at hp2
  have HU := fun W => Lib.hid (rupTo_any s ⟨#[93, 93, 62]⟩ (k + 9) W (by omega) (by decide) hs (by decide))
  rw [show (⟨#[93, 93, 62]⟩ : ByteArray).data.toList = [93, 93, 62] from rfl] at HU
  unfold upV at HU
  generalize upL [[93, 93, 62]] s.data.toList (k + 9) = U at *
  obtain ⟨ua, ub⟩ := U
  simp only at HU
  rw [show ((k + 9 : Nat) : Int) = (k : Int) + 9 by omega] at HU
  generalize mid s.data.toList (k + 9) ua = M at *
  clear h1 h2 hsec
  go_enter Tryz.func25, Tryz.ntmps25
  go_wp2_with fail
  generalize w.alloc (.cells #[.int .i64 0, .string ⟨#[]⟩, .slice none 0 0, .bool false, .string ⟨#[]⟩] 33) = W0 at *
  refine (HAT W0).out.mono ?_
  rintro e w9 ⟨rfl, rfl⟩
  go_wp2_with fail
  refine (HB2 W0).out.mono ?_
  rintro e w9 ⟨rfl, rfl⟩
  go_wp2_with fail
  refine (HBS W0).out.mono ?_
  rintro e w9 ⟨rfl, rfl⟩
  go_wp2_with fail
  refine (HU W0).out.mono ?_
  rintro e w9 ⟨rfl, rfl⟩
  have hlt := HX.out.lt
  have r0 := HX.out.r 0
  have r1 := HX.out.r 1
  have r2 := HX.out.r 2
  have r3 := HX.out.r 3
  have r4 := HX.out.r 4
  have fr := HX.out.fr
  go_wp2_with fail
  obtain ⟨d1, d2⟩ := HX.out.done (AttrsAt.nil _) (.int .i64 3) (.string ⟨#[]⟩) (.slice none 0 0) (.bool false) (.string ⟨M.toArray⟩)
  refine bodyPost_ret (v := .tuple #[.agg #[.int .i64 3, .string ⟨#[]⟩, .slice none 0 0, .bool false, .string ⟨M.toArray⟩], .int .i64 (ub : Int), .bool true]) (by simp [results, Tryz.results25, go_sem, *]) rfl ?_
  refine Or.inl ?_
  rw [HNX.out]
  exact ⟨_, rfl, d2, d1⟩
set_option maxHeartbeats 1600000 in
set_option maxRecDepth 100000 in
theorem rs4_mark (s A : ByteArray) (k : Nat) (w : World) (hk : k < s.size) (hs : s.size ≤ 268435456) (h1 : Plain.atTag (s.data.toList.drop k) = false) (h2 : [60, 33, 45, 45].isPrefixOf (s.data.toList.drop k) = true) : Calls Tryz.prog 25 #[.string s, .int .i64 (k : Int), .int .i64 4, .string A] w (StepOut s.data.toList k 4 A.data.toList w) := by
  have HX := Lib.hid (ResW.start w)
  have hk' : k < s.data.toList.length := by rw [len_of]; exact hk
  have hst : (4 : Nat) = 0 ∨ (4 : Nat) = 4 := by omega
  have HXL := Lib.hid (from_list s k)
  have hXs : (s.extract k s.size).size = s.size - k := by simp
  have HAT := fun W => Lib.hid (rat_lex s k false hk hs h1 W)
  have HB2 := fun W => Lib.hid (rbeg_any (s.extract k s.size) ⟨#[60, 33, 45, 45]⟩ true W (by rw [from_list]; exact h2))
  have HNX := Lib.hid (case_remark s.data.toList k 4 A.data.toList hk' hst h2)
  have hp2 := isPrefix_drop _ _ k h2
  rw [len_of] at hp2
  simp at hp2
  clear h1 h2
  go_enter Tryz.func25, Tryz.ntmps25
  go_wp2_with fail
  generalize w.alloc (.cells #[.int .i64 0, .string ⟨#[]⟩, .slice none 0 0, .bool false, .string ⟨#[]⟩] 33) = W0 at *
  refine (HAT W0).out.mono ?_
  rintro e w9 ⟨rfl, rfl⟩
  go_wp2_with fail
  refine (HB2 W0).out.mono ?_
  rintro e w9 ⟨rfl, rfl⟩
  go_wp2_with fail
  refine (rremark_any s (k + 4) W0 (by omega) hs).mono ?_
  rintro e w2 ⟨v2, rfl, ha2, b2⟩
  have HX2 := Lib.hid (HX.out.on b2)
  obtain ⟨p2, cap2, hv2⟩ := ha2.form
  subst hv2
  have HA2 := Lib.hid ha2
  clear b2 ha2
  have hlt := HX2.out.lt
  have r0 := HX2.out.r 0
  have r1 := HX2.out.r 1
  have r2 := HX2.out.r 2
  have r3 := HX2.out.r 3
  have r4 := HX2.out.r 4
  have fr := HX2.out.fr
  generalize remarkT s.data.toList (k + 4) = ST at *
  obtain ⟨⟨tk, tn, ta, ts, tt⟩, tb⟩ := ST
  go_wp2_with fail
  obtain ⟨d1, d2⟩ := HX2.out.done (HA2.out) (.int .i64 tk) (.string ⟨tn.toArray⟩) (.slice p2 ta.length cap2) (.bool ts) (.string ⟨tt.toArray⟩)
  refine bodyPost_ret (v := .tuple #[.agg #[.int .i64 tk, .string ⟨tn.toArray⟩, .slice p2 ta.length cap2, .bool ts, .string ⟨tt.toArray⟩], .int .i64 (tb : Int), .bool true]) (by simp [results, Tryz.results25, go_sem, *]) rfl ?_
  refine Or.inl ?_
  rw [HNX.out]
  exact ⟨_, rfl, d2, d1⟩
set_option maxHeartbeats 1600000 in
set_option maxRecDepth 100000 in
theorem rs4_tag (s A : ByteArray) (k : Nat) (w : World) (hk : k < s.size) (hs : s.size ≤ 268435456) (h1 : Plain.atTag (s.data.toList.drop k) = true) : Calls Tryz.prog 25 #[.string s, .int .i64 (k : Int), .int .i64 4, .string A] w (StepOut s.data.toList k 4 A.data.toList w) := by
  have HX := Lib.hid (ResW.start w)
  have hk' : k < s.data.toList.length := by rw [len_of]; exact hk
  have hst : (4 : Nat) = 0 ∨ (4 : Nat) = 4 := by omega
  have HXL := Lib.hid (from_list s k)
  have hXs : (s.extract k s.size).size = s.size - k := by simp
  have HAT := fun W => Lib.hid (rat_lex s k true hk hs h1 W)
  have HTC := Lib.hid (read_step s.data.toList k 4 A.data.toList hk' (case_tag s.data.toList k 4 A.data.toList hst h1))
  have HRD := fun W => Lib.hid (rread_tk s k W (place_at s k hk h1) hs)
  clear h1
  go_enter Tryz.func25, Tryz.ntmps25
  go_wp2_with fail
  generalize w.alloc (.cells #[.int .i64 0, .string ⟨#[]⟩, .slice none 0 0, .bool false, .string ⟨#[]⟩] 33) = W0 at *
  refine (HAT W0).out.mono ?_
  rintro e w9 ⟨rfl, rfl⟩
  go_wp2_with fail
  refine (HRD W0).out.mono ?_
  rintro e w3 ⟨v3, rfl, ha3, b3⟩
  obtain ⟨p3, cap3, hv3⟩ := ha3.form
  subst hv3
  have HX3 := Lib.hid (HX.out.on b3)
  have HA3 := Lib.hid ha3
  clear b3 ha3 HRD
  have hlt := HX3.out.lt
  have r0 := HX3.out.r 0
  have r1 := HX3.out.r 1
  have r2 := HX3.out.r 2
  have r3 := HX3.out.r 3
  have r4 := HX3.out.r 4
  have fr := HX3.out.fr
  generalize tagT s.data.toList k = T at *
  obtain ⟨K, nm, rs, sf, bh⟩ := T
  simp only at HTC
  by_cases hK : K = 0
  · subst hK
    go_wp2_with fail
    go_region_with (fail)
    all_goals
      go_wp2_with fail
      try go_simp
      obtain ⟨d1, d2⟩ := HX3.out.done (HA3.out) (.int .i64 0) (.string ⟨nm.toArray⟩) (.slice p3 rs.length cap3) (.bool sf) (.string ⟨#[]⟩)
      refine bodyPost_ret (v := .tuple #[.agg #[.int .i64 0, .string ⟨nm.toArray⟩, .slice p3 rs.length cap3, .bool sf, .string ⟨#[]⟩], .int .i64 (bh : Int), .bool false]) (by simp [results, Tryz.results25, go_sem, *]) rfl ?_
      exact Or.inr ⟨0, _, p3, rs.length, cap3, sf, _, bh, rfl, (HTC.out.1 trivial).1, (HTC.out.1 trivial).2.1, (HTC.out.1 trivial).2.2, (d1.alloc d1.size _).drew⟩
  · have q1 : (K != 0) = true := by simp [hK]
    have HNX := Lib.hid (HTC.out.2 hK)
    clear hK HTC
    go_wp2_with fail
    go_region_with (fail)
    all_goals
      go_wp2_with fail
      try go_simp
      obtain ⟨d1, d2⟩ := HX3.out.done (HA3.out) (.int .i64 K) (.string ⟨nm.toArray⟩) (.slice p3 rs.length cap3) (.bool sf) (.string ⟨#[]⟩)
      refine bodyPost_ret (v := .tuple #[.agg #[.int .i64 K, .string ⟨nm.toArray⟩, .slice p3 rs.length cap3, .bool sf, .string ⟨#[]⟩], .int .i64 (bh : Int), .bool true]) (by simp [results, Tryz.results25, go_sem, *]) rfl ?_
      refine Or.inl ?_
      rw [HNX.out]
      exact ⟨_, rfl, d2.below (((Below.refl _ _).alloc (Nat.le_refl _) _).drew), (d1.alloc d1.size _).drew⟩
end Go.Proofs.YtgelgfgcdfnacaaGreatDoor
