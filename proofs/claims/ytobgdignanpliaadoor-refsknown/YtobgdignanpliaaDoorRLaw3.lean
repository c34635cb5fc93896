/-
  The walks of digits and of the laws RefsDigits, RefsKnown: true, and nothing old is changed. The program's table holds what its text lays.
-/
import Derived.Test.YtobgdignanpliaaDoorRLaw2
import Derived.Deep.RegionWith
namespace Go.Proofs.YtobgdignanpliaaDoor
open Go.RowKit

/-- The text of all digits. -/
def digText : ByteArray := ⟨#[48, 49, 50, 51, 52, 53, 54, 55, 56, 57, 97, 98, 99, 100, 101, 102]⟩
theorem dig_piece : ∀ k, k < 16 → (digText.extract k (k + 1)).data.toList = [Plain.digitB k] := by decide
theorem dig_slice (k : Nat) (h : k < 16) (W : World) : (Instr.slice 9 (.string ⟨#[48, 49, 50, 51, 52, 53, 54, 55, 56, 57, 97, 98, 99, 100, 101, 102]⟩) (some (.int .i64 (k : Int))) (some (.int .i64 ((k : Int) + 1))) none).run Tryd.prog W = .ok (.string ⟨#[Plain.digitB k]⟩) W := by
  have hz : digText.size = 16 := rfl
  have := slice_byte digText k W (by omega)
  have e : digText.extract k (k + 1) = ⟨#[Plain.digitB k]⟩ := by
    apply ByteArray.ext
    apply Array.toList_inj.1
    rw [dig_piece k h]
  rw [e] at this
  exact this
theorem valD_cons (base v : Nat) (c : UInt8) (l : List UInt8) : Plain.valD base v (c :: l) = Plain.valD base (v * base + Plain.digV c) l := rfl

/-- What digits tells of a number. -/
def DigitsOut (n base : Nat) (w : World) (e : Ending) (w' : World) : Prop := ∃ D : List UInt8, e = .returned (.string ⟨D.toArray⟩) ∧ Plain.AllDig base D ∧ Plain.valD base 0 D = n ∧ D ≠ [] ∧ D.length ≤ n + 1 ∧ w = w'

set_option maxHeartbeats 1000000 in
set_option maxRecDepth 100000 in
theorem digits_10 (n : Nat) (w : World) (hn : n < 1179648) : Calls Tryd.prog 20 #[.int .i64 (n : Int), .int .i64 10] w (DigitsOut n 10 w) := by
  go_enter Tryd.func20, Tryd.ntmps20
  go_wp2
  go_loop [0, 6] (fun x y => ∃ (m : Nat) (S : List UInt8), x = .int .i64 (m : Int) ∧ y = .string ⟨S.toArray⟩ ∧ Plain.AllDig 10 S ∧ Plain.valD 10 m S = n ∧ S.length + m ≤ n) (fun x _ => (intOf x).toNat)
  case atStart => exact ⟨n, [], rfl, rfl, (fun c hc => absurd hc (by simp)), rfl, by simp⟩
  case round =>
    obtain ⟨m, S, rfl, rfl, hA, hV, hL⟩ := hrel
    have HA := Lib.hid hA
    have HVV := Lib.hid hV
    clear hA hV
    have hsz : (⟨S.toArray⟩ : ByteArray).size ≤ 1179648 := by show S.toArray.size ≤ _; rw [List.size_toArray]; omega
    by_cases hb : 10 ≤ m
    · obtain ⟨r, hr⟩ : ∃ r, m % 10 = r := ⟨_, rfl⟩
      obtain ⟨q, hq⟩ : ∃ q, m / 10 = q := ⟨_, rfl⟩
      have hr2 : r < 10 := by omega
      have hqr : q * 10 + r = m := by omega
      have hq2 : q < m := by omega
      have e1 : (m : Int) % 10 = (r : Int) := by omega
      have e2 : (m : Int) / 10 = (q : Int) := by omega
      have hsl := fun W => dig_slice r (by omega) W
      have hdv := Plain.digitB_val r (by omega)
      have HQ := Lib.hid hqr
      have HDV := Lib.hid hdv
      clear hr hq hqr hdv
      generalize Plain.digitB r = c at *
      go_wp2
      refine ⟨⟨q, c :: S, rfl, ?_, ?_, ?_, by simp; omega⟩, by simp [intOf]; omega⟩
      · exact congrArg Value.string (str_app [c] S)
      · intro x hx
        rw [List.mem_cons] at hx
        rcases hx with rfl | hx
        · rw [HDV.out]; exact hr2
        · exact HA.out x hx
      · rw [valD_cons, HDV.out, HQ.out]; exact HVV.out
    · have hsl := fun W => dig_slice m (by omega) W
      have hdv := Plain.digitB_val m (by omega)
      have HDV := Lib.hid hdv
      clear hdv
      generalize Plain.digitB m = c at *
      go_wp2
      go_ret
      refine ⟨c :: S, ?_, ?_, ?_, by simp, by simp; omega, rfl⟩
      · exact congrArg (fun v => Ending.returned (Value.string v)) (str_app [c] S)
      · intro x hx
        rw [List.mem_cons] at hx
        rcases hx with rfl | hx
        · rw [HDV.out]; omega
        · exact HA.out x hx
      · rw [valD_cons, HDV.out, Nat.zero_mul, Nat.zero_add]; exact HVV.out

set_option maxHeartbeats 1000000 in
set_option maxRecDepth 100000 in
theorem digits_16 (n : Nat) (w : World) (hn : n < 1179648) : Calls Tryd.prog 20 #[.int .i64 (n : Int), .int .i64 16] w (DigitsOut n 16 w) := by
  go_enter Tryd.func20, Tryd.ntmps20
  go_wp2
  go_loop [0, 6] (fun x y => ∃ (m : Nat) (S : List UInt8), x = .int .i64 (m : Int) ∧ y = .string ⟨S.toArray⟩ ∧ Plain.AllDig 16 S ∧ Plain.valD 16 m S = n ∧ S.length + m ≤ n) (fun x _ => (intOf x).toNat)
  case atStart => exact ⟨n, [], rfl, rfl, (fun c hc => absurd hc (by simp)), rfl, by simp⟩
  case round =>
    obtain ⟨m, S, rfl, rfl, hA, hV, hL⟩ := hrel
    have HA := Lib.hid hA
    have HVV := Lib.hid hV
    clear hA hV
    have hsz : (⟨S.toArray⟩ : ByteArray).size ≤ 1179648 := by show S.toArray.size ≤ _; rw [List.size_toArray]; omega
    by_cases hb : 16 ≤ m
    · obtain ⟨r, hr⟩ : ∃ r, m % 16 = r := ⟨_, rfl⟩
      obtain ⟨q, hq⟩ : ∃ q, m / 16 = q := ⟨_, rfl⟩
      have hr2 : r < 16 := by omega
      have hqr : q * 16 + r = m := by omega
      have hq2 : q < m := by omega
      have e1 : (m : Int) % 16 = (r : Int) := by omega
      have e2 : (m : Int) / 16 = (q : Int) := by omega
      have hsl := fun W => dig_slice r (by omega) W
      have hdv := Plain.digitB_val r (by omega)
      have HQ := Lib.hid hqr
      have HDV := Lib.hid hdv
      clear hr hq hqr hdv
      generalize Plain.digitB r = c at *
      go_wp2
      refine ⟨⟨q, c :: S, rfl, ?_, ?_, ?_, by simp; omega⟩, by simp [intOf]; omega⟩
      · exact congrArg Value.string (str_app [c] S)
      · intro x hx
        rw [List.mem_cons] at hx
        rcases hx with rfl | hx
        · rw [HDV.out]; exact hr2
        · exact HA.out x hx
      · rw [valD_cons, HDV.out, HQ.out]; exact HVV.out
    · have hsl := fun W => dig_slice m (by omega) W
      have hdv := Plain.digitB_val m (by omega)
      have HDV := Lib.hid hdv
      clear hdv
      generalize Plain.digitB m = c at *
      go_wp2
      go_ret
      refine ⟨c :: S, ?_, ?_, ?_, by simp, by simp; omega, rfl⟩
      · exact congrArg (fun v => Ending.returned (Value.string v)) (str_app [c] S)
      · intro x hx
        rw [List.mem_cons] at hx
        rcases hx with rfl | hx
        · rw [HDV.out]; omega
        · exact HA.out x hx
      · rw [valD_cons, HDV.out, Nat.zero_mul, Nat.zero_add]; exact HVV.out

/-- What Ref tells of a number written out, alone and with a blank behind it. -/
structure DigFacts (S N : ByteArray) : Prop where
  r1 : ∀ X, HasEarly X → Calls Tryd.prog 16 #[.string S, .bool true] X fun e w' => e = .returned (.tuple #[.string N, .int .i64 (S.size : Int)]) ∧ Below X.heap.size X w'
  r2 : ∀ X, HasEarly X → Calls Tryd.prog 16 #[.string (S ++ ⟨#[32, 97]⟩), .bool false] X fun e w' => e = .returned (.tuple #[.string N, .int .i64 (S.size : Int)]) ∧ Below X.heap.size X w'
theorem dig_facts (S : ByteArray) (k z : Nat) (D : List UInt8) (sixteen ends : Bool) (hS : S.data.toList = (if sixteen then [38, 35, 120] else [38, 35]) ++ (List.replicate z 48 ++ D) ++ (if ends then [59] else [])) (hs : S.size ≤ 4000000)
    (hD : Plain.AllDig (if sixteen then 16 else 10) D) (hv : Plain.valD (if sixteen then 16 else 10) 0 D = k) (hne : D ≠ []) : DigFacts S ⟨(Plain.number (k : Int)).toArray⟩ := by
  have hl := len_size S
  have e1 := Plain.ref_digits k z D sixteen ends true [] hD hv hne (Or.inl rfl)
  have e2 := Plain.ref_digits k z D sixteen ends false [32, 97] hD hv hne (Or.inr ⟨_, rfl⟩)
  rw [List.append_nil] at e1
  rw [← hS, hl] at e1 e2
  have h2 : (S ++ ⟨#[32, 97]⟩ : ByteArray).data.toList = S.data.toList ++ [32, 97] := by simp [ByteArray.data_append]
  refine ⟨fun X hX => ref_at S true _ _ e1 (by omega) X hX, fun X hX => ref_at _ false _ _ (by rw [h2]; exact e2) ?_ X hX⟩
  rw [ByteArray.size_append]
  show S.size + 2 ≤ _
  omega
theorem rep_snoc (p : List UInt8) (i : Nat) : (p ++ List.replicate i 48) ++ [48] = p ++ List.replicate (i + 1) 48 := by rw [List.append_assoc, List.replicate_succ']

set_option maxHeartbeats 2000000 in
set_option maxRecDepth 100000 in
theorem digits_walk_16_y (n noughts : Int) (w : World) (h0 : -9223372036854775808 ≤ n) (h1 : n ≤ 9223372036854775807) (g0 : -9223372036854775808 ≤ noughts) (g1 : noughts ≤ 9223372036854775807) (hE : HasEarly w) : Calls Tryd.prog 6 #[.int .i64 n, .int .i64 noughts, .bool true, .bool true] w (Yes w) := by
  have HE := Lib.hid hE
  have HK := Lib.hid (known2_yes w hE)
  have HW := fun X => Lib.hid (within2 n 1179648 X h0 h1 (by omega) (by omega))
  have HZ := fun X => Lib.hid (within2 noughts 30 X g0 g1 (by omega) (by omega))
  have hk := (within_lt n 1179648 (by omega)).1
  have hz := (within_lt noughts 30 (by omega)).1
  generalize Within n 1179648 = k at *
  generalize Within noughts 30 = z at *
  clear hE
  go_enter Tryd.func6, Tryd.ntmps6
  go_wp2_with fail
  refine HK.out.mono ?_
  rintro e w1 ⟨rfl, b1⟩
  go_wp2_with fail
  refine (HW _).out.mono ?_
  rintro e w2 ⟨rfl, rfl⟩
  go_wp2_with fail
  refine (HZ _).out.mono ?_
  rintro e w2 ⟨rfl, rfl⟩
  clear HW HZ HK
  go_wp2
  go_loop [11, 13] (fun x y => ∃ i : Nat, i ≤ z ∧ y = .int .i64 (i : Int) ∧ x = .string ⟨(([38, 35, 120] : List UInt8) ++ List.replicate i 48).toArray⟩) (fun _ y => z - (intOf y).toNat)
  case atStart => exact ⟨0, Nat.zero_le _, rfl, rfl⟩
  case round =>
    obtain ⟨i, hi, rfl, rfl⟩ := hrel
    have hsz : (⟨(([38, 35, 120] : List UInt8) ++ List.replicate i 48).toArray⟩ : ByteArray).size ≤ 100 := by show (([38, 35, 120] : List UInt8) ++ List.replicate i 48).toArray.size ≤ _; rw [List.size_toArray, List.length_append, List.length_replicate]; simp; omega
    by_cases hlt : i < z
    · have HR := Lib.hid (rep_snoc ([38, 35, 120] : List UInt8) i)
      have hql : (([38, 35, 120] : List UInt8) ++ List.replicate i 48).length ≤ 100 := by rw [List.length_append, List.length_replicate]; simp; omega
      generalize hQ : ([38, 35, 120] : List UInt8) ++ List.replicate i 48 = Q at *
      clear hQ
      go_wp2
      refine ⟨⟨i + 1, by omega, by go_num, ?_⟩, by simp [intOf]; omega⟩
      rw [← HR.out]
      exact congrArg Value.string (str_app Q [48])
    · have hiz : i = z := by omega
      have HQ := Lib.hid hiz
      clear hiz
      generalize hQ : (⟨(([38, 35, 120] : List UInt8) ++ List.replicate i 48).toArray⟩ : ByteArray) = Q at *
      have HQ2 := Lib.hid hQ
      clear hQ
      go_wp2_with fail
      refine (digits_16 k w1 hk).mono ?_
      rintro e w3 ⟨D, rfl, hD, hv, hne, hDl, rfl⟩
      have hS : (Q ++ ⟨D.toArray⟩ ++ ⟨#[59]⟩ : ByteArray).data.toList = ([38, 35, 120] : List UInt8) ++ (List.replicate z 48 ++ D) ++ [59] := by
        rw [← HQ2.out, HQ.out]
        simp [ByteArray.data_append]
      have hDs : (⟨D.toArray⟩ : ByteArray).size ≤ 1179649 := by show D.toArray.size ≤ _; rw [List.size_toArray]; omega
      have hs : (Q ++ ⟨D.toArray⟩ ++ ⟨#[59]⟩ : ByteArray).size ≤ 4000000 := by
        rw [ByteArray.size_append, ByteArray.size_append]; show _ + 1 ≤ _; omega
      have HF := Lib.hid (dig_facts (Q ++ ⟨D.toArray⟩ ++ ⟨#[59]⟩) k z D true true hS hs hD hv hne)
      have N1 := fun X hX => Lib.hid (number_any (k : Int) X (by omega) (by omega) hX)
      unfold Tells at N1
      generalize (⟨(Plain.number (k : Int)).toArray⟩ : ByteArray) = NK at *
      generalize (⟨D.toArray⟩ : ByteArray) = DD at *
      clear hS hD hv hne hDl HQ HQ2
      go_wp2_with fail
      refine (HF.out.r1 _ (Below.early HE.out b1)).mono ?_
      rintro e w4 ⟨rfl, b4⟩
      have c4 := b1.trans (b4.mono b1.size)
      go_wp2_with fail
      refine (HF.out.r2 _ (Below.early HE.out c4)).mono ?_
      rintro e w5 ⟨rfl, b5⟩
      have c5 := c4.trans (b5.mono c4.size)
      go_wp2_with fail
      refine (N1 _ (Below.early HE.out c5)).out.mono ?_
      rintro e w6 ⟨rfl, b6⟩
      have c6 := c5.trans (b6.mono c5.size)
      go_wp2
      go_ret
      exact ⟨by simp, c6⟩

set_option maxHeartbeats 2000000 in
set_option maxRecDepth 100000 in
theorem digits_walk_16_n (n noughts : Int) (w : World) (h0 : -9223372036854775808 ≤ n) (h1 : n ≤ 9223372036854775807) (g0 : -9223372036854775808 ≤ noughts) (g1 : noughts ≤ 9223372036854775807) (hE : HasEarly w) : Calls Tryd.prog 6 #[.int .i64 n, .int .i64 noughts, .bool true, .bool false] w (Yes w) := by
  have HE := Lib.hid hE
  have HK := Lib.hid (known2_yes w hE)
  have HW := fun X => Lib.hid (within2 n 1179648 X h0 h1 (by omega) (by omega))
  have HZ := fun X => Lib.hid (within2 noughts 30 X g0 g1 (by omega) (by omega))
  have hk := (within_lt n 1179648 (by omega)).1
  have hz := (within_lt noughts 30 (by omega)).1
  generalize Within n 1179648 = k at *
  generalize Within noughts 30 = z at *
  clear hE
  go_enter Tryd.func6, Tryd.ntmps6
  go_wp2_with fail
  refine HK.out.mono ?_
  rintro e w1 ⟨rfl, b1⟩
  go_wp2_with fail
  refine (HW _).out.mono ?_
  rintro e w2 ⟨rfl, rfl⟩
  go_wp2_with fail
  refine (HZ _).out.mono ?_
  rintro e w2 ⟨rfl, rfl⟩
  clear HW HZ HK
  go_wp2
  go_loop [11, 13] (fun x y => ∃ i : Nat, i ≤ z ∧ y = .int .i64 (i : Int) ∧ x = .string ⟨(([38, 35, 120] : List UInt8) ++ List.replicate i 48).toArray⟩) (fun _ y => z - (intOf y).toNat)
  case atStart => exact ⟨0, Nat.zero_le _, rfl, rfl⟩
  case round =>
    obtain ⟨i, hi, rfl, rfl⟩ := hrel
    have hsz : (⟨(([38, 35, 120] : List UInt8) ++ List.replicate i 48).toArray⟩ : ByteArray).size ≤ 100 := by show (([38, 35, 120] : List UInt8) ++ List.replicate i 48).toArray.size ≤ _; rw [List.size_toArray, List.length_append, List.length_replicate]; simp; omega
    by_cases hlt : i < z
    · have HR := Lib.hid (rep_snoc ([38, 35, 120] : List UInt8) i)
      have hql : (([38, 35, 120] : List UInt8) ++ List.replicate i 48).length ≤ 100 := by rw [List.length_append, List.length_replicate]; simp; omega
      generalize hQ : ([38, 35, 120] : List UInt8) ++ List.replicate i 48 = Q at *
      clear hQ
      go_wp2
      refine ⟨⟨i + 1, by omega, by go_num, ?_⟩, by simp [intOf]; omega⟩
      rw [← HR.out]
      exact congrArg Value.string (str_app Q [48])
    · have hiz : i = z := by omega
      have HQ := Lib.hid hiz
      clear hiz
      generalize hQ : (⟨(([38, 35, 120] : List UInt8) ++ List.replicate i 48).toArray⟩ : ByteArray) = Q at *
      have HQ2 := Lib.hid hQ
      clear hQ
      go_wp2_with fail
      refine (digits_16 k w1 hk).mono ?_
      rintro e w3 ⟨D, rfl, hD, hv, hne, hDl, rfl⟩
      have hS : (Q ++ ⟨D.toArray⟩ : ByteArray).data.toList = ([38, 35, 120] : List UInt8) ++ (List.replicate z 48 ++ D) ++ [] := by
        rw [← HQ2.out, HQ.out]
        simp [ByteArray.data_append]
      have hDs : (⟨D.toArray⟩ : ByteArray).size ≤ 1179649 := by show D.toArray.size ≤ _; rw [List.size_toArray]; omega
      have hs : (Q ++ ⟨D.toArray⟩ : ByteArray).size ≤ 4000000 := by
        rw [ByteArray.size_append]; omega
      have HF := Lib.hid (dig_facts (Q ++ ⟨D.toArray⟩) k z D true false hS hs hD hv hne)
      have N1 := fun X hX => Lib.hid (number_any (k : Int) X (by omega) (by omega) hX)
      unfold Tells at N1
      generalize (⟨(Plain.number (k : Int)).toArray⟩ : ByteArray) = NK at *
      generalize (⟨D.toArray⟩ : ByteArray) = DD at *
      clear hS hD hv hne hDl HQ HQ2
      go_wp2_with fail
      refine (HF.out.r1 _ (Below.early HE.out b1)).mono ?_
      rintro e w4 ⟨rfl, b4⟩
      have c4 := b1.trans (b4.mono b1.size)
      go_wp2_with fail
      refine (HF.out.r2 _ (Below.early HE.out c4)).mono ?_
      rintro e w5 ⟨rfl, b5⟩
      have c5 := c4.trans (b5.mono c4.size)
      go_wp2_with fail
      refine (N1 _ (Below.early HE.out c5)).out.mono ?_
      rintro e w6 ⟨rfl, b6⟩
      have c6 := c5.trans (b6.mono c5.size)
      go_wp2
      go_ret
      exact ⟨by simp, c6⟩

set_option maxHeartbeats 2000000 in
set_option maxRecDepth 100000 in
theorem digits_walk_10_y (n noughts : Int) (w : World) (h0 : -9223372036854775808 ≤ n) (h1 : n ≤ 9223372036854775807) (g0 : -9223372036854775808 ≤ noughts) (g1 : noughts ≤ 9223372036854775807) (hE : HasEarly w) : Calls Tryd.prog 6 #[.int .i64 n, .int .i64 noughts, .bool false, .bool true] w (Yes w) := by
  have HE := Lib.hid hE
  have HK := Lib.hid (known2_yes w hE)
  have HW := fun X => Lib.hid (within2 n 1179648 X h0 h1 (by omega) (by omega))
  have HZ := fun X => Lib.hid (within2 noughts 30 X g0 g1 (by omega) (by omega))
  have hk := (within_lt n 1179648 (by omega)).1
  have hz := (within_lt noughts 30 (by omega)).1
  generalize Within n 1179648 = k at *
  generalize Within noughts 30 = z at *
  clear hE
  go_enter Tryd.func6, Tryd.ntmps6
  go_wp2_with fail
  refine HK.out.mono ?_
  rintro e w1 ⟨rfl, b1⟩
  go_wp2_with fail
  refine (HW _).out.mono ?_
  rintro e w2 ⟨rfl, rfl⟩
  go_wp2_with fail
  refine (HZ _).out.mono ?_
  rintro e w2 ⟨rfl, rfl⟩
  clear HW HZ HK
  go_wp2
  go_loop [11, 13] (fun x y => ∃ i : Nat, i ≤ z ∧ y = .int .i64 (i : Int) ∧ x = .string ⟨(([38, 35] : List UInt8) ++ List.replicate i 48).toArray⟩) (fun _ y => z - (intOf y).toNat)
  case atStart => exact ⟨0, Nat.zero_le _, rfl, rfl⟩
  case round =>
    obtain ⟨i, hi, rfl, rfl⟩ := hrel
    have hsz : (⟨(([38, 35] : List UInt8) ++ List.replicate i 48).toArray⟩ : ByteArray).size ≤ 100 := by show (([38, 35] : List UInt8) ++ List.replicate i 48).toArray.size ≤ _; rw [List.size_toArray, List.length_append, List.length_replicate]; simp; omega
    by_cases hlt : i < z
    · have HR := Lib.hid (rep_snoc ([38, 35] : List UInt8) i)
      have hql : (([38, 35] : List UInt8) ++ List.replicate i 48).length ≤ 100 := by rw [List.length_append, List.length_replicate]; simp; omega
      generalize hQ : ([38, 35] : List UInt8) ++ List.replicate i 48 = Q at *
      clear hQ
      go_wp2
      refine ⟨⟨i + 1, by omega, by go_num, ?_⟩, by simp [intOf]; omega⟩
      rw [← HR.out]
      exact congrArg Value.string (str_app Q [48])
    · have hiz : i = z := by omega
      have HQ := Lib.hid hiz
      clear hiz
      generalize hQ : (⟨(([38, 35] : List UInt8) ++ List.replicate i 48).toArray⟩ : ByteArray) = Q at *
      have HQ2 := Lib.hid hQ
      clear hQ
      go_wp2_with fail
      refine (digits_10 k w1 hk).mono ?_
      rintro e w3 ⟨D, rfl, hD, hv, hne, hDl, rfl⟩
      have hS : (Q ++ ⟨D.toArray⟩ ++ ⟨#[59]⟩ : ByteArray).data.toList = ([38, 35] : List UInt8) ++ (List.replicate z 48 ++ D) ++ [59] := by
        rw [← HQ2.out, HQ.out]
        simp [ByteArray.data_append]
      have hDs : (⟨D.toArray⟩ : ByteArray).size ≤ 1179649 := by show D.toArray.size ≤ _; rw [List.size_toArray]; omega
      have hs : (Q ++ ⟨D.toArray⟩ ++ ⟨#[59]⟩ : ByteArray).size ≤ 4000000 := by
        rw [ByteArray.size_append, ByteArray.size_append]; show _ + 1 ≤ _; omega
      have HF := Lib.hid (dig_facts (Q ++ ⟨D.toArray⟩ ++ ⟨#[59]⟩) k z D false true hS hs hD hv hne)
      have N1 := fun X hX => Lib.hid (number_any (k : Int) X (by omega) (by omega) hX)
      unfold Tells at N1
      generalize (⟨(Plain.number (k : Int)).toArray⟩ : ByteArray) = NK at *
      generalize (⟨D.toArray⟩ : ByteArray) = DD at *
      clear hS hD hv hne hDl HQ HQ2
      go_wp2_with fail
      refine (HF.out.r1 _ (Below.early HE.out b1)).mono ?_
      rintro e w4 ⟨rfl, b4⟩
      have c4 := b1.trans (b4.mono b1.size)
      go_wp2_with fail
      refine (HF.out.r2 _ (Below.early HE.out c4)).mono ?_
      rintro e w5 ⟨rfl, b5⟩
      have c5 := c4.trans (b5.mono c4.size)
      go_wp2_with fail
      refine (N1 _ (Below.early HE.out c5)).out.mono ?_
      rintro e w6 ⟨rfl, b6⟩
      have c6 := c5.trans (b6.mono c5.size)
      go_wp2
      go_ret
      exact ⟨by simp, c6⟩

set_option maxHeartbeats 2000000 in
set_option maxRecDepth 100000 in
theorem digits_walk_10_n (n noughts : Int) (w : World) (h0 : -9223372036854775808 ≤ n) (h1 : n ≤ 9223372036854775807) (g0 : -9223372036854775808 ≤ noughts) (g1 : noughts ≤ 9223372036854775807) (hE : HasEarly w) : Calls Tryd.prog 6 #[.int .i64 n, .int .i64 noughts, .bool false, .bool false] w (Yes w) := by
  have HE := Lib.hid hE
  have HK := Lib.hid (known2_yes w hE)
  have HW := fun X => Lib.hid (within2 n 1179648 X h0 h1 (by omega) (by omega))
  have HZ := fun X => Lib.hid (within2 noughts 30 X g0 g1 (by omega) (by omega))
  have hk := (within_lt n 1179648 (by omega)).1
  have hz := (within_lt noughts 30 (by omega)).1
  generalize Within n 1179648 = k at *
  generalize Within noughts 30 = z at *
  clear hE
  go_enter Tryd.func6, Tryd.ntmps6
  go_wp2_with fail
  refine HK.out.mono ?_
  rintro e w1 ⟨rfl, b1⟩
  go_wp2_with fail
  refine (HW _).out.mono ?_
  rintro e w2 ⟨rfl, rfl⟩
  go_wp2_with fail
  refine (HZ _).out.mono ?_
  rintro e w2 ⟨rfl, rfl⟩
  clear HW HZ HK
  go_wp2
  go_loop [11, 13] (fun x y => ∃ i : Nat, i ≤ z ∧ y = .int .i64 (i : Int) ∧ x = .string ⟨(([38, 35] : List UInt8) ++ List.replicate i 48).toArray⟩) (fun _ y => z - (intOf y).toNat)
  case atStart => exact ⟨0, Nat.zero_le _, rfl, rfl⟩
  case round =>
    obtain ⟨i, hi, rfl, rfl⟩ := hrel
    have hsz : (⟨(([38, 35] : List UInt8) ++ List.replicate i 48).toArray⟩ : ByteArray).size ≤ 100 := by show (([38, 35] : List UInt8) ++ List.replicate i 48).toArray.size ≤ _; rw [List.size_toArray, List.length_append, List.length_replicate]; simp; omega
    by_cases hlt : i < z
    · have HR := Lib.hid (rep_snoc ([38, 35] : List UInt8) i)
      have hql : (([38, 35] : List UInt8) ++ List.replicate i 48).length ≤ 100 := by rw [List.length_append, List.length_replicate]; simp; omega
      generalize hQ : ([38, 35] : List UInt8) ++ List.replicate i 48 = Q at *
      clear hQ
      go_wp2
      refine ⟨⟨i + 1, by omega, by go_num, ?_⟩, by simp [intOf]; omega⟩
      rw [← HR.out]
      exact congrArg Value.string (str_app Q [48])
    · have hiz : i = z := by omega
      have HQ := Lib.hid hiz
      clear hiz
      generalize hQ : (⟨(([38, 35] : List UInt8) ++ List.replicate i 48).toArray⟩ : ByteArray) = Q at *
      have HQ2 := Lib.hid hQ
      clear hQ
      go_wp2_with fail
      refine (digits_10 k w1 hk).mono ?_
      rintro e w3 ⟨D, rfl, hD, hv, hne, hDl, rfl⟩
      have hS : (Q ++ ⟨D.toArray⟩ : ByteArray).data.toList = ([38, 35] : List UInt8) ++ (List.replicate z 48 ++ D) ++ [] := by
        rw [← HQ2.out, HQ.out]
        simp [ByteArray.data_append]
      have hDs : (⟨D.toArray⟩ : ByteArray).size ≤ 1179649 := by show D.toArray.size ≤ _; rw [List.size_toArray]; omega
      have hs : (Q ++ ⟨D.toArray⟩ : ByteArray).size ≤ 4000000 := by
        rw [ByteArray.size_append]; omega
      have HF := Lib.hid (dig_facts (Q ++ ⟨D.toArray⟩) k z D false false hS hs hD hv hne)
      have N1 := fun X hX => Lib.hid (number_any (k : Int) X (by omega) (by omega) hX)
      unfold Tells at N1
      generalize (⟨(Plain.number (k : Int)).toArray⟩ : ByteArray) = NK at *
      generalize (⟨D.toArray⟩ : ByteArray) = DD at *
      clear hS hD hv hne hDl HQ HQ2
      go_wp2_with fail
      refine (HF.out.r1 _ (Below.early HE.out b1)).mono ?_
      rintro e w4 ⟨rfl, b4⟩
      have c4 := b1.trans (b4.mono b1.size)
      go_wp2_with fail
      refine (HF.out.r2 _ (Below.early HE.out c4)).mono ?_
      rintro e w5 ⟨rfl, b5⟩
      have c5 := c4.trans (b5.mono c4.size)
      go_wp2_with fail
      refine (N1 _ (Below.early HE.out c5)).out.mono ?_
      rintro e w6 ⟨rfl, b6⟩
      have c6 := c5.trans (b6.mono c5.size)
      go_wp2
      go_ret
      exact ⟨by simp, c6⟩

theorem digits_walk (n noughts : Int) (sixteen ends : Bool) (w : World) (h0 : -9223372036854775808 ≤ n) (h1 : n ≤ 9223372036854775807) (g0 : -9223372036854775808 ≤ noughts) (g1 : noughts ≤ 9223372036854775807) (hE : HasEarly w) : Calls Tryd.prog 6 #[.int .i64 n, .int .i64 noughts, .bool sixteen, .bool ends] w (Yes w) := by
  cases sixteen <;> cases ends
  · exact digits_walk_10_n n noughts w h0 h1 g0 g1 hE
  · exact digits_walk_10_y n noughts w h0 h1 g0 g1 hE
  · exact digits_walk_16_n n noughts w h0 h1 g0 g1 hE
  · exact digits_walk_16_y n noughts w h0 h1 g0 g1 hE
end Go.Proofs.YtobgdignanpliaaDoor
