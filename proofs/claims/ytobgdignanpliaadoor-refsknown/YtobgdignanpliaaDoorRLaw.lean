/-
  The walks of known and of the laws RefsNumbers, RefsReads, RefsExpands: true, and nothing old is changed. The program's table holds what its text lays.
-/
import Derived.Test.YtobgdignanpliaaDoorRProg4
import Derived.Test.YtobgdignanpliaaDoorRHtml
namespace Go.Proofs.YtobgdignanpliaaDoor
open Go.RowKit

/-- What a law tells: true; nothing old is changed. -/
def Yes (w : World) (e : Ending) (w' : World) : Prop := e = .returned (.bool true) ∧ Below w.heap.size w w'

theorem ref_at (s : ByteArray) (attr : Bool) (v : List UInt8) (n : Nat) (h : Plain.ref s.data.toList attr = (v, n)) (hs : s.size ≤ 4294967296) (w : World) (hE : HasEarly w) : Calls Tryd.prog 16 #[.string s, .bool attr] w fun e w' => e = .returned (.tuple #[.string ⟨v.toArray⟩, .int .i64 (n : Int)]) ∧ Below w.heap.size w w' :=
  (ref_any s attr w hs hE).mono fun _ _ hh => by
    unfold Tells2 at hh
    rw [h] at hh
    exact hh

set_option maxHeartbeats 1000000 in
set_option maxRecDepth 100000 in
theorem known2_yes (w : World) (hE : HasEarly w) : Calls Tryd.prog 10 #[] w (Yes w) := by
  have hw1 := hE.size
  have HE := Lib.hid hE
  have R1 := fun W hW => Lib.hid (ref_at ⟨#[38, 110, 111, 116, 105, 116, 59]⟩ false [194, 172] 4 (by decide) (by decide) W hW)
  have R2 := fun W hW => Lib.hid (ref_at ⟨#[38, 110, 111, 116, 105, 116, 59]⟩ true [] 0 (by decide) (by decide) W hW)
  have R3 := fun W hW => Lib.hid (ref_at ⟨#[38, 35, 120, 56, 48]⟩ false [226, 130, 172] 5 (by decide) (by decide) W hW)
  have R4 := fun W hW => Lib.hid (number_any 0 W (by omega) (by omega) hW)
  rw [show Plain.number 0 = [239, 191, 189] by decide] at R4
  clear hE
  go_enter Tryd.func10, Tryd.ntmps10
  go_wp2_with fail
  refine (R1 _ HE.out).out.mono ?_
  rintro e w1 ⟨rfl, b1⟩
  go_wp2_with fail
  refine (R2 _ (HE.out.below b1 hw1)).out.mono ?_
  rintro e w2 ⟨rfl, b2⟩
  have c2 := b1.trans (b2.mono b1.size)
  go_wp2_with fail
  refine (R3 _ (HE.out.below c2 hw1)).out.mono ?_
  rintro e w3 ⟨rfl, b3⟩
  have c3 := c2.trans (b3.mono c2.size)
  go_wp2_with fail
  refine (R4 _ (HE.out.below c3 hw1)).out.mono ?_
  rintro e w4 ⟨rfl, b4⟩
  have c4 := c3.trans (b4.mono c3.size)
  go_wp2
  go_ret
  exact ⟨rfl, c4⟩

set_option maxHeartbeats 1000000 in
set_option maxRecDepth 100000 in
theorem numbers_walk (n : Int) (w : World) (h0 : -9223372036854775808 ≤ n) (h1 : n ≤ 9223372036854775807) (hE : HasEarly w) : Calls Tryd.prog 3 #[.int .i64 n] w (Yes w) := by
  have hw1 := hE.size
  have HE := Lib.hid hE
  have HK := Lib.hid (known2_yes w hE)
  have HW := fun W => Lib.hid (within2 n 288 W h0 h1 (by omega) (by omega))
  have hr := (within_lt n 288 (by omega)).1
  generalize Within n 288 = r at *
  have N1 := fun W hW => Lib.hid (number_any n W h0 h1 hW)
  have N2 := fun W => Lib.hid (rnumber_any n W h0 h1)
  have N3 := fun W hW => Lib.hid (number_any (r : Int) W (by omega) (by omega) hW)
  have N4 := fun W => Lib.hid (rnumber_any (r : Int) W (by omega) (by omega))
  have hl := (Plain.number_len n).2
  have hsz : (⟨(Plain.number n).toArray⟩ : ByteArray).size ≤ 4 := by show (Plain.number n).toArray.size ≤ _; rw [List.size_toArray]; exact hl
  have N5 := fun W => Lib.hid (rwhole_any ⟨(Plain.number n).toArray⟩ W (by omega))
  have hwn : Plain.whole (⟨(Plain.number n).toArray⟩ : ByteArray).data.toList = true := Plain.number_whole n
  rw [hwn] at N5
  unfold Tells at N1 N2 N3 N4
  generalize (⟨(Plain.number n).toArray⟩ : ByteArray) = A at *
  generalize (⟨(Plain.number (r : Int)).toArray⟩ : ByteArray) = A2 at *
  clear hE hl hwn
  go_enter Tryd.func3, Tryd.ntmps3
  go_wp2_with fail
  refine HK.out.mono ?_
  rintro e w1 ⟨rfl, b1⟩
  go_wp2_with fail
  refine (HW _).out.mono ?_
  rintro e w2 ⟨rfl, rfl⟩
  go_wp2_with fail
  refine (N1 _ (HE.out.below b1 hw1)).out.mono ?_
  rintro e w2 ⟨rfl, b2⟩
  have c2 := b1.trans (b2.mono b1.size)
  go_wp2_with fail
  refine (N2 _).out.mono ?_
  rintro e w3 ⟨rfl, b3⟩
  have c3 := c2.trans (b3.mono c2.size)
  go_wp2_with fail
  refine (N3 _ (HE.out.below c3 hw1)).out.mono ?_
  rintro e w4 ⟨rfl, b4⟩
  have c4 := c3.trans (b4.mono c3.size)
  go_wp2_with fail
  refine (N4 _).out.mono ?_
  rintro e w5 ⟨rfl, b5⟩
  have c5 := c4.trans (b5.mono c4.size)
  go_wp2_with fail
  refine (N1 _ (HE.out.below c5 hw1)).out.mono ?_
  rintro e w6 ⟨rfl, b6⟩
  have c6 := c5.trans (b6.mono c5.size)
  go_wp2_with fail
  refine (N5 _).out.mono ?_
  rintro e w7 ⟨rfl, rfl⟩
  go_wp2
  go_ret
  exact ⟨by simp, c6⟩

theorem str_at (w : World) (ss : List ByteArray) (j : Nat) (h : j < ss.length) : (w.alloc (.cells (ss.map Value.string).toArray 9)).cell? ⟨w.heap.size, j, none⟩ = some (.string ss[j]) := by
  have e : (w.alloc (.cells (ss.map Value.string).toArray 9)).cell? ⟨w.heap.size, j, none⟩ = (ss.map Value.string).toArray[j]? := World.cell?_alloc_mark w _ 9 (0, 0) j
  rw [e, List.getElem?_toArray, List.getElem?_map, List.getElem?_eq_getElem h]
  rfl
theorem app_size (p : List UInt8) (raw : ByteArray) : ((⟨p.toArray⟩ : ByteArray) ++ raw).size = p.length + raw.size := by
  rw [ByteArray.size_append]
  show p.toArray.size + _ = _
  rw [List.size_toArray]
theorem Below.early {w w' : World} (hE : HasEarly w) (hb : Below w.heap.size w w') : HasEarly w' := hE.below hb hE.size

set_option maxHeartbeats 2000000 in
set_option maxRecDepth 100000 in
theorem reads_walk (v : Value) (n : Nat) (raw : ByteArray) (attr : Bool) (w : World) (hv : IntsIn w v n) (hr : raw.size ≤ maxLen) (hE : HasEarly w) : Calls Tryd.prog 4 #[v, .string raw, .bool attr] w (Yes w) := by
  unfold maxLen at hr
  have HE := Lib.hid hE
  have HK := Lib.hid (known2_yes w hE)
  have HV := Lib.hid hv
  clear hE hv
  by_cases h2 : 200 < raw.size
  · have h2' : (200 : Int) < (raw.size : Int) := by omega
    go_enter Tryd.func4, Tryd.ntmps4
    go_wp2_with fail
    refine HK.out.mono ?_
    rintro e w1 ⟨rfl, b1⟩
    go_wp2
    go_ret
    exact ⟨rfl, b1⟩
  · have h2' : ¬ (200 : Int) < (raw.size : Int) := by omega
    go_enter Tryd.func4, Tryd.ntmps4
    go_wp2_with fail
    refine HK.out.mono ?_
    rintro e w1 ⟨rfl, b1⟩
    go_wp2_with fail
    refine (html_any v n w1 (HV.out.below b1)).mono ?_
    rintro e w2 ⟨h, rfl, hh1, hh2, b2⟩
    have c2 := b1.trans (b2.mono b1.size)
    have hsz : (⟨h.toArray⟩ : ByteArray).size ≤ 1000 := by show h.toArray.size ≤ _; rw [List.size_toArray]; exact hh2
    generalize (⟨h.toArray⟩ : ByteArray) = H at *
    clear hh1 hh2 b2
    go_wp2
    have hz : ∀ x ∈ [raw, ⟨#[38]⟩ ++ raw, ⟨#[38, 35]⟩ ++ raw, ⟨#[38, 35, 120]⟩ ++ raw, H, ⟨#[38, 97, 109, 112]⟩ ++ raw, ⟨#[38, 110, 111, 116]⟩ ++ raw], x.size ≤ 1000 := by
      intro x hx
      simp only [List.mem_cons, List.not_mem_nil, or_false] at hx
      rcases hx with rfl | rfl | rfl | rfl | rfl | rfl | rfl
      · omega
      · rw [app_size [38] raw]; simp; omega
      · rw [app_size [38, 35] raw]; simp; omega
      · rw [app_size [38, 35, 120] raw]; simp; omega
      · exact hsz
      · rw [app_size [38, 97, 109, 112] raw]; simp; omega
      · rw [app_size [38, 110, 111, 116] raw]; simp; omega
    have hst := str_at w2 [raw, ⟨#[38]⟩ ++ raw, ⟨#[38, 35]⟩ ++ raw, ⟨#[38, 35, 120]⟩ ++ raw, H, ⟨#[38, 97, 109, 112]⟩ ++ raw, ⟨#[38, 110, 111, 116]⟩ ++ raw]
    have hlen : [raw, ⟨#[38]⟩ ++ raw, ⟨#[38, 35]⟩ ++ raw, ⟨#[38, 35, 120]⟩ ++ raw, H, ⟨#[38, 97, 109, 112]⟩ ++ raw, ⟨#[38, 110, 111, 116]⟩ ++ raw].length = 7 := rfl
    have hB : Below w.heap.size w (w2.alloc (.cells (([raw, ⟨#[38]⟩ ++ raw, ⟨#[38, 35]⟩ ++ raw, ⟨#[38, 35, 120]⟩ ++ raw, H, ⟨#[38, 97, 109, 112]⟩ ++ raw, ⟨#[38, 110, 111, 116]⟩ ++ raw]).map Value.string).toArray 9)) := c2.alloc c2.size _
    have hsb : w2.heap.size < (w2.alloc (.cells (([raw, ⟨#[38]⟩ ++ raw, ⟨#[38, 35]⟩ ++ raw, ⟨#[38, 35, 120]⟩ ++ raw, H, ⟨#[38, 97, 109, 112]⟩ ++ raw, ⟨#[38, 110, 111, 116]⟩ ++ raw]).map Value.string).toArray 9)).heap.size := by simp
    have hW : ∃ W, w2.alloc (.cells (([raw, ⟨#[38]⟩ ++ raw, ⟨#[38, 35]⟩ ++ raw, ⟨#[38, 35, 120]⟩ ++ raw, H, ⟨#[38, 97, 109, 112]⟩ ++ raw, ⟨#[38, 110, 111, 116]⟩ ++ raw]).map Value.string).toArray 9) = W := ⟨_, rfl⟩
    obtain ⟨W, hW⟩ := hW
    have hW2 : w2.alloc (.cells #[.string raw, .string (⟨#[38]⟩ ++ raw), .string (⟨#[38, 35]⟩ ++ raw), .string (⟨#[38, 35, 120]⟩ ++ raw), .string H, .string (⟨#[38, 97, 109, 112]⟩ ++ raw), .string (⟨#[38, 110, 111, 116]⟩ ++ raw)] 9) = W := hW
    rw [hW] at hst hB hsb
    generalize [raw, ⟨#[38]⟩ ++ raw, ⟨#[38, 35]⟩ ++ raw, ⟨#[38, 35, 120]⟩ ++ raw, H, ⟨#[38, 97, 109, 112]⟩ ++ raw, ⟨#[38, 110, 111, 116]⟩ ++ raw] = SS at *
    rw [hW2]
    have HST := Lib.hid hst
    have HZ := Lib.hid hz
    have HLEN := Lib.hid hlen
    clear hst hz hlen hW hW2 c2 b1 hsz
    go_loopw [8] (fun x wr => ∃ i : Nat, i ≤ 7 ∧ x = .int .i64 (i : Int) ∧ Below W.heap.size W wr) (fun x _ => 7 - (intOf x).toNat)
    case atStart => exact ⟨0, by omega, rfl, Below.refl _ _⟩
    case round =>
      obtain ⟨i, hi, rfl, hb⟩ := hrel
      have c := hB.trans (hb.mono hB.size)
      by_cases hlt : i < 7
      · have hil : i < SS.length := by rw [HLEN.out]; exact hlt
        have hc := HST.out i hil
        have hc1 := (hb.cell (p := ⟨w2.heap.size, i, none⟩) hsb).trans hc
        have hsi := HZ.out _ (List.getElem_mem hil)
        generalize SS[i] = S at *
        have i0 : (0 : Int) ≤ (i : Int) := by omega
        have i1 : (i : Int) < 7 := by omega
        have R1 := fun X hX => Lib.hid (ref_any S attr X (by omega) hX)
        have R2 := fun X => Lib.hid (rref_any S attr X (by omega))
        unfold Tells2 at R1 R2
        generalize (⟨(Plain.ref S.data.toList attr).1.toArray⟩ : ByteArray) = RA at *
        generalize (Plain.ref S.data.toList attr).2 = RN at *
        go_wp2_with fail
        refine (R1 _ (Below.early HE.out c)).out.mono ?_
        rintro e w4 ⟨rfl, b4⟩
        have d4 := hb.trans (b4.mono hb.size)
        have hc2 := (d4.cell (p := ⟨w2.heap.size, i, none⟩) hsb).trans hc
        go_wp2_with fail
        refine (R2 _).out.mono ?_
        rintro e w5 ⟨rfl, b5⟩
        have d5 := d4.trans (b5.mono d4.size)
        have q1 : (RA.toList != RA.toList) = false := by simp
        have q2 : ((RN : Int) != (RN : Int)) = false := by simp
        go_wp2
        exact ⟨⟨i + 1, by omega, by go_num, d5⟩, by simp [intOf]; omega⟩
      · go_wp2
        go_ret
        exact ⟨rfl, c⟩
end Go.Proofs.YtobgdignanpliaaDoor
