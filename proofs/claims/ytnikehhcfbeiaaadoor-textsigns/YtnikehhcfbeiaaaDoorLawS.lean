/-
  The walks of within and of the law TextSigns: any number: true, and nothing old is changed.
-/
import Derived.Test.YtnikehhcfbeiaaaDoorLawB
import Derived.Test.YtnikehhcfbeiaaaDoorPlainS
namespace Go.Proofs.YtnikehhcfbeiaaaDoor
open Go.RowKit

/-- What within tells: a number from 0 to m - 1. -/
def WithinOut (w : World) (m : Nat) (e : Ending) (w' : World) : Prop := ∃ r : Nat, r < m ∧ e = .returned (.int .i64 (r : Int)) ∧ w = w'

theorem within_end {w : World} {m : Nat} {x : Int} {e : Ending} (h1 : 0 ≤ x) (h2 : x < (m : Int)) (he : e = .returned (.int .i64 x)) : WithinOut w m e w := by
  refine ⟨x.toNat, by omega, ?_, rfl⟩
  rw [he]
  congr 2
  omega
theorem tmod_neg (n : Int) (m : Nat) (hn : n < 0) (hm : 1 ≤ m) : -(m : Int) < n.tmod m ∧ n.tmod m ≤ 0 := by
  obtain ⟨a, rfl⟩ : ∃ a : Int, n = -a := ⟨-n, by omega⟩
  rw [Int.neg_tmod, Int.tmod_eq_emod_of_nonneg (by omega)]
  have g1 := Int.emod_nonneg a (show (m : Int) ≠ 0 by omega)
  have g2 := Int.emod_lt_of_pos a (show (0 : Int) < (m : Int) by omega)
  omega

set_option maxHeartbeats 1000000 in
theorem within_any (n : Int) (m : Nat) (w : World) (h0 : -9223372036854775808 ≤ n) (h1 : n ≤ 9223372036854775807) (hm1 : 1 ≤ m) (hm2 : m ≤ 2147483647) :
    Calls Tryd.prog 31 #[.int .i64 n, .int .i64 (m : Int)] w (WithinOut w m) := by
  by_cases hn : 0 ≤ n
  · have g1 := Int.emod_nonneg n (show (m : Int) ≠ 0 by omega)
    have g2 := Int.emod_lt_of_pos n (show (0 : Int) < (m : Int) by omega)
    go_enter Tryd.func31, Tryd.ntmps31
    go_wp2
    go_ret
    exact within_end g1 g2 rfl
  · obtain ⟨g1, g2⟩ := tmod_neg n m (by omega) hm1
    by_cases hz : n.tmod m < 0
    · go_enter Tryd.func31, Tryd.ntmps31
      go_wp2
      go_ret
      exact within_end (by omega) (by omega) rfl
    · go_enter Tryd.func31, Tryd.ntmps31
      go_wp2
      go_ret
      exact within_end (by omega) (by omega) rfl

/-- What is told of a text that is longer than one byte: C is it without its last byte, T without its first. -/
structure CutFacts (C T : ByteArray) : Prop where
  size3 : C.size ≤ 3
  h3 : ∀ W, Calls Tryd.prog 16 #[.string C] W (Says false W)
  h4 : ∀ W cap, Calls Tryd.prog 14 #[.slice (some ⟨W.heap.size, 0, none⟩) C.size cap] (W.alloc (.cells (bytesRow C cap) 5 ((bytesRow C cap).size, (bytesRow C cap).size + 1))).drew fun e w' => e = .returned (.string ⟨#[239, 191, 189]⟩) ∧ Below W.heap.size W w'
  h5 : ∀ W cap, Calls Tryd.prog 14 #[.slice (some ⟨W.heap.size, 0, none⟩) (C.size + 1) cap] (W.alloc (.cells (bytesRow (C ++ ⟨#[97]⟩) cap) 5 ((bytesRow (C ++ ⟨#[97]⟩) cap).size, (bytesRow (C ++ ⟨#[97]⟩) cap).size + 1))).drew fun e w' => e = .returned (.string ⟨#[239, 191, 189, 97]⟩) ∧ Below W.heap.size W w'
  h6 : ∀ W, Calls Tryd.prog 16 #[.string T] W (Says false W)
structure SignFacts (E : ByteArray) : Prop where
  len1 : 1 ≤ E.size
  len4 : E.size ≤ 4
  h1 : ∀ W, Calls Tryd.prog 16 #[.string E] W (Says true W)
  h2 : ∀ W cap, Calls Tryd.prog 14 #[.slice (some ⟨W.heap.size, 0, none⟩) E.size cap] (W.alloc (.cells (bytesRow E cap) 5 ((bytesRow E cap).size, (bytesRow E cap).size + 1))).drew fun e w' => e = .returned (.string E) ∧ Below W.heap.size W w'
  more : 2 ≤ E.size → CutFacts (E.extract 0 (E.size - 1)) (E.extract 1 E.size)

theorem cut_list (E : ByteArray) : (E.extract 0 (E.size - 1)).data.toList = E.data.toList.dropLast := by
  rw [Lib.extract_data, List.dropLast_eq_take]
  simp
theorem tail_list (E : ByteArray) : (E.extract 1 E.size).data.toList = E.data.toList.tail := by
  rw [ext_end]
  simp
theorem sign_facts (E : ByteArray) (hS : Plain.Sign E.data.toList) (hM : Lib.hasPrefix E.data.toList Plain.mark = false) (hl1 : 1 ≤ E.size) (hl4 : E.size ≤ 4) : SignFacts E := by
  have hlen : E.data.toList.length = E.size := by simp
  have hw := hS.whole
  have hcs : (E.extract 0 (E.size - 1)).size = E.size - 1 := by rw [ByteArray.size_extract]; omega
  refine ⟨hl1, hl4, fun W => ?_, fun W cap => ?_, fun h2 => ?_⟩
  · have := whole_any E W
    rw [hw] at this
    exact this
  · have := decode_new E W cap (by omega)
    rw [Plain.decode_plain _ hM, Plain.dec_whole _ hw, mk_self] at this
    exact this
  · have hC := hS.cut (by omega)
    obtain ⟨m1, m2⟩ := hS.cut_mark (by omega)
    refine ⟨by omega, fun W => ?_, fun W cap => ?_, fun W cap => ?_, fun W => ?_⟩
    · have := whole_any (E.extract 0 (E.size - 1)) W
      rw [cut_list, hC.notWhole] at this
      exact this
    · have := decode_new (E.extract 0 (E.size - 1)) W cap (by omega)
      rw [cut_list, Plain.decode_plain _ m1, hC.lost] at this
      exact this
    · have hs5 : (E.extract 0 (E.size - 1) ++ ⟨#[97]⟩).size ≤ 4294967296 := by
        rw [ByteArray.size_append, hcs]
        show E.size - 1 + 1 ≤ _
        omega
      have := decode_new (E.extract 0 (E.size - 1) ++ ⟨#[97]⟩) W cap hs5
      have e : (E.extract 0 (E.size - 1) ++ ⟨#[97]⟩).data.toList = E.data.toList.dropLast ++ [97] := by
        rw [ByteArray.data_append, Array.toList_append, cut_list]
      have e1 : (E.extract 0 (E.size - 1) ++ ⟨#[97]⟩).size = (E.extract 0 (E.size - 1)).size + 1 := by rw [ByteArray.size_append]; rfl
      rw [e, Plain.decode_plain _ m2, hC.lostA, e1] at this
      exact this
    · have := whole_any (E.extract 1 E.size) W
      rw [tail_list, hC.tailNot] at this
      exact this
theorem size_len (E : ByteArray) : E.data.toList.length = E.size := by simp
theorem sign_len (E : ByteArray) (h : 1 ≤ E.data.toList.length ∧ E.data.toList.length ≤ 4) (hS : Plain.Sign E.data.toList) (hM : Lib.hasPrefix E.data.toList Plain.mark = false) : SignFacts E := by
  rw [size_len] at h
  exact sign_facts E hS hM h.1 h.2
theorem sign_of (k : Nat) (hk : Plain.Valid k) (hf : k ≠ 65279) : SignFacts (Utf8.encode (k : Int)) := by
  exact sign_len (Utf8.encode (k : Int)) (Plain.form_len k hk) (Plain.form_sign k hk) (Plain.form_mark k hk hf)
theorem sign_world : SignFacts (Utf8.encode 19990) := sign_of 19990 ⟨by omega, by omega⟩ (by omega)

set_option maxHeartbeats 2000000 in
set_option maxRecDepth 100000 in
theorem signs_walk (n : Int) (w : World) (h0 : -9223372036854775808 ≤ n) (h1 : n ≤ 9223372036854775807) (hm : HasMax w) : Calls Tryd.prog 8 #[.int .i64 n] w (Says true w) := by
  have HK := Lib.hid (known_yes w hm)
  have HW := fun W => Lib.hid (within_any n 1114112 W h0 h1 (by omega) (by omega))
  clear hm
  go_enter Tryd.func8, Tryd.ntmps8
  go_wp2_with fail
  refine HK.out.mono ?_
  rintro e w1 ⟨rfl, b1⟩
  go_wp2_with fail
  refine (HW w1).out.mono ?_
  rintro e w2 ⟨r, hr, rfl, rfl⟩
  clear HW HK
  by_cases ha : 55296 ≤ r ∧ r ≤ 57343
  · obtain ⟨ha1, ha2⟩ := ha
    have F := sign_world
    have HF := Lib.hid F
    clear F
    go_wp2_with fail
    generalize Utf8.encode 19990 = E at *
    have hl1 := HF.out.len1
    have hl4 := HF.out.len4
    refine (HF.out.h1 w1).mono ?_
    rintro e w2 ⟨rfl, b2⟩
    have c2 := b1.trans (b2.mono b1.size)
    have hcE := to_bytes E
    go_wp2_with fail
    clear hcE
    refine (HF.out.h2 w2 _).mono ?_
    rintro e w3 ⟨rfl, b3⟩
    have c3 := c2.trans (b3.mono c2.size)
    by_cases hone : E.size = 1
    · have hq : ((E.size : Int) == 1) = true := by rw [beq_iff_eq]; omega
      clear hone
      go_wp2
      go_ret
      exact ⟨rfl, c3⟩
    · have hq : ((E.size : Int) == 1) = false := by rw [beq_eq_false_iff_ne]; omega
      have HC := Lib.hid (HF.out.more (by omega))
      have hc3 := HC.out.size3
      clear hone
      go_wp2_with fail
      generalize E.extract 0 (E.size - 1) = C at *
      refine (HC.out.h3 w3).mono ?_
      rintro e w4 ⟨rfl, b4⟩
      have c4 := c3.trans (b4.mono c3.size)
      have hcC := to_bytes C
      go_wp2_with fail
      clear hcC
      refine (HC.out.h4 w4 _).mono ?_
      rintro e w5 ⟨rfl, b5⟩
      have c5 := c4.trans (b5.mono c4.size)
      have hcA := to_bytes (C ++ ⟨#[97]⟩)
      have hcA' : (C ++ ⟨#[97]⟩).size = C.size + 1 := by rw [ByteArray.size_append]; rfl
      rw [hcA'] at hcA
      clear hcA'
      go_wp2_with fail
      clear hcA
      refine (HC.out.h5 w5 _).mono ?_
      rintro e w6 ⟨rfl, b6⟩
      have c6 := c5.trans (b6.mono c5.size)
      go_wp2_with fail
      refine (HC.out.h6 w6).mono ?_
      rintro e w7 ⟨rfl, b7⟩
      have c7 := c6.trans (b7.mono c6.size)
      go_wp2
      go_ret
      exact ⟨rfl, c7⟩
  · by_cases hb : r = 65279
    · have hbq : ((r : Int) == 65279) = true := by rw [beq_iff_eq]; omega
      have hb1 : 65279 ≤ r := by omega
      have hb2 : r ≤ 65279 := by omega
      clear ha hb
      have F := sign_world
      have HF := Lib.hid F
      clear F
      go_wp2_with fail
      generalize Utf8.encode 19990 = E at *
      have hl1 := HF.out.len1
      have hl4 := HF.out.len4
      refine (HF.out.h1 w1).mono ?_
      rintro e w2 ⟨rfl, b2⟩
      have c2 := b1.trans (b2.mono b1.size)
      have hcE := to_bytes E
      go_wp2_with fail
      clear hcE
      refine (HF.out.h2 w2 _).mono ?_
      rintro e w3 ⟨rfl, b3⟩
      have c3 := c2.trans (b3.mono c2.size)
      by_cases hone : E.size = 1
      · have hq : ((E.size : Int) == 1) = true := by rw [beq_iff_eq]; omega
        clear hone
        go_wp2
        go_ret
        exact ⟨rfl, c3⟩
      · have hq : ((E.size : Int) == 1) = false := by rw [beq_eq_false_iff_ne]; omega
        have HC := Lib.hid (HF.out.more (by omega))
        have hc3 := HC.out.size3
        clear hone
        go_wp2_with fail
        generalize E.extract 0 (E.size - 1) = C at *
        refine (HC.out.h3 w3).mono ?_
        rintro e w4 ⟨rfl, b4⟩
        have c4 := c3.trans (b4.mono c3.size)
        have hcC := to_bytes C
        go_wp2_with fail
        clear hcC
        refine (HC.out.h4 w4 _).mono ?_
        rintro e w5 ⟨rfl, b5⟩
        have c5 := c4.trans (b5.mono c4.size)
        have hcA := to_bytes (C ++ ⟨#[97]⟩)
        have hcA' : (C ++ ⟨#[97]⟩).size = C.size + 1 := by rw [ByteArray.size_append]; rfl
        rw [hcA'] at hcA
        clear hcA'
        go_wp2_with fail
        clear hcA
        refine (HC.out.h5 w5 _).mono ?_
        rintro e w6 ⟨rfl, b6⟩
        have c6 := c5.trans (b6.mono c5.size)
        go_wp2_with fail
        refine (HC.out.h6 w6).mono ?_
        rintro e w7 ⟨rfl, b7⟩
        have c7 := c6.trans (b7.mono c6.size)
        go_wp2
        go_ret
        exact ⟨rfl, c7⟩
    · have hbq : ((r : Int) == 65279) = false := by rw [beq_eq_false_iff_ne]; omega
      have F := sign_of r ⟨by omega, ha⟩ hb
      clear hb
      by_cases ha1 : 55296 ≤ r
      · have ha2 : 57343 < r := by omega
        clear ha
        have HF := Lib.hid F
        clear F
        go_wp2_with fail
        generalize Utf8.encode (r : Int) = E at *
        have hl1 := HF.out.len1
        have hl4 := HF.out.len4
        refine (HF.out.h1 w1).mono ?_
        rintro e w2 ⟨rfl, b2⟩
        have c2 := b1.trans (b2.mono b1.size)
        have hcE := to_bytes E
        go_wp2_with fail
        clear hcE
        refine (HF.out.h2 w2 _).mono ?_
        rintro e w3 ⟨rfl, b3⟩
        have c3 := c2.trans (b3.mono c2.size)
        by_cases hone : E.size = 1
        · have hq : ((E.size : Int) == 1) = true := by rw [beq_iff_eq]; omega
          clear hone
          go_wp2
          go_ret
          exact ⟨rfl, c3⟩
        · have hq : ((E.size : Int) == 1) = false := by rw [beq_eq_false_iff_ne]; omega
          have HC := Lib.hid (HF.out.more (by omega))
          have hc3 := HC.out.size3
          clear hone
          go_wp2_with fail
          generalize E.extract 0 (E.size - 1) = C at *
          refine (HC.out.h3 w3).mono ?_
          rintro e w4 ⟨rfl, b4⟩
          have c4 := c3.trans (b4.mono c3.size)
          have hcC := to_bytes C
          go_wp2_with fail
          clear hcC
          refine (HC.out.h4 w4 _).mono ?_
          rintro e w5 ⟨rfl, b5⟩
          have c5 := c4.trans (b5.mono c4.size)
          have hcA := to_bytes (C ++ ⟨#[97]⟩)
          have hcA' : (C ++ ⟨#[97]⟩).size = C.size + 1 := by rw [ByteArray.size_append]; rfl
          rw [hcA'] at hcA
          clear hcA'
          go_wp2_with fail
          clear hcA
          refine (HC.out.h5 w5 _).mono ?_
          rintro e w6 ⟨rfl, b6⟩
          have c6 := c5.trans (b6.mono c5.size)
          go_wp2_with fail
          refine (HC.out.h6 w6).mono ?_
          rintro e w7 ⟨rfl, b7⟩
          have c7 := c6.trans (b7.mono c6.size)
          go_wp2
          go_ret
          exact ⟨rfl, c7⟩
      · clear ha
        have HF := Lib.hid F
        clear F
        go_wp2_with fail
        generalize Utf8.encode (r : Int) = E at *
        have hl1 := HF.out.len1
        have hl4 := HF.out.len4
        refine (HF.out.h1 w1).mono ?_
        rintro e w2 ⟨rfl, b2⟩
        have c2 := b1.trans (b2.mono b1.size)
        have hcE := to_bytes E
        go_wp2_with fail
        clear hcE
        refine (HF.out.h2 w2 _).mono ?_
        rintro e w3 ⟨rfl, b3⟩
        have c3 := c2.trans (b3.mono c2.size)
        by_cases hone : E.size = 1
        · have hq : ((E.size : Int) == 1) = true := by rw [beq_iff_eq]; omega
          clear hone
          go_wp2
          go_ret
          exact ⟨rfl, c3⟩
        · have hq : ((E.size : Int) == 1) = false := by rw [beq_eq_false_iff_ne]; omega
          have HC := Lib.hid (HF.out.more (by omega))
          have hc3 := HC.out.size3
          clear hone
          go_wp2_with fail
          generalize E.extract 0 (E.size - 1) = C at *
          refine (HC.out.h3 w3).mono ?_
          rintro e w4 ⟨rfl, b4⟩
          have c4 := c3.trans (b4.mono c3.size)
          have hcC := to_bytes C
          go_wp2_with fail
          clear hcC
          refine (HC.out.h4 w4 _).mono ?_
          rintro e w5 ⟨rfl, b5⟩
          have c5 := c4.trans (b5.mono c4.size)
          have hcA := to_bytes (C ++ ⟨#[97]⟩)
          have hcA' : (C ++ ⟨#[97]⟩).size = C.size + 1 := by rw [ByteArray.size_append]; rfl
          rw [hcA'] at hcA
          clear hcA'
          go_wp2_with fail
          clear hcA
          refine (HC.out.h5 w5 _).mono ?_
          rintro e w6 ⟨rfl, b6⟩
          have c6 := c5.trans (b6.mono c5.size)
          go_wp2_with fail
          refine (HC.out.h6 w6).mono ?_
          rintro e w7 ⟨rfl, b7⟩
          have c7 := c6.trans (b7.mono c6.size)
          go_wp2
          go_ret
          exact ⟨rfl, c7⟩
end Go.Proofs.YtnikehhcfbeiaaaDoor
