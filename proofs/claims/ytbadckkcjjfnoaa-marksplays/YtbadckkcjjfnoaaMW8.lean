/-
  The walks of the program's Find, Of, Clear. Any marks, not too many.
-/
import Derived.Test.YtbadckkcjjfnoaaMW5
namespace Go.Proofs.Ytbadckkcjjfnoaa
open Go.RowKit

theorem mFind_step (S : List MK) (n : List UInt8) (j : Nat) (h : j < S.length) : mFind S n (j + 1) = if S[j].node = -1 then -1 else if S[j].name = n then (j : Int) else mFind S n j := by
  rw [mFind, getD_at h]
set_option maxHeartbeats 1000000 in
set_option maxRecDepth 100000 in
theorem mfindP (S : List MK) (B : Nat) (M : Nat → Prop) (w : World) (n : List UInt8) (h : MarksM M w B S) (hs : S.length ≤ 4294967296) :
    Calls Try.prog 86 #[.pointer (some ⟨B, 0, none⟩), .string ⟨n.toArray⟩] w (Gives (.int .i64 (mFind S n S.length)) w) := by
  obtain ⟨v, qs, rfl, hq⟩ := h
  obtain ⟨p, cap, rfl, hr⟩ := hq.reads
  have h0 := hq.cell
  have hB := hq.lt
  rw [List.length_map] at hs
  have HR := Lib.hid hr
  have HL : Hid ((qs.map (·.1)).length = qs.length) := Lib.hid (by simp)
  clear hq hr
  rw [HL.out]
  obtain ⟨R, hR⟩ : ∃ R, R = mFind (qs.map (·.1)) n qs.length := ⟨_, rfl⟩
  rw [← hR]
  have HRR := Lib.hid hR
  clear hR
  go_enter Try.func86, Try.ntmps86
  go_wp2_with fail
  go_loop [5] (fun i => ∃ k : Nat, k ≤ qs.length ∧ i = .int .i64 ((k : Int) - 1) ∧ R = mFind (qs.map (·.1)) n k) (fun i => (intOf i + 1).toNat)
  case atStart => exact ⟨qs.length, Nat.le_refl _, rfl, HRR.out⟩
  case round =>
    obtain ⟨k, hk, rfl, hf⟩ := hrel
    have HF := Lib.hid hf
    clear hf
    rcases k with _ | j
    · rw [show (((0 : Nat) : Int) - 1) = -1 by omega]
      have HZ : Hid (R = -1) := Lib.hid HF.out
      go_wp2_with fail
      go_ret
      exact ⟨ret_is HZ.out.symm, rfl⟩
    · rw [show (((j + 1 : Nat) : Int) - 1) = (j : Int) by omega]
      have hj : j < qs.length := by omega
      obtain ⟨g, rfl, hg, n0, n1, n2⟩ := HR.out j hj
      have HST : Hid (R = if qs[j].1.node = -1 then -1 else if qs[j].1.name = n then (j : Int) else mFind (qs.map (·.1)) n j) := by
        refine Lib.hid ?_
        rw [HF.out, mFind_step _ _ _ (by simpa using hj)]
        simp
      have j0 : (0 : Int) ≤ (j : Int) := by omega
      have j1 : (j : Int) < (qs.length : Int) := by omega
      clear n2
      by_cases c1 : qs[j].1.node = -1
      · have q1 : (qs[j].1.node != (-1 : Int)) = false := by rw [c1]; rfl
        have HZ : Hid (R = -1) := Lib.hid (by rw [HST.out, if_pos c1])
        rw [c1] at n0 q1
        clear c1 HST
        go_wp2_with fail
        go_ret
        exact ⟨ret_is HZ.out.symm, rfl⟩
      · have q1 : (qs[j].1.node != (-1 : Int)) = true := by simpa using c1
        by_cases c2 : qs[j].1.name = n
        · have q2 := str_is c2
          have HZ : Hid (R = (j : Int)) := Lib.hid (by rw [HST.out, if_neg c1, if_pos c2])
          clear c1 c2 HST
          generalize qs[j].1.node = N at *
          generalize (⟨qs[j].1.name.toArray⟩ : ByteArray) = NA at *
          generalize (⟨n.toArray⟩ : ByteArray) = NB at *
          go_wp2_with fail
          go_ret
          exact ⟨ret_is HZ.out.symm, rfl⟩
        · have q2 := str_ne c2
          have HZ : Hid (R = mFind (qs.map (·.1)) n j) := Lib.hid (by rw [HST.out, if_neg c1, if_neg c2])
          clear c1 c2 HST
          generalize qs[j].1.node = N at *
          generalize (⟨qs[j].1.name.toArray⟩ : ByteArray) = NA at *
          generalize (⟨n.toArray⟩ : ByteArray) = NB at *
          go_wp2_with fail
          exact ⟨⟨j, by omega, rfl, HZ.out⟩, by simp [intOf]⟩

/-- The place of the first mark of that node, from a place on. -/
def mOfA : List MK → Int → Nat → Int
  | [], _, _ => -1
  | q :: r, n, i => if q.node = n then (i : Int) else mOfA r n (i + 1)
set_option maxHeartbeats 1000000 in
set_option maxRecDepth 100000 in
theorem mofP (S : List MK) (B : Nat) (M : Nat → Prop) (w : World) (n : Int) (h : MarksM M w B S) (hs : S.length ≤ 4294967296) :
    Calls Try.prog 41 #[.pointer (some ⟨B, 0, none⟩), .int .i64 n] w (Gives (.int .i64 (mOfA S n 0)) w) := by
  obtain ⟨v, qs, rfl, hq⟩ := h
  obtain ⟨p, cap, rfl, hr⟩ := hq.reads
  have h0 := hq.cell
  have hB := hq.lt
  rw [List.length_map] at hs
  have HR := Lib.hid hr
  clear hq hr
  obtain ⟨R, hR⟩ : ∃ R, R = mOfA (qs.map (·.1)) n 0 := ⟨_, rfl⟩
  rw [← hR]
  have HRR := Lib.hid hR
  clear hR
  go_enter Try.func41, Try.ntmps41
  go_wp2_with fail
  go_loop [11] (fun i => ∃ k : Nat, k ≤ qs.length ∧ i = .int .i64 (k : Int) ∧ R = mOfA ((qs.drop k).map (·.1)) n k) (fun i => qs.length - (intOf i).toNat)
  case atStart => exact ⟨0, Nat.zero_le _, rfl, HRR.out⟩
  case round =>
    obtain ⟨k, hk, rfl, hf⟩ := hrel
    have HF := Lib.hid hf
    clear hf
    by_cases hlt : k < qs.length
    · obtain ⟨g, rfl, hg, n0, n1, n2⟩ := HR.out k hlt
      have HST : Hid (R = if qs[k].1.node = n then (k : Int) else mOfA ((qs.drop (k + 1)).map (·.1)) n (k + 1)) := by
        refine Lib.hid ?_
        rw [HF.out, List.drop_eq_getElem_cons hlt]
        rfl
      have j0 : (0 : Int) ≤ (k : Int) := by omega
      have j1 : (k : Int) < (qs.length : Int) := by omega
      clear n1 n2
      by_cases c1 : qs[k].1.node = n
      · have q1 : (qs[k].1.node == n) = true := by simpa using c1
        have HZ : Hid (R = (k : Int)) := Lib.hid (by rw [HST.out, if_pos c1])
        clear c1 HST
        generalize qs[k].1.node = N at *
        go_wp2_with fail
        go_ret
        exact ⟨ret_is HZ.out.symm, rfl⟩
      · have q1 : (qs[k].1.node == n) = false := by simpa using c1
        have HZ : Hid (R = mOfA ((qs.drop (k + 1)).map (·.1)) n (k + 1)) := Lib.hid (by rw [HST.out, if_neg c1])
        clear c1 HST
        generalize qs[k].1.node = N at *
        go_wp2_with fail
        exact ⟨⟨k + 1, by omega, by go_num, HZ.out⟩, by simp [intOf]; omega⟩
    · have HZ : Hid (R = -1) := Lib.hid (by rw [HF.out, List.drop_eq_nil_of_le (by omega)]; rfl)
      go_wp2_with fail
      go_ret
      exact ⟨ret_is HZ.out.symm, rfl⟩

theorem mLast_step (S : List MK) (j : Nat) (h : j < S.length) (h1 : 0 < j) : mLast S j = if S[j].node = -1 then j else mLast S (j - 1) := by
  obtain ⟨m, rfl⟩ : ∃ m, j = m + 1 := ⟨j - 1, by omega⟩
  rw [mLast, getD_at h]
  rfl
set_option maxHeartbeats 1000000 in
set_option maxRecDepth 100000 in
theorem mclearP (S : List MK) (B : Nat) (M : Nat → Prop) (w : World) (h : MarksM M w B S) (hs : S.length ≤ 4294967296) :
    Calls Try.prog 30 #[.pointer (some ⟨B, 0, none⟩)] w (fun e w' => e = .returned (.tuple #[]) ∧ MarksM M w' B (mClear S) ∧ Turns M w w') := by
  have HCUT : Hid (∀ k : Nat, k ≤ S.length → k = mLast S (S.length - 1) → Calls Try.prog 88 #[.pointer (some ⟨B, 0, none⟩), .int .i64 (k : Int)] w (fun e w' => e = .returned (.tuple #[]) ∧ MarksM M w' B (mClear S) ∧ Turns M w w')) := by
    refine Lib.hid fun k hk e => ?_
    unfold mClear
    rw [← e]
    exact mcutP S B M w k h hk
  obtain ⟨v, qs, rfl, hq⟩ := h
  obtain ⟨p, cap, rfl, hr⟩ := hq.reads
  have h0 := hq.cell
  have hB := hq.lt
  have HL : Hid ((qs.map (·.1)).length = qs.length) := Lib.hid (by simp)
  rw [HL.out] at hs HCUT
  have HR := Lib.hid hr
  clear hq hr
  obtain ⟨T, hT⟩ : ∃ T, T = mClear (qs.map (·.1)) := ⟨_, rfl⟩
  rw [← hT] at HCUT
  rw [← hT]
  obtain ⟨R, hR⟩ : ∃ R, R = mLast (qs.map (·.1)) (qs.length - 1) := ⟨_, rfl⟩
  rw [← hR] at HCUT
  have HRR := Lib.hid hR
  clear hR hT
  go_enter Try.func30, Try.ntmps30
  go_wp2_with fail
  go_loop [2] (fun i => ∃ k : Nat, k ≤ qs.length ∧ i = .int .i64 ((k : Int) - 1) ∧ R = mLast (qs.map (·.1)) (k - 1) ∧ (k = 0 → qs.length = 0)) (fun i => (intOf i + 1).toNat)
  case atStart => exact ⟨qs.length, Nat.le_refl _, rfl, HRR.out, id⟩
  case round =>
    obtain ⟨k, hk, rfl, hf, hz⟩ := hrel
    have HF := Lib.hid hf
    clear hf
    rcases k with _ | j
    · rw [show (((0 : Nat) : Int) - 1) = -1 by omega]
      have hmx : max (-1 : Int) 0 = ((0 : Nat) : Int) := by omega
      have HC := Lib.hid (HCUT.out 0 (Nat.zero_le _) HF.out.symm)
      clear hz
      go_wp2_with fail
      refine HC.out.mono ?_
      rintro e w2 ⟨rfl, d2, t2⟩
      have HD := Lib.hid d2
      have HT := Lib.hid t2
      clear d2 t2
      go_wp2_with fail
      exact bodyPost_end (results_none rfl _ _ _) rfl ⟨rfl, HD.out, HT.out⟩
    · rw [show (((j + 1 : Nat) : Int) - 1) = (j : Int) by omega]
      have hj : j < qs.length := by omega
      have hmx : max (j : Int) 0 = (j : Int) := by omega
      obtain ⟨g, rfl, hg, n0, n1, n2⟩ := HR.out j hj
      have j0 : (0 : Int) ≤ (j : Int) := by omega
      have j1 : (j : Int) < (qs.length : Int) := by omega
      clear n1 n2 hz
      rw [Nat.add_sub_cancel] at HF
      rcases Nat.eq_zero_or_pos j with rfl | jp
      · have HC := Lib.hid (HCUT.out 0 (Nat.zero_le _) HF.out.symm)
        clear n0 hmx
        go_wp2_with fail
        refine HC.out.mono ?_
        rintro e w2 ⟨rfl, d2, t2⟩
        have HD := Lib.hid d2
        have HT := Lib.hid t2
        clear d2 t2
        go_wp2_with fail
        exact bodyPost_end (results_none rfl _ _ _) rfl ⟨rfl, HD.out, HT.out⟩
      · have HST : Hid (R = if qs[j].1.node = -1 then j else mLast (qs.map (·.1)) (j - 1)) := by
          refine Lib.hid ?_
          rw [HF.out, mLast_step _ _ (by simpa using hj) jp]
          simp
        have j2 : (0 : Int) < (j : Int) := by omega
        by_cases c1 : qs[j].1.node = -1
        · have q1 : (qs[j].1.node != (-1 : Int)) = false := by rw [c1]; rfl
          have HC := Lib.hid (HCUT.out j (by omega) (by rw [HST.out, if_pos c1]))
          rw [c1] at n0 q1
          clear c1 HST HF
          go_wp2_with fail
          refine HC.out.mono ?_
          rintro e w2 ⟨rfl, d2, t2⟩
          have HD := Lib.hid d2
          have HT := Lib.hid t2
          clear d2 t2
          go_wp2_with fail
          exact bodyPost_end (results_none rfl _ _ _) rfl ⟨rfl, HD.out, HT.out⟩
        · have q1 : (qs[j].1.node != (-1 : Int)) = true := by simpa using c1
          have HZ : Hid (R = mLast (qs.map (·.1)) (j - 1)) := Lib.hid (by rw [HST.out, if_neg c1])
          clear c1 HST HF
          generalize qs[j].1.node = N at *
          go_wp2_with fail
          exact ⟨⟨j, by omega, rfl, HZ.out, fun q => absurd q (by omega)⟩, by simp [intOf]⟩
end Go.Proofs.Ytbadckkcjjfnoaa
