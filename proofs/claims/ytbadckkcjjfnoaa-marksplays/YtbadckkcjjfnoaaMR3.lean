/-
  The walks of the reference's New, Len, wall, Find, Of, At for marks. Any marks, not too many.
-/
import Derived.Test.YtbadckkcjjfnoaaMR2
namespace Go.Proofs.Ytbadckkcjjfnoaa
open Go.RowKit

def Sign (S : List MK) : Prop := ∀ y ∈ S, y.node = -1 ∨ 0 ≤ y.node
/-- The place behind the last wall ahead of the i-th place. -/
def rW (S : List MK) : Nat → Nat
  | 0 => 0
  | i + 1 => if (S.getD i mZero).node < 0 then i + 1 else rW S i
theorem rW_le (S : List MK) : ∀ i, rW S i ≤ i
  | 0 => Nat.le_refl _
  | i + 1 => by
    unfold rW
    split
    · exact Nat.le_refl _
    · have := rW_le S i; omega
theorem rW_in (S : List MK) : ∀ i j, j < i → rW S i ≤ j → ¬ (S.getD j mZero).node < 0
  | 0, j, h, _ => absurd h (by omega)
  | i + 1, j, h, hw => by
    unfold rW at hw
    split at hw
    · omega
    · rename_i c
      rcases Nat.lt_or_ge j i with q | q
      · exact rW_in S i j q hw
      · have : j = i := by omega
        subst this
        exact c
theorem rW_at (S : List MK) : ∀ i, 0 < rW S i → (S.getD (rW S i - 1) mZero).node < 0
  | 0, h => absurd h (by unfold rW; omega)
  | i + 1, h => by
    by_cases c : (S.getD i mZero).node < 0
    · have e : rW S (i + 1) = i + 1 := by unfold rW; rw [if_pos c]
      rw [e, Nat.add_sub_cancel]
      exact c
    · have e : rW S (i + 1) = rW S i := by rw [rW, if_neg c]
      rw [e] at h ⊢
      exact rW_at S i h
theorem sign_neg {S : List MK} (h : Sign S) {j : Nat} (hj : j < S.length) : (S.getD j mZero).node < 0 ↔ (S.getD j mZero).node = -1 := by
  have := h (S.getD j mZero) (by rw [getD_at hj]; exact List.getElem_mem hj)
  omega
theorem mFind_rW {S : List MK} (h : Sign S) (n : List UInt8) (i : Nat) (hi : i ≤ S.length) : mFind S n (rW S i) = -1 := by
  rcases hr : rW S i with _ | k
  · rfl
  · have hk := rW_le S i
    have := rW_at S i (by omega)
    rw [hr, Nat.add_sub_cancel, sign_neg h (by omega)] at this
    rw [mFind, if_pos this]
/-- What can be read of the reference's marks. -/
theorem RefQ.reads {P : Nat → Prop} {w : World} {B : Nat} {v : Value} {rs : List (MK × Value)} (h : RefQ P w B v rs) : ∃ p cap, v = .slice p rs.length cap ∧ ∀ j (hj : j < rs.length), ∃ g o, p = some ⟨g, o, none⟩ ∧ g < w.heap.size ∧ w.cell? ⟨g, o + j * 3, none⟩ = some (.int .i64 rs[j].1.node) ∧ w.cell? ⟨g, o + j * 3 + 1, none⟩ = some (.string ⟨rs[j].1.name.toArray⟩) ∧ w.cell? ⟨g, o + j * 3 + 2, none⟩ = some rs[j].2 := by
  obtain ⟨p, c, rfl, _, hc, _⟩ := h.row
  exact ⟨p, c, rfl, fun j hj => by obtain ⟨g, o, e, _, h2⟩ := hc j hj; exact ⟨g, o, e, h2⟩⟩
theorem fst_getD {rs : List (MK × Value)} {j : Nat} (hj : j < rs.length) : (rs.map (·.1)).getD j mZero = rs[j].1 := by
  rw [getD_at (by simpa using hj)]
  simp
set_option maxHeartbeats 1000000 in
set_option maxRecDepth 100000 in
theorem rnewP (w : World) : Calls Try.prog 23 #[] w (fun e w' => e = .returned (.pointer (some ⟨w.heap.size, 0, none⟩)) ∧ RefM (fun _ => False) w' w.heap.size [] ∧ Below w.heap.size w w') := by
  have HM : Hid (RefM (fun _ => False) (w.alloc (.cells #[.slice none 0 0] 106)) w.heap.size []) := Lib.hid ⟨.slice none 0 0, [], rfl, by simp, World.cell?_alloc_mark w _ _ (0, 0) 0, by rw [World.frozen?_alloc_mark]; rfl, RowP.empty _ _ _ _, fun k => k, fun n c e => by (injection e with _ _ e; exact e.symm), fun ad n c e => by cases e⟩
  go_enter Try.func23, Try.ntmps23
  go_wp2_with fail
  go_ret
  exact ⟨rfl, HM.out, (Below.refl _ w).alloc (Nat.le_refl _) _⟩
set_option maxHeartbeats 1000000 in
set_option maxRecDepth 100000 in
theorem rlenP (S : List MK) (B : Nat) (P : Nat → Prop) (w : World) (h : RefM P w B S) : Calls Try.prog 27 #[.pointer (some ⟨B, 0, none⟩)] w (Gives (.int .i64 (S.length : Int)) w) := by
  obtain ⟨v, qs, rfl, hq⟩ := h
  obtain ⟨p, cap, rfl, _⟩ := hq.reads
  have h0 := hq.cell
  have hB := hq.lt
  have HL : Hid ((qs.map (·.1)).length = qs.length) := Lib.hid (by simp)
  rw [HL.out]
  clear hq
  go_enter Try.func27, Try.ntmps27
  go_wp2_with fail
  go_ret
  exact ⟨rfl, rfl⟩
set_option maxHeartbeats 1000000 in
set_option maxRecDepth 100000 in
theorem rwallP (S : List MK) (B : Nat) (P : Nat → Prop) (w : World) (h : RefM P w B S) (hs : S.length ≤ 4294967296) : Calls Try.prog 89 #[.pointer (some ⟨B, 0, none⟩)] w (Gives (.int .i64 ((rW S S.length : Nat) : Int)) w) := by
  obtain ⟨v, qs, rfl, hq⟩ := h
  obtain ⟨p, cap, rfl, hr⟩ := hq.reads
  have h0 := hq.cell
  have hB := hq.lt
  rw [List.length_map] at hs
  have HR := Lib.hid hr
  have HL : Hid ((qs.map (·.1)).length = qs.length) := Lib.hid (by simp)
  clear hq hr
  rw [HL.out]
  obtain ⟨R, hR⟩ : ∃ R, R = rW (qs.map (·.1)) qs.length := ⟨_, rfl⟩
  rw [← hR]
  have HRR := Lib.hid hR
  clear hR
  go_enter Try.func89, Try.ntmps89
  go_wp2_with fail
  go_loop [3] (fun i => ∃ k : Nat, k ≤ qs.length ∧ i = .int .i64 ((k : Int) - 1) ∧ R = rW (qs.map (·.1)) k) (fun i => (intOf i + 1).toNat)
  case atStart => exact ⟨qs.length, Nat.le_refl _, rfl, HRR.out⟩
  case round =>
    obtain ⟨k, hk, rfl, hf⟩ := hrel
    have HF := Lib.hid hf
    clear hf
    rcases k with _ | j
    · rw [show (((0 : Nat) : Int) - 1) = -1 by omega]
      have HZ : Hid ((R : Int) = 0) := Lib.hid (by rw [HF.out]; rfl)
      go_wp2_with fail
      go_ret
      exact ⟨ret_is HZ.out.symm, rfl⟩
    · rw [show (((j + 1 : Nat) : Int) - 1) = (j : Int) by omega]
      have hj : j < qs.length := by omega
      obtain ⟨g, o, rfl, hg, n0, n1, n2⟩ := HR.out j hj
      have HST : Hid (R = if qs[j].1.node < 0 then j + 1 else rW (qs.map (·.1)) j) := Lib.hid (by rw [HF.out, rW, fst_getD hj])
      have j0 : (0 : Int) ≤ (j : Int) := by omega
      have j1 : (j : Int) < (qs.length : Int) := by omega
      clear n1 n2
      by_cases c1 : qs[j].1.node < 0
      · have HZ : Hid ((R : Int) = (j : Int) + 1) := Lib.hid (by rw [HST.out, if_pos c1]; omega)
        clear HST
        generalize qs[j].1.node = N at *
        go_wp2_with fail
        go_ret
        exact ⟨ret_is HZ.out.symm, rfl⟩
      · have HZ : Hid (R = rW (qs.map (·.1)) j) := Lib.hid (by rw [HST.out, if_neg c1])
        clear HST
        generalize qs[j].1.node = N at *
        go_wp2_with fail
        exact ⟨⟨j, by omega, rfl, HZ.out⟩, by simp [intOf]⟩
set_option maxHeartbeats 1000000 in
set_option maxRecDepth 100000 in
theorem rfindP (S : List MK) (B : Nat) (P : Nat → Prop) (w : World) (n : List UInt8) (h : RefM P w B S) (hs : S.length ≤ 4294967296) (hsg : Sign S) : Calls Try.prog 100 #[.pointer (some ⟨B, 0, none⟩), .string ⟨n.toArray⟩] w (Gives (.int .i64 (mFind S n S.length)) w) := by
  have HW := Lib.hid (rwallP S B P w h hs)
  have HWL := rW_le S S.length
  have HWI := Lib.hid (rW_in S S.length)
  have HWF := Lib.hid (mFind_rW hsg n S.length (Nat.le_refl _))
  have HSG := Lib.hid (fun j (hj : j < S.length) => sign_neg hsg hj)
  obtain ⟨v, qs, rfl, hq⟩ := h
  obtain ⟨p, cap, rfl, hr⟩ := hq.reads
  have h0 := hq.cell
  have hB := hq.lt
  rw [List.length_map] at hs
  have HR := Lib.hid hr
  have HL : Hid ((qs.map (·.1)).length = qs.length) := Lib.hid (by simp)
  clear hq hr hsg
  rw [HL.out] at HW HWL HWI HWF HSG ⊢
  obtain ⟨R, hR⟩ : ∃ R, R = mFind (qs.map (·.1)) n qs.length := ⟨_, rfl⟩
  rw [← hR]
  have HRR := Lib.hid hR
  clear hR
  generalize rW (qs.map (·.1)) qs.length = Z at *
  go_enter Try.func100, Try.ntmps100
  go_wp2_with fail
  go_loop [5] (fun i => ∃ k : Nat, k ≤ qs.length ∧ Z ≤ k ∧ i = .int .i64 ((k : Int) - 1) ∧ R = mFind (qs.map (·.1)) n k) (fun i => (intOf i + 1).toNat)
  case atStart => exact ⟨qs.length, Nat.le_refl _, HWL, rfl, HRR.out⟩
  case round =>
    obtain ⟨k, hk, hzk, rfl, hf⟩ := hrel
    have HF := Lib.hid hf
    clear hf
    rcases Nat.lt_or_ge Z k with hlt | hge
    · obtain ⟨j, rfl⟩ : ∃ j, k = j + 1 := ⟨k - 1, by omega⟩
      rw [show (((j + 1 : Nat) : Int) - 1) = (j : Int) by omega]
      have hj : j < qs.length := by omega
      have hn := HWI.out j hj (by omega)
      rw [fst_getD hj] at hn
      obtain ⟨g, o, rfl, hg, n0, n1, n2⟩ := HR.out j hj
      have HST : Hid (R = if qs[j].1.name = n then (j : Int) else mFind (qs.map (·.1)) n j) := Lib.hid (by
        rw [HF.out, mFind_step _ _ _ (by simpa using hj), if_neg (by simp; omega)]
        simp)
      have j0 : (0 : Int) ≤ (j : Int) := by omega
      have j1 : (j : Int) < (qs.length : Int) := by omega
      have j2 : (Z : Int) ≤ (j : Int) := by omega
      clear n0 n2 hn
      by_cases c2 : qs[j].1.name = n
      · have q2 := str_is c2
        have HZ : Hid (R = (j : Int)) := Lib.hid (by rw [HST.out, if_pos c2])
        clear c2 HST
        generalize (⟨qs[j].1.name.toArray⟩ : ByteArray) = NA at *
        generalize (⟨n.toArray⟩ : ByteArray) = NB at *
        go_wp2_with fail
        refine HW.out.mono ?_
        rintro e w1 ⟨rfl, rfl⟩
        go_wp2_with fail
        go_ret
        exact ⟨ret_is HZ.out.symm, rfl⟩
      · have q2 := str_ne c2
        have HZ : Hid (R = mFind (qs.map (·.1)) n j) := Lib.hid (by rw [HST.out, if_neg c2])
        clear c2 HST
        generalize (⟨qs[j].1.name.toArray⟩ : ByteArray) = NA at *
        generalize (⟨n.toArray⟩ : ByteArray) = NB at *
        go_wp2_with fail
        refine HW.out.mono ?_
        rintro e w1 ⟨rfl, rfl⟩
        go_wp2_with fail
        exact ⟨⟨j, by omega, by omega, rfl, HZ.out⟩, by simp [intOf]⟩
    · obtain rfl : k = Z := by omega
      have HZ : Hid (R = -1) := Lib.hid (by rw [HF.out, HWF.out])
      have j2 : ¬ (k : Int) ≤ (k : Int) - 1 := by omega
      go_wp2_with fail
      refine HW.out.mono ?_
      rintro e w1 ⟨rfl, rfl⟩
      go_wp2_with fail
      go_ret
      exact ⟨ret_is HZ.out.symm, rfl⟩
set_option maxHeartbeats 1000000 in
set_option maxRecDepth 100000 in
theorem rofP (S : List MK) (B : Nat) (P : Nat → Prop) (w : World) (n : Int) (h : RefM P w B S) (hs : S.length ≤ 4294967296) : Calls Try.prog 42 #[.pointer (some ⟨B, 0, none⟩), .int .i64 n] w (Gives (.int .i64 (mOfA S n 0)) w) := by
  obtain ⟨v, qs, rfl, hq⟩ := h
  obtain ⟨p, cap, rfl, hr⟩ := hq.reads
  have h0 := hq.cell
  have hB := hq.lt
  rw [List.length_map] at hs
  have HR := Lib.hid hr
  clear hq hr
  obtain ⟨R, hR⟩ : ∃ R, R = mOfA (qs.map (·.1)) n 0 := ⟨_, rfl⟩
  rw [← hR]
  have HRR := Lib.hid hR
  clear hR
  go_enter Try.func42, Try.ntmps42
  go_wp2_with fail
  go_loop [5] (fun i => ∃ k : Nat, k ≤ qs.length ∧ i = .int .i64 (k : Int) ∧ R = mOfA ((qs.drop k).map (·.1)) n k) (fun i => qs.length - (intOf i).toNat)
  case atStart => exact ⟨0, Nat.zero_le _, rfl, HRR.out⟩
  case round =>
    obtain ⟨k, hk, rfl, hf⟩ := hrel
    have HF := Lib.hid hf
    clear hf
    by_cases hlt : k < qs.length
    · obtain ⟨g, o, rfl, hg, n0, n1, n2⟩ := HR.out k hlt
      have HST : Hid (R = if qs[k].1.node = n then (k : Int) else mOfA ((qs.drop (k + 1)).map (·.1)) n (k + 1)) := by
        refine Lib.hid ?_
        rw [HF.out, List.drop_eq_getElem_cons hlt]
        rfl
      have j0 : (0 : Int) ≤ (k : Int) := by omega
      have j1 : (k : Int) < (qs.length : Int) := by omega
      clear n1 n2
      by_cases c1 : qs[k].1.node = n
      · have q1 : (qs[k].1.node == n) = true := by simpa using c1
        have HZ : Hid (R = (k : Int)) := Lib.hid (by rw [HST.out, if_pos c1])
        clear c1 HST
        generalize qs[k].1.node = N at *
        go_wp2_with fail
        go_ret
        exact ⟨ret_is HZ.out.symm, rfl⟩
      · have q1 : (qs[k].1.node == n) = false := by simpa using c1
        have HZ : Hid (R = mOfA ((qs.drop (k + 1)).map (·.1)) n (k + 1)) := Lib.hid (by rw [HST.out, if_neg c1])
        clear c1 HST
        generalize qs[k].1.node = N at *
        go_wp2_with fail
        exact ⟨⟨k + 1, by omega, by go_num, HZ.out⟩, by simp [intOf]; omega⟩
    · have HZ : Hid (R = -1) := Lib.hid (by rw [HF.out, List.drop_eq_nil_of_le (by omega)]; rfl)
      go_wp2_with fail
      go_ret
      exact ⟨ret_is HZ.out.symm, rfl⟩
end Go.Proofs.Ytbadckkcjjfnoaa
