/-
  The walks of the program's place, leave, Drop, Pop. Any Site.
-/
import Derived.Test.YtbadckkcjjfnoaaSWA
import Derived.Test.YtbadckkcjjfnoaaSWB
namespace Go.Proofs.Ytbadckkcjjfnoaa
open Go.RowKit Go.Maps

variable {M : Nat → Prop} {w w' : World} {B : Nat} {a : SA} {S : List PN} {L : List MK} {R : List EL} {fO : Int → Bool} {fN : List UInt8 → Int} {fo : Bool} {T : Nat}
/-- The place, from the i-th on down, of a number; 0. -/
def scanP (R : List EL) (n : Int) : Nat → Nat
  | 0 => 0
  | i + 1 => if (R.getD (i + 1) default).n = n then i + 1 else scanP R n i
theorem scanP_le (R : List EL) (n : Int) : ∀ i, scanP R n i ≤ i
  | 0 => Nat.le_refl _
  | i + 1 => by
    unfold scanP
    split
    · exact Nat.le_refl _
    · have := scanP_le R n i; omega
def placeS (R : List EL) (n : Int) : Int := if elOpen R n then (scanP R n (R.length - 1) : Int) else -1
theorem scanP_none {R : List EL} {n : Int} (h : ∃ x ∈ R, x.n = n) : ∀ i, (∀ j (hj : j < R.length), i < j → R[j].n ≠ n) → (R.getD (scanP R n i) default).n = n
  | 0, hn => by
    obtain ⟨x, hx, e⟩ := h
    obtain ⟨j, hj, rfl⟩ := List.getElem_of_mem hx
    have : j = 0 := by
      rcases Nat.eq_zero_or_pos j with q | q
      · exact q
      · exact absurd e (hn j hj q)
    subst this
    rw [scanP, elD hj]
    exact e
  | i + 1, hn => by
    unfold scanP
    split
    · assumption
    · rename_i c
      refine scanP_none h i (fun j hj hij => ?_)
      rcases Nat.lt_or_ge (i + 1) j with q | q
      · exact hn j hj q
      · have : j = i + 1 := by omega
        subst this
        rw [elD hj] at c
        exact c
set_option maxHeartbeats 2000000 in
set_option maxRecDepth 100000 in
theorem splaceP (h : SiteQ M w B a S L R (elOpen R) fN fo) (n : Int) (h0 : 0 < R.length) (hr : R.length ≤ 4294967296) (n0 : -9223372036854775808 ≤ n) (n1 : n ≤ 9223372036854775807) :
    Calls Try.prog 145 #[.pointer (some ⟨B, 0, none⟩), .int .i64 n] w (Brings (.int .i64 (placeS R n)) w) := by
  have HC := Lib.hid (sopenP h n n0 n1)
  obtain ⟨g, cap, e⟩ := h.pos h0
  have HQ := Lib.hid h
  have HE := Lib.hid e
  clear h e
  obtain ⟨r, hr'⟩ : ∃ r, r = placeS R n := ⟨_, rfl⟩
  rw [← hr']
  have HRR := Lib.hid hr'
  clear hr'
  cases k0 : elOpen R n
  · rw [k0] at HC
    have HZ : Hid (r = -1) := Lib.hid (by rw [HRR.out, placeS, k0]; rfl)
    clear k0 HRR
    go_enter Try.func145, Try.ntmps145
    go_wp2_with fail
    refine HC.out.mono ?_
    rintro e w1 ⟨rfl, hb⟩
    have HB := Lib.hid hb
    clear hb
    go_wp2_with fail
    go_ret
    exact ⟨ret_is HZ.out.symm, HB.out⟩
  · rw [k0] at HC
    have HZ : Hid (r = (scanP R n (R.length - 1) : Int)) := Lib.hid (by rw [HRR.out, placeS, k0]; rfl)
    have HX : Hid (∃ x ∈ R, x.n = n) := Lib.hid (by
      unfold elOpen at k0
      rw [List.any_eq_true] at k0
      obtain ⟨x, hx, e⟩ := k0
      exact ⟨x, hx, by simpa using e⟩)
    clear k0 HRR
    go_enter Try.func145, Try.ntmps145
    go_wp2_with fail
    refine HC.out.mono ?_
    rintro e w1 ⟨rfl, hb⟩
    have c2 := (HQ.out.below hb).c2
    rw [HE.out] at c2
    have hB := (HQ.out.below hb).lt
    have HB := Lib.hid hb
    clear hb
    go_wp2_with fail
    go_loopw [5] (fun i wr => ∃ k : Nat, k < R.length ∧ i = .int .i64 (k : Int) ∧ r = (scanP R n k : Int) ∧ (∀ j (hj : j < R.length), k < j → R[j].n ≠ n) ∧ Below w.heap.size w wr) (fun i _ => (intOf i).toNat)
    case atStart => exact ⟨R.length - 1, by omega, by go_num, HZ.out, fun j hj q => absurd hj (by omega), HB.out⟩
    case round =>
      obtain ⟨k, hk, rfl, hf, hno, hb⟩ := hrel
      have HF := Lib.hid hf
      have HNO := Lib.hid hno
      have h' := HQ.out.below hb
      have c2 := h'.c2
      rw [HE.out] at c2
      have hB := h'.lt
      have HBB := Lib.hid hb
      obtain ⟨hg, e0, e1, e2⟩ := h'.el HE.out k hk
      have j1 : (0 : Int) ≤ (k : Int) := by omega
      have j2 : (k : Int) < (R.length : Int) := by omega
      clear hf hb h' hno e1 e2
      by_cases kn : R[k].n = n
      · have q1 : (R[k].n != n) = false := by simp [kn]
        have HZ2 : Hid (r = (k : Int)) := Lib.hid (by
          rw [HF.out]
          rcases k with _ | m
          · rfl
          · rw [scanP, if_pos (by rw [elD hk]; exact kn)])
        clear kn HF
        generalize R[k].n = N at *
        go_wp2_with fail
        go_ret
        exact ⟨ret_is HZ2.out.symm, HBB.out⟩
      · have q1 : (R[k].n != n) = true := by simp [kn]
        have hk0 : 0 < k := by
          rcases Nat.eq_zero_or_pos k with q | q
          · subst q
            have := scanP_none HX.out 0 HNO.out
            rw [scanP, elD hk] at this
            exact absurd this kn
          · exact q
        have HZ2 : Hid (r = (scanP R n (k - 1) : Int)) := Lib.hid (by
          rw [HF.out]
          obtain ⟨m, rfl⟩ : ∃ m, k = m + 1 := ⟨k - 1, by omega⟩
          rw [scanP, if_neg (by rw [elD hk]; exact kn), Nat.add_sub_cancel])
        have HN2 : Hid (∀ j (hj : j < R.length), k - 1 < j → R[j].n ≠ n) := Lib.hid fun j hj q => by
          rcases Nat.lt_or_ge k j with q2 | q2
          · exact HNO.out j hj q2
          · have : j = k := by omega
            subst this
            exact kn
        clear kn HF HNO
        generalize R[k].n = N at *
        go_wp2_with fail
        exact ⟨⟨k - 1, by omega, by go_num, HZ2.out, HN2.out, HBB.out⟩, by simp [intOf]; omega⟩
end Go.Proofs.Ytbadckkcjjfnoaa
