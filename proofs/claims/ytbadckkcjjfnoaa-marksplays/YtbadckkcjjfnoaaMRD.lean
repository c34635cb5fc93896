/-
  The walks of the reference's Set and Put for marks, of any place. Any marks, not too many.
-/
import Derived.Test.YtbadckkcjjfnoaaMRC
namespace Go.Proofs.Ytbadckkcjjfnoaa
open Go.RowKit

theorem RefQ.some_ {P : Nat → Prop} {w : World} {B n cap : Nat} {p : Option Addr} {rs : List (MK × Value)} (h : RefQ P w B (.slice p n cap) rs) (h0 : 0 < rs.length) : ∃ g o, p = some ⟨g, o, none⟩ := by
  obtain ⟨p', c', e, _, hc', _⟩ := h.row
  injection e with e1 e2 e3
  obtain ⟨g, o, e', _⟩ := hc' 0 h0
  exact ⟨g, o, by rw [e1, e']⟩
set_option maxHeartbeats 2000000 in
set_option maxRecDepth 100000 in
theorem rsetP (S : List MK) (B : Nat) (P : Nat → Prop) (w : World) (i : Int) (x : MK) (pa : Option Addr) (ca : Nat) (h : RefM P w B S) (hs : S.length ≤ 100000000) (ha : AttrsP P w (.slice pa x.attrs.length ca) x.attrs) :
    Calls Try.prog 35 #[.pointer (some ⟨B, 0, none⟩), .int .i64 i, markV x (.slice pa x.attrs.length ca)] w (fun e w' => e = .returned (.bool (mHas S i)) ∧ RStep w B P (mSetS S i x) w') := by
  by_cases c : mHas S i = true
  · have hc : 0 ≤ i ∧ i < S.length := by unfold mHas at c; simpa using c
    have hS : mSetS S i x = S.set i.toNat x := if_pos c
    rw [hS, c]
    obtain ⟨k, hk⟩ : ∃ k : Nat, k = i.toNat := ⟨_, rfl⟩
    rw [← hk]
    obtain rfl : i = (k : Int) := by omega
    obtain ⟨v, rs, rfl, hq⟩ := h
    rw [List.length_map] at hc hs
    obtain ⟨p, cap, rfl, hcap, hnil⟩ := hq.form
    obtain ⟨g, o, rfl⟩ := hq.some_ (by omega)
    by_cases hne : k + 1 < cap
    · exact rsetA rs B P w k x pa ca cap g o hq hs ha (by omega) hne
    · exact rsetB rs B P w k x pa ca cap g o hq hs ha (by omega) (by omega) hcap
  · have c' : mHas S i = false := by simpa using c
    have hS : mSetS S i x = S := if_neg c
    rw [hS, c']
    have hB : B < w.heap.size := by obtain ⟨v, rs, _, hq⟩ := id h; exact hq.lt
    unfold markV
    obtain ⟨NM, hNM⟩ : ∃ NM : ByteArray, NM = (⟨x.name.toArray⟩ : ByteArray) := ⟨_, rfl⟩
    rw [← hNM]
    obtain ⟨W1, hW1⟩ : ∃ W1, W1 = w.alloc (.cells #[.int .i64 x.node, .string NM, .slice pa x.attrs.length ca] 63) := ⟨_, rfl⟩
    have b1 : Below w.heap.size w W1 := by rw [hW1]; exact (Below.refl _ w).alloc (Nat.le_refl _) _
    have h1 : RefM P W1 B S := by obtain ⟨v, rs, e, hq⟩ := h; exact ⟨v, rs, e, hq.below b1⟩
    have HIS := Lib.hid (risP S B P W1 i h1)
    rw [c'] at HIS
    have HR := Lib.hid ((RStep.same h1).from b1 hB)
    have HW1 := Lib.hid hW1
    clear h h1 b1 hW1 hNM ha c c' hS
    go_enter Try.func35, Try.ntmps35
    go_wp2_with fail
    rw [← HW1.out]
    refine HIS.out.mono ?_
    rintro e w9 ⟨rfl, rfl⟩
    go_wp2_with fail
    go_ret
    exact ⟨rfl, HR.out⟩
set_option maxHeartbeats 2000000 in
set_option maxRecDepth 100000 in
theorem rputP (S : List MK) (B : Nat) (P : Nat → Prop) (w : World) (i : Int) (x : MK) (pa : Option Addr) (ca : Nat) (h : RefM P w B S) (hs : S.length ≤ 100000000) (ha : AttrsP P w (.slice pa x.attrs.length ca) x.attrs) :
    Calls Try.prog 37 #[.pointer (some ⟨B, 0, none⟩), .int .i64 i, markV x (.slice pa x.attrs.length ca)] w (fun e w' => e = .returned (.bool (mPutB S i)) ∧ RStep w B P (mPutS S i x) w') := by
  by_cases c : mPutB S i = true
  · have hc : 0 ≤ i ∧ i ≤ S.length := by
      unfold mPutB mHas at c
      simp only [Bool.or_eq_true, Bool.and_eq_true, decide_eq_true_eq] at c
      omega
    have hS : mPutS S i x = mIns S i.toNat x := if_pos c
    rw [hS, c]
    obtain ⟨k, hk⟩ : ∃ k : Nat, k = i.toNat := ⟨_, rfl⟩
    rw [← hk]
    obtain rfl : i = (k : Int) := by omega
    obtain ⟨v, rs, rfl, hq⟩ := h
    rw [List.length_map] at hc hs
    obtain ⟨p, cap, rfl, hcap, hnil⟩ := hq.form
    cases p with
    | none =>
      have h0 : rs.length = 0 := by
        rcases Nat.eq_zero_or_pos rs.length with e | e
        · exact e
        · obtain ⟨g, o, e⟩ := hq.some_ e; cases e
      exact rputN rs B P w k x pa ca cap hq hs ha (by omega) h0 (hnil rfl)
    | some ad =>
      obtain ⟨g, o, hgo⟩ : ∃ g o, ad = ⟨g, o, none⟩ := hq.addr _ _ _ rfl
      subst hgo
      by_cases hkl : k = rs.length
      · by_cases hkc : k < cap
        · exact rputA2 rs B P w k x pa ca cap g o hq hs ha hkl hkc
        · exact rputB rs B P w k x pa ca cap g o hq hs ha hkl (by omega)
      · exact rputA1 rs B P w k x pa ca cap g o hq hs ha (by omega) (by omega)
  · have c' : mPutB S i = false := by simpa using c
    have hS : mPutS S i x = S := if_neg c
    rw [hS, c']
    have hc : mHas S i = false ∧ i ≠ S.length := by
      unfold mPutB at c'
      simpa using c'
    obtain ⟨c1, c2⟩ := hc
    have hB : B < w.heap.size := by obtain ⟨v, rs, _, hq⟩ := id h; exact hq.lt
    unfold markV
    obtain ⟨NM, hNM⟩ : ∃ NM : ByteArray, NM = (⟨x.name.toArray⟩ : ByteArray) := ⟨_, rfl⟩
    rw [← hNM]
    obtain ⟨W1, hW1⟩ : ∃ W1, W1 = w.alloc (.cells #[.int .i64 x.node, .string NM, .slice pa x.attrs.length ca] 63) := ⟨_, rfl⟩
    have b1 : Below w.heap.size w W1 := by rw [hW1]; exact (Below.refl _ w).alloc (Nat.le_refl _) _
    have h1 : RefM P W1 B S := by obtain ⟨v, rs, e, hq⟩ := h; exact ⟨v, rs, e, hq.below b1⟩
    have HIS := Lib.hid (risP S B P W1 i h1)
    rw [c1] at HIS
    have HR := Lib.hid ((RStep.same h1).from b1 hB)
    obtain ⟨v, rs, rfl, hq⟩ := h1
    obtain ⟨p, cap, rfl, _, _⟩ := hq.form
    have c0 := hq.cell
    have hlt := hq.lt
    rw [List.length_map] at c2
    have q1 : (i != (rs.length : Int)) = true := by simpa using c2
    have HW1 := Lib.hid hW1
    clear h b1 hW1 hNM ha c c' hS hq c1 c2
    go_enter Try.func37, Try.ntmps37
    go_upto_region 1 with fail
    rw [← HW1.out]
    go_wp2_with fail
    refine HIS.out.mono ?_
    rintro e w9 ⟨rfl, rfl⟩
    go_wp2_with fail
    go_ret
    exact ⟨rfl, HR.out⟩
end Go.Proofs.Ytbadckkcjjfnoaa
