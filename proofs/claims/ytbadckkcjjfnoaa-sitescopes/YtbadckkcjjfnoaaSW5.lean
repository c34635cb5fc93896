/-
  The walks of the program's Has and last. Any Site, any names, not too many.
-/
import Derived.Test.YtbadckkcjjfnoaaSW4
namespace Go.Proofs.Ytbadckkcjjfnoaa
open Go.RowKit Go.Maps

variable {M : Nat → Prop} {w w' : World} {B : Nat} {a : SA} {S : List PN} {L : List MK} {R : List EL} {fO : Int → Bool} {fN : List UInt8 → Int} {fo : Bool}
/-- From the i-th place down to the first one behind the root: one of these names, ahead of any wall? -/
def scanH (R : List EL) (c : Int) (l : List (List UInt8)) : Nat → Bool
  | 0 => false
  | i + 1 => if (R.getD (i + 1) default).is l = true then true else if wallK c (R.getD (i + 1) default).space (R.getD (i + 1) default).name = true then false else scanH R c l i
/-- The last place, from the i-th on down, of one of these names; 0. -/
def scanL (R : List EL) (l : List (List UInt8)) : Nat → Nat
  | 0 => 0
  | i + 1 => if (R.getD (i + 1) default).is l = true then i + 1 else scanL R l i
theorem scanL_le (R : List EL) (l : List (List UInt8)) : ∀ i, scanL R l i ≤ i
  | 0 => Nat.le_refl _
  | i + 1 => by
    unfold scanL
    split
    · exact Nat.le_refl _
    · have := scanL_le R l i; omega
theorem elD {R : List EL} {i : Nat} (h : i < R.length) : R.getD i default = R[i] := by rw [List.getD_eq_getElem?_getD, List.getElem?_eq_getElem h]; rfl
set_option maxHeartbeats 2000000 in
set_option maxRecDepth 100000 in
theorem shasP (h : SiteQ M w B a S L R fO fN fo) (c : Int) (v : Value) (l : List (List UInt8)) (hv : StrsAt w v l) (h0 : 0 < R.length) (hr : R.length ≤ 4294967296) (hs : l.length ≤ 4294967296) (hl : ∀ s ∈ l, s.length ≤ 4294967296) :
    Calls Try.prog 52 #[.pointer (some ⟨B, 0, none⟩), .int .i64 c, v] w (Brings (.bool (anyN fN l && scanH R c l (R.length - 1))) w) := by
  have HC := Lib.hid (sanyP h v l hv hs hl)
  obtain ⟨g, cap, e⟩ := h.pos h0
  have HQ := Lib.hid h
  have HE := Lib.hid e
  have HV := Lib.hid hv
  clear h hv hl e
  obtain ⟨r, hr'⟩ : ∃ r, r = scanH R c l (R.length - 1) := ⟨_, rfl⟩
  rw [← hr']
  have HRR := Lib.hid hr'
  clear hr'
  cases k0 : anyN fN l
  · rw [k0] at HC
    go_enter Try.func52, Try.ntmps52
    go_wp2_with fail
    refine HC.out.mono ?_
    rintro e w1 ⟨rfl, hb⟩
    have HB := Lib.hid hb
    clear hb
    go_wp2_with fail
    go_ret
    exact ⟨rfl, HB.out⟩
  · rw [k0] at HC
    clear k0
    go_enter Try.func52, Try.ntmps52
    go_wp2_with fail
    refine HC.out.mono ?_
    rintro e w1 ⟨rfl, hb⟩
    have c2 := (HQ.out.below hb).c2
    rw [HE.out] at c2
    have hB := (HQ.out.below hb).lt
    have HB := Lib.hid hb
    clear hb
    go_wp2_with fail
    go_loopw [7] (fun i wr => ∃ k : Nat, k < R.length ∧ i = .int .i64 (k : Int) ∧ r = scanH R c l k ∧ Below w.heap.size w wr) (fun i _ => (intOf i).toNat)
    case atStart => exact ⟨R.length - 1, by omega, by go_num, HRR.out, HB.out⟩
    case round =>
      obtain ⟨k, hk, rfl, hf, hb⟩ := hrel
      have HF := Lib.hid hf
      have h' := HQ.out.below hb
      have c2 := h'.c2
      rw [HE.out] at c2
      have hB := h'.lt
      have HBB := Lib.hid hb
      clear hf hb
      by_cases kp : 0 < k
      · have HEL := Lib.hid (h'.el HE.out k hk)
        have HST : Hid (r = if R[k].is l = true then true else if wallK c R[k].space R[k].name = true then false else scanH R c l (k - 1)) := Lib.hid (by
          rw [HF.out]
          obtain ⟨m, rfl⟩ : ∃ m, k = m + 1 := ⟨k - 1, by omega⟩
          rw [scanH, elD hk, Nat.add_sub_cancel])
        obtain ⟨hg, e0, e1, e2⟩ := HEL.out
        have HI : Hid (Calls Try.prog 114 #[.pointer (some ⟨g, k * 3, none⟩), v] wr (Gives (.bool (R[k].is l)) wr)) := Lib.hid (eisP g _ R[k] v l wr HEL.out (HV.out.below HBB.out) hs)
        have HW : Hid (∀ W, Calls Try.prog 115 #[.int .i64 c, .int .i64 R[k].space, .string ⟨R[k].name.toArray⟩] W (Gives (.bool (wallK c R[k].space R[k].name)) W)) := Lib.hid fun W => wallP c _ _ W
        have hcap := h'.cap_le HE.out
        have j0 : (0 : Int) < (k : Int) := by omega
        have j1 : (0 : Int) ≤ (k : Int) := by omega
        have j2 : (k : Int) < (R.length : Int) := by omega
        clear HF h' HEL
        generalize R[k] = x at *
        cases k1 : x.is l
        · rw [k1] at HI
          cases k2 : wallK c x.space x.name
          · have HZ : Hid (r = scanH R c l (k - 1)) := Lib.hid (by rw [HST.out, k1, k2]; rfl)
            rw [k2] at HW
            clear HST k1 k2
            generalize (⟨x.name.toArray⟩ : ByteArray) = NM at *
            generalize x.space = SP at *
            go_wp2_with fail
            refine HI.out.mono ?_
            rintro e w1 ⟨rfl, rfl⟩
            go_wp2_with fail
            go_still_tail 9, (by kernel_rfl)
            go_wp2_with fail
            refine (HW.out _).mono ?_
            rintro e w1 ⟨rfl, rfl⟩
            go_wp2_with fail
            exact ⟨⟨k - 1, by omega, by go_num, HZ.out, HBB.out.trans ((Below.refl _ wr).drew.mono HBB.out.size)⟩, by simp [intOf]; omega⟩
          · have HZ : Hid (r = false) := Lib.hid (by rw [HST.out, k1, k2]; rfl)
            rw [k2] at HW
            clear HST k1 k2
            generalize (⟨x.name.toArray⟩ : ByteArray) = NM at *
            generalize x.space = SP at *
            go_wp2_with fail
            refine HI.out.mono ?_
            rintro e w1 ⟨rfl, rfl⟩
            go_wp2_with fail
            go_still_tail 9, (by kernel_rfl)
            go_wp2_with fail
            refine (HW.out _).mono ?_
            rintro e w1 ⟨rfl, rfl⟩
            go_wp2_with fail
            go_ret
            exact ⟨bool_is HZ.out.symm, HBB.out.trans ((Below.refl _ wr).drew.mono HBB.out.size)⟩
        · have HZ : Hid (r = true) := Lib.hid (by rw [HST.out, k1]; rfl)
          rw [k1] at HI
          clear HST k1
          generalize (⟨x.name.toArray⟩ : ByteArray) = NM at *
          go_wp2_with fail
          refine HI.out.mono ?_
          rintro e w1 ⟨rfl, rfl⟩
          go_wp2_with fail
          go_ret
          exact ⟨bool_is HZ.out.symm, HBB.out⟩
      · obtain rfl : k = 0 := by omega
        have HZ : Hid (r = false) := Lib.hid HF.out
        go_wp2_with fail
        go_ret
        exact ⟨bool_is HZ.out.symm, HBB.out⟩
/-- What last tells. -/
def lastS (fN : List UInt8 → Int) (R : List EL) (l : List (List UInt8)) : Nat := if anyN fN l then scanL R l (R.length - 1) else 0
set_option maxHeartbeats 2000000 in
set_option maxRecDepth 100000 in
theorem slastP (h : SiteQ M w B a S L R fO fN fo) (v : Value) (l : List (List UInt8)) (hv : StrsAt w v l) (h0 : 0 < R.length) (hr : R.length ≤ 4294967296) (hs : l.length ≤ 4294967296) (hl : ∀ s ∈ l, s.length ≤ 4294967296) :
    Calls Try.prog 159 #[.pointer (some ⟨B, 0, none⟩), v] w (Brings (.int .i64 ((lastS fN R l : Nat) : Int)) w) := by
  have HC := Lib.hid (sanyP h v l hv hs hl)
  obtain ⟨g, cap, e⟩ := h.pos h0
  have HQ := Lib.hid h
  have HE := Lib.hid e
  have HV := Lib.hid hv
  clear h hv hl e
  obtain ⟨r, hr'⟩ : ∃ r, r = lastS fN R l := ⟨_, rfl⟩
  rw [← hr']
  have HRR := Lib.hid hr'
  clear hr'
  cases k0 : anyN fN l
  · rw [k0] at HC
    have HZ : Hid (r = 0) := Lib.hid (by rw [HRR.out, lastS, k0]; rfl)
    clear k0
    go_enter Try.func159, Try.ntmps159
    go_wp2_with fail
    refine HC.out.mono ?_
    rintro e w1 ⟨rfl, hb⟩
    have HB := Lib.hid hb
    clear hb
    go_wp2_with fail
    go_ret
    exact ⟨by rw [HZ.out]; rfl, HB.out⟩
  · rw [k0] at HC
    have HZ : Hid (r = scanL R l (R.length - 1)) := Lib.hid (by rw [HRR.out, lastS, k0]; rfl)
    clear k0 HRR
    go_enter Try.func159, Try.ntmps159
    go_wp2_with fail
    refine HC.out.mono ?_
    rintro e w1 ⟨rfl, hb⟩
    have c2 := (HQ.out.below hb).c2
    rw [HE.out] at c2
    have hB := (HQ.out.below hb).lt
    have HB := Lib.hid hb
    clear hb
    go_wp2_with fail
    go_loopw [5] (fun i wr => ∃ k : Nat, k < R.length ∧ i = .int .i64 (k : Int) ∧ r = scanL R l k ∧ Below w.heap.size w wr) (fun i _ => (intOf i).toNat)
    case atStart => exact ⟨R.length - 1, by omega, by go_num, HZ.out, HB.out⟩
    case round =>
      obtain ⟨k, hk, rfl, hf, hb⟩ := hrel
      have HF := Lib.hid hf
      have h' := HQ.out.below hb
      have c2 := h'.c2
      rw [HE.out] at c2
      have hB := h'.lt
      have HBB := Lib.hid hb
      clear hf hb
      by_cases kp : 0 < k
      · have HEL := Lib.hid (h'.el HE.out k hk)
        have HST : Hid (r = if R[k].is l = true then k else scanL R l (k - 1)) := Lib.hid (by
          rw [HF.out]
          obtain ⟨m, rfl⟩ : ∃ m, k = m + 1 := ⟨k - 1, by omega⟩
          rw [scanL, elD hk, Nat.add_sub_cancel])
        obtain ⟨hg, e0, e1, e2⟩ := HEL.out
        have HI : Hid (Calls Try.prog 114 #[.pointer (some ⟨g, k * 3, none⟩), v] wr (Gives (.bool (R[k].is l)) wr)) := Lib.hid (eisP g _ R[k] v l wr HEL.out (HV.out.below HBB.out) hs)
        have hcap := h'.cap_le HE.out
        have j0 : (0 : Int) < (k : Int) := by omega
        have j1 : (0 : Int) ≤ (k : Int) := by omega
        have j2 : (k : Int) < (R.length : Int) := by omega
        clear HF h' HEL e0 e1 e2
        generalize R[k] = x at *
        cases k1 : x.is l
        · rw [k1] at HI
          have HZ : Hid (r = scanL R l (k - 1)) := Lib.hid (by rw [HST.out, k1]; rfl)
          clear HST k1
          go_wp2_with fail
          refine HI.out.mono ?_
          rintro e w1 ⟨rfl, rfl⟩
          go_wp2_with fail
          exact ⟨⟨k - 1, by omega, by go_num, HZ.out, HBB.out⟩, by simp [intOf]; omega⟩
        · have HZ : Hid (r = k) := Lib.hid (by rw [HST.out, k1]; rfl)
          rw [k1] at HI
          clear HST k1
          go_wp2_with fail
          refine HI.out.mono ?_
          rintro e w1 ⟨rfl, rfl⟩
          go_wp2_with fail
          go_ret
          exact ⟨ret_is (by have := HZ.out; omega), HBB.out⟩
      · obtain rfl : k = 0 := by omega
        have HZ : Hid (r = 0) := Lib.hid HF.out
        go_wp2_with fail
        go_ret
        exact ⟨ret_is (by have := HZ.out; omega), HBB.out⟩
end Go.Proofs.Ytbadckkcjjfnoaa
