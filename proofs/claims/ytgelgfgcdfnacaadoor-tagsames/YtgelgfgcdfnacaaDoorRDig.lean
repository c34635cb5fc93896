/-
  The walks of what reads a reference by number: number of the reference, numbered of the program. Any text of at most 2^32 bytes.
-/
import Derived.Test.YtgelgfgcdfnacaaDoorRNum
import Derived.Test.YtgelgfgcdfnacaaDoorPart
namespace Go.Proofs.YtgelgfgcdfnacaaDoor
open Go.RowKit
namespace Plain
/-- What the loop over digits keeps: where it stands, what they came to. -/
def DigAt (l : List UInt8) (f base i V : Nat) : Prop := f ≤ i ∧ i ≤ l.length ∧ digN base (l.drop f) = (i - f) + digN base (l.drop i) ∧ digX base V (l.drop i) = digX base 0 (l.drop f)
theorem DigAt.start (l : List UInt8) (f base : Nat) (h : f ≤ l.length) : DigAt l f base f 0 := ⟨Nat.le_refl _, h, by omega, rfl⟩
theorem DigAt.step {l : List UInt8} {f base i V : Nat} (h : DigAt l f base i V) (hi : i < l.length) (hd : digV l[i] < base) : DigAt l f base (i + 1) (V * base + digV l[i]) := by
  obtain ⟨h1, h2, h3, h4⟩ := h
  rw [List.drop_eq_getElem_cons hi] at h3 h4
  simp only [digN, digX, if_pos hd] at h3 h4
  exact ⟨by omega, by omega, by omega, h4⟩
theorem DigAt.stop {l : List UInt8} {f base i V : Nat} (h : DigAt l f base i V) (hs : ∀ hi : i < l.length, ¬ digV l[i] < base) : digN base (l.drop f) = i - f ∧ digX base 0 (l.drop f) = V := by
  obtain ⟨h1, h2, h3, h4⟩ := h
  by_cases hi : i < l.length
  · rw [List.drop_eq_getElem_cons hi] at h3 h4
    simp only [digN, digX, if_neg (hs hi)] at h3 h4
    exact ⟨by omega, h4.symm⟩
  · rw [List.drop_eq_nil_of_le (show l.length ≤ i by omega)] at h3 h4
    simp only [digN, digX] at h3 h4
    exact ⟨by omega, h4.symm⟩
theorem cap_step (V C base d : Nat) (hb : 1 ≤ base) : min (min V C * base + d) C = min (V * base + d) C := by
  by_cases h : V ≤ C
  · rw [Nat.min_eq_left h]
  · have h1 : C * 1 ≤ C * base := Nat.mul_le_mul_left C hb
    have h2 : C * base ≤ V * base := Nat.mul_le_mul_right base (by omega)
    rw [Nat.min_eq_right (show C ≤ V by omega), Nat.min_eq_right (by omega), Nat.min_eq_right (by omega)]
theorem numbered_none {l : List UInt8} {f base i V : Nat} (h : DigAt l f base i V) (hs : ∀ hi : i < l.length, ¬ digV l[i] < base) (e : i = f) : numbered l f base = ([], 0) := by
  obtain ⟨h1, _⟩ := h.stop hs
  unfold numbered
  rw [if_pos (by omega)]
theorem numbered_some {l : List UInt8} {f base i V : Nat} (h : DigAt l f base i V) (hs : ∀ hi : i < l.length, ¬ digV l[i] < base) (e : i ≠ f) (C : Nat) (hC : 1114111 < C) (j : Nat) (hj : (l.getD i 0).toNat = 59 ∧ j = i + 1 ∨ (l.getD i 0).toNat ≠ 59 ∧ j = i) : numbered l f base = (number ((min V C : Nat) : Int), j) := by
  obtain ⟨h1, h2⟩ := h.stop hs
  have := h.1
  unfold numbered
  rw [if_neg (by omega), h1, h2, number_cap V C hC, show f + (i - f) = i by omega]
  rcases hj with ⟨a, b⟩ | ⟨a, b⟩
  · rw [if_pos a, b]
  · rw [if_neg a, b]; rfl
theorem getD_get (s : ByteArray) (i : Nat) (h : i < s.size) : s.data.toList.getD i 0 = s[i] := by
  rw [List.getD_eq_getElem?_getD, List.getElem?_eq_getElem (by simpa using h)]
  rfl
theorem getD_end (s : ByteArray) (i : Nat) (h : ¬ i < s.size) : s.data.toList.getD i 0 = 0 := by
  rw [List.getD_eq_getElem?_getD, List.getElem?_eq_none (by simpa using h)]
  rfl
end Plain

/-- What a call tells that makes memory and answers a text and a number. -/
def Tells2 (t : List UInt8 × Nat) (w : World) (e : Ending) (w' : World) : Prop := e = .returned (.tuple #[.string ⟨t.1.toArray⟩, .int .i64 (t.2 : Int)]) ∧ Below w.heap.size w w'
theorem HasEarly.size {w : World} (h : HasEarly w) : 1 < w.heap.size := by
  have := h 0 (by omega)
  rcases Nat.lt_or_ge 1 w.heap.size with h' | h'
  · exact h'
  · unfold World.cell? at this
    rw [Array.getElem?_eq_none h'] at this
    cases this
theorem tells2_of {v : List UInt8} {m : Int} {n : Nat} {t : List UInt8 × Nat} {w w' : World} (ht : t = (v, n)) (hn : m = n) (hb : Below w.heap.size w w') : Tells2 t w (.returned (.tuple #[.string ⟨v.toArray⟩, .int .i64 m])) w' := by
  subst ht
  subst hn
  exact ⟨rfl, hb⟩

set_option maxHeartbeats 2000000 in
set_option maxRecDepth 100000 in
theorem numbered_any (s : ByteArray) (f base : Nat) (w : World) (hb : base = 10 ∨ base = 16) (hf : f ≤ s.size) (hs : s.size ≤ 4294967296) (hE : HasEarly w) :
    Calls Tryd.prog 75 #[.string s, .int .i64 (f : Int), .int .i64 (base : Int)] w (Tells2 (Plain.numbered s.data.toList f base) w) := by
  have hl : s.data.toList.length = s.size := by simp
  have HL := Lib.hid hl
  have HE := Lib.hid hE
  clear hl hE
  have hb1 : 1 ≤ base := by omega
  have hb2 : base ≤ 16 := by omega
  have HB := Lib.hid hb
  clear hb
  go_enter Tryd.func75, Tryd.ntmps75
  go_wp2
  go_loop [8, 9] (fun x y => ∃ i V : Nat, y = .int .i64 (i : Int) ∧ x = .int .i64 ((min V 1114112 : Nat) : Int) ∧ Plain.DigAt s.data.toList f base i V) (fun _ y => s.size - (intOf y).toNat)
  case atStart => exact ⟨f, 0, rfl, rfl, Plain.DigAt.start _ _ _ (by rw [HL.out]; exact hf)⟩
  case round =>
    obtain ⟨i, V, rfl, rfl, hD⟩ := hrel
    have hfi : f ≤ i := hD.1
    have his : i ≤ s.size := by have := hD.2.1; rw [HL.out] at this; exact this
    have HD := Lib.hid hD
    clear hD
    have hcap : min V 1114112 ≤ 1114112 := Nat.min_le_right _ _
    by_cases hlt : i < s.size
    · have hlt' : i < s.data.toList.length := by rw [HL.out]; exact hlt
      by_cases hdg : Plain.digV s[i] < base
      · have HN := Lib.hid (HD.out.step hlt' hdg)
        have HC := Lib.hid (Plain.cap_step V 1114112 base (Plain.digV s[i]) hb1)
        have HG := fun W => Lib.hid (digit_any s[i] W)
        have hmul : min V 1114112 * base ≤ 1114112 * 16 := Nat.mul_le_mul hcap hb2
        have hmul' : ((min V 1114112 : Nat) : Int) * (base : Int) = ((min V 1114112 * base : Nat) : Int) := by simp
        generalize hM : min V 1114112 = M at *
        have HM := Lib.hid hM
        clear hM
        generalize hP : M * base = P at *
        have HP := Lib.hid hP
        clear hP
        generalize hdv : Plain.digV s[i] = d at *
        have HDV := Lib.hid hdv
        clear hdv
        go_wp2_with (go_at_call 82; refine (HG _).out.mono ?_; rintro e w1 ⟨rfl, rfl⟩)
        refine ⟨⟨i + 1, V * base + d, by go_num, ?_, ?_⟩, by simp [intOf]; omega⟩
        · rw [← HC.out]
          go_num
        · have := HN.out
          rw [show s.data.toList[i]'hlt' = s[i] from rfl, HDV.out] at this
          exact this
      · have hst : ∀ hi : i < s.data.toList.length, ¬ Plain.digV s.data.toList[i] < base := fun _ => hdg
        have HST := Lib.hid hst
        clear hst
        have HG := fun W => Lib.hid (digit_any s[i] W)
        have hdq : decide ((Plain.digV s[i] : Int) < (base : Int)) = false := by simp; omega
        generalize hM : min V 1114112 = M at *
        have HM := Lib.hid hM
        clear hM
        generalize hdv : Plain.digV s[i] = d at *
        clear hdv
        by_cases hif : i = f
        · have HR := Lib.hid (Plain.numbered_none HD.out HST.out hif)
          subst hif
          go_wp2_with (go_at_call 82; refine (HG _).out.mono ?_; rintro e w1 ⟨rfl, rfl⟩)
          go_ret2
          exact tells2_of HR.out rfl (Below.refl _ _)
        · have hq : ((i : Int) == (f : Int)) = false := beq_eq_false_iff_ne.2 (by omega)
          have HR := fun j hj => Lib.hid (Plain.numbered_some HD.out HST.out hif 1114112 (by omega) j hj)
          rw [HM.out, Plain.getD_get s i hlt] at HR
          have HNUM := Lib.hid (number_any (M : Int) w (by omega) (by omega) HE.out)
          have h8 : s[i].toNat < 256 := s[i].toNat_lt
          clear hif
          by_cases h59 : s[i].toNat = 59
          · have HR' := Lib.hid (HR (i + 1) (Or.inl ⟨h59, rfl⟩)).out
            clear HR
            have h59' : ((s[i].toNat : Int) == 59) = true := beq_iff_eq.2 (by omega)
            clear h59
            go_wp2_with (first
              | (go_at_call 82; refine (HG _).out.mono ?_; rintro e w1 ⟨rfl, rfl⟩)
              | (go_at_call 83; refine HNUM.out.mono ?_; rintro e w1 ⟨rfl, b1⟩))
            go_ret2
            exact tells2_of HR'.out (by omega) b1
          · have HR' := Lib.hid (HR i (Or.inr ⟨h59, rfl⟩)).out
            clear HR
            have h59' : ((s[i].toNat : Int) == 59) = false := beq_eq_false_iff_ne.2 (by omega)
            clear h59
            go_wp2_with (first
              | (go_at_call 82; refine (HG _).out.mono ?_; rintro e w1 ⟨rfl, rfl⟩)
              | (go_at_call 83; refine HNUM.out.mono ?_; rintro e w1 ⟨rfl, b1⟩))
            go_ret2
            exact tells2_of HR'.out rfl b1
    · have hst : ∀ hi : i < s.data.toList.length, ¬ Plain.digV s.data.toList[i] < base := fun h => absurd h (by rw [HL.out]; exact hlt)
      have HST := Lib.hid hst
      clear hst
      generalize hM : min V 1114112 = M at *
      have HM := Lib.hid hM
      clear hM
      by_cases hif : i = f
      · have HR := Lib.hid (Plain.numbered_none HD.out HST.out hif)
        subst hif
        go_wp2
        go_ret2
        exact tells2_of HR.out rfl (Below.refl _ _)
      · have hq : ((i : Int) == (f : Int)) = false := beq_eq_false_iff_ne.2 (by omega)
        have HR := Lib.hid (Plain.numbered_some HD.out HST.out hif 1114112 (by omega) i (Or.inr ⟨by rw [Plain.getD_end s i hlt]; decide, rfl⟩))
        have HNUM := Lib.hid (number_any (M : Int) w (by omega) (by omega) HE.out)
        clear hif
        go_wp2_with (go_at_call 83; refine HNUM.out.mono ?_; rintro e w1 ⟨rfl, b1⟩)
        go_ret2
        refine tells2_of ?_ rfl b1
        rw [HR.out, HM.out]

/-- A reference by number, as the reference reads it. -/
def rnumbered (l : List UInt8) : List UInt8 × Nat := if (l.getD 2 0).toNat = 120 ∨ (l.getD 2 0).toNat = 88 then Plain.numbered l 3 16 else Plain.numbered l 2 10
end Go.Proofs.YtgelgfgcdfnacaaDoor
