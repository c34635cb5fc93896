/-
  Plain facts on lists of bytes, of no program: the form of one number, cut off. Numbers that have a form, but that of the mark.
-/
import Derived.Test.YtobgdignanpliaaDoorPlainF
namespace Go.Proofs.YtobgdignanpliaaDoor.Plain

/-- One whole sign, and nothing else. -/
def Sign (l : List UInt8) : Prop := ∃ c r, l = c :: r ∧ partB l = true ∧ partK l = l.length

theorem sign_one (c : UInt8) (h : c.toNat < 128) : Sign [c] := by
  refine ⟨c, [], rfl, ?_, ?_⟩
  · simp [partB, partK, leadN, h]
  · simp [partK, leadN, h]
theorem sign_more (c : UInt8) (r : List UInt8) (h2 : 2 ≤ leadN c.toNat) (hr : 1 + run (leadN c.toNat - 1) (leadLo c.toNat) (leadHi c.toNat) r = leadN c.toNat) (hl : r.length + 1 = leadN c.toNat) : Sign (c :: r) := by
  have hk : partK (c :: r) = leadN c.toNat := by
    simp only [partK]
    rw [if_neg (by omega)]
    exact hr
  refine ⟨c, r, rfl, (part_true c r).2 ⟨by omega, hk⟩, ?_⟩
  rw [hk, List.length_cons]
  omega
theorem Sign.whole {l : List UInt8} (h : Sign l) : whole l = true := by
  obtain ⟨c, r, rfl, hb, hk⟩ := h
  exact whole_sign c r hb hk.symm

theorem run_upto : ∀ (m lo hi j : Nat) (r : List UInt8), j ≤ run m lo hi r → run m lo hi (r.take j) = j
  | 0, _, _, j, _, h => by simp [run] at h; subst h; simp [run]
  | m + 1, lo, hi, 0, r, _ => by simp [run]
  | m + 1, lo, hi, j + 1, [], h => by simp [run] at h
  | m + 1, lo, hi, j + 1, c :: r, h => by
    simp only [run] at h
    split at h
    · next hc =>
      rw [List.take_succ_cons, run, if_pos hc, run_upto m 128 191 j r (by omega)]
      omega
    · omega
theorem run_stop : ∀ (m lo hi : Nat) (r : List UInt8), 128 ≤ lo → run m lo hi (r ++ [97]) = run m lo hi r
  | 0, _, _, _, _ => by simp [run]
  | m + 1, lo, hi, [], h => by
    simp only [List.nil_append, run]
    rw [if_neg]
    intro hh
    have h97 : (97 : UInt8).toNat = 97 := rfl
    omega
  | m + 1, lo, hi, c :: r, h => by
    rw [List.cons_append, run, run, run_stop m 128 191 r (by omega)]

/-- A longer sign, cut off. -/
structure Cut (l cut tail : List UInt8) : Prop where
  notWhole : whole cut = false
  lost : dec cut = bad
  lostA : dec (cut ++ [97]) = bad ++ [97]
  tailNot : whole tail = false

theorem Sign.cut {l : List UInt8} (h : Sign l) (h2 : 2 ≤ l.length) : Cut l l.dropLast l.tail := by
  obtain ⟨c, r, rfl, hb, hk⟩ := h
  have hb' := hb
  rw [part_true] at hb
  have hn : leadN c.toNat = r.length + 1 := by rw [← hb.2, hk]; simp
  simp at h2
  have hlo := leadLo_ge c.toNat (by omega)
  have hrun : run r.length (leadLo c.toNat) (leadHi c.toNat) r = r.length := by
    have := hb.2
    simp only [partK] at this
    rw [if_neg (by omega), hn, Nat.add_sub_cancel] at this
    omega
  have hr : r ≠ [] := by intro e; rw [e] at h2; simp at h2
  have hdl : (c :: r).dropLast = c :: r.take (r.length - 1) := by
    rw [List.dropLast_cons_of_ne_nil hr, List.dropLast_eq_take]
  have hlen : (c :: r.take (r.length - 1)).length = r.length := by simp; omega
  have hcutK : partK (c :: r.take (r.length - 1)) = r.length := by
    simp only [partK]
    rw [if_neg (by omega), hn, Nat.add_sub_cancel, run_upto _ _ _ _ _ (by omega)]
    omega
  have hcutB : partB (c :: r.take (r.length - 1)) = false := by
    simp only [partB, hcutK, hn]
    have : (r.length == r.length + 1) = false := by simp
    rw [this, Bool.and_false]
  have hcutK2 : partK (c :: (r.take (r.length - 1) ++ [97])) = r.length := by
    simp only [partK]
    rw [if_neg (by omega), hn, Nat.add_sub_cancel, run_stop _ _ _ _ hlo, run_upto _ _ _ _ _ (by omega)]
    omega
  have hcutB2 : partB (c :: (r.take (r.length - 1) ++ [97])) = false := by
    simp only [partB, hcutK2, hn]
    have : (r.length == r.length + 1) = false := by simp
    rw [this, Bool.and_false]
  refine ⟨?_, ?_, ?_, ?_⟩
  · rw [hdl, whole_cons, hcutB, Bool.false_and]
  · rw [hdl, dec_bad _ _ hcutB, hcutK, List.drop_eq_nil_of_le (by omega)]
    simp [dec, decS]
  · rw [hdl, List.cons_append, dec_bad _ _ hcutB2, hcutK2, ← List.cons_append]
    have hmx : max r.length 1 = (c :: r.take (r.length - 1)).length := by omega
    rw [hmx, List.drop_left]
    congr 1
  · cases r with
    | nil => exact absurd rfl hr
    | cons d t =>
      have hd := part_mem c (d :: t) 0 (by simp) (by rw [hb.2, hn]; simp)
      simp at hd
      have hl0 : leadN d.toNat = 0 := by
        unfold leadN
        (repeat' split) <;> omega
      rw [List.tail_cons, whole_cons]
      simp [partB, hl0]

theorem no_mark (l : List UInt8) (h : ∀ a b c t, l = a :: b :: c :: t → ¬ (a = 239 ∧ b = 187 ∧ c = 191)) : Lib.hasPrefix l mark = false := by
  cases hh : Lib.hasPrefix l mark
  · rfl
  · exfalso
    unfold Lib.hasPrefix at hh
    rw [List.isPrefixOf_iff_prefix] at hh
    obtain ⟨t, ht⟩ := hh
    exact h 239 187 191 t ht.symm ⟨rfl, rfl, rfl⟩
/-- What begins as the mark does has three bytes. -/
theorem Sign.mark3 {l : List UInt8} (h : Sign l) (a : UInt8) (t : List UInt8) (hl : l = a :: t) (ha : a = 239) : l.length = 3 := by
  obtain ⟨c, r, e, hb, hk⟩ := h
  rw [e] at hl
  obtain ⟨rfl, rfl⟩ := List.cons.inj hl
  subst e
  rw [part_true] at hb
  rw [← hk, hb.2, ha]
  rfl
theorem Sign.cut_mark {l : List UInt8} (h : Sign l) (h2 : 2 ≤ l.length) : Lib.hasPrefix l.dropLast mark = false ∧ Lib.hasPrefix (l.dropLast ++ [97]) mark = false := by
  have hne : l ≠ [] := by intro e; rw [e] at h2; simp at h2
  obtain ⟨d, hd⟩ : ∃ d, l = l.dropLast ++ [d] := ⟨l.getLast hne, (List.dropLast_concat_getLast hne).symm⟩
  refine ⟨no_mark _ fun a b c t e hh => ?_, no_mark _ fun a b c t e hh => ?_⟩
  · have h3 := h.mark3 a (b :: c :: t ++ [d]) (by rw [hd, e]; simp) hh.1
    rw [hd, e] at h3
    simp at h3
  · rcases hc : l.dropLast with _ | ⟨a', t'⟩
    · rw [hc] at e; simp at e
    · rw [hc, List.cons_append] at e
      obtain ⟨rfl, e2⟩ := List.cons.inj e
      have h3 := h.mark3 a' (t' ++ [d]) (by rw [hd, hc]; simp) hh.1
      rw [hd, hc] at h3
      simp at h3
      rcases t' with _ | ⟨b', _ | ⟨c', u⟩⟩
      · simp at h3
      · simp at e2
        have := hh.2.2
        rw [← e2.2.1] at this
        exact absurd this (by decide)
      · simp at h3

def Valid (k : Nat) : Prop := k ≤ 1114111 ∧ ¬ (55296 ≤ k ∧ k ≤ 57343)
theorem valid_of (k : Nat) (h : Valid k) : Utf8.valid (k : Int) = true := by
  obtain ⟨h1, h2⟩ := h
  simp [Utf8.valid]
  omega
theorem u8 (n : Nat) (h : n < 256) : (UInt8.ofNat n).toNat = n := by rw [UInt8.toNat_ofNat']; omega
theorem enc_valid (r : Int) (hv : Utf8.valid r = true) : Utf8.encode r =
    if r.toNat < 128 then ⟨#[UInt8.ofNat r.toNat]⟩
    else if r.toNat < 2048 then ⟨#[UInt8.ofNat (192 + r.toNat / 64), UInt8.ofNat (128 + r.toNat % 64)]⟩
    else if r.toNat < 65536 then ⟨#[UInt8.ofNat (224 + r.toNat / 4096), UInt8.ofNat (128 + r.toNat / 64 % 64), UInt8.ofNat (128 + r.toNat % 64)]⟩
    else ⟨#[UInt8.ofNat (240 + r.toNat / 262144), UInt8.ofNat (128 + r.toNat / 4096 % 64), UInt8.ofNat (128 + r.toNat / 64 % 64), UInt8.ofNat (128 + r.toNat % 64)]⟩ := by
  unfold Utf8.encode
  simp only [hv, if_true]
theorem form_one (k : Nat) (h : k < 128) : (Utf8.encode (k : Int)).data.toList = [UInt8.ofNat k] := by
  have hv := valid_of k ⟨by omega, by omega⟩
  rw [enc_valid _ hv, Int.toNat_natCast, if_pos h]
theorem form_two (k : Nat) (h1 : 128 ≤ k) (h2 : k < 2048) : (Utf8.encode (k : Int)).data.toList = [UInt8.ofNat (192 + k / 64), UInt8.ofNat (128 + k % 64)] := by
  have hv := valid_of k ⟨by omega, by omega⟩
  rw [enc_valid _ hv, Int.toNat_natCast, if_neg (by omega), if_pos h2]
theorem form_three (k : Nat) (hk : Valid k) (h1 : 2048 ≤ k) (h2 : k < 65536) : (Utf8.encode (k : Int)).data.toList = [UInt8.ofNat (224 + k / 4096), UInt8.ofNat (128 + k / 64 % 64), UInt8.ofNat (128 + k % 64)] := by
  have hv := valid_of k hk
  rw [enc_valid _ hv, Int.toNat_natCast, if_neg (by omega), if_neg (by omega), if_pos h2]
theorem form_four (k : Nat) (hk : Valid k) (h1 : 65536 ≤ k) : (Utf8.encode (k : Int)).data.toList = [UInt8.ofNat (240 + k / 262144), UInt8.ofNat (128 + k / 4096 % 64), UInt8.ofNat (128 + k / 64 % 64), UInt8.ofNat (128 + k % 64)] := by
  have hv := valid_of k hk
  rw [enc_valid _ hv, Int.toNat_natCast, if_neg (by omega), if_neg (by omega), if_neg (by omega)]
theorem form_sign (k : Nat) (hk : Valid k) : Sign (Utf8.encode (k : Int)).data.toList := by
  by_cases h1 : k < 128
  · rw [form_one k h1]
    exact sign_one _ (by rw [u8 _ (by omega)]; exact h1)
  · by_cases h2 : k < 2048
    · rw [form_two k (by omega) h2]
      have a := u8 (192 + k / 64) (by omega)
      have b := u8 (128 + k % 64) (by omega)
      generalize UInt8.ofNat (192 + k / 64) = c0 at *
      generalize UInt8.ofNat (128 + k % 64) = c1 at *
      have hn : 2 ≤ leadN c0.toNat := by unfold leadN; (repeat' split) <;> omega
      rcases lead_kinds c0.toNat hn with ⟨x, y, z, e⟩ | ⟨x, y, z, e⟩ | ⟨x, y, z, e⟩ | ⟨x, y, z, e⟩ | ⟨x, y, z, e⟩ | ⟨x, y, z, e⟩ | ⟨x, y, z, e⟩ <;> try omega
      refine sign_more c0 [c1] hn ?_ (by rw [x]; rfl)
      rw [x, y, z]
      simp only [run]
      rw [if_pos (by omega)]
    · obtain ⟨hk1, hk2⟩ := hk
      by_cases h3 : k < 65536
      · rw [form_three k ⟨hk1, hk2⟩ (by omega) h3]
        have a := u8 (224 + k / 4096) (by omega)
        have b := u8 (128 + k / 64 % 64) (by omega)
        have d := u8 (128 + k % 64) (by omega)
        generalize UInt8.ofNat (224 + k / 4096) = c0 at *
        generalize UInt8.ofNat (128 + k / 64 % 64) = c1 at *
        generalize UInt8.ofNat (128 + k % 64) = c2 at *
        have hn : 2 ≤ leadN c0.toNat := by unfold leadN; (repeat' split) <;> omega
        have h3' : leadN c0.toNat = 3 := by unfold leadN; (repeat' split) <;> omega
        refine sign_more c0 [c1, c2] hn ?_ (by rw [h3']; rfl)
        rcases lead_kinds c0.toNat hn with ⟨x, y, z, e⟩ | ⟨x, y, z, e⟩ | ⟨x, y, z, e⟩ | ⟨x, y, z, e⟩ | ⟨x, y, z, e⟩ | ⟨x, y, z, e⟩ | ⟨x, y, z, e⟩ <;> try omega
        all_goals
          rw [x, y, z]
          simp only [run]
          rw [if_pos (by omega), if_pos (by omega)]
      · rw [form_four k ⟨hk1, hk2⟩ (by omega)]
        have a := u8 (240 + k / 262144) (by omega)
        have b := u8 (128 + k / 4096 % 64) (by omega)
        have d := u8 (128 + k / 64 % 64) (by omega)
        have f := u8 (128 + k % 64) (by omega)
        generalize UInt8.ofNat (240 + k / 262144) = c0 at *
        generalize UInt8.ofNat (128 + k / 4096 % 64) = c1 at *
        generalize UInt8.ofNat (128 + k / 64 % 64) = c2 at *
        generalize UInt8.ofNat (128 + k % 64) = c3 at *
        have hn : 2 ≤ leadN c0.toNat := by unfold leadN; (repeat' split) <;> omega
        have h4' : leadN c0.toNat = 4 := by unfold leadN; (repeat' split) <;> omega
        refine sign_more c0 [c1, c2, c3] hn ?_ (by rw [h4']; rfl)
        rcases lead_kinds c0.toNat hn with ⟨x, y, z, e⟩ | ⟨x, y, z, e⟩ | ⟨x, y, z, e⟩ | ⟨x, y, z, e⟩ | ⟨x, y, z, e⟩ | ⟨x, y, z, e⟩ | ⟨x, y, z, e⟩ <;> try omega
        all_goals
          rw [x, y, z]
          simp only [run]
          rw [if_pos (by omega), if_pos (by omega), if_pos (by omega)]
theorem form_mark (k : Nat) (hk : Valid k) (hf : k ≠ 65279) : Lib.hasPrefix (Utf8.encode (k : Int)).data.toList mark = false := by
  refine no_mark _ fun a b c t e hh => ?_
  by_cases h1 : k < 128
  · rw [form_one k h1] at e; simp at e
  · by_cases h2 : k < 2048
    · rw [form_two k (by omega) h2] at e; simp at e
    · have hk' := hk
      obtain ⟨hk1, hk2⟩ := hk
      have n0 : (239 : UInt8).toNat = 239 := rfl
      have n1 : (187 : UInt8).toNat = 187 := rfl
      have n2 : (191 : UInt8).toNat = 191 := rfl
      by_cases h3 : k < 65536
      · rw [form_three k hk' (by omega) h3] at e
        simp only [List.cons.injEq] at e
        have a := u8 (224 + k / 4096) (by omega)
        have b := u8 (128 + k / 64 % 64) (by omega)
        have d := u8 (128 + k % 64) (by omega)
        rw [e.1, hh.1] at a
        rw [e.2.1, hh.2.1] at b
        rw [e.2.2.1, hh.2.2] at d
        omega
      · rw [form_four k hk' (by omega)] at e
        simp only [List.cons.injEq] at e
        have a := u8 (240 + k / 262144) (by omega)
        rw [e.1, hh.1] at a
        omega
theorem form_len (k : Nat) (hk : Valid k) : 1 ≤ (Utf8.encode (k : Int)).data.toList.length ∧ (Utf8.encode (k : Int)).data.toList.length ≤ 4 := by
  by_cases h1 : k < 128
  · rw [form_one k h1]; simp
  · by_cases h2 : k < 2048
    · rw [form_two k (by omega) h2]; simp
    · by_cases h3 : k < 65536
      · rw [form_three k hk (by omega) h3]; simp
      · rw [form_four k hk (by omega)]; simp
end Go.Proofs.YtobgdignanpliaaDoor.Plain
