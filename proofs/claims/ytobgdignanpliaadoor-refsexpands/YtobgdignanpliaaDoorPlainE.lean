/-
  Plain facts on lists of bytes, of no program: the model's own decoding against whole signs. No conditions.
-/
import Derived.Test.YtobgdignanpliaaDoorPlainD
import Derived.Lib.TrimUEq
namespace Go.Proofs.YtobgdignanpliaaDoor.Plain

/-- No whole sign: the sign for none, one byte wide. -/
theorem decL_bad (c : UInt8) (r : List UInt8) (h : partB (c :: r) = false) : decL c r = (65533, 1) := by
  by_cases h2 : 2 ≤ leadN c.toNat
  · rw [decL_slow c r h2]
    have h4 := leadN_le c.toNat
    have hlo := leadLo_ge c.toNat h2
    have hk := run_pk (leadN c.toNat) (leadLo c.toNat) (leadHi c.toNat) r h2 h4 (by omega)
    have hne : partK (c :: r) ≠ leadN c.toNat := by
      simp [partB] at h
      exact h (by omega)
    simp only [partK] at hne
    rw [if_neg (by omega), hk] at hne
    have hlen := pk_len (leadN c.toNat) (leadLo c.toNat) (leadHi c.toNat) r h2 h4 (by omega)
    generalize (r.getD 0 0).toNat = b1 at *
    generalize (r.getD 1 0).toNat = b2 at *
    generalize (r.getD 2 0).toNat = b3 at *
    generalize leadN c.toNat = sz at *
    generalize leadLo c.toNat = lo at *
    generalize leadHi c.toNat = hi at *
    unfold pk at hne
    unfold Lib.slowN
    have hsz : sz = 2 ∨ sz = 3 ∨ sz = 4 := by omega
    by_cases a1 : b1 < lo ∨ hi < b1
    · simp [a1]
    · rw [if_neg (by omega)] at hne
      rw [if_neg a1]
      by_cases a2 : sz ≤ 2
      · rw [if_pos a2] at hne
        omega
      · rw [if_neg a2] at hne ⊢
        by_cases a3 : b2 < 128 ∨ 191 < b2
        · simp [a3]
        · rw [if_neg (by omega)] at hne
          rw [if_neg a3]
          by_cases a4 : sz ≤ 3
          · rw [if_pos a4] at hne
            omega
          · rw [if_neg a4] at hne ⊢
            by_cases a5 : b3 < 128 ∨ 191 < b3
            · simp [a5]
            · rw [if_neg (by omega)] at hne
              omega
  · have h0 : leadN c.toNat = 0 := by
      simp only [partB, partK] at h
      rw [if_pos (by omega)] at h
      simp at h
      omega
    have hb := c.toNat_lt
    have h1 := (r.getD 0 0).toNat_lt
    have h2 := (r.getD 1 0).toNat_lt
    have h3 := (r.getD 2 0).toNat_lt
    unfold decL
    generalize (r.getD 0 0).toNat = b1 at *
    generalize (r.getD 1 0).toNat = b2 at *
    generalize (r.getD 2 0).toNat = b3 at *
    have hc : (128 ≤ c.toNat ∧ c.toNat < 194) ∨ 245 ≤ c.toNat := by
      unfold leadN at h0
      split at h0
      · omega
      · split at h0
        · omega
        · split at h0
          · omega
          · split at h0
            · omega
            · omega
    generalize c.toNat = b0 at *
    unfold Lib.decodeN
    (repeat' split) <;> first | rfl | (exfalso; omega)

theorem take_one (c : UInt8) (r : List UInt8) : (c :: r).take 1 = [c] := rfl

theorem pk_eq (b1 b2 b3 sz lo hi : Nat) (h2 : 2 ≤ sz) (h4 : sz ≤ 4) (h : pk b1 b2 b3 sz lo hi = sz) : (lo ≤ b1 ∧ b1 ≤ hi) ∧ (3 ≤ sz → 128 ≤ b2 ∧ b2 ≤ 191) ∧ (4 ≤ sz → 128 ≤ b3 ∧ b3 ≤ 191) := by
  unfold pk at h
  (repeat' split at h) <;> omega
theorem take_two (c : UInt8) (r : List UInt8) (h : 1 ≤ r.length) : (c :: r).take 2 = [c, r.getD 0 0] := by
  rcases r with _ | ⟨b1, r⟩
  · simp at h
  · simp
theorem take_three (c : UInt8) (r : List UInt8) (h : 2 ≤ r.length) : (c :: r).take 3 = [c, r.getD 0 0, r.getD 1 0] := by
  rcases r with _ | ⟨b1, _ | ⟨b2, r⟩⟩
  · simp at h
  · simp at h
  · simp
theorem take_four (c : UInt8) (r : List UInt8) (h : 3 ≤ r.length) : (c :: r).take 4 = [c, r.getD 0 0, r.getD 1 0, r.getD 2 0] := by
  rcases r with _ | ⟨b1, _ | ⟨b2, _ | ⟨b3, r⟩⟩⟩
  · simp at h
  · simp at h
  · simp at h
  · simp
theorem prefix_of_take (l p : List UInt8) (h : l.take p.length = p) : Lib.hasPrefix l p = true := by
  unfold Lib.hasPrefix
  rw [List.isPrefixOf_iff_prefix, ← h]
  exact List.take_prefix _ _

/-- A whole sign: decoded it is itself, as wide; only the sign for none is told as such. -/
theorem decL_good (c : UInt8) (r : List UInt8) (h : partB (c :: r) = true) :
    (decL c r).2 = partK (c :: r) ∧ Lib.encodeRune ((decL c r).1 : Int) = (c :: r).take (partK (c :: r)) ∧ ((decL c r).1 = 65533 → Lib.hasPrefix (c :: r) bad = true) := by
  have hb := c.toNat_lt
  by_cases h2 : 2 ≤ leadN c.toNat
  · have h4 := leadN_le c.toNat
    have hlo := leadLo_ge c.toNat h2
    have hk := run_pk (leadN c.toNat) (leadLo c.toNat) (leadHi c.toNat) r h2 h4 (by omega)
    have hpk : partK (c :: r) = leadN c.toNat := by
      simp [partB] at h
      exact h.2
    have hpk' := hpk
    simp only [partK] at hpk'
    rw [if_neg (by omega), hk] at hpk'
    have hlen := pk_len (leadN c.toNat) (leadLo c.toNat) (leadHi c.toNat) r h2 h4 (by omega)
    rw [hpk'] at hlen
    have hq := pk_eq _ _ _ _ _ _ h2 h4 hpk'
    have g1 := (r.getD 0 0).toNat_lt
    have g2 := (r.getD 1 0).toNat_lt
    have g3 := (r.getD 2 0).toNat_lt
    have hd := decL_slow c r h2
    rw [hpk, hd]
    have hkinds := lead_kinds c.toNat h2
    have t2 := take_two c r
    have t3 := take_three c r
    have t4 := take_four c r
    clear hd hk hpk h hpk'
    have hbad : (c :: r).take 3 = bad → Lib.hasPrefix (c :: r) bad = true := fun e => prefix_of_take _ _ e
    have hn : r.length + 1 = r.length + 1 := rfl
    generalize r.length = n at *
    clear hn
    generalize r.getD 0 0 = b1 at *
    generalize r.getD 1 0 = b2 at *
    generalize r.getD 2 0 = b3 at *
    unfold Lib.slowN
    by_cases s2 : leadN c.toNat ≤ 2
    · have e2 : leadN c.toNat = 2 := by omega
      rw [if_neg (by omega), if_neg (by omega), if_pos s2, e2, t2 (by omega)]
      refine ⟨rfl, enc_of _ _ ?_, fun hh => by simp only at hh; omega⟩
      simp only
      rw [Lib.encodeRuneZ_two (by omega) (by omega)]
      simp
      omega
    · have q2 := hq.2.1 (by omega)
      by_cases s3 : leadN c.toNat ≤ 3
      · have e3 : leadN c.toNat = 3 := by omega
        rw [if_neg (by omega), if_neg (by omega), if_neg s2, if_neg (by omega), if_pos s3, e3, t3 (by omega)]
        refine ⟨rfl, enc_of _ _ ?_, fun hh => hbad ?_⟩
        · simp only
          rw [Lib.encodeRuneZ_three (by omega)]
          simp
          omega
        · simp only at hh
          rw [t3 (by omega)]
          have x0 := u8_of c 239 (by omega) (by omega)
          have x1 := u8_of b1 191 (by omega) (by omega)
          have x2 := u8_of b2 189 (by omega) (by omega)
          rw [x0, x1, x2]
          rfl
      · have q3 := hq.2.2 (by omega)
        have e4 : leadN c.toNat = 4 := by omega
        rw [if_neg (by omega), if_neg (by omega), if_neg s2, if_neg (by omega), if_neg s3, if_neg (by omega), e4, t4 (by omega)]
        refine ⟨rfl, enc_of _ _ ?_, fun hh => by simp only at hh; omega⟩
        simp only
        rw [Lib.encodeRuneZ_four (by omega) (by omega)]
        simp
        omega
  · have h1 : leadN c.toNat = 1 := by
      simp [partB] at h
      omega
    have hk : partK (c :: r) = 1 := by simp [partK, h1]
    have hc : c.toNat < 128 := by
      unfold leadN at h1
      split at h1
      · assumption
      · (repeat' split at h1) <;> omega
    rw [hk, take_one]
    unfold decL Lib.decodeN
    rw [if_pos hc]
    refine ⟨rfl, enc_of _ _ ?_, fun hh => by simp at hh; omega⟩
    rw [Lib.encodeRuneZ_one (by omega) (by simp; omega)]
    simp

/-- A text that begins with the sign for none begins with a whole sign. -/
theorem bad_whole (c : UInt8) (r : List UInt8) (h : Lib.hasPrefix (c :: r) bad = true) : partB (c :: r) = true := by
  unfold Lib.hasPrefix at h
  rw [List.isPrefixOf_iff_prefix] at h
  obtain ⟨t, ht⟩ := h
  rw [← ht]
  simp [bad, partB, partK, leadN, leadLo, leadHi, run]

/-- The model's own decoding, at a place of a text. -/
theorem decode_at (s : ByteArray) (pos : Nat) (h : pos < s.size) : Utf8.decode s pos = decL s[pos] (s.data.toList.drop (pos + 1)) := by
  rw [Lib.decode_N]
  unfold decL
  have hl : s.data.toList.length = s.size := by simp
  have e0 : s.data.toList.getD pos 0 = s[pos] := by
    rw [List.getD_eq_getElem?_getD, List.getElem?_eq_getElem (by omega)]
    rfl
  have ei : ∀ i, (s.data.toList.drop (pos + 1)).getD i 0 = s.data.toList.getD (pos + 1 + i) 0 := fun i => by
    rw [List.getD_eq_getElem?_getD, List.getElem?_drop, List.getD_eq_getElem?_getD]
  rw [e0, ei 0, ei 1, ei 2, List.length_drop, hl, show s.size - (pos + 1) + 1 = s.size - pos by omega]
/-- A byte that goes on begins no sign. -/
theorem decL_on (c : UInt8) (r : List UInt8) (h1 : 128 ≤ c.toNat) (h2 : c.toNat ≤ 191) : decL c r = (65533, 1) := by
  apply decL_bad
  have : leadN c.toNat = 0 := by
    unfold leadN
    (repeat' split) <;> omega
  simp [partB, this]
end Go.Proofs.YtobgdignanpliaaDoor.Plain
