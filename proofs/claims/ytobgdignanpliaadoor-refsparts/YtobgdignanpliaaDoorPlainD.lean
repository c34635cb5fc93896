/-
  Plain facts on lists of bytes, of no program: whole signs, what is decoded. No conditions.
-/
import Derived.Lib.DecodeN
import Derived.Lib.RuneBytes
import Derived.Lib.Strings
namespace Go.Proofs.YtobgdignanpliaaDoor.Plain

/-- How many bytes a sign has that begins with b (0: none does); from where to where its second one goes. -/
def leadN (b : Nat) : Nat := if b < 128 then 1 else if 194 ≤ b ∧ b ≤ 223 then 2 else if 224 ≤ b ∧ b ≤ 239 then 3 else if 240 ≤ b ∧ b ≤ 244 then 4 else 0
def leadLo (b : Nat) : Nat := if leadN b < 2 then 0 else if b = 224 then 160 else if b = 240 then 144 else 128
def leadHi (b : Nat) : Nat := if leadN b < 2 then 0 else if b = 237 then 159 else if b = 244 then 143 else 191

/-- How many of the first m bytes go on: the first from lo to hi, the others from 128 to 191. -/
def run : Nat → Nat → Nat → List UInt8 → Nat
  | 0, _, _, _ => 0
  | _ + 1, _, _, [] => 0
  | m + 1, lo, hi, c :: r => if lo ≤ c.toNat ∧ c.toNat ≤ hi then 1 + run m 128 191 r else 0

/-- How many bytes begin a whole sign; are they one? -/
def partK : List UInt8 → Nat
  | [] => 0
  | c :: r => if leadN c.toNat < 2 then leadN c.toNat else 1 + run (leadN c.toNat - 1) (leadLo c.toNat) (leadHi c.toNat) r
def partB : List UInt8 → Bool
  | [] => false
  | c :: r => decide (1 ≤ leadN c.toNat) && (partK (c :: r) == leadN c.toNat)

def bad : List UInt8 := [239, 191, 189]
def mark : List UInt8 := [239, 187, 191]

/-- Decoded, behind k bytes that are passed. -/
def decS : Nat → List UInt8 → List UInt8
  | _, [] => []
  | k + 1, _ :: r => decS k r
  | 0, c :: r => (if partB (c :: r) then (c :: r).take (partK (c :: r)) else bad) ++ decS (max (partK (c :: r)) 1 - 1) r
def wholeS : Nat → List UInt8 → Bool
  | _, [] => true
  | k + 1, _ :: r => wholeS k r
  | 0, c :: r => partB (c :: r) && wholeS (partK (c :: r) - 1) r
def dec (l : List UInt8) : List UInt8 := decS 0 l
def whole (l : List UInt8) : Bool := wholeS 0 l
def decode (l : List UInt8) : List UInt8 := dec (Lib.trimPrefix l mark)

theorem decS_drop (l : List UInt8) : ∀ k, decS k l = dec (l.drop k) := by
  induction l with
  | nil => intro k; simp [dec, decS]
  | cons c r ih =>
    intro k
    cases k with
    | zero => rfl
    | succ k => simp only [decS, List.drop_succ_cons]; exact ih k
theorem wholeS_drop (l : List UInt8) : ∀ k, wholeS k l = whole (l.drop k) := by
  induction l with
  | nil => intro k; simp [whole, wholeS]
  | cons c r ih =>
    intro k
    cases k with
    | zero => rfl
    | succ k => simp only [wholeS, List.drop_succ_cons]; exact ih k
theorem dec_cons (c : UInt8) (r : List UInt8) : dec (c :: r) = (if partB (c :: r) then (c :: r).take (partK (c :: r)) else bad) ++ dec ((c :: r).drop (max (partK (c :: r)) 1)) := by
  unfold dec
  rw [decS, decS_drop]
  congr 2
  obtain ⟨j, hj⟩ : ∃ j, max (partK (c :: r)) 1 = j + 1 := ⟨max (partK (c :: r)) 1 - 1, by omega⟩
  rw [hj]
  simp
theorem run_le : ∀ (m lo hi : Nat) (r : List UInt8), run m lo hi r ≤ m ∧ run m lo hi r ≤ r.length
  | 0, _, _, _ => by simp [run]
  | _ + 1, _, _, [] => by simp [run]
  | m + 1, lo, hi, c :: r => by
    have := run_le m 128 191 r
    simp only [run]
    split <;> simp <;> omega
theorem run_min : ∀ (m lo hi : Nat) (r : List UInt8), run m lo hi r = min (run (m + 1) lo hi r) m
  | 0, _, _, _ => by simp [run]
  | _ + 1, _, _, [] => by simp [run]
  | m + 1, lo, hi, c :: r => by
    have := run_min m 128 191 r
    rw [run, run]
    split
    · omega
    · omega
theorem run_mem : ∀ (m lo hi : Nat) (r : List UInt8), 128 ≤ lo → hi ≤ 191 → ∀ j (hj : j < r.length), j < run m lo hi r → 128 ≤ r[j].toNat ∧ r[j].toNat ≤ 191
  | 0, _, _, _ => by simp [run]
  | _ + 1, _, _, [] => by simp [run]
  | m + 1, lo, hi, c :: r => by
    intro h1 h2 j hj
    simp only [run]
    split
    · intro h
      cases j with
      | zero => simp; omega
      | succ j => simp; exact run_mem m 128 191 r (by omega) (by omega) j (by simpa using hj) (by omega)
    · intro h; omega
theorem leadLo_ge (b : Nat) (h : 2 ≤ leadN b) : 128 ≤ leadLo b := by unfold leadLo; (repeat' split) <;> omega
theorem leadHi_le (b : Nat) (h : 2 ≤ leadN b) : leadHi b ≤ 191 := by unfold leadHi; (repeat' split) <;> omega
theorem leadN_le (b : Nat) : leadN b ≤ 4 := by unfold leadN; (repeat' split) <;> omega
theorem partK_le (c : UInt8) (r : List UInt8) : partK (c :: r) ≤ (c :: r).length := by
  have := run_le (leadN c.toNat - 1) (leadLo c.toNat) (leadHi c.toNat) r
  simp only [partK]
  split <;> simp <;> omega
theorem partK_pos (c : UInt8) (r : List UInt8) (h : partB (c :: r) = true) : 1 ≤ partK (c :: r) := by
  simp [partB] at h
  omega
/-- What follows the first byte of what begins a sign goes on. -/
theorem part_mem (c : UInt8) (r : List UInt8) (j : Nat) (hj : j < r.length) (h : j + 1 < partK (c :: r)) : 128 ≤ r[j].toNat ∧ r[j].toNat ≤ 191 := by
  simp only [partK] at h
  split at h
  · omega
  · exact run_mem (leadN c.toNat - 1) _ _ r (leadLo_ge c.toNat (by omega)) (leadHi_le c.toNat (by omega)) j hj (by omega)

/-- As the program counts them where no whole sign stands. -/
def mostN (b : Nat) : Nat := if leadN b < 3 then 1 else leadN b - 1
def bLo (b : Nat) : Nat := if leadN b < 3 then 0 else leadLo b
def bHi (b : Nat) : Nat := if leadN b < 3 then 0 else leadHi b
def begun : List UInt8 → Nat
  | [] => 0
  | c :: r => 1 + run (mostN c.toNat - 1) (bLo c.toNat) (bHi c.toNat) r
theorem begun_eq (c : UInt8) (r : List UInt8) (h : partB (c :: r) = false) : begun (c :: r) = max (partK (c :: r)) 1 := by
  have h4 := leadN_le c.toNat
  have h' : leadN c.toNat = 0 ∨ partK (c :: r) ≠ leadN c.toNat := by
    simp [partB] at h
    by_cases h0 : leadN c.toNat = 0
    · exact Or.inl h0
    · exact Or.inr (h (by omega))
  simp only [begun, partK] at *
  by_cases h3 : leadN c.toNat < 3
  · simp only [mostN, if_pos h3]
    by_cases h2 : leadN c.toNat < 2
    · rw [if_pos h2] at h' ⊢
      simp [run]
      omega
    · rw [if_neg h2] at h' ⊢
      have := run_le (leadN c.toNat - 1) (leadLo c.toNat) (leadHi c.toNat) r
      simp [run]
      omega
  · simp only [mostN, bLo, bHi, if_neg h3]
    rw [if_neg (by omega)] at h' ⊢
    have h1 := run_le (leadN c.toNat - 1) (leadLo c.toNat) (leadHi c.toNat) r
    have h2 := run_min (leadN c.toNat - 1 - 1) (leadLo c.toNat) (leadHi c.toNat) r
    rw [show leadN c.toNat - 1 - 1 + 1 = leadN c.toNat - 1 by omega] at h2
    omega

/-! ### Against the model's own decoding -/
/-- How far a sign of sz bytes goes, told by numbers (what lies beyond the end: 0). -/
def pk (b1 b2 b3 sz lo hi : Nat) : Nat :=
  if ¬ (lo ≤ b1 ∧ b1 ≤ hi) then 1 else if sz ≤ 2 then 2 else if ¬ (128 ≤ b2 ∧ b2 ≤ 191) then 2 else if sz ≤ 3 then 3 else if ¬ (128 ≤ b3 ∧ b3 ≤ 191) then 3 else 4
theorem run_pk (sz lo hi : Nat) (r : List UInt8) (h2 : 2 ≤ sz) (h4 : sz ≤ 4) (hlo : 0 < lo) : 1 + run (sz - 1) lo hi r = pk (r.getD 0 0).toNat (r.getD 1 0).toNat (r.getD 2 0).toNat sz lo hi := by
  have hsz : sz = 2 ∨ sz = 3 ∨ sz = 4 := by omega
  have h0 : (0 : UInt8).toNat = 0 := rfl
  rcases r with _ | ⟨b1, _ | ⟨b2, _ | ⟨b3, r⟩⟩⟩ <;> rcases hsz with rfl | rfl | rfl <;> simp only [run, pk, List.getD_cons_zero, List.getD_cons_succ, List.getD_nil, h0] <;> (repeat' split) <;> omega
theorem pk_len (sz lo hi : Nat) (r : List UInt8) (h2 : 2 ≤ sz) (h4 : sz ≤ 4) (hlo : 0 < lo) : pk (r.getD 0 0).toNat (r.getD 1 0).toNat (r.getD 2 0).toNat sz lo hi ≤ r.length + 1 := by
  rw [← run_pk sz lo hi r h2 h4 hlo]
  have := run_le (sz - 1) lo hi r
  omega

theorem enc_of (r : Int) (bs : List UInt8) (h : Lib.encodeRuneZ r = bs.map (fun c => (c.toNat : Int))) : Lib.encodeRune r = bs := by
  unfold Lib.encodeRune
  rw [h, List.map_map]
  conv => rhs; rw [← List.map_id bs]
  apply List.map_congr_left
  intro c _
  simp
theorem u8_of (c : UInt8) (n : Nat) (h : c.toNat = n) (hn : n < 256) : c = UInt8.ofNat n := by
  apply UInt8.toNat_inj.1
  rw [h, UInt8.toNat_ofNat']
  omega

/-- The bytes told by numbers. -/
def decL (c : UInt8) (r : List UInt8) : Nat × Nat := Lib.decodeN (r.length + 1) c.toNat (r.getD 0 0).toNat (r.getD 1 0).toNat (r.getD 2 0).toNat

/-- The seven kinds of a first byte of a longer sign. -/
theorem lead_kinds (b : Nat) (h : 2 ≤ leadN b) :
    (leadN b = 2 ∧ leadLo b = 128 ∧ leadHi b = 191 ∧ 194 ≤ b ∧ b < 224) ∨ (leadN b = 3 ∧ leadLo b = 160 ∧ leadHi b = 191 ∧ b = 224) ∨
    (leadN b = 3 ∧ leadLo b = 128 ∧ leadHi b = 191 ∧ ((225 ≤ b ∧ b < 237) ∨ (238 ≤ b ∧ b < 240))) ∨ (leadN b = 3 ∧ leadLo b = 128 ∧ leadHi b = 159 ∧ b = 237) ∨
    (leadN b = 4 ∧ leadLo b = 144 ∧ leadHi b = 191 ∧ b = 240) ∨ (leadN b = 4 ∧ leadLo b = 128 ∧ leadHi b = 191 ∧ 241 ≤ b ∧ b < 244) ∨ (leadN b = 4 ∧ leadLo b = 128 ∧ leadHi b = 143 ∧ b = 244) := by
  have hn : leadN b = if b < 128 then 1 else if 194 ≤ b ∧ b ≤ 223 then 2 else if 224 ≤ b ∧ b ≤ 239 then 3 else if 240 ≤ b ∧ b ≤ 244 then 4 else 0 := rfl
  have hl : leadLo b = if leadN b < 2 then 0 else if b = 224 then 160 else if b = 240 then 144 else 128 := rfl
  have hh : leadHi b = if leadN b < 2 then 0 else if b = 237 then 159 else if b = 244 then 143 else 191 := rfl
  rw [if_neg (by omega)] at hl hh
  generalize leadN b = n at *
  generalize leadLo b = lo at *
  generalize leadHi b = hi at *
  by_cases h1 : 194 ≤ b ∧ b ≤ 223
  · rw [if_neg (by omega), if_pos h1] at hn
    rw [if_neg (by omega), if_neg (by omega)] at hl hh
    omega
  · by_cases h2 : 224 ≤ b ∧ b ≤ 239
    · rw [if_neg (by omega), if_neg h1, if_pos h2] at hn
      by_cases e1 : b = 224
      · rw [if_pos e1] at hl
        rw [if_neg (by omega), if_neg (by omega)] at hh
        omega
      · by_cases e2 : b = 237
        · rw [if_neg e1, if_neg (by omega)] at hl
          rw [if_pos e2] at hh
          omega
        · rw [if_neg e1, if_neg (by omega)] at hl
          rw [if_neg e2, if_neg (by omega)] at hh
          omega
    · by_cases h3 : 240 ≤ b ∧ b ≤ 244
      · rw [if_neg (by omega), if_neg h1, if_neg h2, if_pos h3] at hn
        by_cases e1 : b = 240
        · rw [if_neg (by omega), if_pos e1] at hl
          rw [if_neg (by omega), if_neg (by omega)] at hh
          omega
        · by_cases e2 : b = 244
          · rw [if_neg (by omega), if_neg e1] at hl
            rw [if_neg (by omega), if_pos e2] at hh
            omega
          · rw [if_neg (by omega), if_neg e1] at hl
            rw [if_neg (by omega), if_neg e2] at hh
            omega
      · rw [if_neg h1, if_neg h2, if_neg h3] at hn
        split at hn <;> omega

/-- Of a longer sign's first byte the model decodes by the same ranges. -/
theorem decL_slow (c : UInt8) (r : List UInt8) (h : 2 ≤ leadN c.toNat) :
    decL c r = Lib.slowN (r.length + 1) c.toNat (r.getD 0 0).toNat (r.getD 1 0).toNat (r.getD 2 0).toNat (leadN c.toNat) (leadLo c.toNat) (leadHi c.toNat) := by
  have h0 : 1 ≤ r.length + 1 := by omega
  have h1 := (r.getD 0 0).toNat_lt
  have h2 := (r.getD 1 0).toNat_lt
  have h3 := (r.getD 2 0).toNat_lt
  unfold decL
  rcases lead_kinds c.toNat h with ⟨a, b, d, e⟩ | ⟨a, b, d, e⟩ | ⟨a, b, d, e⟩ | ⟨a, b, d, e⟩ | ⟨a, b, d, e⟩ | ⟨a, b, d, e⟩ | ⟨a, b, d, e⟩ <;> rw [a, b, d]
  · exact (Lib.slow_C2 _ _ _ _ _ h0 h1 h2 h3 e).symm
  · exact (Lib.slow_E0 _ _ _ _ _ h0 h1 h2 h3 e).symm
  · exact (Lib.slow_E1 _ _ _ _ _ h0 h1 h2 h3 e).symm
  · exact (Lib.slow_ED _ _ _ _ _ h0 h1 h2 h3 e).symm
  · exact (Lib.slow_F0 _ _ _ _ _ h0 h1 h2 h3 e).symm
  · exact (Lib.slow_F1 _ _ _ _ _ h0 h1 h2 h3 e).symm
  · exact (Lib.slow_F4 _ _ _ _ _ h0 h1 h2 h3 e).symm
end Go.Proofs.YtobgdignanpliaaDoor.Plain
