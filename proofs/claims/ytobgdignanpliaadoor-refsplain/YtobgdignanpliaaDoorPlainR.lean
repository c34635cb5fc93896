/-
  Plain facts on lists of bytes, of no program: signs by number, by name; what a reference stands for; what is expanded. No conditions.
-/
import Derived.Test.YtobgdignanpliaaDoorPlainF
import Derived.Test.YtobgdignanpliaaDoorPlainS
namespace Go.Proofs.YtobgdignanpliaaDoor.Plain

/-- The bytes of the sign of number k. -/
def enc (k : Nat) : List UInt8 :=
  if k < 128 then [UInt8.ofNat k]
  else if k < 2048 then [UInt8.ofNat (192 + k / 64), UInt8.ofNat (128 + k % 64)]
  else if k < 65536 then [UInt8.ofNat (224 + k / 4096), UInt8.ofNat (128 + k / 64 % 64), UInt8.ofNat (128 + k % 64)]
  else [UInt8.ofNat (240 + k / 262144), UInt8.ofNat (128 + k / 4096 % 64), UInt8.ofNat (128 + k / 64 % 64), UInt8.ofNat (128 + k % 64)]
theorem enc_is (k : Nat) (h : Valid k) : (Utf8.encode (k : Int)).data.toList = enc k := by
  unfold enc
  by_cases h1 : k < 128
  · rw [form_one k h1, if_pos h1]
  · rw [if_neg h1]
    by_cases h2 : k < 2048
    · rw [form_two k (by omega) h2, if_pos h2]
    · rw [if_neg h2]
      by_cases h3 : k < 65536
      · rw [form_three k h (by omega) h3, if_pos h3]
      · rw [form_four k h (by omega), if_neg h3]
theorem enc_whole (k : Nat) (h : Valid k) : whole (enc k) = true := by
  rw [← enc_is k h]
  exact (form_sign k h).whole
theorem enc_len (k : Nat) : 1 ≤ (enc k).length ∧ (enc k).length ≤ 4 := by
  unfold enc
  (repeat' split) <;> simp

/-- What the numbers from 128 to 159 are taken for. -/
def early : List Nat := [8364, 129, 8218, 402, 8222, 8230, 8224, 8225, 710, 8240, 352, 8249, 338, 141, 381, 143, 144, 8216, 8217, 8220, 8221, 8226, 8211, 8212, 732, 8482, 353, 8250, 339, 157, 382, 376]
/-- The number of the sign that stands for n. -/
def numCode (n : Int) : Nat :=
  if n ≤ 0 ∨ 1114111 < n ∨ (55296 ≤ n ∧ n ≤ 57343) then 65533
  else if 128 ≤ n ∧ n ≤ 159 then early.getD (n - 128).toNat 0
  else n.toNat
def number (n : Int) : List UInt8 := enc (numCode n)

theorem early_valid : ∀ j, j < 32 → Valid (early.getD j 0) := by unfold Valid; decide
theorem numCode_valid (n : Int) : Valid (numCode n) := by
  unfold numCode
  split
  · exact ⟨by omega, by omega⟩
  · split
    · exact early_valid _ (by omega)
    · exact ⟨by omega, by omega⟩
theorem number_whole (n : Int) : whole (number n) = true := enc_whole _ (numCode_valid n)
theorem number_len (n : Int) : 1 ≤ (number n).length ∧ (number n).length ≤ 4 := enc_len _
theorem numCode_cap (v c : Nat) (hc : 1114111 < c) : numCode ((min v c : Nat) : Int) = numCode (v : Int) := by
  by_cases h : v ≤ c
  · rw [Nat.min_eq_left h]
  · unfold numCode
    rw [if_pos (by omega), if_pos (by omega)]
theorem number_cap (v c : Nat) (hc : 1114111 < c) : number ((min v c : Nat) : Int) = number (v : Int) := by unfold number; rw [numCode_cap v c hc]

/-- What a byte counts as a digit; 16: it is none. -/
def digV (c : UInt8) : Nat :=
  if 48 ≤ c.toNat ∧ c.toNat ≤ 57 then c.toNat - 48
  else if 97 ≤ c.toNat ∧ c.toNat ≤ 102 then c.toNat - 87
  else if 65 ≤ c.toNat ∧ c.toNat ≤ 70 then c.toNat - 55
  else 16
/-- How many digits of that base stand in front, and their number behind what v came to. -/
def digN (base : Nat) : List UInt8 → Nat
  | [] => 0
  | c :: r => if digV c < base then 1 + digN base r else 0
def digX (base : Nat) : Nat → List UInt8 → Nat
  | v, [] => v
  | v, c :: r => if digV c < base then digX base (v * base + digV c) r else v
theorem digN_le (base : Nat) (l : List UInt8) : digN base l ≤ l.length := by
  induction l with
  | nil => simp [digN]
  | cons c r ih => simp only [digN]; split <;> simp; omega

/-- A reference by number whose digits stand from there on. -/
def numbered (s : List UInt8) (from_ base : Nat) : List UInt8 × Nat :=
  if digN base (s.drop from_) = 0 then ([], 0)
  else (number (digX base 0 (s.drop from_) : Int), from_ + digN base (s.drop from_) + (if (s.getD (from_ + digN base (s.drop from_)) 0).toNat = 59 then 1 else 0))

/-- The names, and what each stands for. -/
def names : List (List UInt8 × List UInt8) := [
  ([98, 110, 101, 59], [61, 226, 131, 165]),
  ([110, 118, 108, 116, 59], [60, 226, 131, 146]),
  ([97, 109, 112], [38]),
  ([97, 109, 112, 59], [38]),
  ([99, 111, 112, 121], [194, 169]),
  ([99, 111, 112, 121, 59], [194, 169]),
  ([103, 116], [62]),
  ([103, 116, 59], [62]),
  ([108, 116], [60]),
  ([108, 116, 59], [60]),
  ([110, 98, 115, 112], [194, 160]),
  ([110, 98, 115, 112, 59], [194, 160]),
  ([110, 111, 116], [194, 172]),
  ([110, 111, 116, 59], [194, 172]),
  ([112, 97, 114, 97], [194, 182]),
  ([112, 97, 114, 97, 59], [194, 182]),
  ([113, 117, 111, 116], [34]),
  ([113, 117, 111, 116, 59], [34]),
  ([114, 101, 103], [194, 174]),
  ([114, 101, 103, 59], [194, 174]),
  ([115, 104, 121], [194, 173]),
  ([115, 104, 121, 59], [194, 173]),
  ([115, 117, 112, 49], [194, 185]),
  ([115, 117, 112, 49, 59], [194, 185]),
  ([115, 117, 112, 50], [194, 178]),
  ([115, 117, 112, 50, 59], [194, 178]),
  ([116, 105, 109, 101, 115], [195, 151]),
  ([116, 105, 109, 101, 115, 59], [195, 151]),
  ([84, 97, 98, 59], [9]),
  ([78, 101, 119, 76, 105, 110, 101, 59], [10]),
  ([97, 112, 111, 115, 59], [39]),
  ([108, 112, 97, 114, 59], [40]),
  ([99, 111, 108, 111, 110, 59], [58]),
  ([112, 97, 114, 116, 59], [226, 136, 130]),
  ([110, 111, 116, 105, 110, 59], [226, 136, 137]),
  ([115, 117, 98, 59], [226, 138, 130]),
  ([115, 117, 112, 59], [226, 138, 131]),
  ([116, 105, 109, 101, 115, 98, 59], [226, 138, 160]),
  ([104, 101, 108, 108, 105, 112, 59], [226, 128, 166]),
  ([109, 100, 97, 115, 104, 59], [226, 128, 148]),
  ([110, 100, 97, 115, 104, 59], [226, 128, 147]),
  ([108, 115, 113, 117, 111, 59], [226, 128, 152]),
  ([114, 115, 113, 117, 111, 59], [226, 128, 153]),
  ([108, 100, 113, 117, 111, 59], [226, 128, 156]),
  ([114, 100, 113, 117, 111, 59], [226, 128, 157]),
  ([101, 117, 114, 111, 59], [226, 130, 172])]
/-- What a name stands for. -/
def look (t : List UInt8) : Option (List UInt8) := names.lookup t
/-- The longest of the names of at most n bytes with which t begins: what it stands for, how long it is. -/
def bestN : Nat → List UInt8 → Option (List UInt8 × Nat)
  | 0, _ => none
  | n + 1, t => match look (t.take (n + 1)) with
    | some v => some (v, n + 1)
    | none => bestN n t
def best (t : List UInt8) : Option (List UInt8 × Nat) := bestN (min 8 t.length) t

def goesOn (c : UInt8) : Bool := decide (c.toNat = 61 ∨ (48 ≤ c.toNat ∧ c.toNat ≤ 57) ∨ (97 ≤ c.toNat ∧ c.toNat ≤ 122) ∨ (65 ≤ c.toNat ∧ c.toNat ≤ 90))
/-- Is a name of n bytes behind the first byte of s barred in an attribute? -/
def barred (s : List UInt8) (n : Nat) : Bool := decide ((s.getD n 0).toNat ≠ 59) && goesOn (s.getD (n + 1) 0)
def named (s : List UInt8) (attr : Bool) : List UInt8 × Nat :=
  match best (s.drop 1) with
  | none => ([], 0)
  | some (v, n) => if attr && barred s n then ([], 0) else (v, n + 1)

theorem named_none (s : List UInt8) (attr : Bool) (h : best (s.drop 1) = none) : named s attr = ([], 0) := by unfold named; rw [h]
theorem named_bar (s : List UInt8) (attr : Bool) (v : List UInt8) (k : Nat) (h : best (s.drop 1) = some (v, k)) (hb : (attr && barred s k) = true) : named s attr = ([], 0) := by unfold named; rw [h]; exact if_pos hb
theorem named_some (s : List UInt8) (attr : Bool) (v : List UInt8) (k : Nat) (h : best (s.drop 1) = some (v, k)) (hb : (attr && barred s k) = false) : named s attr = (v, k + 1) := by unfold named; rw [h]; exact if_neg (by rw [hb]; decide)

def ref (s : List UInt8) (attr : Bool) : List UInt8 × Nat :=
  if (s.getD 0 0).toNat = 38 then
    if (s.getD 1 0).toNat = 35 then
      if (s.getD 2 0).toNat = 120 ∨ (s.getD 2 0).toNat = 88 then numbered s 3 16 else numbered s 2 10
    else named s attr
  else ([], 0)

/-- Expanded, behind k bytes that are passed. -/
def expS (attr : Bool) : Nat → List UInt8 → List UInt8
  | _, [] => []
  | k + 1, _ :: r => expS attr k r
  | 0, c :: r => if (ref (c :: r) attr).2 = 0 then c :: expS attr 0 r else (ref (c :: r) attr).1 ++ expS attr ((ref (c :: r) attr).2 - 1) r
def expand (s : List UInt8) (attr : Bool) : List UInt8 := expS attr 0 s

theorem expS_drop (attr : Bool) (l : List UInt8) : ∀ k, expS attr k l = expand (l.drop k) attr := by
  induction l with
  | nil => intro k; simp [expand, expS]
  | cons c r ih =>
    intro k
    cases k with
    | zero => rfl
    | succ k => simp only [expS, List.drop_succ_cons]; exact ih k
theorem expand_nil (attr : Bool) : expand [] attr = [] := rfl
theorem expand_byte (c : UInt8) (r : List UInt8) (attr : Bool) (h : (ref (c :: r) attr).2 = 0) : expand (c :: r) attr = c :: expand r attr := by
  unfold expand
  rw [expS, if_pos h]
theorem expand_ref (c : UInt8) (r : List UInt8) (attr : Bool) (h : (ref (c :: r) attr).2 ≠ 0) : expand (c :: r) attr = (ref (c :: r) attr).1 ++ expand ((c :: r).drop (ref (c :: r) attr).2) attr := by
  obtain ⟨n, hn⟩ : ∃ n, (ref (c :: r) attr).2 = n + 1 := ⟨(ref (c :: r) attr).2 - 1, by omega⟩
  conv => lhs; unfold expand
  rw [expS, if_neg h, hn, expS_drop, List.drop_succ_cons, Nat.add_sub_cancel]

/- names: each has from 2 to 8 bytes, none of them a blank or an ampersand; what they stand for is whole and short; no name stands twice -/
theorem names_len : names.length = 46 := rfl
theorem names_ok : ∀ x ∈ names, 1 ≤ x.1.length ∧ x.1.length ≤ 8 ∧ whole x.2 = true ∧ x.2.length ≤ 4 ∧ (∀ c ∈ x.1, 48 ≤ c.toNat) := by decide
theorem names_once : ∀ x ∈ names, look x.1 = some x.2 := by decide

theorem look_mem (t v : List UInt8) (h : look t = some v) : (t, v) ∈ names := by
  unfold look at h
  obtain ⟨l1, l2, h1, _⟩ := List.lookup_eq_some_iff.1 h
  rw [h1]
  simp

theorem bestN_mem : ∀ (n : Nat) (t v : List UInt8) (k : Nat), bestN n t = some (v, k) → 1 ≤ k ∧ k ≤ n ∧ look (t.take k) = some v
  | 0, _, _, _, h => by simp [bestN] at h
  | n + 1, t, v, k, h => by
    rw [bestN] at h
    cases hl : look (t.take (n + 1)) with
    | some x =>
      rw [hl] at h
      simp at h
      obtain ⟨rfl, rfl⟩ := h
      exact ⟨by omega, by omega, hl⟩
    | none =>
      rw [hl] at h
      obtain ⟨h1, h2, h3⟩ := bestN_mem n t v k h
      exact ⟨h1, by omega, h3⟩
theorem bestN_skip : ∀ (n m : Nat) (t : List UInt8), m ≤ n → (∀ j, m < j → j ≤ n → look (t.take j) = none) → bestN n t = bestN m t
  | 0, m, t, h, _ => by rw [show m = 0 by omega]
  | n + 1, m, t, h, hn => by
    by_cases e : m = n + 1
    · rw [e]
    · rw [bestN, hn (n + 1) (by omega) (Nat.le_refl _)]
      exact bestN_skip n m t (by omega) (fun j a b => hn j a (by omega))

theorem best_some (t v : List UInt8) (k : Nat) (h : best t = some (v, k)) : 1 ≤ k ∧ k ≤ 8 ∧ k ≤ t.length ∧ (t.take k, v) ∈ names := by
  obtain ⟨h1, h2, h3⟩ := bestN_mem _ _ _ _ h
  exact ⟨h1, by omega, by omega, look_mem _ _ h3⟩
/-- No name with which t begins. -/
theorem best_none (t : List UInt8) (h : ∀ x ∈ names, ¬ x.1 <+: t) : best t = none := by
  unfold best
  rw [bestN_skip _ 0 t (Nat.zero_le _) (fun j _ hj => ?_)]
  · rfl
  · cases hl : look (t.take j) with
    | none => rfl
    | some v => exact absurd (List.take_prefix j t) (h _ (look_mem _ _ hl))
/-- The longest name with which t begins. -/
theorem best_of (t : List UInt8) (x : List UInt8 × List UInt8) (hx : x ∈ names) (hp : x.1 <+: t) (hm : ∀ y ∈ names, y.1 <+: t → y.1.length ≤ x.1.length) : best t = some (x.2, x.1.length) := by
  obtain ⟨h1, h8, _⟩ := names_ok x hx
  have hl := hp.length_le
  have ht : t.take x.1.length = x.1 := (List.prefix_iff_eq_take.1 hp).symm
  unfold best
  rw [bestN_skip _ x.1.length t (by omega) (fun j a b => ?_)]
  · obtain ⟨m, hm⟩ : ∃ m, x.1.length = m + 1 := ⟨x.1.length - 1, by omega⟩
    rw [hm, bestN, ← hm, ht, names_once x hx]
  · cases hk : look (t.take j) with
    | none => rfl
    | some v =>
      have := hm _ (look_mem _ _ hk) (List.take_prefix j t)
      rw [List.length_take] at this
      omega
end Go.Proofs.YtobgdignanpliaaDoor.Plain
