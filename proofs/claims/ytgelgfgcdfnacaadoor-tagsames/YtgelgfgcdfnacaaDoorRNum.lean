/-
  The walks of what tells a number's sign: high, Number, digit, Letter of the reference; Number, digit, goesOn of the program. Any number; any byte.
-/
import Derived.Test.YtgelgfgcdfnacaaDoorProg
import Derived.Test.YtgelgfgcdfnacaaDoorPlainAll
import Derived.Test.YtgelgfgcdfnacaaDoorFold
namespace Go.Proofs.YtgelgfgcdfnacaaDoor
open Go.RowKit

/-- A sign's bytes as a value. -/
theorem str_of (E : ByteArray) (l : List UInt8) (h : E.data.toList = l) : Value.string E = .string ⟨l.toArray⟩ := by
  subst h
  rfl

def earlyCells : Array Value := (Plain.early.map fun n : Nat => Value.int .i64 (n : Int)).toArray
theorem early_at (j : Nat) (h : j < 32) : earlyCells[j]? = some (.int .i64 ((Plain.early.getD j 0 : Nat) : Int)) := by
  have hl : Plain.early.length = 32 := rfl
  unfold earlyCells
  rw [List.getElem?_toArray, List.getElem?_map, List.getElem?_eq_getElem (by omega), List.getD_eq_getElem?_getD, List.getElem?_eq_getElem (by omega)]
  rfl

/-- What high tells: a row that holds the numbers. -/
def HighOut (w : World) (e : Ending) (w' : World) : Prop :=
  ∃ g, e = .returned (.slice (some ⟨g, 0, none⟩) 32 32) ∧ (∀ j, j < 32 → w'.cell? ⟨g, j, none⟩ = some (.int .i64 ((Plain.early.getD j 0 : Nat) : Int))) ∧ Below w.heap.size w w'
/-- What a call tells that makes memory and answers a text. -/
def Tells (t : List UInt8) (w : World) (e : Ending) (w' : World) : Prop := e = .returned (.string ⟨t.toArray⟩) ∧ Below w.heap.size w w'

theorem code_lost (n : Int) (h : n ≤ 0 ∨ 1114111 < n ∨ (55296 ≤ n ∧ n ≤ 57343)) : Plain.number n = [239, 191, 189] := by
  unfold Plain.number Plain.numCode
  rw [if_pos h]
  decide
theorem code_early (n : Int) (j : Nat) (hj : j < 32) (e : n = 128 + (j : Int)) : Plain.number n = Plain.enc (Plain.early.getD j 0) := by
  unfold Plain.number Plain.numCode
  rw [if_neg (by omega), if_pos (by omega), show (n - 128).toNat = j by omega]
theorem code_own (n : Int) (k : Nat) (e : n = (k : Int)) (h1 : 1 ≤ k) (h2 : k ≤ 1114111) (h3 : ¬ (55296 ≤ k ∧ k ≤ 57343)) (h4 : ¬ (128 ≤ k ∧ k ≤ 159)) : Plain.number n = Plain.enc k ∧ Plain.Valid k := by
  unfold Plain.number Plain.numCode
  rw [if_neg (by omega), if_neg (by omega), show n.toNat = k by omega]
  exact ⟨rfl, h2, h3⟩
theorem tells_of (E : ByteArray) (l : List UInt8) (h : E.data.toList = l) {w w' : World} (hb : Below w.heap.size w w') : Tells l w (.returned (.string E)) w' := by
  rw [str_of E l h]
  exact ⟨rfl, hb⟩
theorem tells_enc (k : Nat) (h : Plain.Valid k) {w w' : World} (hb : Below w.heap.size w w') : Tells (Plain.enc k) w (.returned (.string (Utf8.encode (k : Int)))) w' :=
  tells_of _ _ (Plain.enc_is k h) hb
theorem early_small : ∀ j, j < 32 → Plain.early.getD j 0 ≤ 8482 := by decide

/-- The program's table of early numbers holds what its text lays. -/
def HasEarly (w : World) : Prop := ∀ j, j < 32 → w.cell? ⟨1, j, none⟩ = some (.int .i32 ((Plain.early.getD j 0 : Nat) : Int))
theorem HasEarly.below {w w' : World} {n : Nat} (h : HasEarly w) (hb : Below n w w') (h1 : 1 < n) : HasEarly w' := fun j hj => (hb.cell (p := ⟨1, j, none⟩) h1).trans (h j hj)
theorem HasEarly.drew {w : World} (h : HasEarly w) : HasEarly w.drew := h

set_option maxHeartbeats 1000000 in
set_option maxRecDepth 100000 in
theorem number_any (n : Int) (w : World) (h0 : -9223372036854775808 ≤ n) (h1 : n ≤ 9223372036854775807) (hE : HasEarly w) : Calls Tryd.prog 83 #[.int .i64 n] w (Tells (Plain.number n) w) := by
  by_cases hl : n ≤ 0 ∨ 1114111 < n ∨ (55296 ≤ n ∧ n ≤ 57343)
  · rw [code_lost n hl]
    clear hE
    rcases hl with h | h | ⟨h, h'⟩
    · go_enter Tryd.func83, Tryd.ntmps83
      go_wp2
      go_ret
      exact ⟨rfl, Below.refl _ _⟩
    · have g : ¬ n ≤ 0 := by omega
      go_enter Tryd.func83, Tryd.ntmps83
      go_wp2
      go_ret
      exact ⟨rfl, Below.refl _ _⟩
    · have g : ¬ n ≤ 0 := by omega
      have g' : ¬ 1114111 < n := by omega
      go_enter Tryd.func83, Tryd.ntmps83
      go_wp2
      go_ret
      exact ⟨rfl, Below.refl _ _⟩
  · obtain ⟨k, rfl⟩ : ∃ k : Nat, n = (k : Int) := ⟨n.toNat, by omega⟩
    have g0 : ¬ (k : Int) ≤ 0 := by omega
    have g1 : ¬ (1114111 : Int) < (k : Int) := by omega
    by_cases he : 128 ≤ k ∧ k ≤ 159
    · obtain ⟨j, hj, rfl⟩ : ∃ j : Nat, j < 32 ∧ k = 128 + j := ⟨k - 128, by omega, by omega⟩
      have hv := Plain.early_valid j hj
      have hs := early_small j hj
      have hcj := hE j hj
      rw [code_early _ j hj (by omega)]
      have HV := Lib.hid hv
      clear hl hv he hE
      generalize Plain.early.getD j 0 = v at *
      have e1 : (128 : Int) + (j : Int) - 128 = (j : Int) := by omega
      go_enter Tryd.func83, Tryd.ntmps83
      go_wp2
      go_ret
      exact tells_enc _ HV.out (Below.refl _ _)
    · obtain ⟨ho, hv⟩ := code_own (k : Int) k rfl (by omega) (by omega) (by omega) he
      rw [ho]
      have HV := Lib.hid hv
      have hr : 55296 ≤ k → 57343 < k := by omega
      clear ho hv hl hE
      by_cases ha : 55296 ≤ k
      · have a1 : ¬ k ≤ 57343 := by have := hr ha; omega
        clear hr
        go_enter Tryd.func83, Tryd.ntmps83
        go_wp2
        go_ret
        exact tells_enc _ HV.out (Below.refl _ _)
      · clear hr
        by_cases hb : 128 ≤ k
        · have a2 : ¬ k ≤ 159 := by omega
          go_enter Tryd.func83, Tryd.ntmps83
          go_wp2
          go_ret
          exact tells_enc _ HV.out (Below.refl _ _)
        · go_enter Tryd.func83, Tryd.ntmps83
          go_wp2
          go_ret
          exact tells_enc _ HV.out (Below.refl _ _)

/-- What a call tells that only computes. -/
def Gives (v : Value) (w : World) (e : Ending) (w' : World) : Prop := e = .returned v ∧ w = w'

theorem byte_digit (c : UInt8) : (48 ≤ c.toNat ∧ c.toNat ≤ 57) ∨ (97 ≤ c.toNat ∧ c.toNat ≤ 102) ∨ (65 ≤ c.toNat ∧ c.toNat ≤ 70) ∨ (c.toNat < 48) ∨ (57 < c.toNat ∧ c.toNat < 65) ∨ (70 < c.toNat ∧ c.toNat < 97) ∨ 102 < c.toNat := by omega
theorem int_is {k : IntKind} {a b : Int} (h : a = b) : Value.int k a = Value.int k b := by rw [h]

/-- A byte as a digit, by its number. -/
def digN8 (n : Nat) : Nat := if 48 ≤ n ∧ n ≤ 57 then n - 48 else if 97 ≤ n ∧ n ≤ 102 then n - 87 else if 65 ≤ n ∧ n ≤ 70 then n - 55 else 16
theorem digN8_is (c : UInt8) : digN8 c.toNat = Plain.digV c := rfl
/-- The reference's digit: of sixteen, or of ten alone. -/
def rdig (n : Nat) (sixteen : Bool) : Int := if digN8 n < (if sixteen then 16 else 10) then (digN8 n : Int) else -1
theorem ret_is {k : IntKind} {a b : Int} (h : a = b) : Ending.returned (.int k a) = .returned (.int k b) := by rw [h]

set_option maxHeartbeats 1000000 in
set_option maxRecDepth 100000 in
theorem digit_at (n x : Nat) (w : World) (hc : n < 256) (hx : digN8 n = x) : Calls Tryd.prog 82 #[.int .u8 (n : Int)] w (Gives (.int .i64 (x : Int)) w) := by
  have HX := Lib.hid hx
  clear hx
  rcases (show (48 ≤ n ∧ n ≤ 57) ∨ (97 ≤ n ∧ n ≤ 102) ∨ (65 ≤ n ∧ n ≤ 70) ∨ (n < 48) ∨ (57 < n ∧ n < 65) ∨ (70 < n ∧ n < 97) ∨ 102 < n by omega) with ⟨h, h'⟩ | ⟨h, h'⟩ | ⟨h, h'⟩ | h | ⟨h, h'⟩ | ⟨h, h'⟩ | h
  all_goals
    go_enter Tryd.func82, Tryd.ntmps82
    go_wp2
    go_ret
    refine ⟨ret_is ?_, rfl⟩
    have e := HX.out
    unfold digN8 at e
    rw [← e]
    (repeat' split) <;> omega
theorem digit_any (c : UInt8) (w : World) : Calls Tryd.prog 82 #[.int .u8 (c.toNat : Int)] w (Gives (.int .i64 (Plain.digV c : Int)) w) := digit_at _ _ w c.toNat_lt rfl

/-- Is it a letter? -/
def letB (n : Nat) : Bool := decide ((97 ≤ n ∧ n ≤ 122) ∨ (65 ≤ n ∧ n ≤ 90))
set_option maxHeartbeats 1000000 in
set_option maxRecDepth 100000 in
theorem goesOn_at (n : Nat) (x : Bool) (w : World) (hc : n < 256) (hx : decide (n = 61 ∨ (48 ≤ n ∧ n ≤ 57) ∨ (97 ≤ n ∧ n ≤ 122) ∨ (65 ≤ n ∧ n ≤ 90)) = x) : Calls Tryd.prog 85 #[.int .u8 (n : Int)] w (Gives (.bool x) w) := by
  by_cases h61 : n = 61
  · obtain rfl : x = true := by rw [← hx]; exact decide_eq_true (by omega)
    clear hx
    subst h61
    go_enter Tryd.func85, Tryd.ntmps85
    go_wp2
    go_ret
    exact ⟨rfl, rfl⟩
  · have hq : ((n : Int) == 61) = false := beq_eq_false_iff_ne.2 (by omega)
    rcases (show ((48 ≤ n ∧ n ≤ 57) ∨ (97 ≤ n ∧ n ≤ 122) ∨ (65 ≤ n ∧ n ≤ 90)) ∨ ((n < 48) ∨ (57 < n ∧ n < 65) ∨ (90 < n ∧ n < 97) ∨ 122 < n) by omega) with h | h
    · obtain rfl : x = true := by rw [← hx]; exact decide_eq_true (by omega)
      clear hx h61
      rcases h with ⟨h, h'⟩ | ⟨h, h'⟩ | ⟨h, h'⟩
      all_goals
        go_enter Tryd.func85, Tryd.ntmps85
        go_wp2
        go_ret
        exact ⟨rfl, rfl⟩
    · obtain rfl : x = false := by rw [← hx]; exact decide_eq_false (by omega)
      clear hx h61
      rcases h with h | ⟨h, h'⟩ | ⟨h, h'⟩ | h
      all_goals
        go_enter Tryd.func85, Tryd.ntmps85
        go_wp2
        go_ret
        exact ⟨rfl, rfl⟩
theorem goesOn_any (c : UInt8) (w : World) : Calls Tryd.prog 85 #[.int .u8 (c.toNat : Int)] w (Gives (.bool (Plain.goesOn c)) w) := goesOn_at _ _ w c.toNat_lt rfl
end Go.Proofs.YtgelgfgcdfnacaaDoor
