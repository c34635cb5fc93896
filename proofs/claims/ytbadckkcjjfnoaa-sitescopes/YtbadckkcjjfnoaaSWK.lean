/-
  The walks of the program's Put, Push and Swap. Any Site.
-/
import Derived.Test.YtbadckkcjjfnoaaSWE
import Derived.Test.YtbadckkcjjfnoaaSWI
import Derived.Test.YtbadckkcjjfnoaaSWJ
namespace Go.Proofs.Ytbadckkcjjfnoaa
open Go.RowKit Go.Maps

variable {M : Nat → Prop} {w w' : World} {B : Nat} {a : SA} {S : List PN} {L : List MK} {R : List EL} {fO : Int → Bool} {fN : List UInt8 → Int} {fo : Bool} {T : Nat}
theorem senterAtM (h : SiteM M w B S L R fo T) (x : EL) (i : Nat) (hi : i ≤ R.length) (hr : R.length ≤ 4294967296) (hT : T < 4294967296) (hx0 : -9223372036854775808 ≤ x.n) (hx1 : x.n ≤ 9223372036854775807) (hxn : x.name.length ≤ 4294967296) :
    Calls Try.prog 106 #[.pointer (some ⟨B, 0, none⟩), .int .i64 (i : Int), elV x] w (SiteOut M w B S L (R.take i ++ x :: R.drop i) fo (T + 1) (.tuple #[])) := by
  obtain ⟨a, h, k⟩ := h
  have hm : (4294967296 : Nat) ≤ maxLen := by decide
  refine (senter_of h x i (R.take i ++ x :: R.drop i) (by omega) (by omega) hx0 hx1 hxn (fun s => ?_) (by simp; omega) (fun W b hrow hb => sinsP a.v R x W b i hrow hb hi hr)).mono ?_
  · have := elNamed_le R s
    omega
  · intro e w' q
    have e1 : R.take i ++ R.drop i = R := List.take_append_drop i R
    exact SiteM.entered (A := R.take i) (C := R.drop i) k (by rw [e1]; exact q)
/-- A node put at a place of the row. -/
def putS (S : List PN) (R : List EL) (i n : Int) : List EL × Bool :=
  if mayE S (elOpen R) n = true ∧ 0 < i ∧ i ≤ R.length then (R.take i.toNat ++ newE S n :: R.drop i.toNat, true) else (R, false)
/-- One node in the place of another. -/
def swapS (S : List PN) (R : List EL) (n m : Int) : List EL × Bool :=
  if mayE S (elOpen R) m = true ∧ 0 < placeS R n then ((R.eraseIdx (placeS R n).toNat).take (placeS R n).toNat ++ newE S m :: (R.eraseIdx (placeS R n).toNat).drop (placeS R n).toNat, true) else (R, false)
end Go.Proofs.Ytbadckkcjjfnoaa
