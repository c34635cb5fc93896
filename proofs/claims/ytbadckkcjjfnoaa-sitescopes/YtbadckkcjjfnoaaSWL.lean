/-
  The walk of the program's Open. Any Site.
-/
import Derived.Test.YtbadckkcjjfnoaaSWK
import Derived.Test.YtbadckkcjjfnoaaDCll
namespace Go.Proofs.Ytbadckkcjjfnoaa
open Go.RowKit Go.Maps

variable {M : Nat → Prop} {w w' : World} {B : Nat} {a : SA} {S : List PN} {L : List MK} {R : List EL} {fO : Int → Bool} {fN : List UInt8 → Int} {fo : Bool} {T : Nat}
/-- The numbers of a row, the first k of them laid. -/
def numsTo (R : List EL) (k : Nat) : List Value := (R.take k).map (fun x => Value.int .i64 x.n) ++ List.replicate (R.length - k) (Value.int .i64 0)
theorem numsTo_length {k : Nat} (h : k ≤ R.length) : (numsTo R k).length = R.length := by simp [numsTo]; omega
theorem numsTo_set {k : Nat} (h : k < R.length) : (numsTo R k).set k (.int .i64 R[k].n) = numsTo R (k + 1) := by
  have e : R.length - k = (R.length - (k + 1)) + 1 := by omega
  have hl : (List.map (fun x : EL => Value.int .i64 x.n) (R.take k)).length = k := by simp; omega
  unfold numsTo
  rw [e, List.replicate_succ, List.set_append_right _ _ (by omega), hl, Nat.sub_self, List.set_cons_zero, List.take_succ_eq_append_getElem h, List.map_append, List.append_assoc]
  rfl
theorem numsTo_at {k : Nat} (h : k < R.length) : (numsTo R k)[k]? = some (.int .i64 0) := by
  have e : R.length - k = (R.length - (k + 1)) + 1 := by omega
  have hl : (List.map (fun x : EL => Value.int .i64 x.n) (R.take k)).length = k := by simp; omega
  unfold numsTo
  rw [e, List.replicate_succ, List.getElem?_append_right (by omega), hl, Nat.sub_self]
  rfl
def numsRow (R : List EL) (b g k : Nat) (w : World) : Prop := w.ownsRow b 3 1 (.slice (some ⟨g, 0, none⟩) R.length R.length) R.length (numsTo R k)
def NumsOut (R : List EL) (w : World) (e : Ending) (w' : World) : Prop :=
  e = .returned (.slice (some ⟨w.heap.size, 0, none⟩) R.length R.length) ∧ numsRow R w.heap.size w.heap.size R.length w' ∧ Below w.heap.size w w'
end Go.Proofs.Ytbadckkcjjfnoaa
