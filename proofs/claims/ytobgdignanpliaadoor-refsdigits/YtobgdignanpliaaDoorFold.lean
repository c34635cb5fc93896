/-
  The walks of text.Fold and of the reference's Fold: any text of at most maxLen bytes.
-/
import Derived.Test.YtobgdignanpliaaDoorProg
import Derived.Test.YtobgdignanpliaaDoorPlain
import Derived.WalkKit
import Derived.BigCall
import Derived.WalkLawsBesides
import Derived.Lib.Hide
namespace Go.Proofs.YtobgdignanpliaaDoor
open Go.RowKit

/-- Block b of w holds the bytes l from its first cell on, and these may be written. -/
def BytesAt (w : World) (b : Nat) (l : List UInt8) : Prop :=
  (∀ j (hj : j < l.length), w.cell? ⟨b, j, none⟩ = some (.int .u8 (l[j].toNat : Int))) ∧ ∀ j, j < l.length → w.frozen? ⟨b, j, none⟩ = false

theorem BytesAt.row (w : World) (s : ByteArray) (cap : Nat) (t : TypeId) :
    BytesAt (w.alloc (.cells (bytesRow s cap) t ((bytesRow s cap).size, (bytesRow s cap).size + 1))) w.heap.size s.data.toList := by
  refine ⟨fun j hj => ?_, fun j hj => ?_⟩
  · rw [World.cell?_alloc_mark, bytesRow_at s cap j (by simpa using hj)]
    simp
  · rw [World.frozen?_alloc_mark]
    have : j < (bytesRow s cap).size := by
      simp [bytesRow]; simp at hj; omega
    simp; omega
theorem BytesAt.drew {w : World} {b : Nat} {l : List UInt8} (h : BytesAt w b l) : BytesAt w.drew b l := h

theorem addr_add (b j : Nat) : (⟨b, 0, none⟩ : Addr).add j = ⟨b, j, none⟩ := by
  unfold Addr.add
  split <;> simp_all

/-- One byte written. -/
theorem BytesAt.setCell {w : World} {b : Nat} {l : List UInt8} (h : BytesAt w b l) (k : Nat) (hk : k < l.length) (c : UInt8) :
    BytesAt (w.setCell ⟨b, k, none⟩ (.int .u8 (c.toNat : Int))) b (l.set k c) := by
  refine ⟨fun j hj => ?_, fun j hj => ?_⟩
  · have hj' : j < l.length := by simpa using hj
    by_cases e : k = j
    · subst e
      rw [World.cell?_setCell_same _ _ _ (h.1 k hk)]
      simp
    · rw [World.cell?_setCell_other _ _ _ _ (by simp), h.1 j hj']
      simp [e]
  · have hj' : j < l.length := by simpa using hj
    rw [World.frozen?_setCell]
    exact h.2 j hj'

theorem foldTo_step (l : List UInt8) (k : Nat) (hk : k < l.length) : Plain.foldTo l (k + 1) = (Plain.foldTo l k).set k (Plain.foldB l[k]) := by
  apply List.ext_getElem
  · simp [Plain.foldTo_length]
  · intro j h1 h2
    have hj : j < l.length := by rw [Plain.foldTo_length] at h1; exact h1
    rw [Plain.foldTo_get l (k + 1) j hj, List.getElem_set]
    by_cases e : k = j
    · subst e; simp
    · rw [if_neg e, Plain.foldTo_get l k j hj]
      by_cases hh : j < k
      · rw [if_pos hh, if_pos (by omega)]
      · rw [if_neg hh, if_neg (by omega)]
theorem foldTo_same (l : List UInt8) (k : Nat) (hk : k < l.length) (h : Plain.foldB l[k] = l[k]) : Plain.foldTo l (k + 1) = Plain.foldTo l k := by
  rw [foldTo_step l k hk, h]
  apply List.ext_getElem
  · simp
  · intro j h1 h2
    have hj : j < l.length := by rw [Plain.foldTo_length] at h2; exact h2
    rw [List.getElem_set]
    split
    · next e => subst e; rw [Plain.foldTo_get l k k hk]; simp
    · rfl

end Go.Proofs.YtobgdignanpliaaDoor
