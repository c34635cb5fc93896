/-
  The walks of text.Fold and of the reference's Fold: any text of at most maxLen bytes.
-/
import Derived.Test.YtgelgfgcdfnacaaDoorProg
import Derived.Test.YtgelgfgcdfnacaaDoorPlainAll
import Derived.WalkKit
import Derived.BigCall
import Derived.WalkLawsBesides
import Derived.Lib.Hide
namespace Go.Proofs.YtgelgfgcdfnacaaDoor
open Go.RowKit

/-- Block b of w holds the bytes l from its first cell on, and these may be written. -/
def BytesAt (w : World) (b : Nat) (l : List UInt8) : Prop :=
  (∀ j (hj : j < l.length), w.cell? ⟨b, j, none⟩ = some (.int .u8 (l[j].toNat : Int))) ∧ ∀ j, j < l.length → w.frozen? ⟨b, j, none⟩ = false

theorem BytesAt.row (w : World) (s : ByteArray) (cap : Nat) (t : TypeId) :
    BytesAt (w.alloc (.cells (bytesRow s cap) t ((bytesRow s cap).size, (bytesRow s cap).size + 1))) w.heap.size s.data.toList := by
  refine ⟨fun j hj => ?_, fun j hj => ?_⟩
  · rw [World.cell?_alloc_mark, bytesRow_at s cap j (by simpa using hj)]
    simp
  · rw [World.frozen?_alloc_mark]
    have : j < (bytesRow s cap).size := by
      simp [bytesRow]; simp at hj; omega
    simp; omega
theorem BytesAt.drew {w : World} {b : Nat} {l : List UInt8} (h : BytesAt w b l) : BytesAt w.drew b l := h

theorem addr_add (b j : Nat) : (⟨b, 0, none⟩ : Addr).add j = ⟨b, j, none⟩ := by
  unfold Addr.add
  split <;> simp_all

/-- One byte written. -/
theorem BytesAt.setCell {w : World} {b : Nat} {l : List UInt8} (h : BytesAt w b l) (k : Nat) (hk : k < l.length) (c : UInt8) :
    BytesAt (w.setCell ⟨b, k, none⟩ (.int .u8 (c.toNat : Int))) b (l.set k c) := by
  refine ⟨fun j hj => ?_, fun j hj => ?_⟩
  · have hj' : j < l.length := by simpa using hj
    by_cases e : k = j
    · subst e
      rw [World.cell?_setCell_same _ _ _ (h.1 k hk)]
      simp
    · rw [World.cell?_setCell_other _ _ _ _ (by simp), h.1 j hj']
      simp [e]
  · have hj' : j < l.length := by simpa using hj
    rw [World.frozen?_setCell]
    exact h.2 j hj'

theorem foldTo_step (l : List UInt8) (k : Nat) (hk : k < l.length) : Plain.foldTo l (k + 1) = (Plain.foldTo l k).set k (Plain.foldB l[k]) := by
  apply List.ext_getElem
  · simp [Plain.foldTo_length]
  · intro j h1 h2
    have hj : j < l.length := by rw [Plain.foldTo_length] at h1; exact h1
    rw [Plain.foldTo_get l (k + 1) j hj, List.getElem_set]
    by_cases e : k = j
    · subst e; simp
    · rw [if_neg e, Plain.foldTo_get l k j hj]
      by_cases hh : j < k
      · rw [if_pos hh, if_pos (by omega)]
      · rw [if_neg hh, if_neg (by omega)]
theorem foldTo_same (l : List UInt8) (k : Nat) (hk : k < l.length) (h : Plain.foldB l[k] = l[k]) : Plain.foldTo l (k + 1) = Plain.foldTo l k := by
  rw [foldTo_step l k hk, h]
  apply List.ext_getElem
  · simp
  · intro j h1 h2
    have hj : j < l.length := by rw [Plain.foldTo_length] at h2; exact h2
    rw [List.getElem_set]
    split
    · next e => subst e; rw [Plain.foldTo_get l k k hk]; simp
    · rfl

set_option maxHeartbeats 1000000 in
set_option maxRecDepth 100000 in
theorem fold_any (s : ByteArray) (w : World) (hs : s.size ≤ maxLen) :
    Calls Tryd.prog 44 #[.string s] w fun e w' => e = .returned (.string ⟨(Plain.fold s.data.toList).toArray⟩) ∧ Below w.heap.size w w' := by
  unfold maxLen at hs
  have hconv := run_bytes_of_string (P := Tryd.prog) w 9 45 5 s Tryd.underlying9 Tryd.underlying45 Tryd.underlying5
  generalize grownCap w s.size 0 5 = cap at hconv
  have hl : s.data.toList.length = s.size := by simp
  have HL := Lib.hid hl
  clear hl
  go_enter Tryd.func44, Tryd.ntmps44
  go_wp2
  go_loopw [10] (fun i wr => ∃ k : Nat, k ≤ s.size ∧ i = .int .i64 k ∧ BytesAt wr w.heap.size (Plain.foldTo s.data.toList k) ∧ Below w.heap.size w wr) (fun i _ => s.size - (intOf i).toNat)
  case atStart =>
    refine ⟨0, Nat.zero_le _, rfl, ?_, ((Below.refl _ w).alloc (Nat.le_refl _) _).drew⟩
    rw [Plain.foldTo_zero]
    exact (BytesAt.row w s cap 5).drew
  case round =>
    obtain ⟨k, hk, rfl, hB, hb⟩ := hrel
    by_cases hlt : k < s.size
    · have hkl : k < s.data.toList.length := by rw [HL.out]; exact hlt
      have hkf : k < (Plain.foldTo s.data.toList k).length := by rw [Plain.foldTo_length]; exact hkl
      have hc : wr.cell? ⟨w.heap.size, k, none⟩ = some (.int .u8 (s.data.toList[k].toNat : Int)) := by
        have := hB.1 k hkf
        rw [Plain.foldTo_get _ k k hkl, if_neg (Nat.lt_irrefl _)] at this
        exact this
      have hf : wr.frozen? ⟨w.heap.size, k, none⟩ = false := hB.2 k hkf
      have hst := foldTo_step s.data.toList k hkl
      have hsm := foldTo_same s.data.toList k hkl
      have HB := Lib.hid hB
      have HST := Lib.hid hst
      have HSM := Lib.hid hsm
      clear hB hst hsm
      generalize s.data.toList[k] = c at *
      have hc1 : c.toNat < 256 := c.toNat_lt
      go_wp2
      · refine ⟨⟨k + 1, by omega, by go_num, ?_, hb.setCell (Nat.le_refl _) _⟩, by simp [intOf]; omega⟩
        rw [HST.out]
        have hu := Plain.foldB_up c (by omega) (by omega)
        have := HB.out.setCell k hkf (Plain.foldB c)
        rw [hu] at this
        rw [show ((c.toNat : Int) - 65 + 97) = ((c.toNat + 32 : Nat) : Int) by omega]
        exact this
      all_goals
        refine ⟨⟨k + 1, by omega, by go_num, ?_, hb⟩, by simp [intOf]; omega⟩
        rw [HSM.out (Plain.foldB_id c (by omega))]
        exact HB.out
    · have hback := run_convert_bytes_back (P := Tryd.prog) wr 45 9 5 ⟨w.heap.size, 0, none⟩ cap (Plain.foldTo s.data.toList k) Tryd.underlying45 Tryd.underlying5 Tryd.underlying9 (fun j hj => by
        rw [addr_add]; exact hB.1 j hj)
      rw [Plain.foldTo_length, HL.out, Plain.foldTo_all _ k (by rw [HL.out]; omega)] at hback
      clear hB
      go_wp2
      go_ret
      exact ⟨rfl, hb⟩

set_option maxHeartbeats 1000000 in
set_option maxRecDepth 100000 in
theorem rfold_any (s : ByteArray) (w : World) (hs : s.size ≤ maxLen) :
    Calls Tryd.prog 22 #[.string s] w fun e w' => e = .returned (.string ⟨(Plain.fold s.data.toList).toArray⟩) ∧ Below w.heap.size w w' := by
  unfold maxLen at hs
  have hconv := run_bytes_of_string (P := Tryd.prog) w 9 45 5 s Tryd.underlying9 Tryd.underlying45 Tryd.underlying5
  generalize grownCap w s.size 0 5 = cap at hconv
  have hl : s.data.toList.length = s.size := by simp
  have HL := Lib.hid hl
  clear hl
  go_enter Tryd.func22, Tryd.ntmps22
  go_wp2
  go_loopw [4] (fun i wr => ∃ k : Nat, k ≤ s.size ∧ i = .int .i64 k ∧ BytesAt wr w.heap.size (Plain.foldTo s.data.toList k) ∧ Below w.heap.size w wr) (fun i _ => s.size - (intOf i).toNat)
  case atStart =>
    refine ⟨0, Nat.zero_le _, rfl, ?_, ((Below.refl _ w).alloc (Nat.le_refl _) _).drew⟩
    rw [Plain.foldTo_zero]
    exact (BytesAt.row w s cap 5).drew
  case round =>
    obtain ⟨k, hk, rfl, hB, hb⟩ := hrel
    by_cases hlt : k < s.size
    · have hkl : k < s.data.toList.length := by rw [HL.out]; exact hlt
      have hkf : k < (Plain.foldTo s.data.toList k).length := by rw [Plain.foldTo_length]; exact hkl
      have hc : wr.cell? ⟨w.heap.size, k, none⟩ = some (.int .u8 (s.data.toList[k].toNat : Int)) := by
        have := hB.1 k hkf
        rw [Plain.foldTo_get _ k k hkl, if_neg (Nat.lt_irrefl _)] at this
        exact this
      have hf : wr.frozen? ⟨w.heap.size, k, none⟩ = false := hB.2 k hkf
      have hst := foldTo_step s.data.toList k hkl
      have hsm := foldTo_same s.data.toList k hkl
      have HB := Lib.hid hB
      have HST := Lib.hid hst
      have HSM := Lib.hid hsm
      clear hB hst hsm
      generalize s.data.toList[k] = c at *
      have hc1 : c.toNat < 256 := c.toNat_lt
      go_wp2
      · refine ⟨⟨k + 1, by omega, by go_num, ?_, hb.setCell (Nat.le_refl _) _⟩, by simp [intOf]; omega⟩
        rw [HST.out]
        have hu := Plain.foldB_up c (by omega) (by omega)
        have := HB.out.setCell k hkf (Plain.foldB c)
        rw [hu] at this
        rw [show ((c.toNat : Int) + 32) = ((c.toNat + 32 : Nat) : Int) by omega]
        exact this
      all_goals
        refine ⟨⟨k + 1, by omega, by go_num, ?_, hb⟩, by simp [intOf]; omega⟩
        rw [HSM.out (Plain.foldB_id c (by omega))]
        exact HB.out
    · have hback := run_convert_bytes_back (P := Tryd.prog) wr 45 9 5 ⟨w.heap.size, 0, none⟩ cap (Plain.foldTo s.data.toList k) Tryd.underlying45 Tryd.underlying5 Tryd.underlying9 (fun j hj => by
        rw [addr_add]; exact hB.1 j hj)
      rw [Plain.foldTo_length, HL.out, Plain.foldTo_all _ k (by rw [HL.out]; omega)] at hback
      clear hB
      go_wp2
      go_ret
      exact ⟨rfl, hb⟩
end Go.Proofs.YtgelgfgcdfnacaaDoor
