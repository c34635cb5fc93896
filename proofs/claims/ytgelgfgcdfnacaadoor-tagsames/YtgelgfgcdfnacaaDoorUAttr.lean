/-
  The walk of the reference's attr. Any text of at most 2^28 bytes.
-/
import Derived.Test.YtgelgfgcdfnacaaDoorUTag
import Derived.Deep.DeepCutAuto
import Derived.Deep.CutBlock
namespace Go.Proofs.YtgelgfgcdfnacaaDoor
open Go.RowKit

theorem slice_mid (s : ByteArray) (a b : Nat) (W : World) (h1 : a ≤ b) (h2 : b ≤ s.size) : (Instr.slice 9 (.string s) (some (.int .i64 (a : Int))) (some (.int .i64 (b : Int))) none).run Tryd.prog W = .ok (.string (s.extract a b)) W := by
  rw [run_slice_string W 9 s .i64 .i64 (a : Int) (b : Int) Tryd.underlying9 (by omega) (by omega) (by omega)]
  rfl
theorem mid_list (s : ByteArray) (a b : Nat) : (s.extract a b).data.toList = (s.data.toList.take b).drop a := by
  rw [Lib.extract_data, List.drop_take]
theorem old_cells {w w1 : World} (hb : Below w.heap.size w w1) : (∀ b o, b < w.heap.size → w1.cell? ⟨b, o, none⟩ = w.cell? ⟨b, o, none⟩) ∧ (∀ b o, b < w.heap.size → w1.frozen? ⟨b, o, none⟩ = w.frozen? ⟨b, o, none⟩) :=
  ⟨fun b o h => hb.cell (p := ⟨b, o, none⟩) h, fun b o h => hb.frozen (p := ⟨b, o, none⟩) h⟩

/-- What the world of attr holds: the result's block (w's next), the attribute's block B. -/
structure AttrW (w : World) (B : Nat) (N V : ByteArray) (W : World) : Prop where
  lt : w.heap.size < B ∧ B < W.heap.size
  r0 : W.cell? ⟨w.heap.size, 0, none⟩ = some (.string ⟨#[]⟩)
  r1 : W.cell? ⟨w.heap.size, 1, none⟩ = some (.string ⟨#[]⟩)
  fr0 : W.frozen? ⟨w.heap.size, 0, none⟩ = false
  fr1 : W.frozen? ⟨w.heap.size, 1, none⟩ = false
  c0 : W.cell? ⟨B, 0, none⟩ = some (.string N)
  c1 : W.cell? ⟨B, 1, none⟩ = some (.string V)
  fc1 : W.frozen? ⟨B, 1, none⟩ = false
  below : Below w.heap.size w W
theorem AttrW.on {w W W' : World} {B : Nat} {N V : ByteArray} (h : AttrW w B N V W) (hb : Below W.heap.size W W') : AttrW w B N V W' := by
  have h1 := h.lt
  exact ⟨⟨h1.1, Nat.lt_of_lt_of_le h1.2 hb.size⟩, (hb.cell (p := ⟨w.heap.size, 0, none⟩) (by simp; omega)).trans h.r0, (hb.cell (p := ⟨w.heap.size, 1, none⟩) (by simp; omega)).trans h.r1,
    (hb.frozen (p := ⟨w.heap.size, 0, none⟩) (by simp; omega)).trans h.fr0, (hb.frozen (p := ⟨w.heap.size, 1, none⟩) (by simp; omega)).trans h.fr1, (hb.cell (p := ⟨B, 0, none⟩) h1.2).trans h.c0,
    (hb.cell (p := ⟨B, 1, none⟩) h1.2).trans h.c1, (hb.frozen (p := ⟨B, 1, none⟩) h1.2).trans h.fc1, h.below.trans (hb.mono h.below.size)⟩
theorem AttrW.start (w w2 : World) (N V : ByteArray) (b2 : Below (w.alloc (.cells #[.string ⟨#[]⟩, .string ⟨#[]⟩] 49)).heap.size (w.alloc (.cells #[.string ⟨#[]⟩, .string ⟨#[]⟩] 49)) w2) : AttrW w w2.heap.size N V (w2.alloc (.cells #[.string N, .string V] 49)) := by
  have k0 : ∀ j, (w.alloc (.cells #[.string ⟨#[]⟩, .string ⟨#[]⟩] 49)).cell? ⟨w.heap.size, j, none⟩ = (#[.string ⟨#[]⟩, .string ⟨#[]⟩] : Array Value)[j]? := fun j => World.cell?_alloc_mark w _ 49 (0, 0) j
  have m0 : ∀ j, (w.alloc (.cells #[.string ⟨#[]⟩, .string ⟨#[]⟩] 49)).frozen? ⟨w.heap.size, j, none⟩ = false := fun j => by rw [World.frozen?_alloc_mark]; simp
  have k1 : ∀ j, (w2.alloc (.cells #[.string N, .string V] 49)).cell? ⟨w2.heap.size, j, none⟩ = (#[.string N, .string V] : Array Value)[j]? := fun j => World.cell?_alloc_mark w2 _ 49 (0, 0) j
  have m1 : ∀ j, (w2.alloc (.cells #[.string N, .string V] 49)).frozen? ⟨w2.heap.size, j, none⟩ = false := fun j => by rw [World.frozen?_alloc_mark]; simp
  have b3 : Below (w.alloc (.cells #[.string ⟨#[]⟩, .string ⟨#[]⟩] 49)).heap.size (w.alloc (.cells #[.string ⟨#[]⟩, .string ⟨#[]⟩] 49)) (w2.alloc (.cells #[.string N, .string V] 49)) := b2.alloc b2.size _
  have hz := b2.size
  simp only [World.size_alloc] at hz
  have hlt : w.heap.size < (w.alloc (.cells #[.string ⟨#[]⟩, .string ⟨#[]⟩] 49)).heap.size := by simp
  refine ⟨⟨by omega, by simp⟩, ?_, ?_, ?_, ?_, by rw [k1]; rfl, by rw [k1]; rfl, m1 1, ((Below.refl _ w).alloc (Nat.le_refl _) _).trans (b3.mono (by simp))⟩
  · rw [b3.cell (p := ⟨w.heap.size, 0, none⟩) hlt, k0]; rfl
  · rw [b3.cell (p := ⟨w.heap.size, 1, none⟩) hlt, k0]; rfl
  · rw [b3.frozen (p := ⟨w.heap.size, 0, none⟩) hlt]; exact m0 0
  · rw [b3.frozen (p := ⟨w.heap.size, 1, none⟩) hlt]; exact m0 1
theorem rest_none (s : ByteArray) (q : Nat) (h : s.size ≤ q ∨ (s.data.toList.getD q 0).toNat ≠ 61) : Plain.restAt s.data.toList q = ([], q) := by
  unfold Plain.restAt
  rw [len_of s, if_pos h]

theorem rest_value (s : ByteArray) (q : Nat) (h : q < s.size) (h61 : s[q].toNat = 61) : Plain.restAt s.data.toList q = Plain.valueAt s.data.toList (q + 1 + Plain.runP Plain.blankB (s.data.toList.drop (q + 1))) := by
  unfold Plain.restAt
  rw [len_of s, Plain.getD_get s q h, if_neg (by omega)]
theorem value_none (s : ByteArray) (q : Nat) (h : s.size ≤ q ∨ (s.data.toList.getD q 0).toNat = 62) : Plain.valueAt s.data.toList q = ([], q) := by
  unfold Plain.valueAt
  rw [len_of s, if_pos h]
theorem value_open (s : ByteArray) (q : Nat) (h : q < s.size) (hq : s[q].toNat = 34 ∨ s[q].toNat = 39) (hf : Plain.findB s[q] s.data.toList (q + 1) = none) : Plain.valueAt s.data.toList q = ([], s.size) := by
  unfold Plain.valueAt
  rw [len_of s, Plain.getD_get s q h, if_neg (by omega), if_pos hq, hf]
theorem value_quoted (s : ByteArray) (q : Nat) (h : q < s.size) (hq : s[q].toNat = 34 ∨ s[q].toNat = 39) (en : Nat) (hf : Plain.findB s[q] s.data.toList (q + 1) = some en) : Plain.valueAt s.data.toList q = (Plain.clear (Plain.expand ((s.data.toList.take en).drop (q + 1)) true), en + 1) := by
  unfold Plain.valueAt
  rw [len_of s, Plain.getD_get s q h, if_neg (by omega), if_pos hq, hf]
theorem value_bare (s : ByteArray) (q : Nat) (h : q < s.size) (h62 : s[q].toNat ≠ 62) (hq : ¬ (s[q].toNat = 34 ∨ s[q].toNat = 39)) : Plain.valueAt s.data.toList q = (Plain.clear (Plain.expand ((s.data.toList.drop q).take (Plain.runP Plain.inBare (s.data.toList.drop q))) true), q + Plain.runP Plain.inBare (s.data.toList.drop q)) := by
  unfold Plain.valueAt
  rw [len_of s, Plain.getD_get s q h, if_neg (by omega), if_neg hq]

/-- What attr tells. -/
def AttrOut (a : (List UInt8 × List UInt8) × Nat) (w : World) (e : Ending) (w' : World) : Prop := e = .returned (.tuple #[.agg #[.string ⟨a.1.1.toArray⟩, .string ⟨a.1.2.toArray⟩], .int .i64 (a.2 : Int)]) ∧ Below w.heap.size w w'

end Go.Proofs.YtgelgfgcdfnacaaDoor
