/-
  The walks of Lines: of the program and of the reference; of the reference's Index and Begins. Any text of at most 2^31 bytes.
-/
import Derived.Test.YtgelgfgcdfnacaaDoorWholes
import Derived.Test.YtgelgfgcdfnacaaDoorPlainAll
namespace Go.Proofs.YtgelgfgcdfnacaaDoor
open Go.RowKit

/-- The library's own number at the first cell (MaxLen) is there. -/
def HasMax (w : World) : Prop := ∃ m, w.cell? ⟨0, 0, none⟩ = some (.int .i64 m)
theorem HasMax.lt {w : World} (h : HasMax w) : 0 < w.heap.size := by
  obtain ⟨m, h⟩ := h
  rcases Nat.lt_or_ge 0 w.heap.size with h' | h'
  · exact h'
  · unfold World.cell? at h
    rw [Array.getElem?_eq_none h'] at h
    cases h
theorem HasMax.below {w w' : World} (h : HasMax w) (hb : Below w.heap.size w w') : HasMax w' := by
  have hl := h.lt
  obtain ⟨m, h⟩ := h
  exact ⟨m, (hb.cell (p := ⟨0, 0, none⟩) hl).trans h⟩

theorem replace_any (s : ByteArray) (old new : ByteArray) (w : World) (hm : HasMax w) (hs : s.size ≤ 2147483648) (ho : 1 ≤ old.size) (hn : new.size = 1) (hne : old.data.toList ≠ new.data.toList) :
    Calls Tryd.prog 70 #[.string s, .string old, .string new] w fun e w' => e = .returned (.string ⟨(Plain.rep old.data.toList new.data.toList s.data.toList).toArray⟩) ∧ Below w.heap.size w w' := by
  obtain ⟨m, hm⟩ := hm
  have hc := Lib.countB_le old ho s.size s (Nat.le_refl _)
  have := Tryd.strings_ReplaceAll s old new m w (by omega) hm ho (by rw [hn]; omega)
  rw [Plain.rep_all _ _ _ hne] at this
  exact this

theorem slice_one (s : ByteArray) (k : Nat) (W : World) (h : k < s.size) : (Instr.slice 9 (.string s) (some (.int .i64 (k : Int))) (some (.int .i64 ((k : Int) + 1))) none).run Tryd.prog W = .ok (.string ⟨[s[k]].toArray⟩) W := by
  rw [run_slice_string W 9 s .i64 .i64 k ((k : Int) + 1) Tryd.underlying9 (by omega) (by omega) (by omega)]
  have : s.extract (k : Int).toNat ((k : Int) + 1).toNat = ⟨[s[k]].toArray⟩ := by
    show s.extract k (k + 1) = _
    rw [ext_part, drop_cons s k h]
    rfl
  rw [this]
theorem head_at (s : ByteArray) (k : Nat) (h : k < s.size) : (s.data.toList.drop k).head? = some s[k] := by rw [drop_cons s k h]; rfl
theorem head_end (s : ByteArray) (k : Nat) (h : ¬ k < s.size) : (s.data.toList.drop k).head? = none := by
  rw [List.drop_eq_nil_of_le (by simp; omega)]
  rfl

end Go.Proofs.YtgelgfgcdfnacaaDoor
