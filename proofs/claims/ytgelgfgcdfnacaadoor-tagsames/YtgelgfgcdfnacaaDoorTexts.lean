/-
  The walks of Plain, Trim, Same: of the program and of the reference. Any text of at most 2^32 bytes.
-/
import Derived.Test.YtgelgfgcdfnacaaDoorWords
import Derived.Deep.QuietTactic
import Derived.BigQuiet
namespace Go.Proofs.YtgelgfgcdfnacaaDoor
open Go.RowKit

/-- The slice v holds the texts ws in w. -/
def TextsAt (w : World) (v : Value) (ws : List (List UInt8)) : Prop :=
  (v = .slice none 0 0 ∧ ws = []) ∨
  ∃ g cap, v = .slice (some ⟨g, 0, none⟩) ws.length cap ∧ g < w.heap.size ∧ ws.length ≤ cap ∧ ∀ j (hj : j < ws.length), w.cell? ⟨g, j, none⟩ = some (strV ws[j])

theorem TextsAt.of_row {w : World} {base : Nat} {v : Value} {ws : List (List UInt8)} (h : w.ownsRow base 9 1 v ws.length (ws.map strV)) : TextsAt w v ws := by
  rcases h.2 with ⟨e0, h0⟩ | ⟨g, cap, cur, rfl, hb, hg, hn, hm, hs, ht⟩
  · exact Or.inl ⟨e0, List.eq_nil_of_length_eq_zero h0⟩
  · have hlt : g < w.heap.size := by
      rcases Nat.lt_or_ge g w.heap.size with h' | h'
      · exact h'
      · rw [Array.getElem?_eq_none h'] at hg; cases hg
    refine Or.inr ⟨g, cap, rfl, hlt, hn, fun j hj => ?_⟩
    have e1 : (cur.toList.take (ws.length * 1))[j]? = (ws.map strV)[j]? := by rw [ht]
    rw [List.getElem?_take, if_pos (by omega), Array.getElem?_toList, List.getElem?_map, List.getElem?_eq_getElem hj] at e1
    simp only [World.cell?, hg]
    simp only [Option.isSome_none, Bool.false_eq_true, if_false]
    rw [e1]
    rfl
theorem TextsAt.below {w w' : World} {v : Value} {ws : List (List UInt8)} (h : TextsAt w v ws) (hb : Below w.heap.size w w') : TextsAt w' v ws := by
  rcases h with h | ⟨g, cap, rfl, hlt, hn, hc⟩
  · exact Or.inl h
  · exact Or.inr ⟨g, cap, rfl, Nat.lt_of_lt_of_le hlt hb.size, hn, fun j hj => (hb.cell (p := ⟨g, j, none⟩) hlt).trans (hc j hj)⟩

/-- What Words tells: a row that holds the words; nothing old is changed. -/
def WordsTold (w : World) (ws : List (List UInt8)) (e : Ending) (w' : World) : Prop := ∃ v, e = .returned v ∧ TextsAt w' v ws ∧ Below w.heap.size w w'
theorem rwords_told (s : ByteArray) (w : World) (hs : s.size ≤ 4294967296) : Calls Tryd.prog 21 #[.string s] w (WordsTold w (Plain.words s.data.toList)) :=
  (rwords_any s w hs).mono fun _ _ ⟨v, he, hr, hb⟩ => ⟨v, he, TextsAt.of_row hr, hb⟩

theorem TextsAt.slice {w : World} {v : Value} {ws : List (List UInt8)} (h : TextsAt w v ws) :
    ∃ p cap, v = .slice p ws.length cap ∧ ws.length ≤ cap ∧ ∀ j (hj : j < ws.length), ∃ g, p = some ⟨g, 0, none⟩ ∧ g < w.heap.size ∧ w.cell? ⟨g, j, none⟩ = some (.string ⟨ws[j].toArray⟩) := by
  rcases h with ⟨rfl, rfl⟩ | ⟨g, cap, rfl, hlt, hn, hc⟩
  · exact ⟨none, 0, rfl, Nat.le_refl _, fun j hj => absurd hj (by simp)⟩
  · exact ⟨_, cap, rfl, hn, fun j hj => ⟨g, rfl, hlt, hc j hj⟩⟩

theorem str_append (a b : List UInt8) : (⟨a.toArray⟩ : ByteArray) ++ ⟨b.toArray⟩ = ⟨(a ++ b).toArray⟩ := by
  apply ByteArray.ext
  simp [ByteArray.data_append]

theorem list_get (s : ByteArray) (k : Nat) (h : k < s.size) : s.data.toList[k]'(by simpa using h) = s[k] := rfl

theorem drop_one (t : ByteArray) (h : 0 < t.size) : t.data.toList = t[0] :: (t.extract 1 t.size).data.toList := by
  rw [Lib.extract_data]
  have hl : t.data.toList.length = t.size := by simp
  rw [List.take_of_length_le (by simp)]
  have := List.drop_eq_getElem_cons (l := t.data.toList) (i := 0) (by omega)
  rw [List.drop_zero] at this
  exact this
theorem drop_last (t : ByteArray) (h : 0 < t.size) (h' : t.size - 1 < t.size) : t.data.toList = (t.extract 0 (t.size - 1)).data.toList ++ [t[t.size - 1]] := by
  rw [Lib.extract_data]
  have hl : t.data.toList.length = t.size := by simp
  have := List.take_succ_eq_append_getElem (l := t.data.toList) (i := t.size - 1) (by omega)
  rw [show t.size - 1 + 1 = t.size by omega, List.take_of_length_le (by omega)] at this
  simp only [List.drop_zero, Nat.sub_zero]
  exact this
theorem trim_first (t : ByteArray) (h : 0 < t.size) (hb : Plain.blankB t[0] = true) : Plain.trim (t.extract 1 t.size).data.toList = Plain.trim t.data.toList := by
  conv => rhs; rw [drop_one t h]
  rw [Plain.trim_cons _ _ hb]
theorem front_of (t : ByteArray) (h : 0 < t.size) (hb : Plain.blankB t[0] = false) : Plain.Front t.data.toList := Or.inr ⟨_, _, drop_one t h, hb⟩
theorem front_empty (t : ByteArray) (h : ¬ 0 < t.size) : Plain.Front t.data.toList := Or.inl (List.eq_nil_of_length_eq_zero (by rw [show t.data.toList.length = t.size by simp]; omega))
theorem trim_last (t : ByteArray) (h : 0 < t.size) (hf : Plain.Front t.data.toList) (hb : Plain.blankB (t[t.size - 1]'(by omega)) = true) : Plain.Front (t.extract 0 (t.size - 1)).data.toList ∧ Plain.trim (t.extract 0 (t.size - 1)).data.toList = Plain.trim t.data.toList := by
  have e := drop_last t h (by omega)
  rw [e] at hf
  have := Plain.trim_snoc _ _ hf hb
  exact ⟨this.1, by rw [← this.2, ← e]⟩
theorem trim_stays (t : ByteArray) (h : 0 < t.size) (hf : Plain.Front t.data.toList) (hb : Plain.blankB (t[t.size - 1]'(by omega)) = false) : Plain.trim t.data.toList = t.data.toList := by
  have e := drop_last t h (by omega)
  rw [e] at hf ⊢
  exact Plain.trim_same _ _ hf hb
theorem trim_empty (t : ByteArray) (h : ¬ 0 < t.size) : (⟨(Plain.trim t.data.toList).toArray⟩ : ByteArray) = t := by
  have : t.data.toList = [] := List.eq_nil_of_length_eq_zero (by rw [show t.data.toList.length = t.size by simp]; omega)
  rw [this]
  apply ByteArray.ext
  apply Array.toList_inj.1
  rw [this]
  rfl

end Go.Proofs.YtgelgfgcdfnacaaDoor
