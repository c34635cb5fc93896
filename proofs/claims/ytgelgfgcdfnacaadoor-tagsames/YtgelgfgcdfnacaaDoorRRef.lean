/-
  The walks of the reference's Begins, Ref, Expand. Any text of at most 2^32 bytes.
-/
import Derived.Test.YtgelgfgcdfnacaaDoorRAll
import Derived.Test.YtgelgfgcdfnacaaDoorRDig
import Derived.Test.YtgelgfgcdfnacaaDoorWholes
namespace Go.Proofs.YtgelgfgcdfnacaaDoor
open Go.RowKit

theorem pre_at (s p : ByteArray) : ((s.extract 0 p.size).toList == p.toList) = Lib.hasPrefix s.data.toList p.data.toList := by
  rw [Lib.toList_data, Lib.toList_data, Lib.extract_data]
  unfold Lib.hasPrefix
  simp only [List.drop_zero, Nat.sub_zero]
  rw [Bool.eq_iff_iff, beq_iff_eq, List.isPrefixOf_iff_prefix, List.prefix_iff_eq_take]
  have : p.data.toList.length = p.size := by simp
  rw [this]
  exact eq_comm
theorem pre_short (s p : ByteArray) (h : ¬ p.size ≤ s.size) : Lib.hasPrefix s.data.toList p.data.toList = false := by
  cases hh : Lib.hasPrefix s.data.toList p.data.toList
  · rfl
  · unfold Lib.hasPrefix at hh
    rw [List.isPrefixOf_iff_prefix] at hh
    have := hh.length_le
    simp at this
    omega

set_option maxHeartbeats 1000000 in
set_option maxRecDepth 100000 in
theorem begins_any (s p : ByteArray) (w : World) (b : Bool) (hb : Lib.hasPrefix s.data.toList p.data.toList = b) : Calls Tryd.prog 18 #[.string s, .string p] w (Gives (.bool b) w) := by
  by_cases h3 : p.size ≤ s.size
  · have hq := pre_at s p
    rw [hb] at hq
    clear hb
    cases b
    · go_enter Tryd.func18, Tryd.ntmps18
      go_wp2
      go_ret
      exact ⟨rfl, rfl⟩
    · go_enter Tryd.func18, Tryd.ntmps18
      go_wp2
      go_ret
      exact ⟨rfl, rfl⟩
  · obtain rfl : b = false := by rw [← hb]; exact pre_short s p h3
    clear hb
    go_enter Tryd.func18, Tryd.ntmps18
    go_wp2
    go_ret
    exact ⟨rfl, rfl⟩

namespace Plain
/-- The j-th name, and what it stands for. -/
def nm (j : Nat) : List UInt8 := (names.getD j ([], [])).1
def vl (j : Nat) : List UInt8 := (names.getD j ([], [])).2
theorem nm_mem (j : Nat) (h : j < 46) : (nm j, vl j) ∈ names := by
  unfold nm vl
  rw [List.getD_eq_getElem?_getD, List.getElem?_eq_getElem (show j < names.length from h)]
  exact List.getElem_mem _
theorem mem_nm (x : List UInt8 × List UInt8) (h : x ∈ names) : ∃ j, j < 46 ∧ x = (nm j, vl j) := by
  obtain ⟨j, hj, e⟩ := List.getElem_of_mem h
  refine ⟨j, hj, ?_⟩
  unfold nm vl
  rw [List.getD_eq_getElem?_getD, List.getElem?_eq_getElem hj]
  exact e.symm
/-- What the loop over the names keeps: which of the first k names is the longest with which t begins. -/
def BestAt (t : List UInt8) (k : Nat) (b : Int) : Prop :=
  (b = -1 ∧ ∀ i, i < k → ¬ nm i <+: t) ∨ ∃ j : Nat, b = (j : Int) ∧ j < k ∧ nm j <+: t ∧ ∀ i, i < k → nm i <+: t → (nm i).length ≤ (nm j).length
theorem BestAt.start (t : List UInt8) : BestAt t 0 (-1) := Or.inl ⟨rfl, fun i h => absurd h (by omega)⟩
theorem BestAt.no {t : List UInt8} {k : Nat} {b : Int} (h : BestAt t k b) (hp : ¬ nm k <+: t) : BestAt t (k + 1) b := by
  rcases h with ⟨h1, h2⟩ | ⟨j, h1, h2, h3, h4⟩
  · refine Or.inl ⟨h1, fun i hi => ?_⟩
    by_cases e : i = k
    · rw [e]; exact hp
    · exact h2 i (by omega)
  · refine Or.inr ⟨j, h1, by omega, h3, fun i hi hq => ?_⟩
    by_cases e : i = k
    · rw [e] at hq; exact absurd hq hp
    · exact h4 i (by omega) hq
theorem BestAt.first {t : List UInt8} {k : Nat} (h : BestAt t k (-1)) (hp : nm k <+: t) : BestAt t (k + 1) (k : Int) := by
  rcases h with ⟨_, h2⟩ | ⟨j, h1, _⟩
  · refine Or.inr ⟨k, rfl, by omega, hp, fun i hi hq => ?_⟩
    by_cases e : i = k
    · rw [e]; exact Nat.le_refl _
    · exact absurd hq (h2 i (by omega))
  · omega
theorem BestAt.more {t : List UInt8} {k j : Nat} (h : BestAt t k (j : Int)) (hp : nm k <+: t) (hl : (nm j).length < (nm k).length) : BestAt t (k + 1) (k : Int) := by
  rcases h with ⟨h1, _⟩ | ⟨j', h1, h2, h3, h4⟩
  · omega
  · obtain rfl : j = j' := by omega
    refine Or.inr ⟨k, rfl, by omega, hp, fun i hi hq => ?_⟩
    by_cases e : i = k
    · rw [e]; exact Nat.le_refl _
    · have := h4 i (by omega) hq
      omega
theorem BestAt.less {t : List UInt8} {k j : Nat} (h : BestAt t k (j : Int)) (hl : ¬ (nm j).length < (nm k).length) : BestAt t (k + 1) (j : Int) := by
  rcases h with ⟨h1, _⟩ | ⟨j', h1, h2, h3, h4⟩
  · omega
  · obtain rfl : j = j' := by omega
    refine Or.inr ⟨j, rfl, by omega, h3, fun i hi hq => ?_⟩
    by_cases e : i = k
    · rw [e]; omega
    · exact h4 i (by omega) hq
theorem BestAt.none {t : List UInt8} (h : BestAt t 46 (-1)) : best t = none := by
  rcases h with ⟨_, h2⟩ | ⟨j, h1, _⟩
  · refine best_none t fun x hx hp => ?_
    obtain ⟨j, hj, rfl⟩ := mem_nm x hx
    exact h2 j hj hp
  · omega
theorem BestAt.some {t : List UInt8} {j : Nat} (h : BestAt t 46 (j : Int)) : j < 46 ∧ nm j <+: t ∧ best t = some (vl j, (nm j).length) := by
  rcases h with ⟨h1, _⟩ | ⟨j', h1, h2, h3, h4⟩
  · omega
  · obtain rfl : j = j' := by omega
    refine ⟨h2, h3, best_of t (nm j, vl j) (nm_mem j h2) h3 fun y hy hp => ?_⟩
    obtain ⟨i, hi, rfl⟩ := mem_nm y hy
    exact h4 i hi hp
theorem nm_len (j : Nat) (h : j < 46) : 1 ≤ (nm j).length ∧ (nm j).length ≤ 8 := ⟨(names_ok _ (nm_mem j h)).1, (names_ok _ (nm_mem j h)).2.1⟩
theorem nm_at (j : Nat) (h : j < (names.map (·.1)).length) : (names.map (·.1))[j] = nm j := by
  unfold nm
  rw [List.getElem_map, List.getD_eq_getElem?_getD, List.getElem?_eq_getElem (by simpa using h)]
  rfl
theorem vl_at (j : Nat) (h : j < (names.map (·.2)).length) : (names.map (·.2))[j] = vl j := by
  unfold vl
  rw [List.getElem_map, List.getD_eq_getElem?_getD, List.getElem?_eq_getElem (by simpa using h)]
  rfl
end Plain

/-- A slice that holds texts, by their places. -/
def TextsBy (w : World) (v : Value) (n : Nat) (f : Nat → List UInt8) : Prop := ∃ g cap, v = .slice (some ⟨g, 0, none⟩) n cap ∧ g < w.heap.size ∧ ∀ j, j < n → w.cell? ⟨g, j, none⟩ = some (.string ⟨(f j).toArray⟩)
theorem TextsAt.by_ {w : World} {v : Value} {ws : List (List UInt8)} (h : TextsAt w v ws) (n : Nat) (hn : ws.length = n) (h0 : 0 < n) (f : Nat → List UInt8) (hf : ∀ j (hj : j < ws.length), ws[j] = f j) : TextsBy w v n f := by
  subst hn
  rcases h with ⟨_, rfl⟩ | ⟨g, cap, rfl, hlt, _, hc⟩
  · simp at h0
  · refine ⟨g, cap, rfl, hlt, fun j hj => ?_⟩
    rw [hc j hj, hf j hj]
    rfl

/-- What all tells, by places. -/
def AllBy (w : World) (e : Ending) (w' : World) : Prop :=
  ∃ l v, e = .returned (.tuple #[l, v]) ∧ TextsBy w' l 46 Plain.nm ∧ TextsBy w' v 46 Plain.vl ∧ Below w.heap.size w w'
end Go.Proofs.YtgelgfgcdfnacaaDoor
