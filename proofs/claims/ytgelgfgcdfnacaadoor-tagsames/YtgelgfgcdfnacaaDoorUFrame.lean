/-
  What every row of this seat shares: the library's MaxLen in a shaped world; the program's table of early numbers out of what a row lists; a slice of numbers that came in; a world for the witness that holds the three listed tables.
-/
import Derived.Test.YtgelgfgcdfnacaaDoorCards
import Derived.Test.YtgelgfgcdfnacaaDoorTie
import Derived.Test.YtgelgfgcdfnacaaDoorUTok
import Derived.ProofKit
import Derived.OpenShut
import Derived.ShutString
import Derived.ChangeOld
import Derived.Deep.DeepHandedRow
import Derived.Lib.LaidTab
import Derived.SevenTiedAt
import Derived.Shelf.Vars
namespace Go.Proofs.YtgelgfgcdfnacaaDoor
open Go.ChangeShapes Go.WideShapes Go.ChangeAt Go.RowKit

theorem own : ownKnob Tryd.prog.godebug = none := by kernel_rfl
theorem laidOut : laidOutB Tryd.prog = true := by kernel_rfl

/-- The cells of the tables. -/
def firstCells : Array Value := (Go.Pinned.utf8FirstZ.map fun n : Nat => Value.int .u8 (n : Int)).toArray
def rangeCells : Array Value := #[.int .u8 128, .int .u8 191, .int .u8 160, .int .u8 191, .int .u8 128, .int .u8 159, .int .u8 144, .int .u8 191, .int .u8 128, .int .u8 143, .int .u8 0, .int .u8 0, .int .u8 0, .int .u8 0, .int .u8 0, .int .u8 0, .int .u8 0, .int .u8 0, .int .u8 0, .int .u8 0, .int .u8 0, .int .u8 0, .int .u8 0, .int .u8 0, .int .u8 0, .int .u8 0, .int .u8 0, .int .u8 0, .int .u8 0, .int .u8 0, .int .u8 0, .int .u8 0]

def earlyVar : Array Value := (Plain.early.map fun n : Nat => Value.int .i32 (n : Int)).toArray
def withCells (c : Array Value) : Obj → Obj
  | .cells _ t frozen => .cells c t frozen
  | o => o

/-- A world for a witness: the settled one, the tables holding what their initialisers lay. -/
noncomputable def laidWorld (os : Os) : World :=
  { World.holding Tryd.prog os ⟨#[], #[], []⟩ with heap := (((World.holding Tryd.prog os ⟨#[], #[], []⟩).heap.modify 2 (withCells firstCells)).modify 3 (withCells rangeCells)).modify 1 (withCells earlyVar) }
theorem has_max {w : World} (h : w.ShapedOpen Tryd.prog) : HasMax w :=
  Go.Proofs.cell_of_shapedOpen_int (zero := #[.int .i64 0]) (t := 3) h (of_decide_eq_true (by kernel_rfl)) (by kernel_rfl) rfl (by kernel_rfl) (by kernel_rfl) Tryd.underlying3
theorem laidMet_rest {P : Program} {x : String × DataW Unit} {r : List (String × DataW Unit)} {W : World} (h : laidMet P (x :: r) W) : laidMet P r W := by
  obtain ⟨ps, ⟨g, t, cs, fuel, p, q, _, _, _, _, hq, rfl⟩, hn, hm⟩ := h
  exact ⟨q, hq, (List.nodup_append.1 hn).2.1, fun b off hb => hm b off (List.mem_append_right _ hb)⟩
theorem early_laid {W : World} (h : laidMetH Tryd.prog [("unicode/utf8.acceptRanges", Rows.laid_unicode_utf8_acceptRanges), ("anagnost/refs.early", Rows.laid_anagnost_refs_early), ("unicode/utf8.first", Rows.laid_unicode_utf8_first)] W) : HasEarly W := by
  have h0 : laidMet Tryd.prog [("unicode/utf8.acceptRanges", Rows.laid_unicode_utf8_acceptRanges), ("anagnost/refs.early", Rows.laid_anagnost_refs_early), ("unicode/utf8.first", Rows.laid_unicode_utf8_first)] W := h
  have h1 : laidMet Tryd.prog (("anagnost/refs.early", Lib.tabData .i32 (Plain.early.map fun n : Nat => (n : Int))) :: [("unicode/utf8.first", Rows.laid_unicode_utf8_first)]) W := laidMet_rest h0
  have h2 := Lib.tabIs_of_head (g := 1) (t := 103) (e := 21) (n := 32) (by kernel_rfl) (by kernel_rfl) Tryd.underlying103 Tryd.underlying21 (by kernel_rfl) (by kernel_rfl) h1
  intro j hj
  have hl : Plain.early.length = 32 := rfl
  rw [h2.cell (g := 1) (by kernel_rfl) j (by rw [List.length_map]; omega)]
  congr 2
  rw [List.getD_eq_getElem?_getD, List.getD_eq_getElem?_getD, List.getElem?_map, List.getElem?_eq_getElem (by omega)]
  rfl

/-- A slice of numbers that came in. -/
theorem ints_open {H : Type} {enc : TypeId × Value → H} {W : World} {base : Nat} {spare : Nat → Bool} {held : Bool} {a : Option Addr} {len cap : Nat} {d : DataW H} {ps : List MemPlace}
    (h : DataW.Trod enc Tryd.prog W base spare held 22 (.slice a len cap) d ps) : IntsIn W (.slice a len cap) len := by
  obtain ⟨fuel, hf⟩ := h
  rcases open_ints Tryd.underlying22 Tryd.underlying3 (by kernel_rfl) hf with ⟨hcs, _⟩ | ⟨x, l, c, zs, hcs, _, hl, hm, hz, _, hcell, hwz⟩
  · simp [Value.cells] at hcs
    obtain ⟨rfl, rfl, rfl⟩ := hcs
    exact .inl ⟨_, _, rfl, rfl⟩
  · simp [Value.cells] at hcs
    obtain ⟨rfl, rfl, rfl⟩ := hcs
    have hzl : len ≤ zs.length := by rw [hz]; split <;> omega
    rcases Nat.eq_zero_or_pos len with h0 | h0
    · subst h0
      exact .inl ⟨_, _, rfl, rfl⟩
    · obtain ⟨g, off, rfl, hc⟩ := ints_at hcell (by omega)
      refine .inr ⟨g, off, cap, rfl, ?_, by omega, fun j hj => ?_⟩
      · have := hc 0 (by omega)
        rcases Nat.lt_or_ge g W.heap.size with h' | h'
        · exact h'
        · unfold World.cell? at this
          rw [Array.getElem?_eq_none h'] at this
          cases this
      · have hwf := bounds_i64 (hwz (zs.getD j 0) (by
          rw [List.getD_eq_getElem?_getD, List.getElem?_eq_getElem (by omega)]
          exact List.getElem_mem _))
        exact ⟨zs.getD j 0, hc j (by omega), hwf.1, hwf.2⟩
end Go.Proofs.YtgelgfgcdfnacaaDoor
