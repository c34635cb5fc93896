/-
  What every row of this seat shares: the library's MaxLen in a shaped world; a world for the witness that holds the two listed tables.
-/
import Derived.Test.YtnikehhcfbeiaaaDoorCards
import Derived.Test.YtnikehhcfbeiaaaDoorTie
import Derived.Test.YtnikehhcfbeiaaaDoorKnown
import Derived.ProofKit
import Derived.OpenShut
import Derived.ShutString
import Derived.ChangeOld
import Derived.Deep.DeepHandedRow
import Derived.Lib.LaidTab
import Derived.SevenTiedAt
import Derived.Shelf.Vars
namespace Go.Proofs.YtnikehhcfbeiaaaDoor
open Go.ChangeShapes Go.WideShapes Go.ChangeAt Go.RowKit

theorem own : ownKnob Tryd.prog.godebug = none := by kernel_rfl
theorem laidOut : laidOutB Tryd.prog = true := by kernel_rfl

/-- The cells of the two tables. -/
def firstCells : Array Value := (Go.Pinned.utf8FirstZ.map fun n : Nat => Value.int .u8 (n : Int)).toArray
def rangeCells : Array Value := #[.int .u8 128, .int .u8 191, .int .u8 160, .int .u8 191, .int .u8 128, .int .u8 159, .int .u8 144, .int .u8 191, .int .u8 128, .int .u8 143, .int .u8 0, .int .u8 0, .int .u8 0, .int .u8 0, .int .u8 0, .int .u8 0, .int .u8 0, .int .u8 0, .int .u8 0, .int .u8 0, .int .u8 0, .int .u8 0, .int .u8 0, .int .u8 0, .int .u8 0, .int .u8 0, .int .u8 0, .int .u8 0, .int .u8 0, .int .u8 0, .int .u8 0, .int .u8 0]

def withCells (c : Array Value) : Obj → Obj
  | .cells _ t frozen => .cells c t frozen
  | o => o

/-- A world for a witness: the settled one, the tables (blocks 1 and 2) holding what their initialisers lay. -/
noncomputable def laidWorld (os : Os) : World :=
  { World.holding Tryd.prog os ⟨#[], #[], []⟩ with heap := ((World.holding Tryd.prog os ⟨#[], #[], []⟩).heap.modify 1 (withCells firstCells)).modify 2 (withCells rangeCells) }
theorem has_max {w : World} (h : w.ShapedOpen Tryd.prog) : HasMax w :=
  Go.Proofs.cell_of_shapedOpen_int (zero := #[.int .i64 0]) (t := 3) h (of_decide_eq_true (by kernel_rfl)) (by kernel_rfl) rfl (by kernel_rfl) (by kernel_rfl) Tryd.underlying3

/-- A slice of bytes that came in, as the bytes of a text. -/
theorem bytes_open {H : Type} {enc : TypeId × Value → H} {W : World} {base : Nat} {spare : Nat → Bool} {held : Bool} {a : Option Addr} {len cap : Nat} {d : DataW H} {ps : List MemPlace}
    (h : DataW.Trod enc Tryd.prog W base spare held 22 (.slice a len cap) d ps) : ∃ s, BytesIn W (.slice a len cap) s ∧ s.size ≤ maxLen := by
  obtain ⟨fuel, hf⟩ := h
  rcases open_ints Tryd.underlying22 Tryd.underlying5 (by kernel_rfl) hf with ⟨hcs, _⟩ | ⟨x, l, c, zs, hcs, _, hl, hm, hz, _, hcell, hwz⟩
  · simp [Value.cells] at hcs
    obtain ⟨rfl, rfl, rfl⟩ := hcs
    exact ⟨ByteArray.empty, .inl ⟨_, _, rfl, rfl⟩, Nat.zero_le _⟩
  · simp [Value.cells] at hcs
    obtain ⟨rfl, rfl, rfl⟩ := hcs
    have hzl : len ≤ zs.length := by rw [hz]; split <;> omega
    rcases Nat.eq_zero_or_pos len with h0 | h0
    · subst h0
      exact ⟨ByteArray.empty, .inl ⟨_, _, rfl, rfl⟩, Nat.zero_le _⟩
    · obtain ⟨g, off, rfl, hc⟩ := ints_at hcell (by omega)
      have hs : (strOfNums (zs.take len)).size = len := by rw [strOfNums_size, List.length_take]; omega
      refine ⟨strOfNums (zs.take len), .inr ⟨g, off, cap, by rw [hs], ?_, fun j hj => ?_⟩, by rw [hs]; omega⟩
      · have := hc 0 (by omega)
        rcases Nat.lt_or_ge g W.heap.size with h' | h'
        · exact h'
        · unfold World.cell? at this
          rw [Array.getElem?_eq_none h'] at this
          cases this
      · have hj' : j < len := by rw [hs] at hj; exact hj
        rw [hc j (by omega)]
        have hwf := bounds_u8 (hwz (zs.getD j 0) (by
          rw [List.getD_eq_getElem?_getD, List.getElem?_eq_getElem (by omega)]
          exact List.getElem_mem _))
        have e : ((strOfNums (zs.take len))[j]'hj).toNat = (zs.getD j 0).toNat := by
          have hl2 := strOfNums_data (zs.take len)
          have : (strOfNums (zs.take len))[j]'hj = (strOfNums (zs.take len)).data.toList[j]'(by simpa using hj) := rfl
          rw [this]
          simp only [hl2, List.getElem_map, List.getElem_take]
          rw [UInt8.toNat_ofNat']
          rw [List.getD_eq_getElem?_getD, List.getElem?_eq_getElem (by omega)] at hwf ⊢
          simp only [Option.getD_some] at hwf ⊢
          omega
        rw [e]
        congr 2
        omega
end Go.Proofs.YtnikehhcfbeiaaaDoor
