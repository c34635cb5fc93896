/-
  The walks of what makes the reference's names: short, long, all. No argument.
-/
import Derived.Test.YtgelgfgcdfnacaaDoorTexts
import Derived.Test.YtgelgfgcdfnacaaDoorRNum
import Derived.Deep.RegionHeld3
import Derived.Deep.AppendLies
import Derived.Deep.DrawnRows
namespace Go.Proofs.YtgelgfgcdfnacaaDoor
open Go.RowKit
namespace Plain
def shortW : List (List UInt8) := [[97, 109, 112], [99, 111, 112, 121], [103, 116], [108, 116], [110, 98, 115, 112], [110, 111, 116], [112, 97, 114, 97], [113, 117, 111, 116], [114, 101, 103], [115, 104, 121], [115, 117, 112, 49], [115, 117, 112, 50], [116, 105, 109, 101, 115]]
def shortN : List Nat := [38, 169, 62, 60, 160, 172, 182, 34, 174, 173, 185, 178, 215]
def longW : List (List UInt8) := [[84, 97, 98], [78, 101, 119, 76, 105, 110, 101], [97, 112, 111, 115], [108, 112, 97, 114], [99, 111, 108, 111, 110], [112, 97, 114, 116], [110, 111, 116, 105, 110], [115, 117, 98], [115, 117, 112], [116, 105, 109, 101, 115, 98], [104, 101, 108, 108, 105, 112], [109, 100, 97, 115, 104], [110, 100, 97, 115, 104], [108, 115, 113, 117, 111], [114, 115, 113, 117, 111], [108, 100, 113, 117, 111], [114, 100, 113, 117, 111], [101, 117, 114, 111]]
def longN : List Nat := [9, 10, 39, 40, 58, 8706, 8713, 8834, 8835, 8864, 8230, 8212, 8211, 8216, 8217, 8220, 8221, 8364]
end Plain

/-- The slice v holds the numbers ns in w. -/
def NumsAt (w : World) (v : Value) (ns : List Nat) : Prop :=
  ∃ g, v = .slice (some ⟨g, 0, none⟩) ns.length ns.length ∧ g < w.heap.size ∧ ∀ j (hj : j < ns.length), w.cell? ⟨g, j, none⟩ = some (.int .i64 (ns[j] : Int))
theorem NumsAt.below {w w' : World} {v : Value} {ns : List Nat} (h : NumsAt w v ns) (hb : Below w.heap.size w w') : NumsAt w' v ns := by
  obtain ⟨g, rfl, hlt, hc⟩ := h
  exact ⟨g, rfl, Nat.lt_of_lt_of_le hlt hb.size, fun j hj => (hb.cell (p := ⟨g, j, none⟩) hlt).trans (hc j hj)⟩
theorem NumsAt.new (w : World) (ns : List Nat) (t : TypeId) : NumsAt (w.alloc (.cells (ns.map fun n : Nat => Value.int .i64 (n : Int)).toArray t)) (.slice (some ⟨w.heap.size, 0, none⟩) ns.length ns.length) ns := by
  refine ⟨w.heap.size, rfl, by simp, fun j hj => ?_⟩
  have e : (w.alloc (.cells (ns.map fun n : Nat => Value.int .i64 (n : Int)).toArray t)).cell? ⟨w.heap.size, j, none⟩ = (ns.map fun n : Nat => Value.int .i64 (n : Int)).toArray[j]? := World.cell?_alloc_mark w _ t (0, 0) j
  rw [e, List.getElem?_toArray, List.getElem?_map, List.getElem?_eq_getElem hj]
  rfl

/-- What short and long tell: names and numbers, in new memory. -/
def PairOut (ws : List (List UInt8)) (ns : List Nat) (w : World) (e : Ending) (w' : World) : Prop :=
  ∃ a n, e = .returned (.tuple #[a, n]) ∧ TextsAt w' a ws ∧ NumsAt w' n ns ∧ Below w.heap.size w w'

end Go.Proofs.YtgelgfgcdfnacaaDoor
