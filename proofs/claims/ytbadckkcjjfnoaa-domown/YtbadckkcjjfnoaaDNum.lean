/-
  The walks of the reference's number, Number. Any nodes, not too many.
-/
import Derived.Test.YtbadckkcjjfnoaaDText
namespace Go.Proofs.Ytbadckkcjjfnoaa
open Go.RowKit

/-- What number tells: nodes, and the next number. -/
def NumOut (P : Nat → Prop) (T : Fo × Int) (w : World) (e : Ending) (w' : World) : Prop := ∃ v, e = .returned (.tuple #[v, .int .i64 T.2]) ∧ NodesP (fun b => P b ∨ w.heap.size ≤ b) w' v T.1 ∧ Below w.heap.size w w'

theorem number_app (d : Nd) (k r : Fo) (n : Int) (f0 : Fo) : f0.app ((Fo.cons d k r).number n).1 = (f0.app (.cons (Fo.numD d n) (k.number (Fo.numN d n)).1 .nil)).app (r.number (k.number (Fo.numN d n)).2).1 := by
  rw [Fo.app_assoc]
  rfl

/-- What Number tells. -/
def NodesOut (P : Nat → Prop) (f : Fo) (w : World) (e : Ending) (w' : World) : Prop := ∃ v, e = .returned v ∧ NodesP (fun b => P b ∨ w.heap.size ≤ b) w' v f ∧ Below w.heap.size w w'
end Go.Proofs.Ytbadckkcjjfnoaa
