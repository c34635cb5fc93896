/-
  The walk of the reference's One. Two tokens of the same parts, whose rows hold the same attributes.
-/
import Derived.Test.YtgelgfgcdfnacaaDoorUFind
namespace Go.Proofs.YtgelgfgcdfnacaaDoor
open Go.RowKit

set_option maxHeartbeats 1000000 in
set_option maxRecDepth 100000 in
theorem rone_any (k : Int) (n t : ByteArray) (b : Bool) (x y : Value) (rs : List (List UInt8 × List UInt8)) (w : World) (ha : AttrsAt w x rs) (hb : AttrsAt w y rs) (hN : rs.length ≤ 4294967296) : Calls Tryd.prog 39 #[.agg #[.int .i64 k, .string n, x, .bool b, .string t], .agg #[.int .i64 k, .string n, y, .bool b, .string t]] w fun e w' => e = .returned (.bool true) ∧ Below w.heap.size w w' := by
  have HA := Lib.hid ha
  have HB := Lib.hid hb
  clear ha hb
  go_enter Tryd.func39, Tryd.ntmps39
  go_wp2_with fail
  have B1 : Below w.heap.size w (w.alloc (.cells #[.int .i64 k, .string n, x, .bool b, .string t] 27)) := (Below.refl _ w).alloc (Nat.le_refl _) _
  have B2 : Below w.heap.size w ((w.alloc (.cells #[.int .i64 k, .string n, x, .bool b, .string t] 27)).alloc (.cells #[.int .i64 k, .string n, y, .bool b, .string t] 27)) := B1.alloc B1.size _
  have HB2 := Lib.hid B2
  clear B1 B2
  refine (ralike_any x y rs _ (HA.out.below HB2.out) (HB.out.below HB2.out) hN).mono ?_
  rintro e w' ⟨rfl, q, rfl⟩
  go_wp2_with fail
  go_ret
  exact ⟨rfl, HB2.out.trans ⟨rfl, rfl, rfl, Nat.le_refl _, fun _ _ => rfl⟩⟩
end Go.Proofs.YtgelgfgcdfnacaaDoor
