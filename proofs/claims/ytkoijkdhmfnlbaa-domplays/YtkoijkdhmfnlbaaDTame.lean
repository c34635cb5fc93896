/-
  The walk of the law's own tame: numbers near the nodes that there are.
-/
import Derived.Test.YtkoijkdhmfnlbaaDDo2
import Derived.Test.YtkoijkdhmfnlbaaRfA
namespace Go.Proofs.Ytkoijkdhmfnlbaa
open Go.RowKit

set_option maxHeartbeats 4000000 in
set_option maxRecDepth 100000 in
theorem tame_reg1 {w : World} {T R n : Nat} {z0 z1 z2 z3 : Int} {TX : ByteArray} {Q : Exit → Act → World → Prop} {u0 u3 u5 u6 u7 u8 u9 u10 u11 u12 u13 u14 u15 u16 u17 u18 u19 u20 u21 u22 u23 u24 u25 u26 u27 u28 u29 : Value} (x : w.heap[T]? = some (.cells #[.int .i64 z0, .int .i64 z1, .int .i64 z2, .int .i64 z3, .string TX] 29 (0, 0))) (h1 : Int64 z1) (h2 : Int64 z2) (hn : n ≤ 100000)
    (hQ : ∀ (y1 y2 : Int) (y5 y6 y7 y8 y9 y10 y11 y12 y13 y14 y15 y16 y17 : Value), Int64 y1 → Int64 y2 → Q .normal { tmps := #[u0, .int .i64 (n : Int), .pointer (some ⟨T, 0, none⟩), u3, .pointer (some ⟨R, 0, none⟩), y5, y6, y7, y8, y9, y10, y11, y12, y13, y14, y15, y16, y17, u18, u19, u20, u21, u22, u23, u24, u25, u26, u27, u28, u29], defers := [] } ((w.drew.setCell ⟨T, 1, none⟩ (.int .i64 y1)).setCell ⟨T, 2, none⟩ (.int .i64 y2))) :
    (Code.region 1 #[{ dst := some 5, op := Op.fieldAddr 29 (Operand.tmp 2) 1, type := 0, pos := "law.go:95", after := #[], guard := none }, { dst := some 6, op := Op.load 3 (Operand.tmp 5), type := 3, pos := "law.go:95", after := #[{ on := 0, ground := Ground.data }], guard := none }, { dst := some 7, op := Op.move (Operand.tmp 1), type := 3, pos := "law.go:95", after := #[], guard := none }, { dst := some 8, op := Op.binOp BinOp.add 3 (Operand.tmp 7) (Operand.const (Value.int IntKind.i64 1)) 3, type := 3, pos := "law.go:95", after := #[{ on := 2, ground := Ground.data }], guard := none }, { dst := some 9, op := Op.call { callee := Callee.value (Operand.func 15), args := #[Operand.tmp 6, Operand.tmp 8], argTypes := #[ 3, 3 ] }, type := 3, pos := "law.go:95", after := #[{ on := 1, ground := Ground.data }, { on := 3, ground := Ground.data }], guard := none }, { dst := some 10, op := Op.fieldAddr 29 (Operand.tmp 2) 2, type := 0, pos := "law.go:95", after := #[], guard := none }, { dst := some 11, op := Op.load 3 (Operand.tmp 10), type := 3, pos := "law.go:95", after := #[{ on := 5, ground := Ground.data }], guard := none }, { dst := some 12, op := Op.move (Operand.tmp 1), type := 3, pos := "law.go:95", after := #[], guard := none }, { dst := some 13, op := Op.binOp BinOp.add 3 (Operand.tmp 12) (Operand.const (Value.int IntKind.i64 2)) 3, type := 3, pos := "law.go:95", after := #[{ on := 7, ground := Ground.data }], guard := none }, { dst := some 14, op := Op.call { callee := Callee.value (Operand.func 15), args := #[Operand.tmp 11, Operand.tmp 13], argTypes := #[ 3, 3 ] }, type := 3, pos := "law.go:95", after := #[{ on := 6, ground := Ground.data }, { on := 8, ground := Ground.data }, { on := 4, ground := Ground.chain }], guard := none }, { dst := some 15, op := Op.binOp BinOp.sub 3 (Operand.tmp 14) (Operand.const (Value.int IntKind.i64 1)) 3, type := 3, pos := "law.go:95", after := #[{ on := 9, ground := Ground.data }, { on := 12, ground := Ground.gcOnly Departure.lateStores }], guard := none }, { dst := some 16, op := Op.fieldAddr 29 (Operand.tmp 2) 1, type := 0, pos := "law.go:95", after := #[{ on := 0, ground := Ground.phase }, { on := 1, ground := Ground.phase }, { on := 2, ground := Ground.phase }, { on := 3, ground := Ground.phase }, { on := 4, ground := Ground.phase }, { on := 5, ground := Ground.phase }, { on := 6, ground := Ground.phase }, { on := 7, ground := Ground.textOnly Departure.lateStores }, { on := 8, ground := Ground.textOnly Departure.lateStores }, { on := 9, ground := Ground.textOnly Departure.lateStoresUnsure }, { on := 10, ground := Ground.textOnly Departure.lateStores }], guard := none }, { dst := none, op := Op.store 3 (Operand.tmp 16) (Operand.tmp 9), type := 0, pos := "law.go:95", after := #[{ on := 11, ground := Ground.data }, { on := 4, ground := Ground.data }, { on := 9, ground := Ground.chain }, { on := 0, ground := Ground.phase }, { on := 1, ground := Ground.phase }, { on := 2, ground := Ground.phase }, { on := 3, ground := Ground.phase }, { on := 4, ground := Ground.phase }, { on := 5, ground := Ground.phase }, { on := 6, ground := Ground.phase }, { on := 7, ground := Ground.textOnly Departure.lateStores }, { on := 8, ground := Ground.textOnly Departure.lateStores }, { on := 9, ground := Ground.textOnly Departure.lateStoresUnsure }, { on := 10, ground := Ground.textOnly Departure.lateStores }], guard := none }, { dst := some 17, op := Op.fieldAddr 29 (Operand.tmp 2) 2, type := 0, pos := "law.go:95", after := #[{ on := 0, ground := Ground.phase }, { on := 1, ground := Ground.phase }, { on := 2, ground := Ground.phase }, { on := 3, ground := Ground.phase }, { on := 4, ground := Ground.phase }, { on := 5, ground := Ground.phase }, { on := 6, ground := Ground.phase }, { on := 7, ground := Ground.phase }, { on := 8, ground := Ground.phase }, { on := 9, ground := Ground.phase }, { on := 10, ground := Ground.phase }, { on := 11, ground := Ground.phase }, { on := 12, ground := Ground.phase }], guard := none }, { dst := none, op := Op.store 3 (Operand.tmp 17) (Operand.tmp 15), type := 0, pos := "law.go:95", after := #[{ on := 13, ground := Ground.data }, { on := 10, ground := Ground.data }, { on := 12, ground := Ground.chain }, { on := 0, ground := Ground.phase }, { on := 1, ground := Ground.phase }, { on := 2, ground := Ground.phase }, { on := 3, ground := Ground.phase }, { on := 4, ground := Ground.phase }, { on := 5, ground := Ground.phase }, { on := 6, ground := Ground.phase }, { on := 7, ground := Ground.phase }, { on := 8, ground := Ground.phase }, { on := 9, ground := Ground.phase }, { on := 10, ground := Ground.phase }, { on := 11, ground := Ground.phase }, { on := 12, ground := Ground.phase }], guard := none }] true).wp Try.prog Q { tmps := #[u0, .int .i64 (n : Int), .pointer (some ⟨T, 0, none⟩), u3, .pointer (some ⟨R, 0, none⟩), u5, u6, u7, u8, u9, u10, u11, u12, u13, u14, u15, u16, u17, u18, u19, u20, u21, u22, u23, u24, u25, u26, u27, u28, u29], defers := [] } w := by
  refine wp_region_noPanic ?_
  have HQ := Lib.hid hQ
  have x0 : w.drew.heap[T]? = some (.cells #[.int .i64 z0, .int .i64 z1, .int .i64 z2, .int .i64 z3, .string TX] 29 (0, 0)) := x
  have c1 := (block_cell6 x0 1).1
  have c2 := (block_cell6 x0 2).1
  have fc1 := (block_cell6 x0 1).2
  have k1 := within_lt z1 (n + 1) (by omega)
  have k2 := within_lt z2 (n + 2) (by omega)
  have HW1 : Hid (IntKind.i64.wrap ((n : Int) + 1) = ((n + 1 : Nat) : Int)) := Lib.hid (by rw [wrap_fit _ (by omega) (by omega)]; omega)
  have HW2 : Hid (IntKind.i64.wrap ((n : Int) + 2) = ((n + 2 : Nat) : Int)) := Lib.hid (by rw [wrap_fit _ (by omega) (by omega)]; omega)
  have HC1 : Hid (∀ W, Calls Try.prog 15 #[.int .i64 z1, .int .i64 ((n + 1 : Nat) : Int)] W (Gives (.int .i64 ((Within z1 (n + 1) : Nat) : Int)) W)) := Lib.hid fun W => within6 z1 (n + 1) W h1.1 h1.2 (by omega) (by omega)
  have HC2 : Hid (∀ W, Calls Try.prog 15 #[.int .i64 z2, .int .i64 ((n + 2 : Nat) : Int)] W (Gives (.int .i64 ((Within z2 (n + 2) : Nat) : Int)) W)) := Lib.hid fun W => within6 z2 (n + 2) W h2.1 h2.2 (by omega) (by omega)
  generalize Within z1 (n + 1) = j1 at *
  generalize Within z2 (n + 2) = j2 at *
  have HW3 : Hid (Int64 (IntKind.i64.wrap ((j2 : Int) - 1))) := Lib.hid (by rw [wrap_fit _ (by omega) (by omega)]; constructor <;> omega)
  have HW4 : Hid (Int64 (j1 : Int)) := Lib.hid (by constructor <;> omega)
  have X1 := Lib.hid (heap_setCell_same w.drew T 1 _ _ (.int .i64 (j1 : Int)) x0)
  simp at c1 c2
  clear hQ x x0 h1 h2 hn k1 k2
  refine wp_region_heldL_drew (S := fun W => W.cell? ⟨T, 1, none⟩ = some (.int .i64 z1) ∧ W.cell? ⟨T, 2, none⟩ = some (.int .i64 z2)) (late := [12, 14]) (by kernel_rfl) ?_ (fun hHeld => ?_)
  · exact ⟨c1, c2⟩
  generalize w.drew = W0 at *
  have HRE : Hid (∀ i ∈ [0, 1, 2, 3, 5, 6, 7, 8], ∀ s ∈ [12, 14], ReachL .any #[{ dst := some 5, op := Op.fieldAddr 29 (Operand.tmp 2) 1, type := 0, pos := "law.go:95", after := #[], guard := none }, { dst := some 6, op := Op.load 3 (Operand.tmp 5), type := 3, pos := "law.go:95", after := #[{ on := 0, ground := Ground.data }], guard := none }, { dst := some 7, op := Op.move (Operand.tmp 1), type := 3, pos := "law.go:95", after := #[], guard := none }, { dst := some 8, op := Op.binOp BinOp.add 3 (Operand.tmp 7) (Operand.const (Value.int IntKind.i64 1)) 3, type := 3, pos := "law.go:95", after := #[{ on := 2, ground := Ground.data }], guard := none }, { dst := some 9, op := Op.call { callee := Callee.value (Operand.func 15), args := #[Operand.tmp 6, Operand.tmp 8], argTypes := #[ 3, 3 ] }, type := 3, pos := "law.go:95", after := #[{ on := 1, ground := Ground.data }, { on := 3, ground := Ground.data }], guard := none }, { dst := some 10, op := Op.fieldAddr 29 (Operand.tmp 2) 2, type := 0, pos := "law.go:95", after := #[], guard := none }, { dst := some 11, op := Op.load 3 (Operand.tmp 10), type := 3, pos := "law.go:95", after := #[{ on := 5, ground := Ground.data }], guard := none }, { dst := some 12, op := Op.move (Operand.tmp 1), type := 3, pos := "law.go:95", after := #[], guard := none }, { dst := some 13, op := Op.binOp BinOp.add 3 (Operand.tmp 12) (Operand.const (Value.int IntKind.i64 2)) 3, type := 3, pos := "law.go:95", after := #[{ on := 7, ground := Ground.data }], guard := none }, { dst := some 14, op := Op.call { callee := Callee.value (Operand.func 15), args := #[Operand.tmp 11, Operand.tmp 13], argTypes := #[ 3, 3 ] }, type := 3, pos := "law.go:95", after := #[{ on := 6, ground := Ground.data }, { on := 8, ground := Ground.data }, { on := 4, ground := Ground.chain }], guard := none }, { dst := some 15, op := Op.binOp BinOp.sub 3 (Operand.tmp 14) (Operand.const (Value.int IntKind.i64 1)) 3, type := 3, pos := "law.go:95", after := #[{ on := 9, ground := Ground.data }, { on := 12, ground := Ground.gcOnly Departure.lateStores }], guard := none }, { dst := some 16, op := Op.fieldAddr 29 (Operand.tmp 2) 1, type := 0, pos := "law.go:95", after := #[{ on := 0, ground := Ground.phase }, { on := 1, ground := Ground.phase }, { on := 2, ground := Ground.phase }, { on := 3, ground := Ground.phase }, { on := 4, ground := Ground.phase }, { on := 5, ground := Ground.phase }, { on := 6, ground := Ground.phase }, { on := 7, ground := Ground.textOnly Departure.lateStores }, { on := 8, ground := Ground.textOnly Departure.lateStores }, { on := 9, ground := Ground.textOnly Departure.lateStoresUnsure }, { on := 10, ground := Ground.textOnly Departure.lateStores }], guard := none }, { dst := none, op := Op.store 3 (Operand.tmp 16) (Operand.tmp 9), type := 0, pos := "law.go:95", after := #[{ on := 11, ground := Ground.data }, { on := 4, ground := Ground.data }, { on := 9, ground := Ground.chain }, { on := 0, ground := Ground.phase }, { on := 1, ground := Ground.phase }, { on := 2, ground := Ground.phase }, { on := 3, ground := Ground.phase }, { on := 4, ground := Ground.phase }, { on := 5, ground := Ground.phase }, { on := 6, ground := Ground.phase }, { on := 7, ground := Ground.textOnly Departure.lateStores }, { on := 8, ground := Ground.textOnly Departure.lateStores }, { on := 9, ground := Ground.textOnly Departure.lateStoresUnsure }, { on := 10, ground := Ground.textOnly Departure.lateStores }], guard := none }, { dst := some 17, op := Op.fieldAddr 29 (Operand.tmp 2) 2, type := 0, pos := "law.go:95", after := #[{ on := 0, ground := Ground.phase }, { on := 1, ground := Ground.phase }, { on := 2, ground := Ground.phase }, { on := 3, ground := Ground.phase }, { on := 4, ground := Ground.phase }, { on := 5, ground := Ground.phase }, { on := 6, ground := Ground.phase }, { on := 7, ground := Ground.phase }, { on := 8, ground := Ground.phase }, { on := 9, ground := Ground.phase }, { on := 10, ground := Ground.phase }, { on := 11, ground := Ground.phase }, { on := 12, ground := Ground.phase }], guard := none }, { dst := none, op := Op.store 3 (Operand.tmp 17) (Operand.tmp 15), type := 0, pos := "law.go:95", after := #[{ on := 13, ground := Ground.data }, { on := 10, ground := Ground.data }, { on := 12, ground := Ground.chain }, { on := 0, ground := Ground.phase }, { on := 1, ground := Ground.phase }, { on := 2, ground := Ground.phase }, { on := 3, ground := Ground.phase }, { on := 4, ground := Ground.phase }, { on := 5, ground := Ground.phase }, { on := 6, ground := Ground.phase }, { on := 7, ground := Ground.phase }, { on := 8, ground := Ground.phase }, { on := 9, ground := Ground.phase }, { on := 10, ground := Ground.phase }, { on := 11, ground := Ground.phase }, { on := 12, ground := Ground.phase }], guard := none }] s i) := Lib.hid (lateOk_spec (f := 12) (by kernel_rfl))
  refine wpAnyL_take (i := 0) (oi := { dst := some 5, op := Op.fieldAddr 29 (Operand.tmp 2) 1, type := 0, pos := "law.go:95", after := #[], guard := none }) (v := ?_) rfl (by kernel_rfl) (by kernel_rfl) (by kernel_rfl) (by kernel_rfl) (HRE.out 0 (by decide)) (fun _ _ _ h => h) (Or.inl ⟨by rfl, ?_⟩) (by assumption) ?_
  rotate_left
  focus (intro w hSw; (try dsimp only at hSw); go_simp; (try with_reducible rfl))
  try simp only [Act.put, List.setIfInBounds_toArray, List.set_cons_zero, List.set_cons_succ]
  refine wpAnyL_take (i := 1) (oi := { dst := some 6, op := Op.load 3 (Operand.tmp 5), type := 3, pos := "law.go:95", after := #[{ on := 0, ground := Ground.data }], guard := none }) (v := ?_) rfl (by kernel_rfl) (by kernel_rfl) (by kernel_rfl) (by kernel_rfl) (HRE.out 1 (by decide)) (fun _ _ _ h => h) (Or.inl ⟨by rfl, ?_⟩) (by assumption) ?_
  rotate_left
  focus (intro w hSw; (try dsimp only at hSw); go_simp; (try with_reducible rfl))
  try simp only [Act.put, List.setIfInBounds_toArray, List.set_cons_zero, List.set_cons_succ]
  refine wpAnyL_take (i := 2) (oi := { dst := some 7, op := Op.move (Operand.tmp 1), type := 3, pos := "law.go:95", after := #[], guard := none }) (v := ?_) rfl (by kernel_rfl) (by kernel_rfl) (by kernel_rfl) (by kernel_rfl) (HRE.out 2 (by decide)) (fun _ _ _ h => h) (Or.inl ⟨by rfl, ?_⟩) (by assumption) ?_
  rotate_left
  focus (intro w hSw; (try dsimp only at hSw); go_simp; (try with_reducible rfl))
  try simp only [Act.put, List.setIfInBounds_toArray, List.set_cons_zero, List.set_cons_succ]
  refine wpAnyL_take (i := 3) (oi := { dst := some 8, op := Op.binOp BinOp.add 3 (Operand.tmp 7) (Operand.const (Value.int IntKind.i64 1)) 3, type := 3, pos := "law.go:95", after := #[{ on := 2, ground := Ground.data }], guard := none }) (v := ?_) rfl (by kernel_rfl) (by kernel_rfl) (by kernel_rfl) (by kernel_rfl) (HRE.out 3 (by decide)) (fun _ _ _ h => h) (Or.inl ⟨by rfl, ?_⟩) (by assumption) ?_
  rotate_left
  focus (intro w hSw; (try dsimp only at hSw); go_simp; (try with_reducible rfl))
  try simp only [Act.put, List.setIfInBounds_toArray, List.set_cons_zero, List.set_cons_succ]
  refine wpAnyL_take (i := 5) (oi := { dst := some 10, op := Op.fieldAddr 29 (Operand.tmp 2) 2, type := 0, pos := "law.go:95", after := #[], guard := none }) (v := ?_) rfl (by kernel_rfl) (by kernel_rfl) (by kernel_rfl) (by kernel_rfl) (HRE.out 5 (by decide)) (fun _ _ _ h => h) (Or.inl ⟨by rfl, ?_⟩) (by assumption) ?_
  rotate_left
  focus (intro w hSw; (try dsimp only at hSw); go_simp; (try with_reducible rfl))
  try simp only [Act.put, List.setIfInBounds_toArray, List.set_cons_zero, List.set_cons_succ]
  refine wpAnyL_take (i := 6) (oi := { dst := some 11, op := Op.load 3 (Operand.tmp 10), type := 3, pos := "law.go:95", after := #[{ on := 5, ground := Ground.data }], guard := none }) (v := ?_) rfl (by kernel_rfl) (by kernel_rfl) (by kernel_rfl) (by kernel_rfl) (HRE.out 6 (by decide)) (fun _ _ _ h => h) (Or.inl ⟨by rfl, ?_⟩) (by assumption) ?_
  rotate_left
  focus (intro w hSw; (try dsimp only at hSw); go_simp; (try with_reducible rfl))
  try simp only [Act.put, List.setIfInBounds_toArray, List.set_cons_zero, List.set_cons_succ]
  refine wpAnyL_take (i := 7) (oi := { dst := some 12, op := Op.move (Operand.tmp 1), type := 3, pos := "law.go:95", after := #[], guard := none }) (v := ?_) rfl (by kernel_rfl) (by kernel_rfl) (by kernel_rfl) (by kernel_rfl) (HRE.out 7 (by decide)) (fun _ _ _ h => h) (Or.inl ⟨by rfl, ?_⟩) (by assumption) ?_
  rotate_left
  focus (intro w hSw; (try dsimp only at hSw); go_simp; (try with_reducible rfl))
  try simp only [Act.put, List.setIfInBounds_toArray, List.set_cons_zero, List.set_cons_succ]
  refine wpAnyL_take (i := 8) (oi := { dst := some 13, op := Op.binOp BinOp.add 3 (Operand.tmp 12) (Operand.const (Value.int IntKind.i64 2)) 3, type := 3, pos := "law.go:95", after := #[{ on := 7, ground := Ground.data }], guard := none }) (v := ?_) rfl (by kernel_rfl) (by kernel_rfl) (by kernel_rfl) (by kernel_rfl) (HRE.out 8 (by decide)) (fun _ _ _ h => h) (Or.inl ⟨by rfl, ?_⟩) (by assumption) ?_
  rotate_left
  focus (intro w hSw; (try dsimp only at hSw); go_simp; (try with_reducible rfl))
  try simp only [Act.put, List.setIfInBounds_toArray, List.set_cons_zero, List.set_cons_succ]
  refine wpAnyL_ready (rs := [4]) (by kernel_rfl) (by simp) ?_
  refine AllReadyL.cons (o := { dst := some 9, op := Op.call { callee := Callee.value (Operand.func 15), args := #[Operand.tmp 6, Operand.tmp 8], argTypes := #[ 3, 3 ] }, type := 3, pos := "law.go:95", after := #[{ on := 1, ground := Ground.data }, { on := 3, ground := Ground.data }], guard := none }) rfl (fun K hK => ?_) AllReadyL.nil
  go_simp
  rw [HW1.out]
  refine (HC1.out _).mono ?_
  rintro e w4 ⟨rfl, rfl⟩
  go_wp2_with fail
  refine hK.out _ _ (by assumption) (fun hHeld => ?_)
  clear hK K
  try simp only [Act.put, List.setIfInBounds_toArray, List.set_cons_zero, List.set_cons_succ]
  refine wpAnyL_only (i := 11) (oi := { dst := some 16, op := Op.fieldAddr 29 (Operand.tmp 2) 1, type := 0, pos := "law.go:95", after := #[{ on := 0, ground := Ground.phase }, { on := 1, ground := Ground.phase }, { on := 2, ground := Ground.phase }, { on := 3, ground := Ground.phase }, { on := 4, ground := Ground.phase }, { on := 5, ground := Ground.phase }, { on := 6, ground := Ground.phase }, { on := 7, ground := Ground.textOnly Departure.lateStores }, { on := 8, ground := Ground.textOnly Departure.lateStores }, { on := 9, ground := Ground.textOnly Departure.lateStoresUnsure }, { on := 10, ground := Ground.textOnly Departure.lateStores }], guard := none }) (v := ?_) rfl (by kernel_rfl) (by kernel_rfl) (by kernel_rfl) (fun _ _ _ h => h) (Or.inl ⟨by rfl, ?_⟩) ?_
  rotate_left
  focus (intro w _; go_simp; (try with_reducible rfl))
  try simp only [Act.put, List.setIfInBounds_toArray, List.set_cons_zero, List.set_cons_succ]
  refine wpAnyL_ready (rs := [9]) (by kernel_rfl) (by simp) ?_
  refine AllReadyL.cons (o := { dst := some 14, op := Op.call { callee := Callee.value (Operand.func 15), args := #[Operand.tmp 11, Operand.tmp 13], argTypes := #[ 3, 3 ] }, type := 3, pos := "law.go:95", after := #[{ on := 6, ground := Ground.data }, { on := 8, ground := Ground.data }, { on := 4, ground := Ground.chain }], guard := none }) rfl (fun K hK => ?_) AllReadyL.nil
  go_simp
  rw [HW2.out]
  refine (HC2.out _).mono ?_
  rintro e w4 ⟨rfl, rfl⟩
  go_wp2_with fail
  refine hK.out _ _ (by assumption) (fun hHeld => ?_)
  clear hK K
  try simp only [Act.put, List.setIfInBounds_toArray, List.set_cons_zero, List.set_cons_succ]
  refine wpAnyL_only (i := 10) (oi := { dst := some 15, op := Op.binOp BinOp.sub 3 (Operand.tmp 14) (Operand.const (Value.int IntKind.i64 1)) 3, type := 3, pos := "law.go:95", after := #[{ on := 9, ground := Ground.data }, { on := 12, ground := Ground.gcOnly Departure.lateStores }], guard := none }) (v := ?_) rfl (by kernel_rfl) (by kernel_rfl) (by kernel_rfl) (fun _ _ _ h => h) (Or.inl ⟨by rfl, ?_⟩) ?_
  rotate_left
  focus (intro w _; go_simp; (try with_reducible rfl))
  try simp only [Act.put, List.setIfInBounds_toArray, List.set_cons_zero, List.set_cons_succ]
  refine wpAnyL_ready (rs := [12]) (by kernel_rfl) (by simp) ?_
  refine AllReadyL.last (o := { dst := none, op := Op.store 3 (Operand.tmp 16) (Operand.tmp 9), type := 0, pos := "law.go:95", after := #[{ on := 11, ground := Ground.data }, { on := 4, ground := Ground.data }, { on := 9, ground := Ground.chain }, { on := 0, ground := Ground.phase }, { on := 1, ground := Ground.phase }, { on := 2, ground := Ground.phase }, { on := 3, ground := Ground.phase }, { on := 4, ground := Ground.phase }, { on := 5, ground := Ground.phase }, { on := 6, ground := Ground.phase }, { on := 7, ground := Ground.textOnly Departure.lateStores }, { on := 8, ground := Ground.textOnly Departure.lateStores }, { on := 9, ground := Ground.textOnly Departure.lateStoresUnsure }, { on := 10, ground := Ground.textOnly Departure.lateStores }], guard := none }) rfl (by kernel_rfl) (fun K hK => ?_) AllReadyL.nil
  go_simp
  refine hK.out _ _ ?_
  clear hK K
  try simp only [Act.put, List.setIfInBounds_toArray, List.set_cons_zero, List.set_cons_succ]
  have q2 := (block_cell6 X1.out 2).1
  have fq2 := (block_cell6 X1.out 2).2
  simp at q2
  clear hHeld
  generalize hW1 : (W0.setCell ⟨T, 1, none⟩ (.int .i64 (j1 : Int))) = W1 at *
  have HE1 := Lib.hid hW1
  clear hW1
  refine wpAnyL_only (i := 13) (oi := { dst := some 17, op := Op.fieldAddr 29 (Operand.tmp 2) 2, type := 0, pos := "law.go:95", after := #[{ on := 0, ground := Ground.phase }, { on := 1, ground := Ground.phase }, { on := 2, ground := Ground.phase }, { on := 3, ground := Ground.phase }, { on := 4, ground := Ground.phase }, { on := 5, ground := Ground.phase }, { on := 6, ground := Ground.phase }, { on := 7, ground := Ground.phase }, { on := 8, ground := Ground.phase }, { on := 9, ground := Ground.phase }, { on := 10, ground := Ground.phase }, { on := 11, ground := Ground.phase }, { on := 12, ground := Ground.phase }], guard := none }) (v := ?_) rfl (by kernel_rfl) (by kernel_rfl) (by kernel_rfl) (fun _ _ _ h => h) (Or.inl ⟨by rfl, ?_⟩) ?_
  rotate_left
  focus (intro w _; go_simp; (try with_reducible rfl))
  try simp only [Act.put, List.setIfInBounds_toArray, List.set_cons_zero, List.set_cons_succ]
  refine wpAnyL_ready (rs := [14]) (by kernel_rfl) (by simp) ?_
  refine AllReadyL.last (o := { dst := none, op := Op.store 3 (Operand.tmp 17) (Operand.tmp 15), type := 0, pos := "law.go:95", after := #[{ on := 13, ground := Ground.data }, { on := 10, ground := Ground.data }, { on := 12, ground := Ground.chain }, { on := 0, ground := Ground.phase }, { on := 1, ground := Ground.phase }, { on := 2, ground := Ground.phase }, { on := 3, ground := Ground.phase }, { on := 4, ground := Ground.phase }, { on := 5, ground := Ground.phase }, { on := 6, ground := Ground.phase }, { on := 7, ground := Ground.phase }, { on := 8, ground := Ground.phase }, { on := 9, ground := Ground.phase }, { on := 10, ground := Ground.phase }, { on := 11, ground := Ground.phase }, { on := 12, ground := Ground.phase }], guard := none }) rfl (by kernel_rfl) (fun K hK => ?_) AllReadyL.nil
  go_simp
  refine hK.out _ _ ?_
  clear hK K
  try simp only [Act.put, List.setIfInBounds_toArray, List.set_cons_zero, List.set_cons_succ]
  refine wpAnyL_done (by kernel_rfl) ?_ _
  rw [← HE1.out]
  exact NoPanic.normal (HQ.out _ _ _ _ _ _ _ _ _ _ _ _ _ _ _ HW4.out HW3.out)
theorem blk5 {W : World} {T : Nat} {t : TypeId} {x0 x1 x2 x3 x4 : Value} (h : W.heap[T]? = some (.cells #[x0, x1, x2, x3, x4] t (0, 0))) : W.cell? ⟨T, 0, none⟩ = some x0 ∧ W.cell? ⟨T, 1, none⟩ = some x1 ∧ W.cell? ⟨T, 2, none⟩ = some x2 ∧ W.cell? ⟨T, 3, none⟩ = some x3 ∧ W.cell? ⟨T, 4, none⟩ = some x4 :=
  ⟨(block_cell6 h 0).1, (block_cell6 h 1).1, (block_cell6 h 2).1, (block_cell6 h 3).1, (block_cell6 h 4).1⟩
theorem set5 (w : World) (X : Nat) (w3 : World) (T : TypeId) (x0 x1 x2 x3 x4 v0 v1 v2 v3 v4 : Value) (hx : w.heap.size ≤ X) (h : w3.heap[X]? = some (.cells #[x0, x1, x2, x3, x4] T (0, 0))) (hb : Below w.heap.size w w3) :
    ∃ w4, (((((w3.setCell ⟨X, 0, none⟩ v0).setCell ⟨X, 1, none⟩ v1).setCell ⟨X, 2, none⟩ v2).setCell ⟨X, 3, none⟩ v3).setCell ⟨X, 4, none⟩ v4) = w4 ∧ w4.heap[X]? = some (.cells #[v0, v1, v2, v3, v4] T (0, 0)) ∧ Below w.heap.size w w4 := by
  have stp : ∀ (a : World) (cs : Array Value) (k : Nat) (v : Value), a.heap[X]? = some (.cells cs T (0, 0)) ∧ Below w.heap.size w a → (a.setCell ⟨X, k, none⟩ v).heap[X]? = some (.cells (cs.setIfInBounds k v) T (0, 0)) ∧ Below w.heap.size w (a.setCell ⟨X, k, none⟩ v) := fun a cs k v h => ⟨heap_setCell_same a X k cs T v h.1, h.2.setCell hx v⟩
  have e := stp _ _ 4 v4 (stp _ _ 3 v3 (stp _ _ 2 v2 (stp _ _ 1 v1 (stp w3 _ 0 v0 ⟨h, hb⟩))))
  exact ⟨_, rfl, e.1, e.2⟩
set_option maxHeartbeats 4000000 in
set_option maxRecDepth 100000 in
theorem tameP (w : World) (z0 z1 z2 z3 : Int) (s : List UInt8) (n : Nat) (h0 : Int64 z0) (h1 : Int64 z1) (h2 : Int64 z2) (h3 : Int64 z3) (hn : n ≤ 100000) :
    Calls Try.prog 7 #[.agg #[.int .i64 z0, .int .i64 z1, .int .i64 z2, .int .i64 z3, .string ⟨s.toArray⟩], .int .i64 (n : Int)] w (fun e w' => ∃ y1 y2 y3, e = .returned (.agg #[.int .i64 z0, .int .i64 y1, .int .i64 y2, .int .i64 y3, .string ⟨s.toArray⟩]) ∧ Int64 y1 ∧ Int64 y2 ∧ Int64 y3 ∧ Below w.heap.size w w') := by
  have H0 := Lib.hid h0
  have H1 := Lib.hid h1
  have H2 := Lib.hid h2
  have H3 := Lib.hid h3
  clear h0 h1 h2 h3
  go_enter Try.func7, Try.ntmps7
  go_upto_region 1 with fail
  have x : ((w.alloc (.cells #[.int .i64 z0, .int .i64 z1, .int .i64 z2, .int .i64 z3, .string ⟨s.toArray⟩] 29)).alloc (.cells #[.int .i64 0, .int .i64 0, .int .i64 0, .int .i64 0, .string ⟨#[]⟩] 29)).heap[w.heap.size]? = some (.cells #[.int .i64 z0, .int .i64 z1, .int .i64 z2, .int .i64 z3, .string ⟨s.toArray⟩] 29 (0, 0)) := by
    rw [(Below.refl _ _).alloc (Nat.le_refl _) _ |>.block w.heap.size (by simp)]
    exact heap_alloc_new w _
  have r : ((w.alloc (.cells #[.int .i64 z0, .int .i64 z1, .int .i64 z2, .int .i64 z3, .string ⟨s.toArray⟩] 29)).alloc (.cells #[.int .i64 0, .int .i64 0, .int .i64 0, .int .i64 0, .string ⟨#[]⟩] 29)).heap[w.heap.size + 1]? = some (.cells #[.int .i64 0, .int .i64 0, .int .i64 0, .int .i64 0, .string ⟨#[]⟩] 29 (0, 0)) := by
    have := heap_alloc_new (w.alloc (.cells #[.int .i64 z0, .int .i64 z1, .int .i64 z2, .int .i64 z3, .string ⟨s.toArray⟩] 29)) (.cells #[.int .i64 0, .int .i64 0, .int .i64 0, .int .i64 0, .string ⟨#[]⟩] 29)
    simpa using this
  have hb : Below w.heap.size w ((w.alloc (.cells #[.int .i64 z0, .int .i64 z1, .int .i64 z2, .int .i64 z3, .string ⟨s.toArray⟩] 29)).alloc (.cells #[.int .i64 0, .int .i64 0, .int .i64 0, .int .i64 0, .string ⟨#[]⟩] 29)) := ((Below.refl _ w).alloc (Nat.le_refl _) _).alloc (by simp) _
  generalize ((w.alloc (.cells #[.int .i64 z0, .int .i64 z1, .int .i64 z2, .int .i64 z3, .string ⟨s.toArray⟩] 29)).alloc (.cells #[.int .i64 0, .int .i64 0, .int .i64 0, .int .i64 0, .string ⟨#[]⟩] 29)) = w1 at *
  refine tame_reg1 (R := w.heap.size + 1) x H1.out H2.out hn ?_
  intro y1 y2 y5 y6 y7 y8 y9 y10 y11 y12 y13 y14 y15 y16 y17 hy1 hy2
  have HY1 := Lib.hid hy1
  have HY2 := Lib.hid hy2
  have x2 := heap_setCell_same _ w.heap.size 2 _ _ (.int .i64 y2) (heap_setCell_same w1.drew w.heap.size 1 _ _ (.int .i64 y1) x)
  simp only [List.setIfInBounds_toArray, List.set_cons_zero, List.set_cons_succ] at x2
  have r2 : ((w1.drew.setCell ⟨w.heap.size, 1, none⟩ (.int .i64 y1)).setCell ⟨w.heap.size, 2, none⟩ (.int .i64 y2)).heap[w.heap.size + 1]? = some (.cells #[.int .i64 0, .int .i64 0, .int .i64 0, .int .i64 0, .string ⟨#[]⟩] 29 (0, 0)) := by
    rw [heap_setCell_other _ ⟨w.heap.size, 2, none⟩ (w.heap.size + 1) _ (by simp), heap_setCell_other _ ⟨w.heap.size, 1, none⟩ (w.heap.size + 1) _ (by simp)]
    exact r
  have hb2 : Below w.heap.size w ((w1.drew.setCell ⟨w.heap.size, 1, none⟩ (.int .i64 y1)).setCell ⟨w.heap.size, 2, none⟩ (.int .i64 y2)) := (hb.drew.setCell (Nat.le_refl _) _).setCell (Nat.le_refl _) _
  clear x r hb hy1 hy2
  generalize ((w1.drew.setCell ⟨w.heap.size, 1, none⟩ (.int .i64 y1)).setCell ⟨w.heap.size, 2, none⟩ (.int .i64 y2)) = w2 at *
  have HX2 := Lib.hid x2
  have HR2 := Lib.hid r2
  have HB2 := Lib.hid hb2
  have hRT : w.heap.size < w.heap.size + 1 := by omega
  have HS1 := Lib.hid (Nat.le_succ w.heap.size)
  obtain ⟨e0, e1, e2, e3, e4⟩ := blk5 x2
  have f3 := (block_cell6 x2 3).2
  clear x2 r2 hb2 w1
  have k3 := (within_lt z3 (n + 2) (by omega)).1
  have HC2 := Lib.hid (within6 z3 (n + 2) w2 H3.out.1 H3.out.2 (by omega) (by omega))
  have HC0 := Lib.hid (within6 z0 8 w2 H0.out.1 H0.out.2 (by omega) (by omega))
  generalize Within z3 (n + 2) = j3 at *
  have HW3 : Hid (Int64 ((j3 : Int) - 1)) := Lib.hid (by constructor <;> omega)
  generalize Within z0 8 = j0 at *
  generalize hTX : (⟨s.toArray⟩ : ByteArray) = TX at *
  have HTX := Lib.hid hTX
  clear hTX
  by_cases hj : j0 = 0
  · subst hj
    go_wp2_with fail
    refine HC0.out.mono ?_
    rintro e w3 ⟨rfl, rfl⟩
    go_upto_region 4 with fail
    obtain ⟨w4, hw4, hb4, hB4⟩ := set5 w (w.heap.size + 1) w2 _ _ _ _ _ _ (.int .i64 z0) (.int .i64 y1) (.int .i64 y2) (.int .i64 z3) (.string TX) HS1.out HR2.out HB2.out
    have k0 := fun i => (block_cell6 HR2.out i).1
    have k1 := fun i => (block_cell6 HR2.out i).2
    have HB4 := Lib.hid hB4
    go_wp2_with fail
    refine bodyPost_ret (results_cell_row rfl _ _ _ _ _ _ _ rfl hb4 Try.underlying29 rfl (by kernel_rfl)) rfl ⟨_, _, _, ?_, HY1.out, HY2.out, H3.out, HB4.out⟩
    rw [HTX.out]
  · have hj1 : ¬ ((j0 : Int) = 0) := by omega
    go_wp2_with fail
    refine HC0.out.mono ?_
    rintro e w3 ⟨rfl, rfl⟩
    go_wp2_with fail
    rw [show ((n : Int) + 2) = ((n + 2 : Nat) : Int) from rfl]
    refine HC2.out.mono ?_
    rintro e w3 ⟨rfl, rfl⟩
    go_upto_region 4 with fail
    have x4 := heap_setCell_same w2 w.heap.size 3 _ _ (.int .i64 (((j3 : Int) - 1))) HX2.out
    simp only [List.setIfInBounds_toArray, List.set_cons_zero, List.set_cons_succ] at x4
    have r4 : (w2.setCell ⟨w.heap.size, 3, none⟩ (.int .i64 (((j3 : Int) - 1)))).heap[w.heap.size + 1]? = some (.cells #[.int .i64 0, .int .i64 0, .int .i64 0, .int .i64 0, .string ⟨#[]⟩] 29 (0, 0)) := by
      rw [heap_setCell_other _ ⟨w.heap.size, 3, none⟩ (w.heap.size + 1) _ (by simp)]
      exact HR2.out
    have hb4 : Below w.heap.size w (w2.setCell ⟨w.heap.size, 3, none⟩ (.int .i64 (((j3 : Int) - 1)))) := HB2.out.setCell (Nat.le_refl _) _
    clear e0 e1 e2 e3 e4 f3 HX2 HR2 HB2 HC0 HC2
    generalize w2.setCell ⟨w.heap.size, 3, none⟩ (.int .i64 (((j3 : Int) - 1))) = w5 at *
    generalize ((j3 : Int) - 1) = y3 at *
    obtain ⟨e0, e1, e2, e3, e4⟩ := blk5 x4
    obtain ⟨w4, hw4, hb4, hB4⟩ := set5 w (w.heap.size + 1) w5 _ _ _ _ _ _ (.int .i64 z0) (.int .i64 y1) (.int .i64 y2) (.int .i64 y3) (.string TX) HS1.out r4 hb4
    have k0 := fun i => (block_cell6 r4 i).1
    have k1 := fun i => (block_cell6 r4 i).2
    have HB4 := Lib.hid hB4
    go_wp2_with fail
    refine bodyPost_ret (results_cell_row rfl _ _ _ _ _ _ _ rfl hb4 Try.underlying29 rfl (by kernel_rfl)) rfl ⟨_, _, _, ?_, HY1.out, HY2.out, HW3.out, HB4.out⟩
    rw [HTX.out]
end Go.Proofs.Ytkoijkdhmfnlbaa
