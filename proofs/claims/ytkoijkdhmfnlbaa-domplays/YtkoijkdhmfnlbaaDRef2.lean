/-
  The drawn region of the reference's lay, over an opaque post: three appends, three stores, whatever the order.
-/
import Derived.Test.YtkoijkdhmfnlbaaRfA
namespace Go.Proofs.Ytkoijkdhmfnlbaa
open Go.RowKit

theorem block_cell6 {w : World} {g : Nat} {cs : Array Value} {t : TypeId} (h : w.heap[g]? = some (.cells cs t (0, 0))) (i : Nat) : w.cell? ⟨g, i, none⟩ = cs[i]? ∧ w.frozen? ⟨g, i, none⟩ = false := by
  constructor
  · simp [World.cell?, h]
  · simp [World.frozen?, h]
theorem LayS.at_ {M : Nat → Prop} {w W : World} {vN vU vR : Value} {kN kU kR : Nat} {lN lU lR : List Value} {ex : List (Nat × Obj)} (h : LayS M w W vN vU vR kN kU kR lN lU lR ex) {p : Nat × Obj} (hp : p ∈ ex) : W.heap[p.1]? = some p.2 := (h.ex p hp).1
theorem info_row : ∃ i, Try.prog.info? 32 = some i ∧ i.zero = some (.slice none 0 0) ∧ i.size = 1 ∧ i.bytes = 24 := by
  have hi9 : (Try.prog.info? 32).map (fun i => (i.zero, i.size, i.bytes)) = some (some (.slice none 0 0), 1, 24) := by kernel_rfl
  obtain ⟨i0, hi, hx⟩ := Option.map_eq_some_iff.1 hi9
  simp only [Prod.mk.injEq] at hx
  exact ⟨i0, hi, hx.1, hx.2.1, hx.2.2⟩
def rlayOps : Array Oper := #[{ dst := some 5, op := Op.move (Operand.tmp 0), type := 26, pos := "ref.go:23", after := #[], guard := none }, { dst := some 6, op := Op.move (Operand.tmp 0), type := 26, pos := "ref.go:23", after := #[{ on := 24, ground := Ground.gcOnly Departure.lateStores }], guard := none }, { dst := some 7, op := Op.move (Operand.tmp 0), type := 26, pos := "ref.go:23", after := #[{ on := 27, ground := Ground.gcOnly Departure.lateStores }], guard := none }, { dst := some 8, op := Op.move (Operand.tmp 0), type := 26, pos := "ref.go:23", after := #[], guard := none }, { dst := some 9, op := Op.nilCheck (Operand.tmp 8), type := 0, pos := "ref.go:23", after := #[{ on := 3, ground := Ground.data }], guard := none }, { dst := some 10, op := Op.fieldAddr 35 (Operand.tmp 9) 0, type := 0, pos := "ref.go:23", after := #[{ on := 4, ground := Ground.data }], guard := none }, { dst := some 11, op := Op.load 31 (Operand.tmp 10), type := 31, pos := "ref.go:23", after := #[{ on := 5, ground := Ground.data }], guard := none }, { dst := some 12, op := Op.load 43 (Operand.tmp 3), type := 43, pos := "ref.go:23", after := #[], guard := none }, { dst := some 13, op := Op.buildSlice 31 1 #[(0, Operand.tmp 12)], type := 31, pos := "ref.go:23", after := #[{ on := 7, ground := Ground.data }], guard := none }, { dst := some 14, op := Op.call { callee := Callee.builtin Builtin.append, args := #[Operand.tmp 11, Operand.tmp 13], argTypes := #[ 31, 31 ] }, type := 31, pos := "ref.go:23", after := #[{ on := 6, ground := Ground.data }, { on := 8, ground := Ground.data }], guard := none }, { dst := some 15, op := Op.move (Operand.tmp 0), type := 26, pos := "ref.go:23", after := #[], guard := none }, { dst := some 16, op := Op.nilCheck (Operand.tmp 15), type := 0, pos := "ref.go:23", after := #[{ on := 10, ground := Ground.data }], guard := none }, { dst := some 17, op := Op.fieldAddr 35 (Operand.tmp 16) 1, type := 0, pos := "ref.go:23", after := #[{ on := 11, ground := Ground.data }], guard := none }, { dst := some 18, op := Op.load 32 (Operand.tmp 17), type := 32, pos := "ref.go:23", after := #[{ on := 12, ground := Ground.data }], guard := none }, { dst := some 19, op := Op.buildSlice 32 1 #[(0, Operand.const (Value.int IntKind.i64 (-1)))], type := 32, pos := "ref.go:23", after := #[], guard := none }, { dst := some 20, op := Op.call { callee := Callee.builtin Builtin.append, args := #[Operand.tmp 18, Operand.tmp 19], argTypes := #[ 32, 32 ] }, type := 32, pos := "ref.go:23", after := #[{ on := 13, ground := Ground.data }, { on := 14, ground := Ground.data }, { on := 9, ground := Ground.chain }], guard := none }, { dst := some 21, op := Op.move (Operand.tmp 0), type := 26, pos := "ref.go:23", after := #[], guard := none }, { dst := some 22, op := Op.nilCheck (Operand.tmp 21), type := 0, pos := "ref.go:23", after := #[{ on := 16, ground := Ground.data }], guard := none }, { dst := some 23, op := Op.fieldAddr 35 (Operand.tmp 22) 2, type := 0, pos := "ref.go:23", after := #[{ on := 17, ground := Ground.data }], guard := none }, { dst := some 24, op := Op.load 33 (Operand.tmp 23), type := 33, pos := "ref.go:23", after := #[{ on := 18, ground := Ground.data }], guard := none }, { dst := some 25, op := Op.buildSlice 33 1 #[(0, Operand.const (Value.slice none 0 0))], type := 33, pos := "ref.go:23", after := #[], guard := none }, { dst := some 26, op := Op.call { callee := Callee.builtin Builtin.append, args := #[Operand.tmp 24, Operand.tmp 25], argTypes := #[ 33, 33 ] }, type := 33, pos := "ref.go:23", after := #[{ on := 19, ground := Ground.data }, { on := 20, ground := Ground.data }, { on := 15, ground := Ground.chain }], guard := none }, { dst := some 27, op := Op.nilCheck (Operand.tmp 5), type := 0, pos := "ref.go:23", after := #[{ on := 0, ground := Ground.data }, { on := 0, ground := Ground.phase }, { on := 1, ground := Ground.textOnly Departure.lateStores }, { on := 2, ground := Ground.textOnly Departure.lateStores }, { on := 3, ground := Ground.phase }, { on := 4, ground := Ground.phase }, { on := 5, ground := Ground.phase }, { on := 6, ground := Ground.phase }, { on := 7, ground := Ground.phase }, { on := 8, ground := Ground.phase }, { on := 9, ground := Ground.phase }, { on := 10, ground := Ground.textOnly Departure.lateStores }, { on := 11, ground := Ground.textOnly Departure.lateStoresUnsure }, { on := 12, ground := Ground.textOnly Departure.lateStoresUnsure }, { on := 13, ground := Ground.phase }, { on := 14, ground := Ground.textOnly Departure.lateStoresUnsure }, { on := 15, ground := Ground.phase }, { on := 16, ground := Ground.textOnly Departure.lateStores }, { on := 17, ground := Ground.textOnly Departure.lateStoresUnsure }, { on := 18, ground := Ground.textOnly Departure.lateStoresUnsure }, { on := 19, ground := Ground.phase }, { on := 20, ground := Ground.textOnly Departure.lateStoresUnsure }, { on := 21, ground := Ground.phase }], guard := none }, { dst := some 28, op := Op.fieldAddr 35 (Operand.tmp 27) 0, type := 0, pos := "ref.go:23", after := #[{ on := 22, ground := Ground.data }, { on := 0, ground := Ground.phase }, { on := 1, ground := Ground.textOnly Departure.lateStores }, { on := 2, ground := Ground.textOnly Departure.lateStores }, { on := 3, ground := Ground.phase }, { on := 4, ground := Ground.phase }, { on := 5, ground := Ground.phase }, { on := 6, ground := Ground.phase }, { on := 7, ground := Ground.phase }, { on := 8, ground := Ground.phase }, { on := 9, ground := Ground.phase }, { on := 10, ground := Ground.textOnly Departure.lateStores }, { on := 11, ground := Ground.textOnly Departure.lateStoresUnsure }, { on := 12, ground := Ground.textOnly Departure.lateStoresUnsure }, { on := 13, ground := Ground.phase }, { on := 14, ground := Ground.textOnly Departure.lateStoresUnsure }, { on := 15, ground := Ground.phase }, { on := 16, ground := Ground.textOnly Departure.lateStores }, { on := 17, ground := Ground.textOnly Departure.lateStoresUnsure }, { on := 18, ground := Ground.textOnly Departure.lateStoresUnsure }, { on := 19, ground := Ground.phase }, { on := 20, ground := Ground.textOnly Departure.lateStoresUnsure }, { on := 21, ground := Ground.phase }], guard := none }, { dst := none, op := Op.store 31 (Operand.tmp 28) (Operand.tmp 14), type := 0, pos := "ref.go:23", after := #[{ on := 23, ground := Ground.data }, { on := 9, ground := Ground.data }, { on := 21, ground := Ground.chain }, { on := 0, ground := Ground.phase }, { on := 1, ground := Ground.textOnly Departure.lateStores }, { on := 2, ground := Ground.textOnly Departure.lateStores }, { on := 3, ground := Ground.phase }, { on := 4, ground := Ground.phase }, { on := 5, ground := Ground.phase }, { on := 6, ground := Ground.phase }, { on := 7, ground := Ground.phase }, { on := 8, ground := Ground.phase }, { on := 9, ground := Ground.phase }, { on := 10, ground := Ground.textOnly Departure.lateStores }, { on := 11, ground := Ground.textOnly Departure.lateStoresUnsure }, { on := 12, ground := Ground.textOnly Departure.lateStoresUnsure }, { on := 13, ground := Ground.phase }, { on := 14, ground := Ground.textOnly Departure.lateStoresUnsure }, { on := 15, ground := Ground.phase }, { on := 16, ground := Ground.textOnly Departure.lateStores }, { on := 17, ground := Ground.textOnly Departure.lateStoresUnsure }, { on := 18, ground := Ground.textOnly Departure.lateStoresUnsure }, { on := 19, ground := Ground.phase }, { on := 20, ground := Ground.textOnly Departure.lateStoresUnsure }, { on := 21, ground := Ground.phase }], guard := none }, { dst := some 29, op := Op.nilCheck (Operand.tmp 6), type := 0, pos := "ref.go:23", after := #[{ on := 1, ground := Ground.data }, { on := 0, ground := Ground.phase }, { on := 1, ground := Ground.phase }, { on := 2, ground := Ground.textOnly Departure.lateStores }, { on := 3, ground := Ground.phase }, { on := 4, ground := Ground.phase }, { on := 5, ground := Ground.phase }, { on := 6, ground := Ground.phase }, { on := 7, ground := Ground.phase }, { on := 8, ground := Ground.phase }, { on := 9, ground := Ground.phase }, { on := 10, ground := Ground.phase }, { on := 11, ground := Ground.phase }, { on := 12, ground := Ground.phase }, { on := 13, ground := Ground.phase }, { on := 14, ground := Ground.phase }, { on := 15, ground := Ground.phase }, { on := 16, ground := Ground.textOnly Departure.lateStores }, { on := 17, ground := Ground.textOnly Departure.lateStoresUnsure }, { on := 18, ground := Ground.textOnly Departure.lateStoresUnsure }, { on := 19, ground := Ground.phase }, { on := 20, ground := Ground.textOnly Departure.lateStoresUnsure }, { on := 21, ground := Ground.phase }, { on := 22, ground := Ground.phase }, { on := 23, ground := Ground.phase }, { on := 24, ground := Ground.phase }], guard := none }, { dst := some 30, op := Op.fieldAddr 35 (Operand.tmp 29) 1, type := 0, pos := "ref.go:23", after := #[{ on := 25, ground := Ground.data }, { on := 0, ground := Ground.phase }, { on := 1, ground := Ground.phase }, { on := 2, ground := Ground.textOnly Departure.lateStores }, { on := 3, ground := Ground.phase }, { on := 4, ground := Ground.phase }, { on := 5, ground := Ground.phase }, { on := 6, ground := Ground.phase }, { on := 7, ground := Ground.phase }, { on := 8, ground := Ground.phase }, { on := 9, ground := Ground.phase }, { on := 10, ground := Ground.phase }, { on := 11, ground := Ground.phase }, { on := 12, ground := Ground.phase }, { on := 13, ground := Ground.phase }, { on := 14, ground := Ground.phase }, { on := 15, ground := Ground.phase }, { on := 16, ground := Ground.textOnly Departure.lateStores }, { on := 17, ground := Ground.textOnly Departure.lateStoresUnsure }, { on := 18, ground := Ground.textOnly Departure.lateStoresUnsure }, { on := 19, ground := Ground.phase }, { on := 20, ground := Ground.textOnly Departure.lateStoresUnsure }, { on := 21, ground := Ground.phase }, { on := 22, ground := Ground.phase }, { on := 23, ground := Ground.phase }, { on := 24, ground := Ground.phase }], guard := none }, { dst := none, op := Op.store 32 (Operand.tmp 30) (Operand.tmp 20), type := 0, pos := "ref.go:23", after := #[{ on := 26, ground := Ground.data }, { on := 15, ground := Ground.data }, { on := 24, ground := Ground.chain }, { on := 0, ground := Ground.phase }, { on := 1, ground := Ground.phase }, { on := 2, ground := Ground.textOnly Departure.lateStores }, { on := 3, ground := Ground.phase }, { on := 4, ground := Ground.phase }, { on := 5, ground := Ground.phase }, { on := 6, ground := Ground.phase }, { on := 7, ground := Ground.phase }, { on := 8, ground := Ground.phase }, { on := 9, ground := Ground.phase }, { on := 10, ground := Ground.phase }, { on := 11, ground := Ground.phase }, { on := 12, ground := Ground.phase }, { on := 13, ground := Ground.phase }, { on := 14, ground := Ground.phase }, { on := 15, ground := Ground.phase }, { on := 16, ground := Ground.textOnly Departure.lateStores }, { on := 17, ground := Ground.textOnly Departure.lateStoresUnsure }, { on := 18, ground := Ground.textOnly Departure.lateStoresUnsure }, { on := 19, ground := Ground.phase }, { on := 20, ground := Ground.textOnly Departure.lateStoresUnsure }, { on := 21, ground := Ground.phase }, { on := 22, ground := Ground.phase }, { on := 23, ground := Ground.phase }, { on := 24, ground := Ground.phase }], guard := none }, { dst := some 31, op := Op.nilCheck (Operand.tmp 7), type := 0, pos := "ref.go:23", after := #[{ on := 2, ground := Ground.data }, { on := 0, ground := Ground.phase }, { on := 1, ground := Ground.phase }, { on := 2, ground := Ground.phase }, { on := 3, ground := Ground.phase }, { on := 4, ground := Ground.phase }, { on := 5, ground := Ground.phase }, { on := 6, ground := Ground.phase }, { on := 7, ground := Ground.phase }, { on := 8, ground := Ground.phase }, { on := 9, ground := Ground.phase }, { on := 10, ground := Ground.phase }, { on := 11, ground := Ground.phase }, { on := 12, ground := Ground.phase }, { on := 13, ground := Ground.phase }, { on := 14, ground := Ground.phase }, { on := 15, ground := Ground.phase }, { on := 16, ground := Ground.phase }, { on := 17, ground := Ground.phase }, { on := 18, ground := Ground.phase }, { on := 19, ground := Ground.phase }, { on := 20, ground := Ground.phase }, { on := 21, ground := Ground.phase }, { on := 22, ground := Ground.phase }, { on := 23, ground := Ground.phase }, { on := 24, ground := Ground.phase }, { on := 25, ground := Ground.phase }, { on := 26, ground := Ground.phase }, { on := 27, ground := Ground.phase }], guard := none }, { dst := some 32, op := Op.fieldAddr 35 (Operand.tmp 31) 2, type := 0, pos := "ref.go:23", after := #[{ on := 28, ground := Ground.data }, { on := 0, ground := Ground.phase }, { on := 1, ground := Ground.phase }, { on := 2, ground := Ground.phase }, { on := 3, ground := Ground.phase }, { on := 4, ground := Ground.phase }, { on := 5, ground := Ground.phase }, { on := 6, ground := Ground.phase }, { on := 7, ground := Ground.phase }, { on := 8, ground := Ground.phase }, { on := 9, ground := Ground.phase }, { on := 10, ground := Ground.phase }, { on := 11, ground := Ground.phase }, { on := 12, ground := Ground.phase }, { on := 13, ground := Ground.phase }, { on := 14, ground := Ground.phase }, { on := 15, ground := Ground.phase }, { on := 16, ground := Ground.phase }, { on := 17, ground := Ground.phase }, { on := 18, ground := Ground.phase }, { on := 19, ground := Ground.phase }, { on := 20, ground := Ground.phase }, { on := 21, ground := Ground.phase }, { on := 22, ground := Ground.phase }, { on := 23, ground := Ground.phase }, { on := 24, ground := Ground.phase }, { on := 25, ground := Ground.phase }, { on := 26, ground := Ground.phase }, { on := 27, ground := Ground.phase }], guard := none }, { dst := none, op := Op.store 33 (Operand.tmp 32) (Operand.tmp 26), type := 0, pos := "ref.go:23", after := #[{ on := 29, ground := Ground.data }, { on := 21, ground := Ground.data }, { on := 27, ground := Ground.chain }, { on := 0, ground := Ground.phase }, { on := 1, ground := Ground.phase }, { on := 2, ground := Ground.phase }, { on := 3, ground := Ground.phase }, { on := 4, ground := Ground.phase }, { on := 5, ground := Ground.phase }, { on := 6, ground := Ground.phase }, { on := 7, ground := Ground.phase }, { on := 8, ground := Ground.phase }, { on := 9, ground := Ground.phase }, { on := 10, ground := Ground.phase }, { on := 11, ground := Ground.phase }, { on := 12, ground := Ground.phase }, { on := 13, ground := Ground.phase }, { on := 14, ground := Ground.phase }, { on := 15, ground := Ground.phase }, { on := 16, ground := Ground.phase }, { on := 17, ground := Ground.phase }, { on := 18, ground := Ground.phase }, { on := 19, ground := Ground.phase }, { on := 20, ground := Ground.phase }, { on := 21, ground := Ground.phase }, { on := 22, ground := Ground.phase }, { on := 23, ground := Ground.phase }, { on := 24, ground := Ground.phase }, { on := 25, ground := Ground.phase }, { on := 26, ground := Ground.phase }, { on := 27, ground := Ground.phase }], guard := none }]
set_option maxHeartbeats 4000000 in
set_option maxRecDepth 100000 in
theorem rlay_tail {M : Nat → Prop} {S : World → Prop} {w w1 : World} {B kN kU kR mN mU mR cN cU cR : Nat} {pN pU pR : Option Addr} {c0 c1 c2 z0 z1 z2 z3 z4 z8 z9 z10 z11 z12 z13 z15 z16 z17 z18 z19 z21 z22 z23 z24 z25 z27 z28 z29 z30 z31 z32 z33 z34 z35 z36 z37 z38 : Value} {lN lU lR : List Value} {listed : Array Bool} {Q : Exit → Act → World → Prop}
    (h : LayS M w w1 (.slice pN mN cN) (.slice pU mU cU) (.slice pR mR cR) kN kU kR lN lU lR [(B, .cells #[c0, c1, c2] 35 (0, 0))]) (hMB : New M w B)
    (hr22 : Region.ready .any rlayOps listed = [22]) (hr23 : Region.ready .any rlayOps (listed.setIfInBounds 22 true) = [23]) (hr24 : Region.ready .any rlayOps ((listed.setIfInBounds 22 true).setIfInBounds 23 true) = [24]) (hr25 : Region.ready .any rlayOps (((listed.setIfInBounds 22 true).setIfInBounds 23 true).setIfInBounds 24 true) = [25]) (hr26 : Region.ready .any rlayOps ((((listed.setIfInBounds 22 true).setIfInBounds 23 true).setIfInBounds 24 true).setIfInBounds 25 true) = [26]) (hr27 : Region.ready .any rlayOps (((((listed.setIfInBounds 22 true).setIfInBounds 23 true).setIfInBounds 24 true).setIfInBounds 25 true).setIfInBounds 26 true) = [27]) (hr28 : Region.ready .any rlayOps ((((((listed.setIfInBounds 22 true).setIfInBounds 23 true).setIfInBounds 24 true).setIfInBounds 25 true).setIfInBounds 26 true).setIfInBounds 27 true) = [28]) (hr29 : Region.ready .any rlayOps (((((((listed.setIfInBounds 22 true).setIfInBounds 23 true).setIfInBounds 24 true).setIfInBounds 25 true).setIfInBounds 26 true).setIfInBounds 27 true).setIfInBounds 28 true) = [29]) (hr30 : Region.ready .any rlayOps ((((((((listed.setIfInBounds 22 true).setIfInBounds 23 true).setIfInBounds 24 true).setIfInBounds 25 true).setIfInBounds 26 true).setIfInBounds 27 true).setIfInBounds 28 true).setIfInBounds 29 true) = [30]) (hr31 : Region.ready .any rlayOps (((((((((listed.setIfInBounds 22 true).setIfInBounds 23 true).setIfInBounds 24 true).setIfInBounds 25 true).setIfInBounds 26 true).setIfInBounds 27 true).setIfInBounds 28 true).setIfInBounds 29 true).setIfInBounds 30 true) = [])
    (hQ : ∀ (q27 q28 q29 q30 q31 q32 : Value) (w' : World), LayS M w w' (.slice pN mN cN) (.slice pU mU cU) (.slice pR mR cR) kN kU kR lN lU lR [(B, .cells #[.slice pN mN cN, .slice pU mU cU, .slice pR mR cR] 35 (0, 0))] → Q .normal { tmps := #[z0, z1, z2, z3, z4, .pointer (some ⟨B, 0, none⟩), .pointer (some ⟨B, 0, none⟩), .pointer (some ⟨B, 0, none⟩), z8, z9, z10, z11, z12, z13, .slice pN mN cN, z15, z16, z17, z18, z19, .slice pU mU cU, z21, z22, z23, z24, z25, .slice pR mR cR, q27, q28, q29, q30, q31, q32, z33, z34, z35, z36, z37, z38], defers := [] } w') :
    wpAnyL Try.prog .any rlayOps (NoPanic Q) S [22, 23, 24, 25, 26, 27, 28, 29, 30] 9 listed { tmps := #[z0, z1, z2, z3, z4, .pointer (some ⟨B, 0, none⟩), .pointer (some ⟨B, 0, none⟩), .pointer (some ⟨B, 0, none⟩), z8, z9, z10, z11, z12, z13, .slice pN mN cN, z15, z16, z17, z18, z19, .slice pU mU cU, z21, z22, z23, z24, z25, .slice pR mR cR, z27, z28, z29, z30, z31, z32, z33, z34, z35, z36, z37, z38], defers := [] } w1 := by
  have HQ := Lib.hid hQ
  have HR22 := Lib.hid hr22
  have HR23 := Lib.hid hr23
  have HR24 := Lib.hid hr24
  have HR25 := Lib.hid hr25
  have HR26 := Lib.hid hr26
  have HR27 := Lib.hid hr27
  have HR28 := Lib.hid hr28
  have HR29 := Lib.hid hr29
  have HR30 := Lib.hid hr30
  have HR31 := Lib.hid hr31
  clear hr22 hr23 hr24 hr25 hr26 hr27 hr28 hr29 hr30 hr31
  clear hQ
  refine wpAnyL_ready (rs := [22]) (HR22.out) (by simp) ?_
  refine AllReadyL.last (o := { dst := some 27, op := Op.nilCheck (Operand.tmp 5), type := 0, pos := "ref.go:23", after := #[{ on := 0, ground := Ground.data }, { on := 0, ground := Ground.phase }, { on := 1, ground := Ground.textOnly Departure.lateStores }, { on := 2, ground := Ground.textOnly Departure.lateStores }, { on := 3, ground := Ground.phase }, { on := 4, ground := Ground.phase }, { on := 5, ground := Ground.phase }, { on := 6, ground := Ground.phase }, { on := 7, ground := Ground.phase }, { on := 8, ground := Ground.phase }, { on := 9, ground := Ground.phase }, { on := 10, ground := Ground.textOnly Departure.lateStores }, { on := 11, ground := Ground.textOnly Departure.lateStoresUnsure }, { on := 12, ground := Ground.textOnly Departure.lateStoresUnsure }, { on := 13, ground := Ground.phase }, { on := 14, ground := Ground.textOnly Departure.lateStoresUnsure }, { on := 15, ground := Ground.phase }, { on := 16, ground := Ground.textOnly Departure.lateStores }, { on := 17, ground := Ground.textOnly Departure.lateStoresUnsure }, { on := 18, ground := Ground.textOnly Departure.lateStoresUnsure }, { on := 19, ground := Ground.phase }, { on := 20, ground := Ground.textOnly Departure.lateStoresUnsure }, { on := 21, ground := Ground.phase }], guard := none }) rfl (by kernel_rfl) (fun K hK => ?_) AllReadyL.nil
  go_simp
  refine hK.out _ _ ?_
  clear hK K
  try simp only [Act.put, List.setIfInBounds_toArray, List.set_cons_zero, List.set_cons_succ]
  refine wpAnyL_ready (rs := [23]) (HR23.out) (by simp) ?_
  refine AllReadyL.last (o := { dst := some 28, op := Op.fieldAddr 35 (Operand.tmp 27) 0, type := 0, pos := "ref.go:23", after := #[{ on := 22, ground := Ground.data }, { on := 0, ground := Ground.phase }, { on := 1, ground := Ground.textOnly Departure.lateStores }, { on := 2, ground := Ground.textOnly Departure.lateStores }, { on := 3, ground := Ground.phase }, { on := 4, ground := Ground.phase }, { on := 5, ground := Ground.phase }, { on := 6, ground := Ground.phase }, { on := 7, ground := Ground.phase }, { on := 8, ground := Ground.phase }, { on := 9, ground := Ground.phase }, { on := 10, ground := Ground.textOnly Departure.lateStores }, { on := 11, ground := Ground.textOnly Departure.lateStoresUnsure }, { on := 12, ground := Ground.textOnly Departure.lateStoresUnsure }, { on := 13, ground := Ground.phase }, { on := 14, ground := Ground.textOnly Departure.lateStoresUnsure }, { on := 15, ground := Ground.phase }, { on := 16, ground := Ground.textOnly Departure.lateStores }, { on := 17, ground := Ground.textOnly Departure.lateStoresUnsure }, { on := 18, ground := Ground.textOnly Departure.lateStoresUnsure }, { on := 19, ground := Ground.phase }, { on := 20, ground := Ground.textOnly Departure.lateStoresUnsure }, { on := 21, ground := Ground.phase }], guard := none }) rfl (by kernel_rfl) (fun K hK => ?_) AllReadyL.nil
  go_simp
  refine hK.out _ _ ?_
  clear hK K
  try simp only [Act.put, List.setIfInBounds_toArray, List.set_cons_zero, List.set_cons_succ]
  have cB := (block_cell6 (h.ex (B, (.cells #[c0, c1, c2] 35 (0, 0))) (by simp)).1 0).1
  have fB := (block_cell6 (h.ex (B, (.cells #[c0, c1, c2] 35 (0, 0))) (by simp)).1 0).2
  simp at cB
  refine wpAnyL_ready (rs := [24]) (HR24.out) (by simp) ?_
  refine AllReadyL.last (o := { dst := none, op := Op.store 31 (Operand.tmp 28) (Operand.tmp 14), type := 0, pos := "ref.go:23", after := #[{ on := 23, ground := Ground.data }, { on := 9, ground := Ground.data }, { on := 21, ground := Ground.chain }, { on := 0, ground := Ground.phase }, { on := 1, ground := Ground.textOnly Departure.lateStores }, { on := 2, ground := Ground.textOnly Departure.lateStores }, { on := 3, ground := Ground.phase }, { on := 4, ground := Ground.phase }, { on := 5, ground := Ground.phase }, { on := 6, ground := Ground.phase }, { on := 7, ground := Ground.phase }, { on := 8, ground := Ground.phase }, { on := 9, ground := Ground.phase }, { on := 10, ground := Ground.textOnly Departure.lateStores }, { on := 11, ground := Ground.textOnly Departure.lateStoresUnsure }, { on := 12, ground := Ground.textOnly Departure.lateStoresUnsure }, { on := 13, ground := Ground.phase }, { on := 14, ground := Ground.textOnly Departure.lateStoresUnsure }, { on := 15, ground := Ground.phase }, { on := 16, ground := Ground.textOnly Departure.lateStores }, { on := 17, ground := Ground.textOnly Departure.lateStoresUnsure }, { on := 18, ground := Ground.textOnly Departure.lateStoresUnsure }, { on := 19, ground := Ground.phase }, { on := 20, ground := Ground.textOnly Departure.lateStoresUnsure }, { on := 21, ground := Ground.phase }], guard := none }) rfl (by kernel_rfl) (fun K hK => ?_) AllReadyL.nil
  go_simp
  have h1 := h.set (i := 0) hMB (.slice pN mN cN)
  simp only [List.setIfInBounds_toArray, List.set_cons_zero] at h1
  clear cB fB
  refine hK.out _ _ ?_
  clear hK K
  try simp only [Act.put, List.setIfInBounds_toArray, List.set_cons_zero, List.set_cons_succ]
  generalize (w1.setCell ⟨B, 0, none⟩ (.slice pN mN cN)) = W1 at *
  refine wpAnyL_ready (rs := [25]) (HR25.out) (by simp) ?_
  refine AllReadyL.last (o := { dst := some 29, op := Op.nilCheck (Operand.tmp 6), type := 0, pos := "ref.go:23", after := #[{ on := 1, ground := Ground.data }, { on := 0, ground := Ground.phase }, { on := 1, ground := Ground.phase }, { on := 2, ground := Ground.textOnly Departure.lateStores }, { on := 3, ground := Ground.phase }, { on := 4, ground := Ground.phase }, { on := 5, ground := Ground.phase }, { on := 6, ground := Ground.phase }, { on := 7, ground := Ground.phase }, { on := 8, ground := Ground.phase }, { on := 9, ground := Ground.phase }, { on := 10, ground := Ground.phase }, { on := 11, ground := Ground.phase }, { on := 12, ground := Ground.phase }, { on := 13, ground := Ground.phase }, { on := 14, ground := Ground.phase }, { on := 15, ground := Ground.phase }, { on := 16, ground := Ground.textOnly Departure.lateStores }, { on := 17, ground := Ground.textOnly Departure.lateStoresUnsure }, { on := 18, ground := Ground.textOnly Departure.lateStoresUnsure }, { on := 19, ground := Ground.phase }, { on := 20, ground := Ground.textOnly Departure.lateStoresUnsure }, { on := 21, ground := Ground.phase }, { on := 22, ground := Ground.phase }, { on := 23, ground := Ground.phase }, { on := 24, ground := Ground.phase }], guard := none }) rfl (by kernel_rfl) (fun K hK => ?_) AllReadyL.nil
  go_simp
  refine hK.out _ _ ?_
  clear hK K
  try simp only [Act.put, List.setIfInBounds_toArray, List.set_cons_zero, List.set_cons_succ]
  refine wpAnyL_ready (rs := [26]) (HR26.out) (by simp) ?_
  refine AllReadyL.last (o := { dst := some 30, op := Op.fieldAddr 35 (Operand.tmp 29) 1, type := 0, pos := "ref.go:23", after := #[{ on := 25, ground := Ground.data }, { on := 0, ground := Ground.phase }, { on := 1, ground := Ground.phase }, { on := 2, ground := Ground.textOnly Departure.lateStores }, { on := 3, ground := Ground.phase }, { on := 4, ground := Ground.phase }, { on := 5, ground := Ground.phase }, { on := 6, ground := Ground.phase }, { on := 7, ground := Ground.phase }, { on := 8, ground := Ground.phase }, { on := 9, ground := Ground.phase }, { on := 10, ground := Ground.phase }, { on := 11, ground := Ground.phase }, { on := 12, ground := Ground.phase }, { on := 13, ground := Ground.phase }, { on := 14, ground := Ground.phase }, { on := 15, ground := Ground.phase }, { on := 16, ground := Ground.textOnly Departure.lateStores }, { on := 17, ground := Ground.textOnly Departure.lateStoresUnsure }, { on := 18, ground := Ground.textOnly Departure.lateStoresUnsure }, { on := 19, ground := Ground.phase }, { on := 20, ground := Ground.textOnly Departure.lateStoresUnsure }, { on := 21, ground := Ground.phase }, { on := 22, ground := Ground.phase }, { on := 23, ground := Ground.phase }, { on := 24, ground := Ground.phase }], guard := none }) rfl (by kernel_rfl) (fun K hK => ?_) AllReadyL.nil
  go_simp
  refine hK.out _ _ ?_
  clear hK K
  try simp only [Act.put, List.setIfInBounds_toArray, List.set_cons_zero, List.set_cons_succ]
  have cB := (block_cell6 (h1.ex (B, (.cells #[.slice pN mN cN, c1, c2] 35 (0, 0))) (by simp)).1 1).1
  have fB := (block_cell6 (h1.ex (B, (.cells #[.slice pN mN cN, c1, c2] 35 (0, 0))) (by simp)).1 1).2
  simp at cB
  refine wpAnyL_ready (rs := [27]) (HR27.out) (by simp) ?_
  refine AllReadyL.last (o := { dst := none, op := Op.store 32 (Operand.tmp 30) (Operand.tmp 20), type := 0, pos := "ref.go:23", after := #[{ on := 26, ground := Ground.data }, { on := 15, ground := Ground.data }, { on := 24, ground := Ground.chain }, { on := 0, ground := Ground.phase }, { on := 1, ground := Ground.phase }, { on := 2, ground := Ground.textOnly Departure.lateStores }, { on := 3, ground := Ground.phase }, { on := 4, ground := Ground.phase }, { on := 5, ground := Ground.phase }, { on := 6, ground := Ground.phase }, { on := 7, ground := Ground.phase }, { on := 8, ground := Ground.phase }, { on := 9, ground := Ground.phase }, { on := 10, ground := Ground.phase }, { on := 11, ground := Ground.phase }, { on := 12, ground := Ground.phase }, { on := 13, ground := Ground.phase }, { on := 14, ground := Ground.phase }, { on := 15, ground := Ground.phase }, { on := 16, ground := Ground.textOnly Departure.lateStores }, { on := 17, ground := Ground.textOnly Departure.lateStoresUnsure }, { on := 18, ground := Ground.textOnly Departure.lateStoresUnsure }, { on := 19, ground := Ground.phase }, { on := 20, ground := Ground.textOnly Departure.lateStoresUnsure }, { on := 21, ground := Ground.phase }, { on := 22, ground := Ground.phase }, { on := 23, ground := Ground.phase }, { on := 24, ground := Ground.phase }], guard := none }) rfl (by kernel_rfl) (fun K hK => ?_) AllReadyL.nil
  go_simp
  have h2 := h1.set (i := 1) hMB (.slice pU mU cU)
  simp only [List.setIfInBounds_toArray, List.set_cons_zero, List.set_cons_succ] at h2
  clear cB fB
  refine hK.out _ _ ?_
  clear hK K
  try simp only [Act.put, List.setIfInBounds_toArray, List.set_cons_zero, List.set_cons_succ]
  generalize (W1.setCell ⟨B, 1, none⟩ (.slice pU mU cU)) = W2 at *
  refine wpAnyL_ready (rs := [28]) (HR28.out) (by simp) ?_
  refine AllReadyL.last (o := { dst := some 31, op := Op.nilCheck (Operand.tmp 7), type := 0, pos := "ref.go:23", after := #[{ on := 2, ground := Ground.data }, { on := 0, ground := Ground.phase }, { on := 1, ground := Ground.phase }, { on := 2, ground := Ground.phase }, { on := 3, ground := Ground.phase }, { on := 4, ground := Ground.phase }, { on := 5, ground := Ground.phase }, { on := 6, ground := Ground.phase }, { on := 7, ground := Ground.phase }, { on := 8, ground := Ground.phase }, { on := 9, ground := Ground.phase }, { on := 10, ground := Ground.phase }, { on := 11, ground := Ground.phase }, { on := 12, ground := Ground.phase }, { on := 13, ground := Ground.phase }, { on := 14, ground := Ground.phase }, { on := 15, ground := Ground.phase }, { on := 16, ground := Ground.phase }, { on := 17, ground := Ground.phase }, { on := 18, ground := Ground.phase }, { on := 19, ground := Ground.phase }, { on := 20, ground := Ground.phase }, { on := 21, ground := Ground.phase }, { on := 22, ground := Ground.phase }, { on := 23, ground := Ground.phase }, { on := 24, ground := Ground.phase }, { on := 25, ground := Ground.phase }, { on := 26, ground := Ground.phase }, { on := 27, ground := Ground.phase }], guard := none }) rfl (by kernel_rfl) (fun K hK => ?_) AllReadyL.nil
  go_simp
  refine hK.out _ _ ?_
  clear hK K
  try simp only [Act.put, List.setIfInBounds_toArray, List.set_cons_zero, List.set_cons_succ]
  refine wpAnyL_ready (rs := [29]) (HR29.out) (by simp) ?_
  refine AllReadyL.last (o := { dst := some 32, op := Op.fieldAddr 35 (Operand.tmp 31) 2, type := 0, pos := "ref.go:23", after := #[{ on := 28, ground := Ground.data }, { on := 0, ground := Ground.phase }, { on := 1, ground := Ground.phase }, { on := 2, ground := Ground.phase }, { on := 3, ground := Ground.phase }, { on := 4, ground := Ground.phase }, { on := 5, ground := Ground.phase }, { on := 6, ground := Ground.phase }, { on := 7, ground := Ground.phase }, { on := 8, ground := Ground.phase }, { on := 9, ground := Ground.phase }, { on := 10, ground := Ground.phase }, { on := 11, ground := Ground.phase }, { on := 12, ground := Ground.phase }, { on := 13, ground := Ground.phase }, { on := 14, ground := Ground.phase }, { on := 15, ground := Ground.phase }, { on := 16, ground := Ground.phase }, { on := 17, ground := Ground.phase }, { on := 18, ground := Ground.phase }, { on := 19, ground := Ground.phase }, { on := 20, ground := Ground.phase }, { on := 21, ground := Ground.phase }, { on := 22, ground := Ground.phase }, { on := 23, ground := Ground.phase }, { on := 24, ground := Ground.phase }, { on := 25, ground := Ground.phase }, { on := 26, ground := Ground.phase }, { on := 27, ground := Ground.phase }], guard := none }) rfl (by kernel_rfl) (fun K hK => ?_) AllReadyL.nil
  go_simp
  refine hK.out _ _ ?_
  clear hK K
  try simp only [Act.put, List.setIfInBounds_toArray, List.set_cons_zero, List.set_cons_succ]
  have cB := (block_cell6 (h2.ex (B, (.cells #[.slice pN mN cN, .slice pU mU cU, c2] 35 (0, 0))) (by simp)).1 2).1
  have fB := (block_cell6 (h2.ex (B, (.cells #[.slice pN mN cN, .slice pU mU cU, c2] 35 (0, 0))) (by simp)).1 2).2
  simp at cB
  refine wpAnyL_ready (rs := [30]) (HR30.out) (by simp) ?_
  refine AllReadyL.last (o := { dst := none, op := Op.store 33 (Operand.tmp 32) (Operand.tmp 26), type := 0, pos := "ref.go:23", after := #[{ on := 29, ground := Ground.data }, { on := 21, ground := Ground.data }, { on := 27, ground := Ground.chain }, { on := 0, ground := Ground.phase }, { on := 1, ground := Ground.phase }, { on := 2, ground := Ground.phase }, { on := 3, ground := Ground.phase }, { on := 4, ground := Ground.phase }, { on := 5, ground := Ground.phase }, { on := 6, ground := Ground.phase }, { on := 7, ground := Ground.phase }, { on := 8, ground := Ground.phase }, { on := 9, ground := Ground.phase }, { on := 10, ground := Ground.phase }, { on := 11, ground := Ground.phase }, { on := 12, ground := Ground.phase }, { on := 13, ground := Ground.phase }, { on := 14, ground := Ground.phase }, { on := 15, ground := Ground.phase }, { on := 16, ground := Ground.phase }, { on := 17, ground := Ground.phase }, { on := 18, ground := Ground.phase }, { on := 19, ground := Ground.phase }, { on := 20, ground := Ground.phase }, { on := 21, ground := Ground.phase }, { on := 22, ground := Ground.phase }, { on := 23, ground := Ground.phase }, { on := 24, ground := Ground.phase }, { on := 25, ground := Ground.phase }, { on := 26, ground := Ground.phase }, { on := 27, ground := Ground.phase }], guard := none }) rfl (by kernel_rfl) (fun K hK => ?_) AllReadyL.nil
  go_simp
  have h3 := h2.set (i := 2) hMB (.slice pR mR cR)
  simp only [List.setIfInBounds_toArray, List.set_cons_zero, List.set_cons_succ] at h3
  clear cB fB
  refine hK.out _ _ ?_
  clear hK K
  try simp only [Act.put, List.setIfInBounds_toArray, List.set_cons_zero, List.set_cons_succ]
  generalize (W2.setCell ⟨B, 2, none⟩ (.slice pR mR cR)) = W3 at *
  refine wpAnyL_done HR31.out ?_ _
  try simp only [Act.put, List.setIfInBounds_toArray, List.set_cons_zero, List.set_cons_succ]
  exact NoPanic.normal (HQ.out _ _ _ _ _ _ _ h3)

set_option maxHeartbeats 16000000 in
set_option maxRecDepth 100000 in
theorem rlay_reg {M : Nat → Prop} {w : World} {B T m cN cU cR la ca : Nat} {pN pU pR pa : Option Addr} {x0 x1 x5 : Int} {NM TX : ByteArray} {lN lU lR : List Value} {Q : Exit → Act → World → Prop} {u1 u2 u4 u5 u6 u7 u8 u9 u10 u11 u12 u13 u14 u15 u16 u17 u18 u19 u20 u21 u22 u23 u24 u25 u26 u27 u28 u29 u30 u31 u32 u33 u34 u35 u36 u37 u38 : Value}
    (h : LayS M w w (.slice pN m cN) (.slice pU m cU) (.slice pR m cR) m m m lN lU lR [(T, (.cells #[.int .i64 x0, .int .i64 x1, .string NM, .slice pa la ca, .string TX, .int .i64 x5, .slice none 0 0] 43 (0, 0))), (B, (.cells #[.slice pN m cN, .slice pU m cU, .slice pR m cR] 35 (0, 0)))]) (hMB : New M w B) (hm : m ≤ 4294967296)
    (hQ : ∀ (y5 y6 y7 y8 y9 y10 y11 y12 y13 y14 y15 y16 y17 y18 y19 y20 y21 y22 y23 y24 y25 y26 y27 y28 y29 y30 y31 y32 vN vU vR : Value) (w' : World), LayS M w w' vN vU vR (m + 1) (m + 1) (m + 1) (lN ++ [.int .i64 x0, .int .i64 x1, .string NM, .slice pa la ca, .string TX, .int .i64 x5, .slice none 0 0]) (lU ++ [.int .i64 (-1)]) (lR ++ [.slice none 0 0]) [(B, .cells #[vN, vU, vR] 35 (0, 0))] → Q .normal { tmps := #[.pointer (some ⟨B, 0, none⟩), u1, u2, .pointer (some ⟨T, 0, none⟩), u4, y5, y6, y7, y8, y9, y10, y11, y12, y13, y14, y15, y16, y17, y18, y19, y20, y21, y22, y23, y24, y25, y26, y27, y28, y29, y30, y31, y32, u33, u34, u35, u36, u37, u38], defers := [] } w') :
    (Code.region 1 #[{ dst := some 5, op := Op.move (Operand.tmp 0), type := 26, pos := "ref.go:23", after := #[], guard := none }, { dst := some 6, op := Op.move (Operand.tmp 0), type := 26, pos := "ref.go:23", after := #[{ on := 24, ground := Ground.gcOnly Departure.lateStores }], guard := none }, { dst := some 7, op := Op.move (Operand.tmp 0), type := 26, pos := "ref.go:23", after := #[{ on := 27, ground := Ground.gcOnly Departure.lateStores }], guard := none }, { dst := some 8, op := Op.move (Operand.tmp 0), type := 26, pos := "ref.go:23", after := #[], guard := none }, { dst := some 9, op := Op.nilCheck (Operand.tmp 8), type := 0, pos := "ref.go:23", after := #[{ on := 3, ground := Ground.data }], guard := none }, { dst := some 10, op := Op.fieldAddr 35 (Operand.tmp 9) 0, type := 0, pos := "ref.go:23", after := #[{ on := 4, ground := Ground.data }], guard := none }, { dst := some 11, op := Op.load 31 (Operand.tmp 10), type := 31, pos := "ref.go:23", after := #[{ on := 5, ground := Ground.data }], guard := none }, { dst := some 12, op := Op.load 43 (Operand.tmp 3), type := 43, pos := "ref.go:23", after := #[], guard := none }, { dst := some 13, op := Op.buildSlice 31 1 #[(0, Operand.tmp 12)], type := 31, pos := "ref.go:23", after := #[{ on := 7, ground := Ground.data }], guard := none }, { dst := some 14, op := Op.call { callee := Callee.builtin Builtin.append, args := #[Operand.tmp 11, Operand.tmp 13], argTypes := #[ 31, 31 ] }, type := 31, pos := "ref.go:23", after := #[{ on := 6, ground := Ground.data }, { on := 8, ground := Ground.data }], guard := none }, { dst := some 15, op := Op.move (Operand.tmp 0), type := 26, pos := "ref.go:23", after := #[], guard := none }, { dst := some 16, op := Op.nilCheck (Operand.tmp 15), type := 0, pos := "ref.go:23", after := #[{ on := 10, ground := Ground.data }], guard := none }, { dst := some 17, op := Op.fieldAddr 35 (Operand.tmp 16) 1, type := 0, pos := "ref.go:23", after := #[{ on := 11, ground := Ground.data }], guard := none }, { dst := some 18, op := Op.load 32 (Operand.tmp 17), type := 32, pos := "ref.go:23", after := #[{ on := 12, ground := Ground.data }], guard := none }, { dst := some 19, op := Op.buildSlice 32 1 #[(0, Operand.const (Value.int IntKind.i64 (-1)))], type := 32, pos := "ref.go:23", after := #[], guard := none }, { dst := some 20, op := Op.call { callee := Callee.builtin Builtin.append, args := #[Operand.tmp 18, Operand.tmp 19], argTypes := #[ 32, 32 ] }, type := 32, pos := "ref.go:23", after := #[{ on := 13, ground := Ground.data }, { on := 14, ground := Ground.data }, { on := 9, ground := Ground.chain }], guard := none }, { dst := some 21, op := Op.move (Operand.tmp 0), type := 26, pos := "ref.go:23", after := #[], guard := none }, { dst := some 22, op := Op.nilCheck (Operand.tmp 21), type := 0, pos := "ref.go:23", after := #[{ on := 16, ground := Ground.data }], guard := none }, { dst := some 23, op := Op.fieldAddr 35 (Operand.tmp 22) 2, type := 0, pos := "ref.go:23", after := #[{ on := 17, ground := Ground.data }], guard := none }, { dst := some 24, op := Op.load 33 (Operand.tmp 23), type := 33, pos := "ref.go:23", after := #[{ on := 18, ground := Ground.data }], guard := none }, { dst := some 25, op := Op.buildSlice 33 1 #[(0, Operand.const (Value.slice none 0 0))], type := 33, pos := "ref.go:23", after := #[], guard := none }, { dst := some 26, op := Op.call { callee := Callee.builtin Builtin.append, args := #[Operand.tmp 24, Operand.tmp 25], argTypes := #[ 33, 33 ] }, type := 33, pos := "ref.go:23", after := #[{ on := 19, ground := Ground.data }, { on := 20, ground := Ground.data }, { on := 15, ground := Ground.chain }], guard := none }, { dst := some 27, op := Op.nilCheck (Operand.tmp 5), type := 0, pos := "ref.go:23", after := #[{ on := 0, ground := Ground.data }, { on := 0, ground := Ground.phase }, { on := 1, ground := Ground.textOnly Departure.lateStores }, { on := 2, ground := Ground.textOnly Departure.lateStores }, { on := 3, ground := Ground.phase }, { on := 4, ground := Ground.phase }, { on := 5, ground := Ground.phase }, { on := 6, ground := Ground.phase }, { on := 7, ground := Ground.phase }, { on := 8, ground := Ground.phase }, { on := 9, ground := Ground.phase }, { on := 10, ground := Ground.textOnly Departure.lateStores }, { on := 11, ground := Ground.textOnly Departure.lateStoresUnsure }, { on := 12, ground := Ground.textOnly Departure.lateStoresUnsure }, { on := 13, ground := Ground.phase }, { on := 14, ground := Ground.textOnly Departure.lateStoresUnsure }, { on := 15, ground := Ground.phase }, { on := 16, ground := Ground.textOnly Departure.lateStores }, { on := 17, ground := Ground.textOnly Departure.lateStoresUnsure }, { on := 18, ground := Ground.textOnly Departure.lateStoresUnsure }, { on := 19, ground := Ground.phase }, { on := 20, ground := Ground.textOnly Departure.lateStoresUnsure }, { on := 21, ground := Ground.phase }], guard := none }, { dst := some 28, op := Op.fieldAddr 35 (Operand.tmp 27) 0, type := 0, pos := "ref.go:23", after := #[{ on := 22, ground := Ground.data }, { on := 0, ground := Ground.phase }, { on := 1, ground := Ground.textOnly Departure.lateStores }, { on := 2, ground := Ground.textOnly Departure.lateStores }, { on := 3, ground := Ground.phase }, { on := 4, ground := Ground.phase }, { on := 5, ground := Ground.phase }, { on := 6, ground := Ground.phase }, { on := 7, ground := Ground.phase }, { on := 8, ground := Ground.phase }, { on := 9, ground := Ground.phase }, { on := 10, ground := Ground.textOnly Departure.lateStores }, { on := 11, ground := Ground.textOnly Departure.lateStoresUnsure }, { on := 12, ground := Ground.textOnly Departure.lateStoresUnsure }, { on := 13, ground := Ground.phase }, { on := 14, ground := Ground.textOnly Departure.lateStoresUnsure }, { on := 15, ground := Ground.phase }, { on := 16, ground := Ground.textOnly Departure.lateStores }, { on := 17, ground := Ground.textOnly Departure.lateStoresUnsure }, { on := 18, ground := Ground.textOnly Departure.lateStoresUnsure }, { on := 19, ground := Ground.phase }, { on := 20, ground := Ground.textOnly Departure.lateStoresUnsure }, { on := 21, ground := Ground.phase }], guard := none }, { dst := none, op := Op.store 31 (Operand.tmp 28) (Operand.tmp 14), type := 0, pos := "ref.go:23", after := #[{ on := 23, ground := Ground.data }, { on := 9, ground := Ground.data }, { on := 21, ground := Ground.chain }, { on := 0, ground := Ground.phase }, { on := 1, ground := Ground.textOnly Departure.lateStores }, { on := 2, ground := Ground.textOnly Departure.lateStores }, { on := 3, ground := Ground.phase }, { on := 4, ground := Ground.phase }, { on := 5, ground := Ground.phase }, { on := 6, ground := Ground.phase }, { on := 7, ground := Ground.phase }, { on := 8, ground := Ground.phase }, { on := 9, ground := Ground.phase }, { on := 10, ground := Ground.textOnly Departure.lateStores }, { on := 11, ground := Ground.textOnly Departure.lateStoresUnsure }, { on := 12, ground := Ground.textOnly Departure.lateStoresUnsure }, { on := 13, ground := Ground.phase }, { on := 14, ground := Ground.textOnly Departure.lateStoresUnsure }, { on := 15, ground := Ground.phase }, { on := 16, ground := Ground.textOnly Departure.lateStores }, { on := 17, ground := Ground.textOnly Departure.lateStoresUnsure }, { on := 18, ground := Ground.textOnly Departure.lateStoresUnsure }, { on := 19, ground := Ground.phase }, { on := 20, ground := Ground.textOnly Departure.lateStoresUnsure }, { on := 21, ground := Ground.phase }], guard := none }, { dst := some 29, op := Op.nilCheck (Operand.tmp 6), type := 0, pos := "ref.go:23", after := #[{ on := 1, ground := Ground.data }, { on := 0, ground := Ground.phase }, { on := 1, ground := Ground.phase }, { on := 2, ground := Ground.textOnly Departure.lateStores }, { on := 3, ground := Ground.phase }, { on := 4, ground := Ground.phase }, { on := 5, ground := Ground.phase }, { on := 6, ground := Ground.phase }, { on := 7, ground := Ground.phase }, { on := 8, ground := Ground.phase }, { on := 9, ground := Ground.phase }, { on := 10, ground := Ground.phase }, { on := 11, ground := Ground.phase }, { on := 12, ground := Ground.phase }, { on := 13, ground := Ground.phase }, { on := 14, ground := Ground.phase }, { on := 15, ground := Ground.phase }, { on := 16, ground := Ground.textOnly Departure.lateStores }, { on := 17, ground := Ground.textOnly Departure.lateStoresUnsure }, { on := 18, ground := Ground.textOnly Departure.lateStoresUnsure }, { on := 19, ground := Ground.phase }, { on := 20, ground := Ground.textOnly Departure.lateStoresUnsure }, { on := 21, ground := Ground.phase }, { on := 22, ground := Ground.phase }, { on := 23, ground := Ground.phase }, { on := 24, ground := Ground.phase }], guard := none }, { dst := some 30, op := Op.fieldAddr 35 (Operand.tmp 29) 1, type := 0, pos := "ref.go:23", after := #[{ on := 25, ground := Ground.data }, { on := 0, ground := Ground.phase }, { on := 1, ground := Ground.phase }, { on := 2, ground := Ground.textOnly Departure.lateStores }, { on := 3, ground := Ground.phase }, { on := 4, ground := Ground.phase }, { on := 5, ground := Ground.phase }, { on := 6, ground := Ground.phase }, { on := 7, ground := Ground.phase }, { on := 8, ground := Ground.phase }, { on := 9, ground := Ground.phase }, { on := 10, ground := Ground.phase }, { on := 11, ground := Ground.phase }, { on := 12, ground := Ground.phase }, { on := 13, ground := Ground.phase }, { on := 14, ground := Ground.phase }, { on := 15, ground := Ground.phase }, { on := 16, ground := Ground.textOnly Departure.lateStores }, { on := 17, ground := Ground.textOnly Departure.lateStoresUnsure }, { on := 18, ground := Ground.textOnly Departure.lateStoresUnsure }, { on := 19, ground := Ground.phase }, { on := 20, ground := Ground.textOnly Departure.lateStoresUnsure }, { on := 21, ground := Ground.phase }, { on := 22, ground := Ground.phase }, { on := 23, ground := Ground.phase }, { on := 24, ground := Ground.phase }], guard := none }, { dst := none, op := Op.store 32 (Operand.tmp 30) (Operand.tmp 20), type := 0, pos := "ref.go:23", after := #[{ on := 26, ground := Ground.data }, { on := 15, ground := Ground.data }, { on := 24, ground := Ground.chain }, { on := 0, ground := Ground.phase }, { on := 1, ground := Ground.phase }, { on := 2, ground := Ground.textOnly Departure.lateStores }, { on := 3, ground := Ground.phase }, { on := 4, ground := Ground.phase }, { on := 5, ground := Ground.phase }, { on := 6, ground := Ground.phase }, { on := 7, ground := Ground.phase }, { on := 8, ground := Ground.phase }, { on := 9, ground := Ground.phase }, { on := 10, ground := Ground.phase }, { on := 11, ground := Ground.phase }, { on := 12, ground := Ground.phase }, { on := 13, ground := Ground.phase }, { on := 14, ground := Ground.phase }, { on := 15, ground := Ground.phase }, { on := 16, ground := Ground.textOnly Departure.lateStores }, { on := 17, ground := Ground.textOnly Departure.lateStoresUnsure }, { on := 18, ground := Ground.textOnly Departure.lateStoresUnsure }, { on := 19, ground := Ground.phase }, { on := 20, ground := Ground.textOnly Departure.lateStoresUnsure }, { on := 21, ground := Ground.phase }, { on := 22, ground := Ground.phase }, { on := 23, ground := Ground.phase }, { on := 24, ground := Ground.phase }], guard := none }, { dst := some 31, op := Op.nilCheck (Operand.tmp 7), type := 0, pos := "ref.go:23", after := #[{ on := 2, ground := Ground.data }, { on := 0, ground := Ground.phase }, { on := 1, ground := Ground.phase }, { on := 2, ground := Ground.phase }, { on := 3, ground := Ground.phase }, { on := 4, ground := Ground.phase }, { on := 5, ground := Ground.phase }, { on := 6, ground := Ground.phase }, { on := 7, ground := Ground.phase }, { on := 8, ground := Ground.phase }, { on := 9, ground := Ground.phase }, { on := 10, ground := Ground.phase }, { on := 11, ground := Ground.phase }, { on := 12, ground := Ground.phase }, { on := 13, ground := Ground.phase }, { on := 14, ground := Ground.phase }, { on := 15, ground := Ground.phase }, { on := 16, ground := Ground.phase }, { on := 17, ground := Ground.phase }, { on := 18, ground := Ground.phase }, { on := 19, ground := Ground.phase }, { on := 20, ground := Ground.phase }, { on := 21, ground := Ground.phase }, { on := 22, ground := Ground.phase }, { on := 23, ground := Ground.phase }, { on := 24, ground := Ground.phase }, { on := 25, ground := Ground.phase }, { on := 26, ground := Ground.phase }, { on := 27, ground := Ground.phase }], guard := none }, { dst := some 32, op := Op.fieldAddr 35 (Operand.tmp 31) 2, type := 0, pos := "ref.go:23", after := #[{ on := 28, ground := Ground.data }, { on := 0, ground := Ground.phase }, { on := 1, ground := Ground.phase }, { on := 2, ground := Ground.phase }, { on := 3, ground := Ground.phase }, { on := 4, ground := Ground.phase }, { on := 5, ground := Ground.phase }, { on := 6, ground := Ground.phase }, { on := 7, ground := Ground.phase }, { on := 8, ground := Ground.phase }, { on := 9, ground := Ground.phase }, { on := 10, ground := Ground.phase }, { on := 11, ground := Ground.phase }, { on := 12, ground := Ground.phase }, { on := 13, ground := Ground.phase }, { on := 14, ground := Ground.phase }, { on := 15, ground := Ground.phase }, { on := 16, ground := Ground.phase }, { on := 17, ground := Ground.phase }, { on := 18, ground := Ground.phase }, { on := 19, ground := Ground.phase }, { on := 20, ground := Ground.phase }, { on := 21, ground := Ground.phase }, { on := 22, ground := Ground.phase }, { on := 23, ground := Ground.phase }, { on := 24, ground := Ground.phase }, { on := 25, ground := Ground.phase }, { on := 26, ground := Ground.phase }, { on := 27, ground := Ground.phase }], guard := none }, { dst := none, op := Op.store 33 (Operand.tmp 32) (Operand.tmp 26), type := 0, pos := "ref.go:23", after := #[{ on := 29, ground := Ground.data }, { on := 21, ground := Ground.data }, { on := 27, ground := Ground.chain }, { on := 0, ground := Ground.phase }, { on := 1, ground := Ground.phase }, { on := 2, ground := Ground.phase }, { on := 3, ground := Ground.phase }, { on := 4, ground := Ground.phase }, { on := 5, ground := Ground.phase }, { on := 6, ground := Ground.phase }, { on := 7, ground := Ground.phase }, { on := 8, ground := Ground.phase }, { on := 9, ground := Ground.phase }, { on := 10, ground := Ground.phase }, { on := 11, ground := Ground.phase }, { on := 12, ground := Ground.phase }, { on := 13, ground := Ground.phase }, { on := 14, ground := Ground.phase }, { on := 15, ground := Ground.phase }, { on := 16, ground := Ground.phase }, { on := 17, ground := Ground.phase }, { on := 18, ground := Ground.phase }, { on := 19, ground := Ground.phase }, { on := 20, ground := Ground.phase }, { on := 21, ground := Ground.phase }, { on := 22, ground := Ground.phase }, { on := 23, ground := Ground.phase }, { on := 24, ground := Ground.phase }, { on := 25, ground := Ground.phase }, { on := 26, ground := Ground.phase }, { on := 27, ground := Ground.phase }], guard := none }] true).wp Try.prog Q { tmps := #[.pointer (some ⟨B, 0, none⟩), u1, u2, .pointer (some ⟨T, 0, none⟩), u4, u5, u6, u7, u8, u9, u10, u11, u12, u13, u14, u15, u16, u17, u18, u19, u20, u21, u22, u23, u24, u25, u26, u27, u28, u29, u30, u31, u32, u33, u34, u35, u36, u37, u38], defers := [] } w := by
  refine wp_region_noPanic ?_
  have HQ := Lib.hid hQ
  have HRE := Lib.hid (lateOk_spec (md := .any) (ops := rlayOps) (late := [22, 23, 24, 25, 26, 27, 28, 29, 30]) (is := [0, 3, 4, 5, 6, 7, 10, 11, 12, 13, 16, 17, 18, 19]) (f := 8) (by kernel_rfl))
  obtain ⟨iN, n1, n2, n3, n4⟩ := info_node
  obtain ⟨iU, n5, n6, n7, n8⟩ := info_int
  obtain ⟨iR, n9, n10, n11, n12⟩ := info_row
  have HIN := Lib.hid (And.intro n1 (And.intro n2 (And.intro n3 n4)))
  have HIU := Lib.hid (And.intro n5 (And.intro n6 (And.intro n7 n8)))
  have HIR := Lib.hid (And.intro n9 (And.intro n10 (And.intro n11 n12)))
  have HSB : Hid (∀ W : World, W.heap[B]? = some (.cells #[.slice pN m cN, .slice pU m cU, .slice pR m cR] 35 (0, 0)) → W.heap[T]? = some (.cells #[.int .i64 x0, .int .i64 x1, .string NM, .slice pa la ca, .string TX, .int .i64 x5, .slice none 0 0] 43 (0, 0)) → W.cell? ⟨B, 0, none⟩ = some (.slice pN m cN) ∧ W.cell? ⟨B, 1, none⟩ = some (.slice pU m cU) ∧ W.cell? ⟨B, 2, none⟩ = some (.slice pR m cR) ∧ W.cell? ⟨T, 0, none⟩ = some (.int .i64 x0) ∧ W.cell? ⟨T, 1, none⟩ = some (.int .i64 x1) ∧ W.cell? ⟨T, 2, none⟩ = some (.string NM) ∧ W.cell? ⟨T, 3, none⟩ = some (.slice pa la ca) ∧ W.cell? ⟨T, 4, none⟩ = some (.string TX) ∧ W.cell? ⟨T, 5, none⟩ = some (.int .i64 x5) ∧ W.cell? ⟨T, 6, none⟩ = some (.slice none 0 0)) := Lib.hid fun W hb ht => ⟨(block_cell6 hb 0).1, (block_cell6 hb 1).1, (block_cell6 hb 2).1, (block_cell6 ht 0).1, (block_cell6 ht 1).1, (block_cell6 ht 2).1, (block_cell6 ht 3).1, (block_cell6 ht 4).1, (block_cell6 ht 5).1, (block_cell6 ht 6).1⟩
  have h0 := h.on (Below.refl _ w).drew
  clear hQ h n1 n2 n3 n4 n5 n6 n7 n8 n9 n10 n11 n12
  refine wp_region_heldL_drew (late := [22, 23, 24, 25, 26, 27, 28, 29, 30]) (S := fun W => W.cell? ⟨B, 0, none⟩ = some (.slice pN m cN) ∧ W.cell? ⟨B, 1, none⟩ = some (.slice pU m cU) ∧ W.cell? ⟨B, 2, none⟩ = some (.slice pR m cR) ∧ W.cell? ⟨T, 0, none⟩ = some (.int .i64 x0) ∧ W.cell? ⟨T, 1, none⟩ = some (.int .i64 x1) ∧ W.cell? ⟨T, 2, none⟩ = some (.string NM) ∧ W.cell? ⟨T, 3, none⟩ = some (.slice pa la ca) ∧ W.cell? ⟨T, 4, none⟩ = some (.string TX) ∧ W.cell? ⟨T, 5, none⟩ = some (.int .i64 x5) ∧ W.cell? ⟨T, 6, none⟩ = some (.slice none 0 0)) (by kernel_rfl) (HSB.out _ (h0.ex (B, (.cells #[.slice pN m cN, .slice pU m cU, .slice pR m cR] 35 (0, 0))) (by simp)).1 (h0.ex (T, (.cells #[.int .i64 x0, .int .i64 x1, .string NM, .slice pa la ca, .string TX, .int .i64 x5, .slice none 0 0] 43 (0, 0))) (by simp)).1) (fun hHeld => ?_)
  generalize w.drew = W0 at *
  refine wpAnyL_take (i := 0) (oi := { dst := some 5, op := Op.move (Operand.tmp 0), type := 26, pos := "ref.go:23", after := #[], guard := none }) (v := ?_) rfl (by kernel_rfl) (by kernel_rfl) (by kernel_rfl) (by kernel_rfl) (HRE.out 0 (by decide)) (fun _ _ _ h => h) (Or.inl ⟨by rfl, ?_⟩) (by assumption) ?_
  rotate_left
  focus (intro w hSw; (try dsimp only at hSw); go_simp; (try with_reducible rfl))
  try simp only [Act.put, List.setIfInBounds_toArray, List.set_cons_zero, List.set_cons_succ]
  refine wpAnyL_only (i := 1) (oi := { dst := some 6, op := Op.move (Operand.tmp 0), type := 26, pos := "ref.go:23", after := #[{ on := 24, ground := Ground.gcOnly Departure.lateStores }], guard := none }) (v := ?_) rfl (by kernel_rfl) (by kernel_rfl) (by kernel_rfl) (fun _ _ _ h => h) (Or.inl ⟨by rfl, ?_⟩) ?_
  rotate_left
  focus (intro w _; go_simp; (try with_reducible rfl))
  try simp only [Act.put, List.setIfInBounds_toArray, List.set_cons_zero, List.set_cons_succ]
  refine wpAnyL_only (i := 2) (oi := { dst := some 7, op := Op.move (Operand.tmp 0), type := 26, pos := "ref.go:23", after := #[{ on := 27, ground := Ground.gcOnly Departure.lateStores }], guard := none }) (v := ?_) rfl (by kernel_rfl) (by kernel_rfl) (by kernel_rfl) (fun _ _ _ h => h) (Or.inl ⟨by rfl, ?_⟩) ?_
  rotate_left
  focus (intro w _; go_simp; (try with_reducible rfl))
  try simp only [Act.put, List.setIfInBounds_toArray, List.set_cons_zero, List.set_cons_succ]
  refine wpAnyL_take (i := 3) (oi := { dst := some 8, op := Op.move (Operand.tmp 0), type := 26, pos := "ref.go:23", after := #[], guard := none }) (v := ?_) rfl (by kernel_rfl) (by kernel_rfl) (by kernel_rfl) (by kernel_rfl) (HRE.out 3 (by decide)) (fun _ _ _ h => h) (Or.inl ⟨by rfl, ?_⟩) (by assumption) ?_
  rotate_left
  focus (intro w hSw; (try dsimp only at hSw); go_simp; (try with_reducible rfl))
  try simp only [Act.put, List.setIfInBounds_toArray, List.set_cons_zero, List.set_cons_succ]
  refine wpAnyL_take (i := 4) (oi := { dst := some 9, op := Op.nilCheck (Operand.tmp 8), type := 0, pos := "ref.go:23", after := #[{ on := 3, ground := Ground.data }], guard := none }) (v := ?_) rfl (by kernel_rfl) (by kernel_rfl) (by kernel_rfl) (by kernel_rfl) (HRE.out 4 (by decide)) (fun _ _ _ h => h) (Or.inl ⟨by rfl, ?_⟩) (by assumption) ?_
  rotate_left
  focus (intro w hSw; (try dsimp only at hSw); go_simp; (try with_reducible rfl))
  try simp only [Act.put, List.setIfInBounds_toArray, List.set_cons_zero, List.set_cons_succ]
  refine wpAnyL_take (i := 5) (oi := { dst := some 10, op := Op.fieldAddr 35 (Operand.tmp 9) 0, type := 0, pos := "ref.go:23", after := #[{ on := 4, ground := Ground.data }], guard := none }) (v := ?_) rfl (by kernel_rfl) (by kernel_rfl) (by kernel_rfl) (by kernel_rfl) (HRE.out 5 (by decide)) (fun _ _ _ h => h) (Or.inl ⟨by rfl, ?_⟩) (by assumption) ?_
  rotate_left
  focus (intro w hSw; (try dsimp only at hSw); go_simp; (try with_reducible rfl))
  try simp only [Act.put, List.setIfInBounds_toArray, List.set_cons_zero, List.set_cons_succ]
  refine wpAnyL_take (i := 6) (oi := { dst := some 11, op := Op.load 31 (Operand.tmp 10), type := 31, pos := "ref.go:23", after := #[{ on := 5, ground := Ground.data }], guard := none }) (v := ?_) rfl (by kernel_rfl) (by kernel_rfl) (by kernel_rfl) (by kernel_rfl) (HRE.out 6 (by decide)) (fun _ _ _ h => h) (Or.inl ⟨by rfl, ?_⟩) (by assumption) ?_
  rotate_left
  focus (intro w hSw; (try dsimp only at hSw); go_simp; (try with_reducible rfl))
  try simp only [Act.put, List.setIfInBounds_toArray, List.set_cons_zero, List.set_cons_succ]
  refine wpAnyL_take (i := 7) (oi := { dst := some 12, op := Op.load 43 (Operand.tmp 3), type := 43, pos := "ref.go:23", after := #[], guard := none }) (v := ?_) rfl (by kernel_rfl) (by kernel_rfl) (by kernel_rfl) (by kernel_rfl) (HRE.out 7 (by decide)) (fun _ _ _ h => h) (Or.inl ⟨by rfl, ?_⟩) (by assumption) ?_
  rotate_left
  focus (intro w hSw; (try dsimp only at hSw); go_simp; (try with_reducible rfl))
  try simp only [Act.put, List.setIfInBounds_toArray, List.set_cons_zero, List.set_cons_succ]
  refine wpAnyL_take (i := 10) (oi := { dst := some 15, op := Op.move (Operand.tmp 0), type := 26, pos := "ref.go:23", after := #[], guard := none }) (v := ?_) rfl (by kernel_rfl) (by kernel_rfl) (by kernel_rfl) (by kernel_rfl) (HRE.out 10 (by decide)) (fun _ _ _ h => h) (Or.inl ⟨by rfl, ?_⟩) (by assumption) ?_
  rotate_left
  focus (intro w hSw; (try dsimp only at hSw); go_simp; (try with_reducible rfl))
  try simp only [Act.put, List.setIfInBounds_toArray, List.set_cons_zero, List.set_cons_succ]
  refine wpAnyL_take (i := 11) (oi := { dst := some 16, op := Op.nilCheck (Operand.tmp 15), type := 0, pos := "ref.go:23", after := #[{ on := 10, ground := Ground.data }], guard := none }) (v := ?_) rfl (by kernel_rfl) (by kernel_rfl) (by kernel_rfl) (by kernel_rfl) (HRE.out 11 (by decide)) (fun _ _ _ h => h) (Or.inl ⟨by rfl, ?_⟩) (by assumption) ?_
  rotate_left
  focus (intro w hSw; (try dsimp only at hSw); go_simp; (try with_reducible rfl))
  try simp only [Act.put, List.setIfInBounds_toArray, List.set_cons_zero, List.set_cons_succ]
  refine wpAnyL_take (i := 12) (oi := { dst := some 17, op := Op.fieldAddr 35 (Operand.tmp 16) 1, type := 0, pos := "ref.go:23", after := #[{ on := 11, ground := Ground.data }], guard := none }) (v := ?_) rfl (by kernel_rfl) (by kernel_rfl) (by kernel_rfl) (by kernel_rfl) (HRE.out 12 (by decide)) (fun _ _ _ h => h) (Or.inl ⟨by rfl, ?_⟩) (by assumption) ?_
  rotate_left
  focus (intro w hSw; (try dsimp only at hSw); go_simp; (try with_reducible rfl))
  try simp only [Act.put, List.setIfInBounds_toArray, List.set_cons_zero, List.set_cons_succ]
  refine wpAnyL_take (i := 13) (oi := { dst := some 18, op := Op.load 32 (Operand.tmp 17), type := 32, pos := "ref.go:23", after := #[{ on := 12, ground := Ground.data }], guard := none }) (v := ?_) rfl (by kernel_rfl) (by kernel_rfl) (by kernel_rfl) (by kernel_rfl) (HRE.out 13 (by decide)) (fun _ _ _ h => h) (Or.inl ⟨by rfl, ?_⟩) (by assumption) ?_
  rotate_left
  focus (intro w hSw; (try dsimp only at hSw); go_simp; (try with_reducible rfl))
  try simp only [Act.put, List.setIfInBounds_toArray, List.set_cons_zero, List.set_cons_succ]
  refine wpAnyL_take (i := 16) (oi := { dst := some 21, op := Op.move (Operand.tmp 0), type := 26, pos := "ref.go:23", after := #[], guard := none }) (v := ?_) rfl (by kernel_rfl) (by kernel_rfl) (by kernel_rfl) (by kernel_rfl) (HRE.out 16 (by decide)) (fun _ _ _ h => h) (Or.inl ⟨by rfl, ?_⟩) (by assumption) ?_
  rotate_left
  focus (intro w hSw; (try dsimp only at hSw); go_simp; (try with_reducible rfl))
  try simp only [Act.put, List.setIfInBounds_toArray, List.set_cons_zero, List.set_cons_succ]
  refine wpAnyL_take (i := 17) (oi := { dst := some 22, op := Op.nilCheck (Operand.tmp 21), type := 0, pos := "ref.go:23", after := #[{ on := 16, ground := Ground.data }], guard := none }) (v := ?_) rfl (by kernel_rfl) (by kernel_rfl) (by kernel_rfl) (by kernel_rfl) (HRE.out 17 (by decide)) (fun _ _ _ h => h) (Or.inl ⟨by rfl, ?_⟩) (by assumption) ?_
  rotate_left
  focus (intro w hSw; (try dsimp only at hSw); go_simp; (try with_reducible rfl))
  try simp only [Act.put, List.setIfInBounds_toArray, List.set_cons_zero, List.set_cons_succ]
  refine wpAnyL_take (i := 18) (oi := { dst := some 23, op := Op.fieldAddr 35 (Operand.tmp 22) 2, type := 0, pos := "ref.go:23", after := #[{ on := 17, ground := Ground.data }], guard := none }) (v := ?_) rfl (by kernel_rfl) (by kernel_rfl) (by kernel_rfl) (by kernel_rfl) (HRE.out 18 (by decide)) (fun _ _ _ h => h) (Or.inl ⟨by rfl, ?_⟩) (by assumption) ?_
  rotate_left
  focus (intro w hSw; (try dsimp only at hSw); go_simp; (try with_reducible rfl))
  try simp only [Act.put, List.setIfInBounds_toArray, List.set_cons_zero, List.set_cons_succ]
  refine wpAnyL_take (i := 19) (oi := { dst := some 24, op := Op.load 33 (Operand.tmp 23), type := 33, pos := "ref.go:23", after := #[{ on := 18, ground := Ground.data }], guard := none }) (v := ?_) rfl (by kernel_rfl) (by kernel_rfl) (by kernel_rfl) (by kernel_rfl) (HRE.out 19 (by decide)) (fun _ _ _ h => h) (Or.inl ⟨by rfl, ?_⟩) (by assumption) ?_
  rotate_left
  focus (intro w hSw; (try dsimp only at hSw); go_simp; (try with_reducible rfl))
  try simp only [Act.put, List.setIfInBounds_toArray, List.set_cons_zero, List.set_cons_succ]
  refine wpAnyL_ready (rs := [8, 14, 20]) (by kernel_rfl) (by simp) ?_
  refine (AllReadyL.cons (o := { dst := some 13, op := Op.buildSlice 31 1 #[(0, Operand.tmp 12)], type := 31, pos := "ref.go:23", after := #[{ on := 7, ground := Ground.data }], guard := none }) rfl (fun K hK => ?_) (AllReadyL.cons (o := { dst := some 19, op := Op.buildSlice 32 1 #[(0, Operand.const (Value.int IntKind.i64 (-1)))], type := 32, pos := "ref.go:23", after := #[], guard := none }) rfl (fun K hK => ?_) (AllReadyL.cons (o := { dst := some 25, op := Op.buildSlice 33 1 #[(0, Operand.const (Value.slice none 0 0))], type := 33, pos := "ref.go:23", after := #[], guard := none }) rfl (fun K hK => ?_) AllReadyL.nil)))
  · go_simp
    have h1 := h0.alloc (.cells #[.int .i64 x0, .int .i64 x1, .string NM, .slice pa la ca, .string TX, .int .i64 x5, .slice none 0 0] 43 (0, 0))
    have hS1 := HSB.out (W0.alloc (.cells #[.int .i64 x0, .int .i64 x1, .string NM, .slice pa la ca, .string TX, .int .i64 x5, .slice none 0 0] 43)) (h1.at_ (p := (B, _)) (by simp)) (h1.at_ (p := (T, _)) (by simp))
    refine hK.out _ _ hS1 (fun hHeld => ?_)
    clear hK K
    try simp only [Act.put, List.setIfInBounds_toArray, List.set_cons_zero, List.set_cons_succ]
    clear hHeld h0
    change wpAnyL _ _ _ _ _ _ _ _ _ (W0.alloc (.cells #[.int .i64 x0, .int .i64 x1, .string NM, .slice pa la ca, .string TX, .int .i64 x5, .slice none 0 0] 43))
    generalize (W0.alloc (.cells #[.int .i64 x0, .int .i64 x1, .string NM, .slice pa la ca, .string TX, .int .i64 x5, .slice none 0 0] 43)) = W1 at *
    generalize W0.heap.size = A1 at *
    have hHeld := hS1
    refine wpAnyL_ready (rs := [9, 14, 20]) (by kernel_rfl) (by simp) ?_
    refine (AllReadyL.cons (o := { dst := some 14, op := Op.call { callee := Callee.builtin Builtin.append, args := #[Operand.tmp 11, Operand.tmp 13], argTypes := #[ 31, 31 ] }, type := 31, pos := "ref.go:23", after := #[{ on := 6, ground := Ground.data }, { on := 8, ground := Ground.data }], guard := none }) rfl (fun K hK => ?_) (AllReadyL.cons (o := { dst := some 19, op := Op.buildSlice 32 1 #[(0, Operand.const (Value.int IntKind.i64 (-1)))], type := 32, pos := "ref.go:23", after := #[], guard := none }) rfl (fun K hK => ?_) (AllReadyL.cons (o := { dst := some 25, op := Op.buildSlice 33 1 #[(0, Operand.const (Value.slice none 0 0))], type := 33, pos := "ref.go:23", after := #[], guard := none }) rfl (fun K hK => ?_) AllReadyL.nil)))
    · refine step_append_lies _ (by rfl) _ _ 31 (by rfl) 0 43 iN (.agg #[.int .i64 0, .int .i64 0, .string ByteArray.empty, .slice none 0 0, .string ByteArray.empty, .int .i64 0, .slice none 0 0]) 7 104 Try.underlying31 HIN.out.1 HIN.out.2.1 HIN.out.2.2.1 HIN.out.2.2.2 (by kernel_rfl) (by omega) (.slice pN m cN) m lN (by rfl) h1.rN ⟨A1, 0, none⟩ 1 1 [.int .i64 x0, .int .i64 x1, .string NM, .slice pa la ca, .string TX, .int .i64 x5, .slice none 0 0] (by rfl) (by rfl) (World.news_of_block (cs := #[.int .i64 x0, .int .i64 x1, .string NM, .slice pa la ca, .string TX, .int .i64 x5, .slice none 0 0]) (t := 43) (fr := (0, 0)) (h1.ex (A1, (.cells #[.int .i64 x0, .int .i64 x1, .string NM, .slice pa la ca, .string TX, .int .i64 x5, .slice none 0 0] 43 (0, 0))) (by simp)).1) (by simp [Value.oneCell']) (by omega) (by unfold maxLen; omega) (by omega) (by omega) W1.heap.size rfl ?_
      intro g2 c2 W2 hr2 hg2 ho2 _
      have h2 := h1.growN hr2 hg2 rfl ho2
      clear hr2 hg2 ho2
      have hS2 := (HSB.out W2 (h2.at_ (p := (B, _)) (by simp)) (h2.at_ (p := (T, _)) (by simp)))
      refine hK.out _ _ hS2 (fun hHeld => ?_)
      clear hK K
      try simp only [Act.put, List.setIfInBounds_toArray, List.set_cons_zero, List.set_cons_succ]
      refine wpAnyL_ready (rs := [14, 20]) (by kernel_rfl) (by simp) ?_
      refine (AllReadyL.cons (o := { dst := some 19, op := Op.buildSlice 32 1 #[(0, Operand.const (Value.int IntKind.i64 (-1)))], type := 32, pos := "ref.go:23", after := #[], guard := none }) rfl (fun K hK => ?_) (AllReadyL.cons (o := { dst := some 25, op := Op.buildSlice 33 1 #[(0, Operand.const (Value.slice none 0 0))], type := 33, pos := "ref.go:23", after := #[], guard := none }) rfl (fun K hK => ?_) AllReadyL.nil))
      · go_simp
        have h3 := h2.alloc (.cells #[.int .i64 (-1)] 3 (0, 0))
        have hS3 := HSB.out (W2.alloc (.cells #[.int .i64 (-1)] 3)) (h3.at_ (p := (B, _)) (by simp)) (h3.at_ (p := (T, _)) (by simp))
        refine hK.out _ _ hS3 (fun hHeld => ?_)
        clear hK K
        try simp only [Act.put, List.setIfInBounds_toArray, List.set_cons_zero, List.set_cons_succ]
        clear hHeld h2
        change wpAnyL _ _ _ _ _ _ _ _ _ (W2.alloc (.cells #[.int .i64 (-1)] 3))
        generalize (W2.alloc (.cells #[.int .i64 (-1)] 3)) = W3 at *
        generalize W2.heap.size = A3 at *
        have hHeld := hS3
        refine wpAnyL_ready (rs := [15, 20]) (by kernel_rfl) (by simp) ?_
        refine (AllReadyL.cons (o := { dst := some 20, op := Op.call { callee := Callee.builtin Builtin.append, args := #[Operand.tmp 18, Operand.tmp 19], argTypes := #[ 32, 32 ] }, type := 32, pos := "ref.go:23", after := #[{ on := 13, ground := Ground.data }, { on := 14, ground := Ground.data }, { on := 9, ground := Ground.chain }], guard := none }) rfl (fun K hK => ?_) (AllReadyL.cons (o := { dst := some 25, op := Op.buildSlice 33 1 #[(0, Operand.const (Value.slice none 0 0))], type := 33, pos := "ref.go:23", after := #[], guard := none }) rfl (fun K hK => ?_) AllReadyL.nil))
        · refine step_append_lies _ (by rfl) _ _ 32 (by rfl) 0 3 iU (.int .i64 0) 1 8 Try.underlying32 HIU.out.1 HIU.out.2.1 HIU.out.2.2.1 HIU.out.2.2.2 (by kernel_rfl) (by omega) (.slice pU m cU) m lU (by rfl) h3.rU ⟨A3, 0, none⟩ 1 1 [.int .i64 (-1)] (by rfl) (by rfl) (World.news_of_block (cs := #[.int .i64 (-1)]) (t := 3) (fr := (0, 0)) (h3.ex (A3, (.cells #[.int .i64 (-1)] 3 (0, 0))) (by simp)).1) (by simp [Value.oneCell']) (by omega) (by unfold maxLen; omega) (by omega) (by omega) W3.heap.size rfl ?_
          intro g4 c4 W4 hr4 hg4 ho4 _
          have h4 := h3.growU hr4 hg4 rfl ho4
          clear hr4 hg4 ho4
          have hS4 := (HSB.out W4 (h4.at_ (p := (B, _)) (by simp)) (h4.at_ (p := (T, _)) (by simp)))
          refine hK.out _ _ hS4 (fun hHeld => ?_)
          clear hK K
          try simp only [Act.put, List.setIfInBounds_toArray, List.set_cons_zero, List.set_cons_succ]
          refine wpAnyL_ready (rs := [20]) (by kernel_rfl) (by simp) ?_
          refine (AllReadyL.cons (o := { dst := some 25, op := Op.buildSlice 33 1 #[(0, Operand.const (Value.slice none 0 0))], type := 33, pos := "ref.go:23", after := #[], guard := none }) rfl (fun K hK => ?_) AllReadyL.nil)
          go_simp
          have h5 := h4.alloc (.cells #[.slice none 0 0] 32 (0, 0))
          have hS5 := HSB.out (W4.alloc (.cells #[.slice none 0 0] 32)) (h5.at_ (p := (B, _)) (by simp)) (h5.at_ (p := (T, _)) (by simp))
          refine hK.out _ _ hS5 (fun hHeld => ?_)
          clear hK K
          try simp only [Act.put, List.setIfInBounds_toArray, List.set_cons_zero, List.set_cons_succ]
          clear hHeld h4
          change wpAnyL _ _ _ _ _ _ _ _ _ (W4.alloc (.cells #[.slice none 0 0] 32))
          generalize (W4.alloc (.cells #[.slice none 0 0] 32)) = W5 at *
          generalize W4.heap.size = A5 at *
          have hHeld := hS5
          refine wpAnyL_ready (rs := [21]) (by kernel_rfl) (by simp) ?_
          refine (AllReadyL.cons (o := { dst := some 26, op := Op.call { callee := Callee.builtin Builtin.append, args := #[Operand.tmp 24, Operand.tmp 25], argTypes := #[ 33, 33 ] }, type := 33, pos := "ref.go:23", after := #[{ on := 19, ground := Ground.data }, { on := 20, ground := Ground.data }, { on := 15, ground := Ground.chain }], guard := none }) rfl (fun K hK => ?_) AllReadyL.nil)
          refine step_append_lies _ (by rfl) _ _ 33 (by rfl) 0 32 iR (.slice none 0 0) 1 24 Try.underlying33 HIR.out.1 HIR.out.2.1 HIR.out.2.2.1 HIR.out.2.2.2 (by kernel_rfl) (by omega) (.slice pR m cR) m lR (by rfl) h5.rR ⟨A5, 0, none⟩ 1 1 [.slice none 0 0] (by rfl) (by rfl) (World.news_of_block (cs := #[.slice none 0 0]) (t := 32) (fr := (0, 0)) (h5.ex (A5, (.cells #[.slice none 0 0] 32 (0, 0))) (by simp)).1) (by simp [Value.oneCell']) (by omega) (by unfold maxLen; omega) (by omega) (by omega) W5.heap.size rfl ?_
          intro g6 c6 W6 hr6 hg6 ho6 _
          have h6 := h5.growR hr6 hg6 rfl ho6
          clear hr6 hg6 ho6
          have hS6 := (HSB.out W6 (h6.at_ (p := (B, _)) (by simp)) (h6.at_ (p := (T, _)) (by simp)))
          refine hK.out _ _ hS6 (fun hHeld => ?_)
          clear hK K
          try simp only [Act.put, List.setIfInBounds_toArray, List.set_cons_zero, List.set_cons_succ]
          exact rlay_tail (h6.less (ex' := [(B, (.cells #[.slice pN m cN, .slice pU m cU, .slice pR m cR] 35 (0, 0)))]) (by simp)) hMB (by kernel_rfl) (by kernel_rfl) (by kernel_rfl) (by kernel_rfl) (by kernel_rfl) (by kernel_rfl) (by kernel_rfl) (by kernel_rfl) (by kernel_rfl) (by kernel_rfl) (fun _ _ _ _ _ _ _ k => HQ.out _ _ _ _ _ _ _ _ _ _ _ _ _ _ _ _ _ _ _ _ _ _ _ _ _ _ _ _ _ _ _ _ k)
        · go_simp
          have h7 := h3.alloc (.cells #[.slice none 0 0] 32 (0, 0))
          have hS7 := HSB.out (W3.alloc (.cells #[.slice none 0 0] 32)) (h7.at_ (p := (B, _)) (by simp)) (h7.at_ (p := (T, _)) (by simp))
          refine hK.out _ _ hS7 (fun hHeld => ?_)
          clear hK K
          try simp only [Act.put, List.setIfInBounds_toArray, List.set_cons_zero, List.set_cons_succ]
          clear hHeld h3
          change wpAnyL _ _ _ _ _ _ _ _ _ (W3.alloc (.cells #[.slice none 0 0] 32))
          generalize (W3.alloc (.cells #[.slice none 0 0] 32)) = W7 at *
          generalize W3.heap.size = A7 at *
          have hHeld := hS7
          refine wpAnyL_ready (rs := [15]) (by kernel_rfl) (by simp) ?_
          refine (AllReadyL.cons (o := { dst := some 20, op := Op.call { callee := Callee.builtin Builtin.append, args := #[Operand.tmp 18, Operand.tmp 19], argTypes := #[ 32, 32 ] }, type := 32, pos := "ref.go:23", after := #[{ on := 13, ground := Ground.data }, { on := 14, ground := Ground.data }, { on := 9, ground := Ground.chain }], guard := none }) rfl (fun K hK => ?_) AllReadyL.nil)
          refine step_append_lies _ (by rfl) _ _ 32 (by rfl) 0 3 iU (.int .i64 0) 1 8 Try.underlying32 HIU.out.1 HIU.out.2.1 HIU.out.2.2.1 HIU.out.2.2.2 (by kernel_rfl) (by omega) (.slice pU m cU) m lU (by rfl) h7.rU ⟨A3, 0, none⟩ 1 1 [.int .i64 (-1)] (by rfl) (by rfl) (World.news_of_block (cs := #[.int .i64 (-1)]) (t := 3) (fr := (0, 0)) (h7.ex (A3, (.cells #[.int .i64 (-1)] 3 (0, 0))) (by simp)).1) (by simp [Value.oneCell']) (by omega) (by unfold maxLen; omega) (by omega) (by omega) W7.heap.size rfl ?_
          intro g8 c8 W8 hr8 hg8 ho8 _
          have h8 := h7.growU hr8 hg8 rfl ho8
          clear hr8 hg8 ho8
          have hS8 := (HSB.out W8 (h8.at_ (p := (B, _)) (by simp)) (h8.at_ (p := (T, _)) (by simp)))
          refine hK.out _ _ hS8 (fun hHeld => ?_)
          clear hK K
          try simp only [Act.put, List.setIfInBounds_toArray, List.set_cons_zero, List.set_cons_succ]
          refine wpAnyL_ready (rs := [21]) (by kernel_rfl) (by simp) ?_
          refine (AllReadyL.cons (o := { dst := some 26, op := Op.call { callee := Callee.builtin Builtin.append, args := #[Operand.tmp 24, Operand.tmp 25], argTypes := #[ 33, 33 ] }, type := 33, pos := "ref.go:23", after := #[{ on := 19, ground := Ground.data }, { on := 20, ground := Ground.data }, { on := 15, ground := Ground.chain }], guard := none }) rfl (fun K hK => ?_) AllReadyL.nil)
          refine step_append_lies _ (by rfl) _ _ 33 (by rfl) 0 32 iR (.slice none 0 0) 1 24 Try.underlying33 HIR.out.1 HIR.out.2.1 HIR.out.2.2.1 HIR.out.2.2.2 (by kernel_rfl) (by omega) (.slice pR m cR) m lR (by rfl) h8.rR ⟨A7, 0, none⟩ 1 1 [.slice none 0 0] (by rfl) (by rfl) (World.news_of_block (cs := #[.slice none 0 0]) (t := 32) (fr := (0, 0)) (h8.ex (A7, (.cells #[.slice none 0 0] 32 (0, 0))) (by simp)).1) (by simp [Value.oneCell']) (by omega) (by unfold maxLen; omega) (by omega) (by omega) W8.heap.size rfl ?_
          intro g9 c9 W9 hr9 hg9 ho9 _
          have h9 := h8.growR hr9 hg9 rfl ho9
          clear hr9 hg9 ho9
          have hS9 := (HSB.out W9 (h9.at_ (p := (B, _)) (by simp)) (h9.at_ (p := (T, _)) (by simp)))
          refine hK.out _ _ hS9 (fun hHeld => ?_)
          clear hK K
          try simp only [Act.put, List.setIfInBounds_toArray, List.set_cons_zero, List.set_cons_succ]
          exact rlay_tail (h9.less (ex' := [(B, (.cells #[.slice pN m cN, .slice pU m cU, .slice pR m cR] 35 (0, 0)))]) (by simp)) hMB (by kernel_rfl) (by kernel_rfl) (by kernel_rfl) (by kernel_rfl) (by kernel_rfl) (by kernel_rfl) (by kernel_rfl) (by kernel_rfl) (by kernel_rfl) (by kernel_rfl) (fun _ _ _ _ _ _ _ k => HQ.out _ _ _ _ _ _ _ _ _ _ _ _ _ _ _ _ _ _ _ _ _ _ _ _ _ _ _ _ _ _ _ _ k)
      · go_simp
        have h10 := h2.alloc (.cells #[.slice none 0 0] 32 (0, 0))
        have hS10 := HSB.out (W2.alloc (.cells #[.slice none 0 0] 32)) (h10.at_ (p := (B, _)) (by simp)) (h10.at_ (p := (T, _)) (by simp))
        refine hK.out _ _ hS10 (fun hHeld => ?_)
        clear hK K
        try simp only [Act.put, List.setIfInBounds_toArray, List.set_cons_zero, List.set_cons_succ]
        clear hHeld h2
        change wpAnyL _ _ _ _ _ _ _ _ _ (W2.alloc (.cells #[.slice none 0 0] 32))
        generalize (W2.alloc (.cells #[.slice none 0 0] 32)) = W10 at *
        generalize W2.heap.size = A10 at *
        have hHeld := hS10
        refine wpAnyL_ready (rs := [14]) (by kernel_rfl) (by simp) ?_
        refine (AllReadyL.cons (o := { dst := some 19, op := Op.buildSlice 32 1 #[(0, Operand.const (Value.int IntKind.i64 (-1)))], type := 32, pos := "ref.go:23", after := #[], guard := none }) rfl (fun K hK => ?_) AllReadyL.nil)
        go_simp
        have h11 := h10.alloc (.cells #[.int .i64 (-1)] 3 (0, 0))
        have hS11 := HSB.out (W10.alloc (.cells #[.int .i64 (-1)] 3)) (h11.at_ (p := (B, _)) (by simp)) (h11.at_ (p := (T, _)) (by simp))
        refine hK.out _ _ hS11 (fun hHeld => ?_)
        clear hK K
        try simp only [Act.put, List.setIfInBounds_toArray, List.set_cons_zero, List.set_cons_succ]
        clear hHeld h10
        change wpAnyL _ _ _ _ _ _ _ _ _ (W10.alloc (.cells #[.int .i64 (-1)] 3))
        generalize (W10.alloc (.cells #[.int .i64 (-1)] 3)) = W11 at *
        generalize W10.heap.size = A11 at *
        have hHeld := hS11
        refine wpAnyL_ready (rs := [15]) (by kernel_rfl) (by simp) ?_
        refine (AllReadyL.cons (o := { dst := some 20, op := Op.call { callee := Callee.builtin Builtin.append, args := #[Operand.tmp 18, Operand.tmp 19], argTypes := #[ 32, 32 ] }, type := 32, pos := "ref.go:23", after := #[{ on := 13, ground := Ground.data }, { on := 14, ground := Ground.data }, { on := 9, ground := Ground.chain }], guard := none }) rfl (fun K hK => ?_) AllReadyL.nil)
        refine step_append_lies _ (by rfl) _ _ 32 (by rfl) 0 3 iU (.int .i64 0) 1 8 Try.underlying32 HIU.out.1 HIU.out.2.1 HIU.out.2.2.1 HIU.out.2.2.2 (by kernel_rfl) (by omega) (.slice pU m cU) m lU (by rfl) h11.rU ⟨A11, 0, none⟩ 1 1 [.int .i64 (-1)] (by rfl) (by rfl) (World.news_of_block (cs := #[.int .i64 (-1)]) (t := 3) (fr := (0, 0)) (h11.ex (A11, (.cells #[.int .i64 (-1)] 3 (0, 0))) (by simp)).1) (by simp [Value.oneCell']) (by omega) (by unfold maxLen; omega) (by omega) (by omega) W11.heap.size rfl ?_
        intro g12 c12 W12 hr12 hg12 ho12 _
        have h12 := h11.growU hr12 hg12 rfl ho12
        clear hr12 hg12 ho12
        have hS12 := (HSB.out W12 (h12.at_ (p := (B, _)) (by simp)) (h12.at_ (p := (T, _)) (by simp)))
        refine hK.out _ _ hS12 (fun hHeld => ?_)
        clear hK K
        try simp only [Act.put, List.setIfInBounds_toArray, List.set_cons_zero, List.set_cons_succ]
        refine wpAnyL_ready (rs := [21]) (by kernel_rfl) (by simp) ?_
        refine (AllReadyL.cons (o := { dst := some 26, op := Op.call { callee := Callee.builtin Builtin.append, args := #[Operand.tmp 24, Operand.tmp 25], argTypes := #[ 33, 33 ] }, type := 33, pos := "ref.go:23", after := #[{ on := 19, ground := Ground.data }, { on := 20, ground := Ground.data }, { on := 15, ground := Ground.chain }], guard := none }) rfl (fun K hK => ?_) AllReadyL.nil)
        refine step_append_lies _ (by rfl) _ _ 33 (by rfl) 0 32 iR (.slice none 0 0) 1 24 Try.underlying33 HIR.out.1 HIR.out.2.1 HIR.out.2.2.1 HIR.out.2.2.2 (by kernel_rfl) (by omega) (.slice pR m cR) m lR (by rfl) h12.rR ⟨A10, 0, none⟩ 1 1 [.slice none 0 0] (by rfl) (by rfl) (World.news_of_block (cs := #[.slice none 0 0]) (t := 32) (fr := (0, 0)) (h12.ex (A10, (.cells #[.slice none 0 0] 32 (0, 0))) (by simp)).1) (by simp [Value.oneCell']) (by omega) (by unfold maxLen; omega) (by omega) (by omega) W12.heap.size rfl ?_
        intro g13 c13 W13 hr13 hg13 ho13 _
        have h13 := h12.growR hr13 hg13 rfl ho13
        clear hr13 hg13 ho13
        have hS13 := (HSB.out W13 (h13.at_ (p := (B, _)) (by simp)) (h13.at_ (p := (T, _)) (by simp)))
        refine hK.out _ _ hS13 (fun hHeld => ?_)
        clear hK K
        try simp only [Act.put, List.setIfInBounds_toArray, List.set_cons_zero, List.set_cons_succ]
        exact rlay_tail (h13.less (ex' := [(B, (.cells #[.slice pN m cN, .slice pU m cU, .slice pR m cR] 35 (0, 0)))]) (by simp)) hMB (by kernel_rfl) (by kernel_rfl) (by kernel_rfl) (by kernel_rfl) (by kernel_rfl) (by kernel_rfl) (by kernel_rfl) (by kernel_rfl) (by kernel_rfl) (by kernel_rfl) (fun _ _ _ _ _ _ _ k => HQ.out _ _ _ _ _ _ _ _ _ _ _ _ _ _ _ _ _ _ _ _ _ _ _ _ _ _ _ _ _ _ _ _ k)
    · go_simp
      have h14 := h1.alloc (.cells #[.int .i64 (-1)] 3 (0, 0))
      have hS14 := HSB.out (W1.alloc (.cells #[.int .i64 (-1)] 3)) (h14.at_ (p := (B, _)) (by simp)) (h14.at_ (p := (T, _)) (by simp))
      refine hK.out _ _ hS14 (fun hHeld => ?_)
      clear hK K
      try simp only [Act.put, List.setIfInBounds_toArray, List.set_cons_zero, List.set_cons_succ]
      clear hHeld h1
      change wpAnyL _ _ _ _ _ _ _ _ _ (W1.alloc (.cells #[.int .i64 (-1)] 3))
      generalize (W1.alloc (.cells #[.int .i64 (-1)] 3)) = W14 at *
      generalize W1.heap.size = A14 at *
      have hHeld := hS14
      refine wpAnyL_ready (rs := [9, 20]) (by kernel_rfl) (by simp) ?_
      refine (AllReadyL.cons (o := { dst := some 14, op := Op.call { callee := Callee.builtin Builtin.append, args := #[Operand.tmp 11, Operand.tmp 13], argTypes := #[ 31, 31 ] }, type := 31, pos := "ref.go:23", after := #[{ on := 6, ground := Ground.data }, { on := 8, ground := Ground.data }], guard := none }) rfl (fun K hK => ?_) (AllReadyL.cons (o := { dst := some 25, op := Op.buildSlice 33 1 #[(0, Operand.const (Value.slice none 0 0))], type := 33, pos := "ref.go:23", after := #[], guard := none }) rfl (fun K hK => ?_) AllReadyL.nil))
      · refine step_append_lies _ (by rfl) _ _ 31 (by rfl) 0 43 iN (.agg #[.int .i64 0, .int .i64 0, .string ByteArray.empty, .slice none 0 0, .string ByteArray.empty, .int .i64 0, .slice none 0 0]) 7 104 Try.underlying31 HIN.out.1 HIN.out.2.1 HIN.out.2.2.1 HIN.out.2.2.2 (by kernel_rfl) (by omega) (.slice pN m cN) m lN (by rfl) h14.rN ⟨A1, 0, none⟩ 1 1 [.int .i64 x0, .int .i64 x1, .string NM, .slice pa la ca, .string TX, .int .i64 x5, .slice none 0 0] (by rfl) (by rfl) (World.news_of_block (cs := #[.int .i64 x0, .int .i64 x1, .string NM, .slice pa la ca, .string TX, .int .i64 x5, .slice none 0 0]) (t := 43) (fr := (0, 0)) (h14.ex (A1, (.cells #[.int .i64 x0, .int .i64 x1, .string NM, .slice pa la ca, .string TX, .int .i64 x5, .slice none 0 0] 43 (0, 0))) (by simp)).1) (by simp [Value.oneCell']) (by omega) (by unfold maxLen; omega) (by omega) (by omega) W14.heap.size rfl ?_
        intro g15 c15 W15 hr15 hg15 ho15 _
        have h15 := h14.growN hr15 hg15 rfl ho15
        clear hr15 hg15 ho15
        have hS15 := (HSB.out W15 (h15.at_ (p := (B, _)) (by simp)) (h15.at_ (p := (T, _)) (by simp)))
        refine hK.out _ _ hS15 (fun hHeld => ?_)
        clear hK K
        try simp only [Act.put, List.setIfInBounds_toArray, List.set_cons_zero, List.set_cons_succ]
        refine wpAnyL_ready (rs := [15, 20]) (by kernel_rfl) (by simp) ?_
        refine (AllReadyL.cons (o := { dst := some 20, op := Op.call { callee := Callee.builtin Builtin.append, args := #[Operand.tmp 18, Operand.tmp 19], argTypes := #[ 32, 32 ] }, type := 32, pos := "ref.go:23", after := #[{ on := 13, ground := Ground.data }, { on := 14, ground := Ground.data }, { on := 9, ground := Ground.chain }], guard := none }) rfl (fun K hK => ?_) (AllReadyL.cons (o := { dst := some 25, op := Op.buildSlice 33 1 #[(0, Operand.const (Value.slice none 0 0))], type := 33, pos := "ref.go:23", after := #[], guard := none }) rfl (fun K hK => ?_) AllReadyL.nil))
        · refine step_append_lies _ (by rfl) _ _ 32 (by rfl) 0 3 iU (.int .i64 0) 1 8 Try.underlying32 HIU.out.1 HIU.out.2.1 HIU.out.2.2.1 HIU.out.2.2.2 (by kernel_rfl) (by omega) (.slice pU m cU) m lU (by rfl) h15.rU ⟨A14, 0, none⟩ 1 1 [.int .i64 (-1)] (by rfl) (by rfl) (World.news_of_block (cs := #[.int .i64 (-1)]) (t := 3) (fr := (0, 0)) (h15.ex (A14, (.cells #[.int .i64 (-1)] 3 (0, 0))) (by simp)).1) (by simp [Value.oneCell']) (by omega) (by unfold maxLen; omega) (by omega) (by omega) W15.heap.size rfl ?_
          intro g16 c16 W16 hr16 hg16 ho16 _
          have h16 := h15.growU hr16 hg16 rfl ho16
          clear hr16 hg16 ho16
          have hS16 := (HSB.out W16 (h16.at_ (p := (B, _)) (by simp)) (h16.at_ (p := (T, _)) (by simp)))
          refine hK.out _ _ hS16 (fun hHeld => ?_)
          clear hK K
          try simp only [Act.put, List.setIfInBounds_toArray, List.set_cons_zero, List.set_cons_succ]
          refine wpAnyL_ready (rs := [20]) (by kernel_rfl) (by simp) ?_
          refine (AllReadyL.cons (o := { dst := some 25, op := Op.buildSlice 33 1 #[(0, Operand.const (Value.slice none 0 0))], type := 33, pos := "ref.go:23", after := #[], guard := none }) rfl (fun K hK => ?_) AllReadyL.nil)
          go_simp
          have h17 := h16.alloc (.cells #[.slice none 0 0] 32 (0, 0))
          have hS17 := HSB.out (W16.alloc (.cells #[.slice none 0 0] 32)) (h17.at_ (p := (B, _)) (by simp)) (h17.at_ (p := (T, _)) (by simp))
          refine hK.out _ _ hS17 (fun hHeld => ?_)
          clear hK K
          try simp only [Act.put, List.setIfInBounds_toArray, List.set_cons_zero, List.set_cons_succ]
          clear hHeld h16
          change wpAnyL _ _ _ _ _ _ _ _ _ (W16.alloc (.cells #[.slice none 0 0] 32))
          generalize (W16.alloc (.cells #[.slice none 0 0] 32)) = W17 at *
          generalize W16.heap.size = A17 at *
          have hHeld := hS17
          refine wpAnyL_ready (rs := [21]) (by kernel_rfl) (by simp) ?_
          refine (AllReadyL.cons (o := { dst := some 26, op := Op.call { callee := Callee.builtin Builtin.append, args := #[Operand.tmp 24, Operand.tmp 25], argTypes := #[ 33, 33 ] }, type := 33, pos := "ref.go:23", after := #[{ on := 19, ground := Ground.data }, { on := 20, ground := Ground.data }, { on := 15, ground := Ground.chain }], guard := none }) rfl (fun K hK => ?_) AllReadyL.nil)
          refine step_append_lies _ (by rfl) _ _ 33 (by rfl) 0 32 iR (.slice none 0 0) 1 24 Try.underlying33 HIR.out.1 HIR.out.2.1 HIR.out.2.2.1 HIR.out.2.2.2 (by kernel_rfl) (by omega) (.slice pR m cR) m lR (by rfl) h17.rR ⟨A17, 0, none⟩ 1 1 [.slice none 0 0] (by rfl) (by rfl) (World.news_of_block (cs := #[.slice none 0 0]) (t := 32) (fr := (0, 0)) (h17.ex (A17, (.cells #[.slice none 0 0] 32 (0, 0))) (by simp)).1) (by simp [Value.oneCell']) (by omega) (by unfold maxLen; omega) (by omega) (by omega) W17.heap.size rfl ?_
          intro g18 c18 W18 hr18 hg18 ho18 _
          have h18 := h17.growR hr18 hg18 rfl ho18
          clear hr18 hg18 ho18
          have hS18 := (HSB.out W18 (h18.at_ (p := (B, _)) (by simp)) (h18.at_ (p := (T, _)) (by simp)))
          refine hK.out _ _ hS18 (fun hHeld => ?_)
          clear hK K
          try simp only [Act.put, List.setIfInBounds_toArray, List.set_cons_zero, List.set_cons_succ]
          exact rlay_tail (h18.less (ex' := [(B, (.cells #[.slice pN m cN, .slice pU m cU, .slice pR m cR] 35 (0, 0)))]) (by simp)) hMB (by kernel_rfl) (by kernel_rfl) (by kernel_rfl) (by kernel_rfl) (by kernel_rfl) (by kernel_rfl) (by kernel_rfl) (by kernel_rfl) (by kernel_rfl) (by kernel_rfl) (fun _ _ _ _ _ _ _ k => HQ.out _ _ _ _ _ _ _ _ _ _ _ _ _ _ _ _ _ _ _ _ _ _ _ _ _ _ _ _ _ _ _ _ k)
        · go_simp
          have h19 := h15.alloc (.cells #[.slice none 0 0] 32 (0, 0))
          have hS19 := HSB.out (W15.alloc (.cells #[.slice none 0 0] 32)) (h19.at_ (p := (B, _)) (by simp)) (h19.at_ (p := (T, _)) (by simp))
          refine hK.out _ _ hS19 (fun hHeld => ?_)
          clear hK K
          try simp only [Act.put, List.setIfInBounds_toArray, List.set_cons_zero, List.set_cons_succ]
          clear hHeld h15
          change wpAnyL _ _ _ _ _ _ _ _ _ (W15.alloc (.cells #[.slice none 0 0] 32))
          generalize (W15.alloc (.cells #[.slice none 0 0] 32)) = W19 at *
          generalize W15.heap.size = A19 at *
          have hHeld := hS19
          refine wpAnyL_ready (rs := [15]) (by kernel_rfl) (by simp) ?_
          refine (AllReadyL.cons (o := { dst := some 20, op := Op.call { callee := Callee.builtin Builtin.append, args := #[Operand.tmp 18, Operand.tmp 19], argTypes := #[ 32, 32 ] }, type := 32, pos := "ref.go:23", after := #[{ on := 13, ground := Ground.data }, { on := 14, ground := Ground.data }, { on := 9, ground := Ground.chain }], guard := none }) rfl (fun K hK => ?_) AllReadyL.nil)
          refine step_append_lies _ (by rfl) _ _ 32 (by rfl) 0 3 iU (.int .i64 0) 1 8 Try.underlying32 HIU.out.1 HIU.out.2.1 HIU.out.2.2.1 HIU.out.2.2.2 (by kernel_rfl) (by omega) (.slice pU m cU) m lU (by rfl) h19.rU ⟨A14, 0, none⟩ 1 1 [.int .i64 (-1)] (by rfl) (by rfl) (World.news_of_block (cs := #[.int .i64 (-1)]) (t := 3) (fr := (0, 0)) (h19.ex (A14, (.cells #[.int .i64 (-1)] 3 (0, 0))) (by simp)).1) (by simp [Value.oneCell']) (by omega) (by unfold maxLen; omega) (by omega) (by omega) W19.heap.size rfl ?_
          intro g20 c20 W20 hr20 hg20 ho20 _
          have h20 := h19.growU hr20 hg20 rfl ho20
          clear hr20 hg20 ho20
          have hS20 := (HSB.out W20 (h20.at_ (p := (B, _)) (by simp)) (h20.at_ (p := (T, _)) (by simp)))
          refine hK.out _ _ hS20 (fun hHeld => ?_)
          clear hK K
          try simp only [Act.put, List.setIfInBounds_toArray, List.set_cons_zero, List.set_cons_succ]
          refine wpAnyL_ready (rs := [21]) (by kernel_rfl) (by simp) ?_
          refine (AllReadyL.cons (o := { dst := some 26, op := Op.call { callee := Callee.builtin Builtin.append, args := #[Operand.tmp 24, Operand.tmp 25], argTypes := #[ 33, 33 ] }, type := 33, pos := "ref.go:23", after := #[{ on := 19, ground := Ground.data }, { on := 20, ground := Ground.data }, { on := 15, ground := Ground.chain }], guard := none }) rfl (fun K hK => ?_) AllReadyL.nil)
          refine step_append_lies _ (by rfl) _ _ 33 (by rfl) 0 32 iR (.slice none 0 0) 1 24 Try.underlying33 HIR.out.1 HIR.out.2.1 HIR.out.2.2.1 HIR.out.2.2.2 (by kernel_rfl) (by omega) (.slice pR m cR) m lR (by rfl) h20.rR ⟨A19, 0, none⟩ 1 1 [.slice none 0 0] (by rfl) (by rfl) (World.news_of_block (cs := #[.slice none 0 0]) (t := 32) (fr := (0, 0)) (h20.ex (A19, (.cells #[.slice none 0 0] 32 (0, 0))) (by simp)).1) (by simp [Value.oneCell']) (by omega) (by unfold maxLen; omega) (by omega) (by omega) W20.heap.size rfl ?_
          intro g21 c21 W21 hr21 hg21 ho21 _
          have h21 := h20.growR hr21 hg21 rfl ho21
          clear hr21 hg21 ho21
          have hS21 := (HSB.out W21 (h21.at_ (p := (B, _)) (by simp)) (h21.at_ (p := (T, _)) (by simp)))
          refine hK.out _ _ hS21 (fun hHeld => ?_)
          clear hK K
          try simp only [Act.put, List.setIfInBounds_toArray, List.set_cons_zero, List.set_cons_succ]
          exact rlay_tail (h21.less (ex' := [(B, (.cells #[.slice pN m cN, .slice pU m cU, .slice pR m cR] 35 (0, 0)))]) (by simp)) hMB (by kernel_rfl) (by kernel_rfl) (by kernel_rfl) (by kernel_rfl) (by kernel_rfl) (by kernel_rfl) (by kernel_rfl) (by kernel_rfl) (by kernel_rfl) (by kernel_rfl) (fun _ _ _ _ _ _ _ k => HQ.out _ _ _ _ _ _ _ _ _ _ _ _ _ _ _ _ _ _ _ _ _ _ _ _ _ _ _ _ _ _ _ _ k)
      · go_simp
        have h22 := h14.alloc (.cells #[.slice none 0 0] 32 (0, 0))
        have hS22 := HSB.out (W14.alloc (.cells #[.slice none 0 0] 32)) (h22.at_ (p := (B, _)) (by simp)) (h22.at_ (p := (T, _)) (by simp))
        refine hK.out _ _ hS22 (fun hHeld => ?_)
        clear hK K
        try simp only [Act.put, List.setIfInBounds_toArray, List.set_cons_zero, List.set_cons_succ]
        clear hHeld h14
        change wpAnyL _ _ _ _ _ _ _ _ _ (W14.alloc (.cells #[.slice none 0 0] 32))
        generalize (W14.alloc (.cells #[.slice none 0 0] 32)) = W22 at *
        generalize W14.heap.size = A22 at *
        have hHeld := hS22
        refine wpAnyL_ready (rs := [9]) (by kernel_rfl) (by simp) ?_
        refine (AllReadyL.cons (o := { dst := some 14, op := Op.call { callee := Callee.builtin Builtin.append, args := #[Operand.tmp 11, Operand.tmp 13], argTypes := #[ 31, 31 ] }, type := 31, pos := "ref.go:23", after := #[{ on := 6, ground := Ground.data }, { on := 8, ground := Ground.data }], guard := none }) rfl (fun K hK => ?_) AllReadyL.nil)
        refine step_append_lies _ (by rfl) _ _ 31 (by rfl) 0 43 iN (.agg #[.int .i64 0, .int .i64 0, .string ByteArray.empty, .slice none 0 0, .string ByteArray.empty, .int .i64 0, .slice none 0 0]) 7 104 Try.underlying31 HIN.out.1 HIN.out.2.1 HIN.out.2.2.1 HIN.out.2.2.2 (by kernel_rfl) (by omega) (.slice pN m cN) m lN (by rfl) h22.rN ⟨A1, 0, none⟩ 1 1 [.int .i64 x0, .int .i64 x1, .string NM, .slice pa la ca, .string TX, .int .i64 x5, .slice none 0 0] (by rfl) (by rfl) (World.news_of_block (cs := #[.int .i64 x0, .int .i64 x1, .string NM, .slice pa la ca, .string TX, .int .i64 x5, .slice none 0 0]) (t := 43) (fr := (0, 0)) (h22.ex (A1, (.cells #[.int .i64 x0, .int .i64 x1, .string NM, .slice pa la ca, .string TX, .int .i64 x5, .slice none 0 0] 43 (0, 0))) (by simp)).1) (by simp [Value.oneCell']) (by omega) (by unfold maxLen; omega) (by omega) (by omega) W22.heap.size rfl ?_
        intro g23 c23 W23 hr23 hg23 ho23 _
        have h23 := h22.growN hr23 hg23 rfl ho23
        clear hr23 hg23 ho23
        have hS23 := (HSB.out W23 (h23.at_ (p := (B, _)) (by simp)) (h23.at_ (p := (T, _)) (by simp)))
        refine hK.out _ _ hS23 (fun hHeld => ?_)
        clear hK K
        try simp only [Act.put, List.setIfInBounds_toArray, List.set_cons_zero, List.set_cons_succ]
        refine wpAnyL_ready (rs := [15]) (by kernel_rfl) (by simp) ?_
        refine (AllReadyL.cons (o := { dst := some 20, op := Op.call { callee := Callee.builtin Builtin.append, args := #[Operand.tmp 18, Operand.tmp 19], argTypes := #[ 32, 32 ] }, type := 32, pos := "ref.go:23", after := #[{ on := 13, ground := Ground.data }, { on := 14, ground := Ground.data }, { on := 9, ground := Ground.chain }], guard := none }) rfl (fun K hK => ?_) AllReadyL.nil)
        refine step_append_lies _ (by rfl) _ _ 32 (by rfl) 0 3 iU (.int .i64 0) 1 8 Try.underlying32 HIU.out.1 HIU.out.2.1 HIU.out.2.2.1 HIU.out.2.2.2 (by kernel_rfl) (by omega) (.slice pU m cU) m lU (by rfl) h23.rU ⟨A14, 0, none⟩ 1 1 [.int .i64 (-1)] (by rfl) (by rfl) (World.news_of_block (cs := #[.int .i64 (-1)]) (t := 3) (fr := (0, 0)) (h23.ex (A14, (.cells #[.int .i64 (-1)] 3 (0, 0))) (by simp)).1) (by simp [Value.oneCell']) (by omega) (by unfold maxLen; omega) (by omega) (by omega) W23.heap.size rfl ?_
        intro g24 c24 W24 hr24 hg24 ho24 _
        have h24 := h23.growU hr24 hg24 rfl ho24
        clear hr24 hg24 ho24
        have hS24 := (HSB.out W24 (h24.at_ (p := (B, _)) (by simp)) (h24.at_ (p := (T, _)) (by simp)))
        refine hK.out _ _ hS24 (fun hHeld => ?_)
        clear hK K
        try simp only [Act.put, List.setIfInBounds_toArray, List.set_cons_zero, List.set_cons_succ]
        refine wpAnyL_ready (rs := [21]) (by kernel_rfl) (by simp) ?_
        refine (AllReadyL.cons (o := { dst := some 26, op := Op.call { callee := Callee.builtin Builtin.append, args := #[Operand.tmp 24, Operand.tmp 25], argTypes := #[ 33, 33 ] }, type := 33, pos := "ref.go:23", after := #[{ on := 19, ground := Ground.data }, { on := 20, ground := Ground.data }, { on := 15, ground := Ground.chain }], guard := none }) rfl (fun K hK => ?_) AllReadyL.nil)
        refine step_append_lies _ (by rfl) _ _ 33 (by rfl) 0 32 iR (.slice none 0 0) 1 24 Try.underlying33 HIR.out.1 HIR.out.2.1 HIR.out.2.2.1 HIR.out.2.2.2 (by kernel_rfl) (by omega) (.slice pR m cR) m lR (by rfl) h24.rR ⟨A22, 0, none⟩ 1 1 [.slice none 0 0] (by rfl) (by rfl) (World.news_of_block (cs := #[.slice none 0 0]) (t := 32) (fr := (0, 0)) (h24.ex (A22, (.cells #[.slice none 0 0] 32 (0, 0))) (by simp)).1) (by simp [Value.oneCell']) (by omega) (by unfold maxLen; omega) (by omega) (by omega) W24.heap.size rfl ?_
        intro g25 c25 W25 hr25 hg25 ho25 _
        have h25 := h24.growR hr25 hg25 rfl ho25
        clear hr25 hg25 ho25
        have hS25 := (HSB.out W25 (h25.at_ (p := (B, _)) (by simp)) (h25.at_ (p := (T, _)) (by simp)))
        refine hK.out _ _ hS25 (fun hHeld => ?_)
        clear hK K
        try simp only [Act.put, List.setIfInBounds_toArray, List.set_cons_zero, List.set_cons_succ]
        exact rlay_tail (h25.less (ex' := [(B, (.cells #[.slice pN m cN, .slice pU m cU, .slice pR m cR] 35 (0, 0)))]) (by simp)) hMB (by kernel_rfl) (by kernel_rfl) (by kernel_rfl) (by kernel_rfl) (by kernel_rfl) (by kernel_rfl) (by kernel_rfl) (by kernel_rfl) (by kernel_rfl) (by kernel_rfl) (fun _ _ _ _ _ _ _ k => HQ.out _ _ _ _ _ _ _ _ _ _ _ _ _ _ _ _ _ _ _ _ _ _ _ _ _ _ _ _ _ _ _ _ k)
    · go_simp
      have h26 := h1.alloc (.cells #[.slice none 0 0] 32 (0, 0))
      have hS26 := HSB.out (W1.alloc (.cells #[.slice none 0 0] 32)) (h26.at_ (p := (B, _)) (by simp)) (h26.at_ (p := (T, _)) (by simp))
      refine hK.out _ _ hS26 (fun hHeld => ?_)
      clear hK K
      try simp only [Act.put, List.setIfInBounds_toArray, List.set_cons_zero, List.set_cons_succ]
      clear hHeld h1
      change wpAnyL _ _ _ _ _ _ _ _ _ (W1.alloc (.cells #[.slice none 0 0] 32))
      generalize (W1.alloc (.cells #[.slice none 0 0] 32)) = W26 at *
      generalize W1.heap.size = A26 at *
      have hHeld := hS26
      refine wpAnyL_ready (rs := [9, 14]) (by kernel_rfl) (by simp) ?_
      refine (AllReadyL.cons (o := { dst := some 14, op := Op.call { callee := Callee.builtin Builtin.append, args := #[Operand.tmp 11, Operand.tmp 13], argTypes := #[ 31, 31 ] }, type := 31, pos := "ref.go:23", after := #[{ on := 6, ground := Ground.data }, { on := 8, ground := Ground.data }], guard := none }) rfl (fun K hK => ?_) (AllReadyL.cons (o := { dst := some 19, op := Op.buildSlice 32 1 #[(0, Operand.const (Value.int IntKind.i64 (-1)))], type := 32, pos := "ref.go:23", after := #[], guard := none }) rfl (fun K hK => ?_) AllReadyL.nil))
      · refine step_append_lies _ (by rfl) _ _ 31 (by rfl) 0 43 iN (.agg #[.int .i64 0, .int .i64 0, .string ByteArray.empty, .slice none 0 0, .string ByteArray.empty, .int .i64 0, .slice none 0 0]) 7 104 Try.underlying31 HIN.out.1 HIN.out.2.1 HIN.out.2.2.1 HIN.out.2.2.2 (by kernel_rfl) (by omega) (.slice pN m cN) m lN (by rfl) h26.rN ⟨A1, 0, none⟩ 1 1 [.int .i64 x0, .int .i64 x1, .string NM, .slice pa la ca, .string TX, .int .i64 x5, .slice none 0 0] (by rfl) (by rfl) (World.news_of_block (cs := #[.int .i64 x0, .int .i64 x1, .string NM, .slice pa la ca, .string TX, .int .i64 x5, .slice none 0 0]) (t := 43) (fr := (0, 0)) (h26.ex (A1, (.cells #[.int .i64 x0, .int .i64 x1, .string NM, .slice pa la ca, .string TX, .int .i64 x5, .slice none 0 0] 43 (0, 0))) (by simp)).1) (by simp [Value.oneCell']) (by omega) (by unfold maxLen; omega) (by omega) (by omega) W26.heap.size rfl ?_
        intro g27 c27 W27 hr27 hg27 ho27 _
        have h27 := h26.growN hr27 hg27 rfl ho27
        clear hr27 hg27 ho27
        have hS27 := (HSB.out W27 (h27.at_ (p := (B, _)) (by simp)) (h27.at_ (p := (T, _)) (by simp)))
        refine hK.out _ _ hS27 (fun hHeld => ?_)
        clear hK K
        try simp only [Act.put, List.setIfInBounds_toArray, List.set_cons_zero, List.set_cons_succ]
        refine wpAnyL_ready (rs := [14]) (by kernel_rfl) (by simp) ?_
        refine (AllReadyL.cons (o := { dst := some 19, op := Op.buildSlice 32 1 #[(0, Operand.const (Value.int IntKind.i64 (-1)))], type := 32, pos := "ref.go:23", after := #[], guard := none }) rfl (fun K hK => ?_) AllReadyL.nil)
        go_simp
        have h28 := h27.alloc (.cells #[.int .i64 (-1)] 3 (0, 0))
        have hS28 := HSB.out (W27.alloc (.cells #[.int .i64 (-1)] 3)) (h28.at_ (p := (B, _)) (by simp)) (h28.at_ (p := (T, _)) (by simp))
        refine hK.out _ _ hS28 (fun hHeld => ?_)
        clear hK K
        try simp only [Act.put, List.setIfInBounds_toArray, List.set_cons_zero, List.set_cons_succ]
        clear hHeld h27
        change wpAnyL _ _ _ _ _ _ _ _ _ (W27.alloc (.cells #[.int .i64 (-1)] 3))
        generalize (W27.alloc (.cells #[.int .i64 (-1)] 3)) = W28 at *
        generalize W27.heap.size = A28 at *
        have hHeld := hS28
        refine wpAnyL_ready (rs := [15]) (by kernel_rfl) (by simp) ?_
        refine (AllReadyL.cons (o := { dst := some 20, op := Op.call { callee := Callee.builtin Builtin.append, args := #[Operand.tmp 18, Operand.tmp 19], argTypes := #[ 32, 32 ] }, type := 32, pos := "ref.go:23", after := #[{ on := 13, ground := Ground.data }, { on := 14, ground := Ground.data }, { on := 9, ground := Ground.chain }], guard := none }) rfl (fun K hK => ?_) AllReadyL.nil)
        refine step_append_lies _ (by rfl) _ _ 32 (by rfl) 0 3 iU (.int .i64 0) 1 8 Try.underlying32 HIU.out.1 HIU.out.2.1 HIU.out.2.2.1 HIU.out.2.2.2 (by kernel_rfl) (by omega) (.slice pU m cU) m lU (by rfl) h28.rU ⟨A28, 0, none⟩ 1 1 [.int .i64 (-1)] (by rfl) (by rfl) (World.news_of_block (cs := #[.int .i64 (-1)]) (t := 3) (fr := (0, 0)) (h28.ex (A28, (.cells #[.int .i64 (-1)] 3 (0, 0))) (by simp)).1) (by simp [Value.oneCell']) (by omega) (by unfold maxLen; omega) (by omega) (by omega) W28.heap.size rfl ?_
        intro g29 c29 W29 hr29 hg29 ho29 _
        have h29 := h28.growU hr29 hg29 rfl ho29
        clear hr29 hg29 ho29
        have hS29 := (HSB.out W29 (h29.at_ (p := (B, _)) (by simp)) (h29.at_ (p := (T, _)) (by simp)))
        refine hK.out _ _ hS29 (fun hHeld => ?_)
        clear hK K
        try simp only [Act.put, List.setIfInBounds_toArray, List.set_cons_zero, List.set_cons_succ]
        refine wpAnyL_ready (rs := [21]) (by kernel_rfl) (by simp) ?_
        refine (AllReadyL.cons (o := { dst := some 26, op := Op.call { callee := Callee.builtin Builtin.append, args := #[Operand.tmp 24, Operand.tmp 25], argTypes := #[ 33, 33 ] }, type := 33, pos := "ref.go:23", after := #[{ on := 19, ground := Ground.data }, { on := 20, ground := Ground.data }, { on := 15, ground := Ground.chain }], guard := none }) rfl (fun K hK => ?_) AllReadyL.nil)
        refine step_append_lies _ (by rfl) _ _ 33 (by rfl) 0 32 iR (.slice none 0 0) 1 24 Try.underlying33 HIR.out.1 HIR.out.2.1 HIR.out.2.2.1 HIR.out.2.2.2 (by kernel_rfl) (by omega) (.slice pR m cR) m lR (by rfl) h29.rR ⟨A26, 0, none⟩ 1 1 [.slice none 0 0] (by rfl) (by rfl) (World.news_of_block (cs := #[.slice none 0 0]) (t := 32) (fr := (0, 0)) (h29.ex (A26, (.cells #[.slice none 0 0] 32 (0, 0))) (by simp)).1) (by simp [Value.oneCell']) (by omega) (by unfold maxLen; omega) (by omega) (by omega) W29.heap.size rfl ?_
        intro g30 c30 W30 hr30 hg30 ho30 _
        have h30 := h29.growR hr30 hg30 rfl ho30
        clear hr30 hg30 ho30
        have hS30 := (HSB.out W30 (h30.at_ (p := (B, _)) (by simp)) (h30.at_ (p := (T, _)) (by simp)))
        refine hK.out _ _ hS30 (fun hHeld => ?_)
        clear hK K
        try simp only [Act.put, List.setIfInBounds_toArray, List.set_cons_zero, List.set_cons_succ]
        exact rlay_tail (h30.less (ex' := [(B, (.cells #[.slice pN m cN, .slice pU m cU, .slice pR m cR] 35 (0, 0)))]) (by simp)) hMB (by kernel_rfl) (by kernel_rfl) (by kernel_rfl) (by kernel_rfl) (by kernel_rfl) (by kernel_rfl) (by kernel_rfl) (by kernel_rfl) (by kernel_rfl) (by kernel_rfl) (fun _ _ _ _ _ _ _ k => HQ.out _ _ _ _ _ _ _ _ _ _ _ _ _ _ _ _ _ _ _ _ _ _ _ _ _ _ _ _ _ _ _ _ k)
      · go_simp
        have h31 := h26.alloc (.cells #[.int .i64 (-1)] 3 (0, 0))
        have hS31 := HSB.out (W26.alloc (.cells #[.int .i64 (-1)] 3)) (h31.at_ (p := (B, _)) (by simp)) (h31.at_ (p := (T, _)) (by simp))
        refine hK.out _ _ hS31 (fun hHeld => ?_)
        clear hK K
        try simp only [Act.put, List.setIfInBounds_toArray, List.set_cons_zero, List.set_cons_succ]
        clear hHeld h26
        change wpAnyL _ _ _ _ _ _ _ _ _ (W26.alloc (.cells #[.int .i64 (-1)] 3))
        generalize (W26.alloc (.cells #[.int .i64 (-1)] 3)) = W31 at *
        generalize W26.heap.size = A31 at *
        have hHeld := hS31
        refine wpAnyL_ready (rs := [9]) (by kernel_rfl) (by simp) ?_
        refine (AllReadyL.cons (o := { dst := some 14, op := Op.call { callee := Callee.builtin Builtin.append, args := #[Operand.tmp 11, Operand.tmp 13], argTypes := #[ 31, 31 ] }, type := 31, pos := "ref.go:23", after := #[{ on := 6, ground := Ground.data }, { on := 8, ground := Ground.data }], guard := none }) rfl (fun K hK => ?_) AllReadyL.nil)
        refine step_append_lies _ (by rfl) _ _ 31 (by rfl) 0 43 iN (.agg #[.int .i64 0, .int .i64 0, .string ByteArray.empty, .slice none 0 0, .string ByteArray.empty, .int .i64 0, .slice none 0 0]) 7 104 Try.underlying31 HIN.out.1 HIN.out.2.1 HIN.out.2.2.1 HIN.out.2.2.2 (by kernel_rfl) (by omega) (.slice pN m cN) m lN (by rfl) h31.rN ⟨A1, 0, none⟩ 1 1 [.int .i64 x0, .int .i64 x1, .string NM, .slice pa la ca, .string TX, .int .i64 x5, .slice none 0 0] (by rfl) (by rfl) (World.news_of_block (cs := #[.int .i64 x0, .int .i64 x1, .string NM, .slice pa la ca, .string TX, .int .i64 x5, .slice none 0 0]) (t := 43) (fr := (0, 0)) (h31.ex (A1, (.cells #[.int .i64 x0, .int .i64 x1, .string NM, .slice pa la ca, .string TX, .int .i64 x5, .slice none 0 0] 43 (0, 0))) (by simp)).1) (by simp [Value.oneCell']) (by omega) (by unfold maxLen; omega) (by omega) (by omega) W31.heap.size rfl ?_
        intro g32 c32 W32 hr32 hg32 ho32 _
        have h32 := h31.growN hr32 hg32 rfl ho32
        clear hr32 hg32 ho32
        have hS32 := (HSB.out W32 (h32.at_ (p := (B, _)) (by simp)) (h32.at_ (p := (T, _)) (by simp)))
        refine hK.out _ _ hS32 (fun hHeld => ?_)
        clear hK K
        try simp only [Act.put, List.setIfInBounds_toArray, List.set_cons_zero, List.set_cons_succ]
        refine wpAnyL_ready (rs := [15]) (by kernel_rfl) (by simp) ?_
        refine (AllReadyL.cons (o := { dst := some 20, op := Op.call { callee := Callee.builtin Builtin.append, args := #[Operand.tmp 18, Operand.tmp 19], argTypes := #[ 32, 32 ] }, type := 32, pos := "ref.go:23", after := #[{ on := 13, ground := Ground.data }, { on := 14, ground := Ground.data }, { on := 9, ground := Ground.chain }], guard := none }) rfl (fun K hK => ?_) AllReadyL.nil)
        refine step_append_lies _ (by rfl) _ _ 32 (by rfl) 0 3 iU (.int .i64 0) 1 8 Try.underlying32 HIU.out.1 HIU.out.2.1 HIU.out.2.2.1 HIU.out.2.2.2 (by kernel_rfl) (by omega) (.slice pU m cU) m lU (by rfl) h32.rU ⟨A31, 0, none⟩ 1 1 [.int .i64 (-1)] (by rfl) (by rfl) (World.news_of_block (cs := #[.int .i64 (-1)]) (t := 3) (fr := (0, 0)) (h32.ex (A31, (.cells #[.int .i64 (-1)] 3 (0, 0))) (by simp)).1) (by simp [Value.oneCell']) (by omega) (by unfold maxLen; omega) (by omega) (by omega) W32.heap.size rfl ?_
        intro g33 c33 W33 hr33 hg33 ho33 _
        have h33 := h32.growU hr33 hg33 rfl ho33
        clear hr33 hg33 ho33
        have hS33 := (HSB.out W33 (h33.at_ (p := (B, _)) (by simp)) (h33.at_ (p := (T, _)) (by simp)))
        refine hK.out _ _ hS33 (fun hHeld => ?_)
        clear hK K
        try simp only [Act.put, List.setIfInBounds_toArray, List.set_cons_zero, List.set_cons_succ]
        refine wpAnyL_ready (rs := [21]) (by kernel_rfl) (by simp) ?_
        refine (AllReadyL.cons (o := { dst := some 26, op := Op.call { callee := Callee.builtin Builtin.append, args := #[Operand.tmp 24, Operand.tmp 25], argTypes := #[ 33, 33 ] }, type := 33, pos := "ref.go:23", after := #[{ on := 19, ground := Ground.data }, { on := 20, ground := Ground.data }, { on := 15, ground := Ground.chain }], guard := none }) rfl (fun K hK => ?_) AllReadyL.nil)
        refine step_append_lies _ (by rfl) _ _ 33 (by rfl) 0 32 iR (.slice none 0 0) 1 24 Try.underlying33 HIR.out.1 HIR.out.2.1 HIR.out.2.2.1 HIR.out.2.2.2 (by kernel_rfl) (by omega) (.slice pR m cR) m lR (by rfl) h33.rR ⟨A26, 0, none⟩ 1 1 [.slice none 0 0] (by rfl) (by rfl) (World.news_of_block (cs := #[.slice none 0 0]) (t := 32) (fr := (0, 0)) (h33.ex (A26, (.cells #[.slice none 0 0] 32 (0, 0))) (by simp)).1) (by simp [Value.oneCell']) (by omega) (by unfold maxLen; omega) (by omega) (by omega) W33.heap.size rfl ?_
        intro g34 c34 W34 hr34 hg34 ho34 _
        have h34 := h33.growR hr34 hg34 rfl ho34
        clear hr34 hg34 ho34
        have hS34 := (HSB.out W34 (h34.at_ (p := (B, _)) (by simp)) (h34.at_ (p := (T, _)) (by simp)))
        refine hK.out _ _ hS34 (fun hHeld => ?_)
        clear hK K
        try simp only [Act.put, List.setIfInBounds_toArray, List.set_cons_zero, List.set_cons_succ]
        exact rlay_tail (h34.less (ex' := [(B, (.cells #[.slice pN m cN, .slice pU m cU, .slice pR m cR] 35 (0, 0)))]) (by simp)) hMB (by kernel_rfl) (by kernel_rfl) (by kernel_rfl) (by kernel_rfl) (by kernel_rfl) (by kernel_rfl) (by kernel_rfl) (by kernel_rfl) (by kernel_rfl) (by kernel_rfl) (fun _ _ _ _ _ _ _ k => HQ.out _ _ _ _ _ _ _ _ _ _ _ _ _ _ _ _ _ _ _ _ _ _ _ _ _ _ _ _ _ _ _ _ k)
  · go_simp
    have h35 := h0.alloc (.cells #[.int .i64 (-1)] 3 (0, 0))
    have hS35 := HSB.out (W0.alloc (.cells #[.int .i64 (-1)] 3)) (h35.at_ (p := (B, _)) (by simp)) (h35.at_ (p := (T, _)) (by simp))
    refine hK.out _ _ hS35 (fun hHeld => ?_)
    clear hK K
    try simp only [Act.put, List.setIfInBounds_toArray, List.set_cons_zero, List.set_cons_succ]
    clear hHeld h0
    change wpAnyL _ _ _ _ _ _ _ _ _ (W0.alloc (.cells #[.int .i64 (-1)] 3))
    generalize (W0.alloc (.cells #[.int .i64 (-1)] 3)) = W35 at *
    generalize W0.heap.size = A35 at *
    have hHeld := hS35
    refine wpAnyL_ready (rs := [8, 20]) (by kernel_rfl) (by simp) ?_
    refine (AllReadyL.cons (o := { dst := some 13, op := Op.buildSlice 31 1 #[(0, Operand.tmp 12)], type := 31, pos := "ref.go:23", after := #[{ on := 7, ground := Ground.data }], guard := none }) rfl (fun K hK => ?_) (AllReadyL.cons (o := { dst := some 25, op := Op.buildSlice 33 1 #[(0, Operand.const (Value.slice none 0 0))], type := 33, pos := "ref.go:23", after := #[], guard := none }) rfl (fun K hK => ?_) AllReadyL.nil))
    · go_simp
      have h36 := h35.alloc (.cells #[.int .i64 x0, .int .i64 x1, .string NM, .slice pa la ca, .string TX, .int .i64 x5, .slice none 0 0] 43 (0, 0))
      have hS36 := HSB.out (W35.alloc (.cells #[.int .i64 x0, .int .i64 x1, .string NM, .slice pa la ca, .string TX, .int .i64 x5, .slice none 0 0] 43)) (h36.at_ (p := (B, _)) (by simp)) (h36.at_ (p := (T, _)) (by simp))
      refine hK.out _ _ hS36 (fun hHeld => ?_)
      clear hK K
      try simp only [Act.put, List.setIfInBounds_toArray, List.set_cons_zero, List.set_cons_succ]
      clear hHeld h35
      change wpAnyL _ _ _ _ _ _ _ _ _ (W35.alloc (.cells #[.int .i64 x0, .int .i64 x1, .string NM, .slice pa la ca, .string TX, .int .i64 x5, .slice none 0 0] 43))
      generalize (W35.alloc (.cells #[.int .i64 x0, .int .i64 x1, .string NM, .slice pa la ca, .string TX, .int .i64 x5, .slice none 0 0] 43)) = W36 at *
      generalize W35.heap.size = A36 at *
      have hHeld := hS36
      refine wpAnyL_ready (rs := [9, 20]) (by kernel_rfl) (by simp) ?_
      refine (AllReadyL.cons (o := { dst := some 14, op := Op.call { callee := Callee.builtin Builtin.append, args := #[Operand.tmp 11, Operand.tmp 13], argTypes := #[ 31, 31 ] }, type := 31, pos := "ref.go:23", after := #[{ on := 6, ground := Ground.data }, { on := 8, ground := Ground.data }], guard := none }) rfl (fun K hK => ?_) (AllReadyL.cons (o := { dst := some 25, op := Op.buildSlice 33 1 #[(0, Operand.const (Value.slice none 0 0))], type := 33, pos := "ref.go:23", after := #[], guard := none }) rfl (fun K hK => ?_) AllReadyL.nil))
      · refine step_append_lies _ (by rfl) _ _ 31 (by rfl) 0 43 iN (.agg #[.int .i64 0, .int .i64 0, .string ByteArray.empty, .slice none 0 0, .string ByteArray.empty, .int .i64 0, .slice none 0 0]) 7 104 Try.underlying31 HIN.out.1 HIN.out.2.1 HIN.out.2.2.1 HIN.out.2.2.2 (by kernel_rfl) (by omega) (.slice pN m cN) m lN (by rfl) h36.rN ⟨A36, 0, none⟩ 1 1 [.int .i64 x0, .int .i64 x1, .string NM, .slice pa la ca, .string TX, .int .i64 x5, .slice none 0 0] (by rfl) (by rfl) (World.news_of_block (cs := #[.int .i64 x0, .int .i64 x1, .string NM, .slice pa la ca, .string TX, .int .i64 x5, .slice none 0 0]) (t := 43) (fr := (0, 0)) (h36.ex (A36, (.cells #[.int .i64 x0, .int .i64 x1, .string NM, .slice pa la ca, .string TX, .int .i64 x5, .slice none 0 0] 43 (0, 0))) (by simp)).1) (by simp [Value.oneCell']) (by omega) (by unfold maxLen; omega) (by omega) (by omega) W36.heap.size rfl ?_
        intro g37 c37 W37 hr37 hg37 ho37 _
        have h37 := h36.growN hr37 hg37 rfl ho37
        clear hr37 hg37 ho37
        have hS37 := (HSB.out W37 (h37.at_ (p := (B, _)) (by simp)) (h37.at_ (p := (T, _)) (by simp)))
        refine hK.out _ _ hS37 (fun hHeld => ?_)
        clear hK K
        try simp only [Act.put, List.setIfInBounds_toArray, List.set_cons_zero, List.set_cons_succ]
        refine wpAnyL_ready (rs := [15, 20]) (by kernel_rfl) (by simp) ?_
        refine (AllReadyL.cons (o := { dst := some 20, op := Op.call { callee := Callee.builtin Builtin.append, args := #[Operand.tmp 18, Operand.tmp 19], argTypes := #[ 32, 32 ] }, type := 32, pos := "ref.go:23", after := #[{ on := 13, ground := Ground.data }, { on := 14, ground := Ground.data }, { on := 9, ground := Ground.chain }], guard := none }) rfl (fun K hK => ?_) (AllReadyL.cons (o := { dst := some 25, op := Op.buildSlice 33 1 #[(0, Operand.const (Value.slice none 0 0))], type := 33, pos := "ref.go:23", after := #[], guard := none }) rfl (fun K hK => ?_) AllReadyL.nil))
        · refine step_append_lies _ (by rfl) _ _ 32 (by rfl) 0 3 iU (.int .i64 0) 1 8 Try.underlying32 HIU.out.1 HIU.out.2.1 HIU.out.2.2.1 HIU.out.2.2.2 (by kernel_rfl) (by omega) (.slice pU m cU) m lU (by rfl) h37.rU ⟨A35, 0, none⟩ 1 1 [.int .i64 (-1)] (by rfl) (by rfl) (World.news_of_block (cs := #[.int .i64 (-1)]) (t := 3) (fr := (0, 0)) (h37.ex (A35, (.cells #[.int .i64 (-1)] 3 (0, 0))) (by simp)).1) (by simp [Value.oneCell']) (by omega) (by unfold maxLen; omega) (by omega) (by omega) W37.heap.size rfl ?_
          intro g38 c38 W38 hr38 hg38 ho38 _
          have h38 := h37.growU hr38 hg38 rfl ho38
          clear hr38 hg38 ho38
          have hS38 := (HSB.out W38 (h38.at_ (p := (B, _)) (by simp)) (h38.at_ (p := (T, _)) (by simp)))
          refine hK.out _ _ hS38 (fun hHeld => ?_)
          clear hK K
          try simp only [Act.put, List.setIfInBounds_toArray, List.set_cons_zero, List.set_cons_succ]
          refine wpAnyL_ready (rs := [20]) (by kernel_rfl) (by simp) ?_
          refine (AllReadyL.cons (o := { dst := some 25, op := Op.buildSlice 33 1 #[(0, Operand.const (Value.slice none 0 0))], type := 33, pos := "ref.go:23", after := #[], guard := none }) rfl (fun K hK => ?_) AllReadyL.nil)
          go_simp
          have h39 := h38.alloc (.cells #[.slice none 0 0] 32 (0, 0))
          have hS39 := HSB.out (W38.alloc (.cells #[.slice none 0 0] 32)) (h39.at_ (p := (B, _)) (by simp)) (h39.at_ (p := (T, _)) (by simp))
          refine hK.out _ _ hS39 (fun hHeld => ?_)
          clear hK K
          try simp only [Act.put, List.setIfInBounds_toArray, List.set_cons_zero, List.set_cons_succ]
          clear hHeld h38
          change wpAnyL _ _ _ _ _ _ _ _ _ (W38.alloc (.cells #[.slice none 0 0] 32))
          generalize (W38.alloc (.cells #[.slice none 0 0] 32)) = W39 at *
          generalize W38.heap.size = A39 at *
          have hHeld := hS39
          refine wpAnyL_ready (rs := [21]) (by kernel_rfl) (by simp) ?_
          refine (AllReadyL.cons (o := { dst := some 26, op := Op.call { callee := Callee.builtin Builtin.append, args := #[Operand.tmp 24, Operand.tmp 25], argTypes := #[ 33, 33 ] }, type := 33, pos := "ref.go:23", after := #[{ on := 19, ground := Ground.data }, { on := 20, ground := Ground.data }, { on := 15, ground := Ground.chain }], guard := none }) rfl (fun K hK => ?_) AllReadyL.nil)
          refine step_append_lies _ (by rfl) _ _ 33 (by rfl) 0 32 iR (.slice none 0 0) 1 24 Try.underlying33 HIR.out.1 HIR.out.2.1 HIR.out.2.2.1 HIR.out.2.2.2 (by kernel_rfl) (by omega) (.slice pR m cR) m lR (by rfl) h39.rR ⟨A39, 0, none⟩ 1 1 [.slice none 0 0] (by rfl) (by rfl) (World.news_of_block (cs := #[.slice none 0 0]) (t := 32) (fr := (0, 0)) (h39.ex (A39, (.cells #[.slice none 0 0] 32 (0, 0))) (by simp)).1) (by simp [Value.oneCell']) (by omega) (by unfold maxLen; omega) (by omega) (by omega) W39.heap.size rfl ?_
          intro g40 c40 W40 hr40 hg40 ho40 _
          have h40 := h39.growR hr40 hg40 rfl ho40
          clear hr40 hg40 ho40
          have hS40 := (HSB.out W40 (h40.at_ (p := (B, _)) (by simp)) (h40.at_ (p := (T, _)) (by simp)))
          refine hK.out _ _ hS40 (fun hHeld => ?_)
          clear hK K
          try simp only [Act.put, List.setIfInBounds_toArray, List.set_cons_zero, List.set_cons_succ]
          exact rlay_tail (h40.less (ex' := [(B, (.cells #[.slice pN m cN, .slice pU m cU, .slice pR m cR] 35 (0, 0)))]) (by simp)) hMB (by kernel_rfl) (by kernel_rfl) (by kernel_rfl) (by kernel_rfl) (by kernel_rfl) (by kernel_rfl) (by kernel_rfl) (by kernel_rfl) (by kernel_rfl) (by kernel_rfl) (fun _ _ _ _ _ _ _ k => HQ.out _ _ _ _ _ _ _ _ _ _ _ _ _ _ _ _ _ _ _ _ _ _ _ _ _ _ _ _ _ _ _ _ k)
        · go_simp
          have h41 := h37.alloc (.cells #[.slice none 0 0] 32 (0, 0))
          have hS41 := HSB.out (W37.alloc (.cells #[.slice none 0 0] 32)) (h41.at_ (p := (B, _)) (by simp)) (h41.at_ (p := (T, _)) (by simp))
          refine hK.out _ _ hS41 (fun hHeld => ?_)
          clear hK K
          try simp only [Act.put, List.setIfInBounds_toArray, List.set_cons_zero, List.set_cons_succ]
          clear hHeld h37
          change wpAnyL _ _ _ _ _ _ _ _ _ (W37.alloc (.cells #[.slice none 0 0] 32))
          generalize (W37.alloc (.cells #[.slice none 0 0] 32)) = W41 at *
          generalize W37.heap.size = A41 at *
          have hHeld := hS41
          refine wpAnyL_ready (rs := [15]) (by kernel_rfl) (by simp) ?_
          refine (AllReadyL.cons (o := { dst := some 20, op := Op.call { callee := Callee.builtin Builtin.append, args := #[Operand.tmp 18, Operand.tmp 19], argTypes := #[ 32, 32 ] }, type := 32, pos := "ref.go:23", after := #[{ on := 13, ground := Ground.data }, { on := 14, ground := Ground.data }, { on := 9, ground := Ground.chain }], guard := none }) rfl (fun K hK => ?_) AllReadyL.nil)
          refine step_append_lies _ (by rfl) _ _ 32 (by rfl) 0 3 iU (.int .i64 0) 1 8 Try.underlying32 HIU.out.1 HIU.out.2.1 HIU.out.2.2.1 HIU.out.2.2.2 (by kernel_rfl) (by omega) (.slice pU m cU) m lU (by rfl) h41.rU ⟨A35, 0, none⟩ 1 1 [.int .i64 (-1)] (by rfl) (by rfl) (World.news_of_block (cs := #[.int .i64 (-1)]) (t := 3) (fr := (0, 0)) (h41.ex (A35, (.cells #[.int .i64 (-1)] 3 (0, 0))) (by simp)).1) (by simp [Value.oneCell']) (by omega) (by unfold maxLen; omega) (by omega) (by omega) W41.heap.size rfl ?_
          intro g42 c42 W42 hr42 hg42 ho42 _
          have h42 := h41.growU hr42 hg42 rfl ho42
          clear hr42 hg42 ho42
          have hS42 := (HSB.out W42 (h42.at_ (p := (B, _)) (by simp)) (h42.at_ (p := (T, _)) (by simp)))
          refine hK.out _ _ hS42 (fun hHeld => ?_)
          clear hK K
          try simp only [Act.put, List.setIfInBounds_toArray, List.set_cons_zero, List.set_cons_succ]
          refine wpAnyL_ready (rs := [21]) (by kernel_rfl) (by simp) ?_
          refine (AllReadyL.cons (o := { dst := some 26, op := Op.call { callee := Callee.builtin Builtin.append, args := #[Operand.tmp 24, Operand.tmp 25], argTypes := #[ 33, 33 ] }, type := 33, pos := "ref.go:23", after := #[{ on := 19, ground := Ground.data }, { on := 20, ground := Ground.data }, { on := 15, ground := Ground.chain }], guard := none }) rfl (fun K hK => ?_) AllReadyL.nil)
          refine step_append_lies _ (by rfl) _ _ 33 (by rfl) 0 32 iR (.slice none 0 0) 1 24 Try.underlying33 HIR.out.1 HIR.out.2.1 HIR.out.2.2.1 HIR.out.2.2.2 (by kernel_rfl) (by omega) (.slice pR m cR) m lR (by rfl) h42.rR ⟨A41, 0, none⟩ 1 1 [.slice none 0 0] (by rfl) (by rfl) (World.news_of_block (cs := #[.slice none 0 0]) (t := 32) (fr := (0, 0)) (h42.ex (A41, (.cells #[.slice none 0 0] 32 (0, 0))) (by simp)).1) (by simp [Value.oneCell']) (by omega) (by unfold maxLen; omega) (by omega) (by omega) W42.heap.size rfl ?_
          intro g43 c43 W43 hr43 hg43 ho43 _
          have h43 := h42.growR hr43 hg43 rfl ho43
          clear hr43 hg43 ho43
          have hS43 := (HSB.out W43 (h43.at_ (p := (B, _)) (by simp)) (h43.at_ (p := (T, _)) (by simp)))
          refine hK.out _ _ hS43 (fun hHeld => ?_)
          clear hK K
          try simp only [Act.put, List.setIfInBounds_toArray, List.set_cons_zero, List.set_cons_succ]
          exact rlay_tail (h43.less (ex' := [(B, (.cells #[.slice pN m cN, .slice pU m cU, .slice pR m cR] 35 (0, 0)))]) (by simp)) hMB (by kernel_rfl) (by kernel_rfl) (by kernel_rfl) (by kernel_rfl) (by kernel_rfl) (by kernel_rfl) (by kernel_rfl) (by kernel_rfl) (by kernel_rfl) (by kernel_rfl) (fun _ _ _ _ _ _ _ k => HQ.out _ _ _ _ _ _ _ _ _ _ _ _ _ _ _ _ _ _ _ _ _ _ _ _ _ _ _ _ _ _ _ _ k)
      · go_simp
        have h44 := h36.alloc (.cells #[.slice none 0 0] 32 (0, 0))
        have hS44 := HSB.out (W36.alloc (.cells #[.slice none 0 0] 32)) (h44.at_ (p := (B, _)) (by simp)) (h44.at_ (p := (T, _)) (by simp))
        refine hK.out _ _ hS44 (fun hHeld => ?_)
        clear hK K
        try simp only [Act.put, List.setIfInBounds_toArray, List.set_cons_zero, List.set_cons_succ]
        clear hHeld h36
        change wpAnyL _ _ _ _ _ _ _ _ _ (W36.alloc (.cells #[.slice none 0 0] 32))
        generalize (W36.alloc (.cells #[.slice none 0 0] 32)) = W44 at *
        generalize W36.heap.size = A44 at *
        have hHeld := hS44
        refine wpAnyL_ready (rs := [9]) (by kernel_rfl) (by simp) ?_
        refine (AllReadyL.cons (o := { dst := some 14, op := Op.call { callee := Callee.builtin Builtin.append, args := #[Operand.tmp 11, Operand.tmp 13], argTypes := #[ 31, 31 ] }, type := 31, pos := "ref.go:23", after := #[{ on := 6, ground := Ground.data }, { on := 8, ground := Ground.data }], guard := none }) rfl (fun K hK => ?_) AllReadyL.nil)
        refine step_append_lies _ (by rfl) _ _ 31 (by rfl) 0 43 iN (.agg #[.int .i64 0, .int .i64 0, .string ByteArray.empty, .slice none 0 0, .string ByteArray.empty, .int .i64 0, .slice none 0 0]) 7 104 Try.underlying31 HIN.out.1 HIN.out.2.1 HIN.out.2.2.1 HIN.out.2.2.2 (by kernel_rfl) (by omega) (.slice pN m cN) m lN (by rfl) h44.rN ⟨A36, 0, none⟩ 1 1 [.int .i64 x0, .int .i64 x1, .string NM, .slice pa la ca, .string TX, .int .i64 x5, .slice none 0 0] (by rfl) (by rfl) (World.news_of_block (cs := #[.int .i64 x0, .int .i64 x1, .string NM, .slice pa la ca, .string TX, .int .i64 x5, .slice none 0 0]) (t := 43) (fr := (0, 0)) (h44.ex (A36, (.cells #[.int .i64 x0, .int .i64 x1, .string NM, .slice pa la ca, .string TX, .int .i64 x5, .slice none 0 0] 43 (0, 0))) (by simp)).1) (by simp [Value.oneCell']) (by omega) (by unfold maxLen; omega) (by omega) (by omega) W44.heap.size rfl ?_
        intro g45 c45 W45 hr45 hg45 ho45 _
        have h45 := h44.growN hr45 hg45 rfl ho45
        clear hr45 hg45 ho45
        have hS45 := (HSB.out W45 (h45.at_ (p := (B, _)) (by simp)) (h45.at_ (p := (T, _)) (by simp)))
        refine hK.out _ _ hS45 (fun hHeld => ?_)
        clear hK K
        try simp only [Act.put, List.setIfInBounds_toArray, List.set_cons_zero, List.set_cons_succ]
        refine wpAnyL_ready (rs := [15]) (by kernel_rfl) (by simp) ?_
        refine (AllReadyL.cons (o := { dst := some 20, op := Op.call { callee := Callee.builtin Builtin.append, args := #[Operand.tmp 18, Operand.tmp 19], argTypes := #[ 32, 32 ] }, type := 32, pos := "ref.go:23", after := #[{ on := 13, ground := Ground.data }, { on := 14, ground := Ground.data }, { on := 9, ground := Ground.chain }], guard := none }) rfl (fun K hK => ?_) AllReadyL.nil)
        refine step_append_lies _ (by rfl) _ _ 32 (by rfl) 0 3 iU (.int .i64 0) 1 8 Try.underlying32 HIU.out.1 HIU.out.2.1 HIU.out.2.2.1 HIU.out.2.2.2 (by kernel_rfl) (by omega) (.slice pU m cU) m lU (by rfl) h45.rU ⟨A35, 0, none⟩ 1 1 [.int .i64 (-1)] (by rfl) (by rfl) (World.news_of_block (cs := #[.int .i64 (-1)]) (t := 3) (fr := (0, 0)) (h45.ex (A35, (.cells #[.int .i64 (-1)] 3 (0, 0))) (by simp)).1) (by simp [Value.oneCell']) (by omega) (by unfold maxLen; omega) (by omega) (by omega) W45.heap.size rfl ?_
        intro g46 c46 W46 hr46 hg46 ho46 _
        have h46 := h45.growU hr46 hg46 rfl ho46
        clear hr46 hg46 ho46
        have hS46 := (HSB.out W46 (h46.at_ (p := (B, _)) (by simp)) (h46.at_ (p := (T, _)) (by simp)))
        refine hK.out _ _ hS46 (fun hHeld => ?_)
        clear hK K
        try simp only [Act.put, List.setIfInBounds_toArray, List.set_cons_zero, List.set_cons_succ]
        refine wpAnyL_ready (rs := [21]) (by kernel_rfl) (by simp) ?_
        refine (AllReadyL.cons (o := { dst := some 26, op := Op.call { callee := Callee.builtin Builtin.append, args := #[Operand.tmp 24, Operand.tmp 25], argTypes := #[ 33, 33 ] }, type := 33, pos := "ref.go:23", after := #[{ on := 19, ground := Ground.data }, { on := 20, ground := Ground.data }, { on := 15, ground := Ground.chain }], guard := none }) rfl (fun K hK => ?_) AllReadyL.nil)
        refine step_append_lies _ (by rfl) _ _ 33 (by rfl) 0 32 iR (.slice none 0 0) 1 24 Try.underlying33 HIR.out.1 HIR.out.2.1 HIR.out.2.2.1 HIR.out.2.2.2 (by kernel_rfl) (by omega) (.slice pR m cR) m lR (by rfl) h46.rR ⟨A44, 0, none⟩ 1 1 [.slice none 0 0] (by rfl) (by rfl) (World.news_of_block (cs := #[.slice none 0 0]) (t := 32) (fr := (0, 0)) (h46.ex (A44, (.cells #[.slice none 0 0] 32 (0, 0))) (by simp)).1) (by simp [Value.oneCell']) (by omega) (by unfold maxLen; omega) (by omega) (by omega) W46.heap.size rfl ?_
        intro g47 c47 W47 hr47 hg47 ho47 _
        have h47 := h46.growR hr47 hg47 rfl ho47
        clear hr47 hg47 ho47
        have hS47 := (HSB.out W47 (h47.at_ (p := (B, _)) (by simp)) (h47.at_ (p := (T, _)) (by simp)))
        refine hK.out _ _ hS47 (fun hHeld => ?_)
        clear hK K
        try simp only [Act.put, List.setIfInBounds_toArray, List.set_cons_zero, List.set_cons_succ]
        exact rlay_tail (h47.less (ex' := [(B, (.cells #[.slice pN m cN, .slice pU m cU, .slice pR m cR] 35 (0, 0)))]) (by simp)) hMB (by kernel_rfl) (by kernel_rfl) (by kernel_rfl) (by kernel_rfl) (by kernel_rfl) (by kernel_rfl) (by kernel_rfl) (by kernel_rfl) (by kernel_rfl) (by kernel_rfl) (fun _ _ _ _ _ _ _ k => HQ.out _ _ _ _ _ _ _ _ _ _ _ _ _ _ _ _ _ _ _ _ _ _ _ _ _ _ _ _ _ _ _ _ k)
    · go_simp
      have h48 := h35.alloc (.cells #[.slice none 0 0] 32 (0, 0))
      have hS48 := HSB.out (W35.alloc (.cells #[.slice none 0 0] 32)) (h48.at_ (p := (B, _)) (by simp)) (h48.at_ (p := (T, _)) (by simp))
      refine hK.out _ _ hS48 (fun hHeld => ?_)
      clear hK K
      try simp only [Act.put, List.setIfInBounds_toArray, List.set_cons_zero, List.set_cons_succ]
      clear hHeld h35
      change wpAnyL _ _ _ _ _ _ _ _ _ (W35.alloc (.cells #[.slice none 0 0] 32))
      generalize (W35.alloc (.cells #[.slice none 0 0] 32)) = W48 at *
      generalize W35.heap.size = A48 at *
      have hHeld := hS48
      refine wpAnyL_ready (rs := [8]) (by kernel_rfl) (by simp) ?_
      refine (AllReadyL.cons (o := { dst := some 13, op := Op.buildSlice 31 1 #[(0, Operand.tmp 12)], type := 31, pos := "ref.go:23", after := #[{ on := 7, ground := Ground.data }], guard := none }) rfl (fun K hK => ?_) AllReadyL.nil)
      go_simp
      have h49 := h48.alloc (.cells #[.int .i64 x0, .int .i64 x1, .string NM, .slice pa la ca, .string TX, .int .i64 x5, .slice none 0 0] 43 (0, 0))
      have hS49 := HSB.out (W48.alloc (.cells #[.int .i64 x0, .int .i64 x1, .string NM, .slice pa la ca, .string TX, .int .i64 x5, .slice none 0 0] 43)) (h49.at_ (p := (B, _)) (by simp)) (h49.at_ (p := (T, _)) (by simp))
      refine hK.out _ _ hS49 (fun hHeld => ?_)
      clear hK K
      try simp only [Act.put, List.setIfInBounds_toArray, List.set_cons_zero, List.set_cons_succ]
      clear hHeld h48
      change wpAnyL _ _ _ _ _ _ _ _ _ (W48.alloc (.cells #[.int .i64 x0, .int .i64 x1, .string NM, .slice pa la ca, .string TX, .int .i64 x5, .slice none 0 0] 43))
      generalize (W48.alloc (.cells #[.int .i64 x0, .int .i64 x1, .string NM, .slice pa la ca, .string TX, .int .i64 x5, .slice none 0 0] 43)) = W49 at *
      generalize W48.heap.size = A49 at *
      have hHeld := hS49
      refine wpAnyL_ready (rs := [9]) (by kernel_rfl) (by simp) ?_
      refine (AllReadyL.cons (o := { dst := some 14, op := Op.call { callee := Callee.builtin Builtin.append, args := #[Operand.tmp 11, Operand.tmp 13], argTypes := #[ 31, 31 ] }, type := 31, pos := "ref.go:23", after := #[{ on := 6, ground := Ground.data }, { on := 8, ground := Ground.data }], guard := none }) rfl (fun K hK => ?_) AllReadyL.nil)
      refine step_append_lies _ (by rfl) _ _ 31 (by rfl) 0 43 iN (.agg #[.int .i64 0, .int .i64 0, .string ByteArray.empty, .slice none 0 0, .string ByteArray.empty, .int .i64 0, .slice none 0 0]) 7 104 Try.underlying31 HIN.out.1 HIN.out.2.1 HIN.out.2.2.1 HIN.out.2.2.2 (by kernel_rfl) (by omega) (.slice pN m cN) m lN (by rfl) h49.rN ⟨A49, 0, none⟩ 1 1 [.int .i64 x0, .int .i64 x1, .string NM, .slice pa la ca, .string TX, .int .i64 x5, .slice none 0 0] (by rfl) (by rfl) (World.news_of_block (cs := #[.int .i64 x0, .int .i64 x1, .string NM, .slice pa la ca, .string TX, .int .i64 x5, .slice none 0 0]) (t := 43) (fr := (0, 0)) (h49.ex (A49, (.cells #[.int .i64 x0, .int .i64 x1, .string NM, .slice pa la ca, .string TX, .int .i64 x5, .slice none 0 0] 43 (0, 0))) (by simp)).1) (by simp [Value.oneCell']) (by omega) (by unfold maxLen; omega) (by omega) (by omega) W49.heap.size rfl ?_
      intro g50 c50 W50 hr50 hg50 ho50 _
      have h50 := h49.growN hr50 hg50 rfl ho50
      clear hr50 hg50 ho50
      have hS50 := (HSB.out W50 (h50.at_ (p := (B, _)) (by simp)) (h50.at_ (p := (T, _)) (by simp)))
      refine hK.out _ _ hS50 (fun hHeld => ?_)
      clear hK K
      try simp only [Act.put, List.setIfInBounds_toArray, List.set_cons_zero, List.set_cons_succ]
      refine wpAnyL_ready (rs := [15]) (by kernel_rfl) (by simp) ?_
      refine (AllReadyL.cons (o := { dst := some 20, op := Op.call { callee := Callee.builtin Builtin.append, args := #[Operand.tmp 18, Operand.tmp 19], argTypes := #[ 32, 32 ] }, type := 32, pos := "ref.go:23", after := #[{ on := 13, ground := Ground.data }, { on := 14, ground := Ground.data }, { on := 9, ground := Ground.chain }], guard := none }) rfl (fun K hK => ?_) AllReadyL.nil)
      refine step_append_lies _ (by rfl) _ _ 32 (by rfl) 0 3 iU (.int .i64 0) 1 8 Try.underlying32 HIU.out.1 HIU.out.2.1 HIU.out.2.2.1 HIU.out.2.2.2 (by kernel_rfl) (by omega) (.slice pU m cU) m lU (by rfl) h50.rU ⟨A35, 0, none⟩ 1 1 [.int .i64 (-1)] (by rfl) (by rfl) (World.news_of_block (cs := #[.int .i64 (-1)]) (t := 3) (fr := (0, 0)) (h50.ex (A35, (.cells #[.int .i64 (-1)] 3 (0, 0))) (by simp)).1) (by simp [Value.oneCell']) (by omega) (by unfold maxLen; omega) (by omega) (by omega) W50.heap.size rfl ?_
      intro g51 c51 W51 hr51 hg51 ho51 _
      have h51 := h50.growU hr51 hg51 rfl ho51
      clear hr51 hg51 ho51
      have hS51 := (HSB.out W51 (h51.at_ (p := (B, _)) (by simp)) (h51.at_ (p := (T, _)) (by simp)))
      refine hK.out _ _ hS51 (fun hHeld => ?_)
      clear hK K
      try simp only [Act.put, List.setIfInBounds_toArray, List.set_cons_zero, List.set_cons_succ]
      refine wpAnyL_ready (rs := [21]) (by kernel_rfl) (by simp) ?_
      refine (AllReadyL.cons (o := { dst := some 26, op := Op.call { callee := Callee.builtin Builtin.append, args := #[Operand.tmp 24, Operand.tmp 25], argTypes := #[ 33, 33 ] }, type := 33, pos := "ref.go:23", after := #[{ on := 19, ground := Ground.data }, { on := 20, ground := Ground.data }, { on := 15, ground := Ground.chain }], guard := none }) rfl (fun K hK => ?_) AllReadyL.nil)
      refine step_append_lies _ (by rfl) _ _ 33 (by rfl) 0 32 iR (.slice none 0 0) 1 24 Try.underlying33 HIR.out.1 HIR.out.2.1 HIR.out.2.2.1 HIR.out.2.2.2 (by kernel_rfl) (by omega) (.slice pR m cR) m lR (by rfl) h51.rR ⟨A48, 0, none⟩ 1 1 [.slice none 0 0] (by rfl) (by rfl) (World.news_of_block (cs := #[.slice none 0 0]) (t := 32) (fr := (0, 0)) (h51.ex (A48, (.cells #[.slice none 0 0] 32 (0, 0))) (by simp)).1) (by simp [Value.oneCell']) (by omega) (by unfold maxLen; omega) (by omega) (by omega) W51.heap.size rfl ?_
      intro g52 c52 W52 hr52 hg52 ho52 _
      have h52 := h51.growR hr52 hg52 rfl ho52
      clear hr52 hg52 ho52
      have hS52 := (HSB.out W52 (h52.at_ (p := (B, _)) (by simp)) (h52.at_ (p := (T, _)) (by simp)))
      refine hK.out _ _ hS52 (fun hHeld => ?_)
      clear hK K
      try simp only [Act.put, List.setIfInBounds_toArray, List.set_cons_zero, List.set_cons_succ]
      exact rlay_tail (h52.less (ex' := [(B, (.cells #[.slice pN m cN, .slice pU m cU, .slice pR m cR] 35 (0, 0)))]) (by simp)) hMB (by kernel_rfl) (by kernel_rfl) (by kernel_rfl) (by kernel_rfl) (by kernel_rfl) (by kernel_rfl) (by kernel_rfl) (by kernel_rfl) (by kernel_rfl) (by kernel_rfl) (fun _ _ _ _ _ _ _ k => HQ.out _ _ _ _ _ _ _ _ _ _ _ _ _ _ _ _ _ _ _ _ _ _ _ _ _ _ _ _ _ _ _ _ k)
  · go_simp
    have h53 := h0.alloc (.cells #[.slice none 0 0] 32 (0, 0))
    have hS53 := HSB.out (W0.alloc (.cells #[.slice none 0 0] 32)) (h53.at_ (p := (B, _)) (by simp)) (h53.at_ (p := (T, _)) (by simp))
    refine hK.out _ _ hS53 (fun hHeld => ?_)
    clear hK K
    try simp only [Act.put, List.setIfInBounds_toArray, List.set_cons_zero, List.set_cons_succ]
    clear hHeld h0
    change wpAnyL _ _ _ _ _ _ _ _ _ (W0.alloc (.cells #[.slice none 0 0] 32))
    generalize (W0.alloc (.cells #[.slice none 0 0] 32)) = W53 at *
    generalize W0.heap.size = A53 at *
    have hHeld := hS53
    refine wpAnyL_ready (rs := [8, 14]) (by kernel_rfl) (by simp) ?_
    refine (AllReadyL.cons (o := { dst := some 13, op := Op.buildSlice 31 1 #[(0, Operand.tmp 12)], type := 31, pos := "ref.go:23", after := #[{ on := 7, ground := Ground.data }], guard := none }) rfl (fun K hK => ?_) (AllReadyL.cons (o := { dst := some 19, op := Op.buildSlice 32 1 #[(0, Operand.const (Value.int IntKind.i64 (-1)))], type := 32, pos := "ref.go:23", after := #[], guard := none }) rfl (fun K hK => ?_) AllReadyL.nil))
    · go_simp
      have h54 := h53.alloc (.cells #[.int .i64 x0, .int .i64 x1, .string NM, .slice pa la ca, .string TX, .int .i64 x5, .slice none 0 0] 43 (0, 0))
      have hS54 := HSB.out (W53.alloc (.cells #[.int .i64 x0, .int .i64 x1, .string NM, .slice pa la ca, .string TX, .int .i64 x5, .slice none 0 0] 43)) (h54.at_ (p := (B, _)) (by simp)) (h54.at_ (p := (T, _)) (by simp))
      refine hK.out _ _ hS54 (fun hHeld => ?_)
      clear hK K
      try simp only [Act.put, List.setIfInBounds_toArray, List.set_cons_zero, List.set_cons_succ]
      clear hHeld h53
      change wpAnyL _ _ _ _ _ _ _ _ _ (W53.alloc (.cells #[.int .i64 x0, .int .i64 x1, .string NM, .slice pa la ca, .string TX, .int .i64 x5, .slice none 0 0] 43))
      generalize (W53.alloc (.cells #[.int .i64 x0, .int .i64 x1, .string NM, .slice pa la ca, .string TX, .int .i64 x5, .slice none 0 0] 43)) = W54 at *
      generalize W53.heap.size = A54 at *
      have hHeld := hS54
      refine wpAnyL_ready (rs := [9, 14]) (by kernel_rfl) (by simp) ?_
      refine (AllReadyL.cons (o := { dst := some 14, op := Op.call { callee := Callee.builtin Builtin.append, args := #[Operand.tmp 11, Operand.tmp 13], argTypes := #[ 31, 31 ] }, type := 31, pos := "ref.go:23", after := #[{ on := 6, ground := Ground.data }, { on := 8, ground := Ground.data }], guard := none }) rfl (fun K hK => ?_) (AllReadyL.cons (o := { dst := some 19, op := Op.buildSlice 32 1 #[(0, Operand.const (Value.int IntKind.i64 (-1)))], type := 32, pos := "ref.go:23", after := #[], guard := none }) rfl (fun K hK => ?_) AllReadyL.nil))
      · refine step_append_lies _ (by rfl) _ _ 31 (by rfl) 0 43 iN (.agg #[.int .i64 0, .int .i64 0, .string ByteArray.empty, .slice none 0 0, .string ByteArray.empty, .int .i64 0, .slice none 0 0]) 7 104 Try.underlying31 HIN.out.1 HIN.out.2.1 HIN.out.2.2.1 HIN.out.2.2.2 (by kernel_rfl) (by omega) (.slice pN m cN) m lN (by rfl) h54.rN ⟨A54, 0, none⟩ 1 1 [.int .i64 x0, .int .i64 x1, .string NM, .slice pa la ca, .string TX, .int .i64 x5, .slice none 0 0] (by rfl) (by rfl) (World.news_of_block (cs := #[.int .i64 x0, .int .i64 x1, .string NM, .slice pa la ca, .string TX, .int .i64 x5, .slice none 0 0]) (t := 43) (fr := (0, 0)) (h54.ex (A54, (.cells #[.int .i64 x0, .int .i64 x1, .string NM, .slice pa la ca, .string TX, .int .i64 x5, .slice none 0 0] 43 (0, 0))) (by simp)).1) (by simp [Value.oneCell']) (by omega) (by unfold maxLen; omega) (by omega) (by omega) W54.heap.size rfl ?_
        intro g55 c55 W55 hr55 hg55 ho55 _
        have h55 := h54.growN hr55 hg55 rfl ho55
        clear hr55 hg55 ho55
        have hS55 := (HSB.out W55 (h55.at_ (p := (B, _)) (by simp)) (h55.at_ (p := (T, _)) (by simp)))
        refine hK.out _ _ hS55 (fun hHeld => ?_)
        clear hK K
        try simp only [Act.put, List.setIfInBounds_toArray, List.set_cons_zero, List.set_cons_succ]
        refine wpAnyL_ready (rs := [14]) (by kernel_rfl) (by simp) ?_
        refine (AllReadyL.cons (o := { dst := some 19, op := Op.buildSlice 32 1 #[(0, Operand.const (Value.int IntKind.i64 (-1)))], type := 32, pos := "ref.go:23", after := #[], guard := none }) rfl (fun K hK => ?_) AllReadyL.nil)
        go_simp
        have h56 := h55.alloc (.cells #[.int .i64 (-1)] 3 (0, 0))
        have hS56 := HSB.out (W55.alloc (.cells #[.int .i64 (-1)] 3)) (h56.at_ (p := (B, _)) (by simp)) (h56.at_ (p := (T, _)) (by simp))
        refine hK.out _ _ hS56 (fun hHeld => ?_)
        clear hK K
        try simp only [Act.put, List.setIfInBounds_toArray, List.set_cons_zero, List.set_cons_succ]
        clear hHeld h55
        change wpAnyL _ _ _ _ _ _ _ _ _ (W55.alloc (.cells #[.int .i64 (-1)] 3))
        generalize (W55.alloc (.cells #[.int .i64 (-1)] 3)) = W56 at *
        generalize W55.heap.size = A56 at *
        have hHeld := hS56
        refine wpAnyL_ready (rs := [15]) (by kernel_rfl) (by simp) ?_
        refine (AllReadyL.cons (o := { dst := some 20, op := Op.call { callee := Callee.builtin Builtin.append, args := #[Operand.tmp 18, Operand.tmp 19], argTypes := #[ 32, 32 ] }, type := 32, pos := "ref.go:23", after := #[{ on := 13, ground := Ground.data }, { on := 14, ground := Ground.data }, { on := 9, ground := Ground.chain }], guard := none }) rfl (fun K hK => ?_) AllReadyL.nil)
        refine step_append_lies _ (by rfl) _ _ 32 (by rfl) 0 3 iU (.int .i64 0) 1 8 Try.underlying32 HIU.out.1 HIU.out.2.1 HIU.out.2.2.1 HIU.out.2.2.2 (by kernel_rfl) (by omega) (.slice pU m cU) m lU (by rfl) h56.rU ⟨A56, 0, none⟩ 1 1 [.int .i64 (-1)] (by rfl) (by rfl) (World.news_of_block (cs := #[.int .i64 (-1)]) (t := 3) (fr := (0, 0)) (h56.ex (A56, (.cells #[.int .i64 (-1)] 3 (0, 0))) (by simp)).1) (by simp [Value.oneCell']) (by omega) (by unfold maxLen; omega) (by omega) (by omega) W56.heap.size rfl ?_
        intro g57 c57 W57 hr57 hg57 ho57 _
        have h57 := h56.growU hr57 hg57 rfl ho57
        clear hr57 hg57 ho57
        have hS57 := (HSB.out W57 (h57.at_ (p := (B, _)) (by simp)) (h57.at_ (p := (T, _)) (by simp)))
        refine hK.out _ _ hS57 (fun hHeld => ?_)
        clear hK K
        try simp only [Act.put, List.setIfInBounds_toArray, List.set_cons_zero, List.set_cons_succ]
        refine wpAnyL_ready (rs := [21]) (by kernel_rfl) (by simp) ?_
        refine (AllReadyL.cons (o := { dst := some 26, op := Op.call { callee := Callee.builtin Builtin.append, args := #[Operand.tmp 24, Operand.tmp 25], argTypes := #[ 33, 33 ] }, type := 33, pos := "ref.go:23", after := #[{ on := 19, ground := Ground.data }, { on := 20, ground := Ground.data }, { on := 15, ground := Ground.chain }], guard := none }) rfl (fun K hK => ?_) AllReadyL.nil)
        refine step_append_lies _ (by rfl) _ _ 33 (by rfl) 0 32 iR (.slice none 0 0) 1 24 Try.underlying33 HIR.out.1 HIR.out.2.1 HIR.out.2.2.1 HIR.out.2.2.2 (by kernel_rfl) (by omega) (.slice pR m cR) m lR (by rfl) h57.rR ⟨A53, 0, none⟩ 1 1 [.slice none 0 0] (by rfl) (by rfl) (World.news_of_block (cs := #[.slice none 0 0]) (t := 32) (fr := (0, 0)) (h57.ex (A53, (.cells #[.slice none 0 0] 32 (0, 0))) (by simp)).1) (by simp [Value.oneCell']) (by omega) (by unfold maxLen; omega) (by omega) (by omega) W57.heap.size rfl ?_
        intro g58 c58 W58 hr58 hg58 ho58 _
        have h58 := h57.growR hr58 hg58 rfl ho58
        clear hr58 hg58 ho58
        have hS58 := (HSB.out W58 (h58.at_ (p := (B, _)) (by simp)) (h58.at_ (p := (T, _)) (by simp)))
        refine hK.out _ _ hS58 (fun hHeld => ?_)
        clear hK K
        try simp only [Act.put, List.setIfInBounds_toArray, List.set_cons_zero, List.set_cons_succ]
        exact rlay_tail (h58.less (ex' := [(B, (.cells #[.slice pN m cN, .slice pU m cU, .slice pR m cR] 35 (0, 0)))]) (by simp)) hMB (by kernel_rfl) (by kernel_rfl) (by kernel_rfl) (by kernel_rfl) (by kernel_rfl) (by kernel_rfl) (by kernel_rfl) (by kernel_rfl) (by kernel_rfl) (by kernel_rfl) (fun _ _ _ _ _ _ _ k => HQ.out _ _ _ _ _ _ _ _ _ _ _ _ _ _ _ _ _ _ _ _ _ _ _ _ _ _ _ _ _ _ _ _ k)
      · go_simp
        have h59 := h54.alloc (.cells #[.int .i64 (-1)] 3 (0, 0))
        have hS59 := HSB.out (W54.alloc (.cells #[.int .i64 (-1)] 3)) (h59.at_ (p := (B, _)) (by simp)) (h59.at_ (p := (T, _)) (by simp))
        refine hK.out _ _ hS59 (fun hHeld => ?_)
        clear hK K
        try simp only [Act.put, List.setIfInBounds_toArray, List.set_cons_zero, List.set_cons_succ]
        clear hHeld h54
        change wpAnyL _ _ _ _ _ _ _ _ _ (W54.alloc (.cells #[.int .i64 (-1)] 3))
        generalize (W54.alloc (.cells #[.int .i64 (-1)] 3)) = W59 at *
        generalize W54.heap.size = A59 at *
        have hHeld := hS59
        refine wpAnyL_ready (rs := [9]) (by kernel_rfl) (by simp) ?_
        refine (AllReadyL.cons (o := { dst := some 14, op := Op.call { callee := Callee.builtin Builtin.append, args := #[Operand.tmp 11, Operand.tmp 13], argTypes := #[ 31, 31 ] }, type := 31, pos := "ref.go:23", after := #[{ on := 6, ground := Ground.data }, { on := 8, ground := Ground.data }], guard := none }) rfl (fun K hK => ?_) AllReadyL.nil)
        refine step_append_lies _ (by rfl) _ _ 31 (by rfl) 0 43 iN (.agg #[.int .i64 0, .int .i64 0, .string ByteArray.empty, .slice none 0 0, .string ByteArray.empty, .int .i64 0, .slice none 0 0]) 7 104 Try.underlying31 HIN.out.1 HIN.out.2.1 HIN.out.2.2.1 HIN.out.2.2.2 (by kernel_rfl) (by omega) (.slice pN m cN) m lN (by rfl) h59.rN ⟨A54, 0, none⟩ 1 1 [.int .i64 x0, .int .i64 x1, .string NM, .slice pa la ca, .string TX, .int .i64 x5, .slice none 0 0] (by rfl) (by rfl) (World.news_of_block (cs := #[.int .i64 x0, .int .i64 x1, .string NM, .slice pa la ca, .string TX, .int .i64 x5, .slice none 0 0]) (t := 43) (fr := (0, 0)) (h59.ex (A54, (.cells #[.int .i64 x0, .int .i64 x1, .string NM, .slice pa la ca, .string TX, .int .i64 x5, .slice none 0 0] 43 (0, 0))) (by simp)).1) (by simp [Value.oneCell']) (by omega) (by unfold maxLen; omega) (by omega) (by omega) W59.heap.size rfl ?_
        intro g60 c60 W60 hr60 hg60 ho60 _
        have h60 := h59.growN hr60 hg60 rfl ho60
        clear hr60 hg60 ho60
        have hS60 := (HSB.out W60 (h60.at_ (p := (B, _)) (by simp)) (h60.at_ (p := (T, _)) (by simp)))
        refine hK.out _ _ hS60 (fun hHeld => ?_)
        clear hK K
        try simp only [Act.put, List.setIfInBounds_toArray, List.set_cons_zero, List.set_cons_succ]
        refine wpAnyL_ready (rs := [15]) (by kernel_rfl) (by simp) ?_
        refine (AllReadyL.cons (o := { dst := some 20, op := Op.call { callee := Callee.builtin Builtin.append, args := #[Operand.tmp 18, Operand.tmp 19], argTypes := #[ 32, 32 ] }, type := 32, pos := "ref.go:23", after := #[{ on := 13, ground := Ground.data }, { on := 14, ground := Ground.data }, { on := 9, ground := Ground.chain }], guard := none }) rfl (fun K hK => ?_) AllReadyL.nil)
        refine step_append_lies _ (by rfl) _ _ 32 (by rfl) 0 3 iU (.int .i64 0) 1 8 Try.underlying32 HIU.out.1 HIU.out.2.1 HIU.out.2.2.1 HIU.out.2.2.2 (by kernel_rfl) (by omega) (.slice pU m cU) m lU (by rfl) h60.rU ⟨A59, 0, none⟩ 1 1 [.int .i64 (-1)] (by rfl) (by rfl) (World.news_of_block (cs := #[.int .i64 (-1)]) (t := 3) (fr := (0, 0)) (h60.ex (A59, (.cells #[.int .i64 (-1)] 3 (0, 0))) (by simp)).1) (by simp [Value.oneCell']) (by omega) (by unfold maxLen; omega) (by omega) (by omega) W60.heap.size rfl ?_
        intro g61 c61 W61 hr61 hg61 ho61 _
        have h61 := h60.growU hr61 hg61 rfl ho61
        clear hr61 hg61 ho61
        have hS61 := (HSB.out W61 (h61.at_ (p := (B, _)) (by simp)) (h61.at_ (p := (T, _)) (by simp)))
        refine hK.out _ _ hS61 (fun hHeld => ?_)
        clear hK K
        try simp only [Act.put, List.setIfInBounds_toArray, List.set_cons_zero, List.set_cons_succ]
        refine wpAnyL_ready (rs := [21]) (by kernel_rfl) (by simp) ?_
        refine (AllReadyL.cons (o := { dst := some 26, op := Op.call { callee := Callee.builtin Builtin.append, args := #[Operand.tmp 24, Operand.tmp 25], argTypes := #[ 33, 33 ] }, type := 33, pos := "ref.go:23", after := #[{ on := 19, ground := Ground.data }, { on := 20, ground := Ground.data }, { on := 15, ground := Ground.chain }], guard := none }) rfl (fun K hK => ?_) AllReadyL.nil)
        refine step_append_lies _ (by rfl) _ _ 33 (by rfl) 0 32 iR (.slice none 0 0) 1 24 Try.underlying33 HIR.out.1 HIR.out.2.1 HIR.out.2.2.1 HIR.out.2.2.2 (by kernel_rfl) (by omega) (.slice pR m cR) m lR (by rfl) h61.rR ⟨A53, 0, none⟩ 1 1 [.slice none 0 0] (by rfl) (by rfl) (World.news_of_block (cs := #[.slice none 0 0]) (t := 32) (fr := (0, 0)) (h61.ex (A53, (.cells #[.slice none 0 0] 32 (0, 0))) (by simp)).1) (by simp [Value.oneCell']) (by omega) (by unfold maxLen; omega) (by omega) (by omega) W61.heap.size rfl ?_
        intro g62 c62 W62 hr62 hg62 ho62 _
        have h62 := h61.growR hr62 hg62 rfl ho62
        clear hr62 hg62 ho62
        have hS62 := (HSB.out W62 (h62.at_ (p := (B, _)) (by simp)) (h62.at_ (p := (T, _)) (by simp)))
        refine hK.out _ _ hS62 (fun hHeld => ?_)
        clear hK K
        try simp only [Act.put, List.setIfInBounds_toArray, List.set_cons_zero, List.set_cons_succ]
        exact rlay_tail (h62.less (ex' := [(B, (.cells #[.slice pN m cN, .slice pU m cU, .slice pR m cR] 35 (0, 0)))]) (by simp)) hMB (by kernel_rfl) (by kernel_rfl) (by kernel_rfl) (by kernel_rfl) (by kernel_rfl) (by kernel_rfl) (by kernel_rfl) (by kernel_rfl) (by kernel_rfl) (by kernel_rfl) (fun _ _ _ _ _ _ _ k => HQ.out _ _ _ _ _ _ _ _ _ _ _ _ _ _ _ _ _ _ _ _ _ _ _ _ _ _ _ _ _ _ _ _ k)
    · go_simp
      have h63 := h53.alloc (.cells #[.int .i64 (-1)] 3 (0, 0))
      have hS63 := HSB.out (W53.alloc (.cells #[.int .i64 (-1)] 3)) (h63.at_ (p := (B, _)) (by simp)) (h63.at_ (p := (T, _)) (by simp))
      refine hK.out _ _ hS63 (fun hHeld => ?_)
      clear hK K
      try simp only [Act.put, List.setIfInBounds_toArray, List.set_cons_zero, List.set_cons_succ]
      clear hHeld h53
      change wpAnyL _ _ _ _ _ _ _ _ _ (W53.alloc (.cells #[.int .i64 (-1)] 3))
      generalize (W53.alloc (.cells #[.int .i64 (-1)] 3)) = W63 at *
      generalize W53.heap.size = A63 at *
      have hHeld := hS63
      refine wpAnyL_ready (rs := [8]) (by kernel_rfl) (by simp) ?_
      refine (AllReadyL.cons (o := { dst := some 13, op := Op.buildSlice 31 1 #[(0, Operand.tmp 12)], type := 31, pos := "ref.go:23", after := #[{ on := 7, ground := Ground.data }], guard := none }) rfl (fun K hK => ?_) AllReadyL.nil)
      go_simp
      have h64 := h63.alloc (.cells #[.int .i64 x0, .int .i64 x1, .string NM, .slice pa la ca, .string TX, .int .i64 x5, .slice none 0 0] 43 (0, 0))
      have hS64 := HSB.out (W63.alloc (.cells #[.int .i64 x0, .int .i64 x1, .string NM, .slice pa la ca, .string TX, .int .i64 x5, .slice none 0 0] 43)) (h64.at_ (p := (B, _)) (by simp)) (h64.at_ (p := (T, _)) (by simp))
      refine hK.out _ _ hS64 (fun hHeld => ?_)
      clear hK K
      try simp only [Act.put, List.setIfInBounds_toArray, List.set_cons_zero, List.set_cons_succ]
      clear hHeld h63
      change wpAnyL _ _ _ _ _ _ _ _ _ (W63.alloc (.cells #[.int .i64 x0, .int .i64 x1, .string NM, .slice pa la ca, .string TX, .int .i64 x5, .slice none 0 0] 43))
      generalize (W63.alloc (.cells #[.int .i64 x0, .int .i64 x1, .string NM, .slice pa la ca, .string TX, .int .i64 x5, .slice none 0 0] 43)) = W64 at *
      generalize W63.heap.size = A64 at *
      have hHeld := hS64
      refine wpAnyL_ready (rs := [9]) (by kernel_rfl) (by simp) ?_
      refine (AllReadyL.cons (o := { dst := some 14, op := Op.call { callee := Callee.builtin Builtin.append, args := #[Operand.tmp 11, Operand.tmp 13], argTypes := #[ 31, 31 ] }, type := 31, pos := "ref.go:23", after := #[{ on := 6, ground := Ground.data }, { on := 8, ground := Ground.data }], guard := none }) rfl (fun K hK => ?_) AllReadyL.nil)
      refine step_append_lies _ (by rfl) _ _ 31 (by rfl) 0 43 iN (.agg #[.int .i64 0, .int .i64 0, .string ByteArray.empty, .slice none 0 0, .string ByteArray.empty, .int .i64 0, .slice none 0 0]) 7 104 Try.underlying31 HIN.out.1 HIN.out.2.1 HIN.out.2.2.1 HIN.out.2.2.2 (by kernel_rfl) (by omega) (.slice pN m cN) m lN (by rfl) h64.rN ⟨A64, 0, none⟩ 1 1 [.int .i64 x0, .int .i64 x1, .string NM, .slice pa la ca, .string TX, .int .i64 x5, .slice none 0 0] (by rfl) (by rfl) (World.news_of_block (cs := #[.int .i64 x0, .int .i64 x1, .string NM, .slice pa la ca, .string TX, .int .i64 x5, .slice none 0 0]) (t := 43) (fr := (0, 0)) (h64.ex (A64, (.cells #[.int .i64 x0, .int .i64 x1, .string NM, .slice pa la ca, .string TX, .int .i64 x5, .slice none 0 0] 43 (0, 0))) (by simp)).1) (by simp [Value.oneCell']) (by omega) (by unfold maxLen; omega) (by omega) (by omega) W64.heap.size rfl ?_
      intro g65 c65 W65 hr65 hg65 ho65 _
      have h65 := h64.growN hr65 hg65 rfl ho65
      clear hr65 hg65 ho65
      have hS65 := (HSB.out W65 (h65.at_ (p := (B, _)) (by simp)) (h65.at_ (p := (T, _)) (by simp)))
      refine hK.out _ _ hS65 (fun hHeld => ?_)
      clear hK K
      try simp only [Act.put, List.setIfInBounds_toArray, List.set_cons_zero, List.set_cons_succ]
      refine wpAnyL_ready (rs := [15]) (by kernel_rfl) (by simp) ?_
      refine (AllReadyL.cons (o := { dst := some 20, op := Op.call { callee := Callee.builtin Builtin.append, args := #[Operand.tmp 18, Operand.tmp 19], argTypes := #[ 32, 32 ] }, type := 32, pos := "ref.go:23", after := #[{ on := 13, ground := Ground.data }, { on := 14, ground := Ground.data }, { on := 9, ground := Ground.chain }], guard := none }) rfl (fun K hK => ?_) AllReadyL.nil)
      refine step_append_lies _ (by rfl) _ _ 32 (by rfl) 0 3 iU (.int .i64 0) 1 8 Try.underlying32 HIU.out.1 HIU.out.2.1 HIU.out.2.2.1 HIU.out.2.2.2 (by kernel_rfl) (by omega) (.slice pU m cU) m lU (by rfl) h65.rU ⟨A63, 0, none⟩ 1 1 [.int .i64 (-1)] (by rfl) (by rfl) (World.news_of_block (cs := #[.int .i64 (-1)]) (t := 3) (fr := (0, 0)) (h65.ex (A63, (.cells #[.int .i64 (-1)] 3 (0, 0))) (by simp)).1) (by simp [Value.oneCell']) (by omega) (by unfold maxLen; omega) (by omega) (by omega) W65.heap.size rfl ?_
      intro g66 c66 W66 hr66 hg66 ho66 _
      have h66 := h65.growU hr66 hg66 rfl ho66
      clear hr66 hg66 ho66
      have hS66 := (HSB.out W66 (h66.at_ (p := (B, _)) (by simp)) (h66.at_ (p := (T, _)) (by simp)))
      refine hK.out _ _ hS66 (fun hHeld => ?_)
      clear hK K
      try simp only [Act.put, List.setIfInBounds_toArray, List.set_cons_zero, List.set_cons_succ]
      refine wpAnyL_ready (rs := [21]) (by kernel_rfl) (by simp) ?_
      refine (AllReadyL.cons (o := { dst := some 26, op := Op.call { callee := Callee.builtin Builtin.append, args := #[Operand.tmp 24, Operand.tmp 25], argTypes := #[ 33, 33 ] }, type := 33, pos := "ref.go:23", after := #[{ on := 19, ground := Ground.data }, { on := 20, ground := Ground.data }, { on := 15, ground := Ground.chain }], guard := none }) rfl (fun K hK => ?_) AllReadyL.nil)
      refine step_append_lies _ (by rfl) _ _ 33 (by rfl) 0 32 iR (.slice none 0 0) 1 24 Try.underlying33 HIR.out.1 HIR.out.2.1 HIR.out.2.2.1 HIR.out.2.2.2 (by kernel_rfl) (by omega) (.slice pR m cR) m lR (by rfl) h66.rR ⟨A53, 0, none⟩ 1 1 [.slice none 0 0] (by rfl) (by rfl) (World.news_of_block (cs := #[.slice none 0 0]) (t := 32) (fr := (0, 0)) (h66.ex (A53, (.cells #[.slice none 0 0] 32 (0, 0))) (by simp)).1) (by simp [Value.oneCell']) (by omega) (by unfold maxLen; omega) (by omega) (by omega) W66.heap.size rfl ?_
      intro g67 c67 W67 hr67 hg67 ho67 _
      have h67 := h66.growR hr67 hg67 rfl ho67
      clear hr67 hg67 ho67
      have hS67 := (HSB.out W67 (h67.at_ (p := (B, _)) (by simp)) (h67.at_ (p := (T, _)) (by simp)))
      refine hK.out _ _ hS67 (fun hHeld => ?_)
      clear hK K
      try simp only [Act.put, List.setIfInBounds_toArray, List.set_cons_zero, List.set_cons_succ]
      exact rlay_tail (h67.less (ex' := [(B, (.cells #[.slice pN m cN, .slice pU m cU, .slice pR m cR] 35 (0, 0)))]) (by simp)) hMB (by kernel_rfl) (by kernel_rfl) (by kernel_rfl) (by kernel_rfl) (by kernel_rfl) (by kernel_rfl) (by kernel_rfl) (by kernel_rfl) (by kernel_rfl) (by kernel_rfl) (fun _ _ _ _ _ _ _ k => HQ.out _ _ _ _ _ _ _ _ _ _ _ _ _ _ _ _ _ _ _ _ _ _ _ _ _ _ _ _ _ _ _ _ k)
end Go.Proofs.Ytkoijkdhmfnlbaa
