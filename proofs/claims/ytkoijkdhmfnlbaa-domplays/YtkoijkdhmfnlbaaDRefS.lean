/-
  The drawn region of the reference's Tree for nodes by numbers, over an opaque post: a node is copied.
-/
import Derived.Test.YtkoijkdhmfnlbaaDRefA
namespace Go.Proofs.Ytkoijkdhmfnlbaa
open Go.RowKit

def rtree6_ops : Array Oper := #[{ dst := some 25, op := Op.move (Operand.tmp 0), type := 26, pos := "ref.go:158", after := #[], guard := none }, { dst := some 26, op := Op.nilCheck (Operand.tmp 25), type := 0, pos := "ref.go:158", after := #[{ on := 0, ground := Ground.data }], guard := none }, { dst := some 27, op := Op.fieldAddr 35 (Operand.tmp 26) 0, type := 0, pos := "ref.go:158", after := #[{ on := 1, ground := Ground.data }], guard := none }, { dst := some 28, op := Op.load 31 (Operand.tmp 27), type := 31, pos := "ref.go:158", after := #[{ on := 2, ground := Ground.data }], guard := none }, { dst := some 29, op := Op.move (Operand.tmp 0), type := 26, pos := "ref.go:158", after := #[], guard := none }, { dst := some 30, op := Op.nilCheck (Operand.tmp 29), type := 0, pos := "ref.go:158", after := #[{ on := 4, ground := Ground.data }], guard := none }, { dst := some 31, op := Op.fieldAddr 35 (Operand.tmp 30) 2, type := 0, pos := "ref.go:158", after := #[{ on := 5, ground := Ground.data }], guard := none }, { dst := some 32, op := Op.load 33 (Operand.tmp 31), type := 33, pos := "ref.go:158", after := #[{ on := 6, ground := Ground.data }], guard := none }, { dst := some 33, op := Op.move (Operand.tmp 1), type := 3, pos := "ref.go:158", after := #[], guard := none }, { dst := some 34, op := Op.indexAddr 33 (Operand.tmp 32) (Operand.tmp 33), type := 0, pos := "ref.go:158", after := #[{ on := 7, ground := Ground.data }, { on := 8, ground := Ground.data }], guard := none }, { dst := some 35, op := Op.load 32 (Operand.tmp 34), type := 32, pos := "ref.go:158", after := #[{ on := 9, ground := Ground.data }], guard := none }, { dst := some 36, op := Op.move (Operand.tmp 6), type := 3, pos := "ref.go:158", after := #[], guard := none }, { dst := some 37, op := Op.indexAddr 32 (Operand.tmp 35) (Operand.tmp 36), type := 0, pos := "ref.go:158", after := #[{ on := 10, ground := Ground.data }, { on := 11, ground := Ground.data }], guard := none }, { dst := some 38, op := Op.load 3 (Operand.tmp 37), type := 3, pos := "ref.go:158", after := #[{ on := 12, ground := Ground.data }], guard := none }, { dst := some 39, op := Op.indexAddr 31 (Operand.tmp 28) (Operand.tmp 38), type := 0, pos := "ref.go:158", after := #[{ on := 3, ground := Ground.data }, { on := 13, ground := Ground.data }], guard := none }, { dst := some 40, op := Op.load 43 (Operand.tmp 39), type := 43, pos := "ref.go:158", after := #[{ on := 14, ground := Ground.data }], guard := none }, { dst := some 7, op := Op.alloc 43, type := 0, pos := "ref.go:158", after := #[], guard := none }, { dst := none, op := Op.store 43 (Operand.tmp 7) (Operand.tmp 40), type := 0, pos := "ref.go:158", after := #[{ on := 16, ground := Ground.data }, { on := 15, ground := Ground.data }, { on := 0, ground := Ground.phase }, { on := 1, ground := Ground.phase }, { on := 2, ground := Ground.phase }, { on := 3, ground := Ground.phase }, { on := 4, ground := Ground.phase }, { on := 5, ground := Ground.phase }, { on := 6, ground := Ground.phase }, { on := 7, ground := Ground.phase }, { on := 8, ground := Ground.phase }, { on := 9, ground := Ground.phase }, { on := 10, ground := Ground.phase }, { on := 11, ground := Ground.phase }, { on := 12, ground := Ground.phase }, { on := 13, ground := Ground.phase }, { on := 14, ground := Ground.phase }, { on := 15, ground := Ground.phase }, { on := 16, ground := Ground.phase }], guard := none }]
set_option maxHeartbeats 8000000 in
set_option maxRecDepth 100000 in
theorem rtree6_reg {w : World} {B n k x m l g o gN gR cN cR cap la ca : Nat} {a0 a1 a5 : Int} {a2 a4 : ByteArray} {pa : Option Addr} {Q : Exit → Act → World → Prop} {u2 u3 u4 u5 u7 u8 u9 u10 u11 u12 u13 u14 u15 u16 u17 u18 u19 u20 u21 u22 u23 u24 u25 u26 u27 u28 u29 u30 u31 u32 u33 u34 u35 u36 u37 u38 u39 u40 u41 u42 u43 u44 u45 u46 u47 u48 u49 u50 u51 u52 u53 u54 u55 u56 u57 u58 : Value}
    (hS : ∀ W, Below w.heap.size w W → W.cell? ⟨B, 0, none⟩ = some (.slice (some ⟨gN, 0, none⟩) m cN) ∧ W.cell? ⟨B, 2, none⟩ = some (.slice (some ⟨gR, 0, none⟩) m cR) ∧ W.cell? ⟨gR, n, none⟩ = some (.slice (some ⟨g, o, none⟩) l cap) ∧ W.cell? ⟨g, o + k, none⟩ = some (.int .i64 (x : Int)) ∧ W.cell? ⟨gN, x * 7, none⟩ = some (.int .i64 a0) ∧ W.cell? ⟨gN, x * 7 + 1, none⟩ = some (.int .i64 a1) ∧ W.cell? ⟨gN, x * 7 + 2, none⟩ = some (.string a2) ∧ W.cell? ⟨gN, x * 7 + 3, none⟩ = some (.slice pa la ca) ∧ W.cell? ⟨gN, x * 7 + 4, none⟩ = some (.string a4) ∧ W.cell? ⟨gN, x * 7 + 5, none⟩ = some (.int .i64 a5) ∧ W.cell? ⟨gN, x * 7 + 6, none⟩ = some (.slice none 0 0)) (hn : n < m) (hk : k < l) (hx : x < m)
    (hQ : ∀ (y25 y26 y27 y28 y29 y30 y31 y32 y33 y34 y35 y36 y37 y38 y39 y40 : Value) (w' : World), Below w.heap.size w w' → w'.heap[w.heap.size]? = some (.cells #[.int .i64 a0, .int .i64 a1, .string a2, .slice pa la ca, .string a4, .int .i64 a5, .slice none 0 0] 43 (0, 0)) → w'.heap.size = w.heap.size + 1 → Q .normal { tmps := #[.pointer (some ⟨B, 0, none⟩), .int .i64 (n : Int), u2, u3, u4, u5, .int .i64 (k : Int), .pointer (some ⟨w.heap.size, 0, none⟩), u8, u9, u10, u11, u12, u13, u14, u15, u16, u17, u18, u19, u20, u21, u22, u23, u24, y25, y26, y27, y28, y29, y30, y31, y32, y33, y34, y35, y36, y37, y38, y39, y40, u41, u42, u43, u44, u45, u46, u47, u48, u49, u50, u51, u52, u53, u54, u55, u56, u57, u58], defers := [] } w') :
    (Code.region 7 rtree6_ops true).wp Try.prog Q { tmps := #[.pointer (some ⟨B, 0, none⟩), .int .i64 (n : Int), u2, u3, u4, u5, .int .i64 (k : Int), u7, u8, u9, u10, u11, u12, u13, u14, u15, u16, u17, u18, u19, u20, u21, u22, u23, u24, u25, u26, u27, u28, u29, u30, u31, u32, u33, u34, u35, u36, u37, u38, u39, u40, u41, u42, u43, u44, u45, u46, u47, u48, u49, u50, u51, u52, u53, u54, u55, u56, u57, u58], defers := [] } w := by
  refine wp_region_noPanic ?_
  unfold rtree6_ops
  have HQ := Lib.hid hQ
  have HSB := Lib.hid hS
  have HRE := Lib.hid (lateOk_spec (md := .any) (ops := rtree6_ops) (late := [17]) (is := [0, 1, 2, 3, 4, 5, 6, 7, 8, 9, 10, 11, 12, 13, 14, 15]) (f := 8) (by kernel_rfl))
  have n0 : (0 : Int) ≤ (n : Int) := by omega
  have n1 : (n : Int) < (m : Int) := by omega
  have k0 : (0 : Int) ≤ (k : Int) := by omega
  have k1 : (k : Int) < (l : Int) := by omega
  have x0 : (0 : Int) ≤ (x : Int) := by omega
  have x1 : (x : Int) < (m : Int) := by omega
  have h0 : Below w.heap.size w w.drew := (Below.refl _ w).drew
  have hz : w.drew.heap.size = w.heap.size := rfl
  clear hQ hS
  refine wp_region_heldL_drew (late := [17]) (S := fun W => W.cell? ⟨B, 0, none⟩ = some (.slice (some ⟨gN, 0, none⟩) m cN) ∧ W.cell? ⟨B, 2, none⟩ = some (.slice (some ⟨gR, 0, none⟩) m cR) ∧ W.cell? ⟨gR, n, none⟩ = some (.slice (some ⟨g, o, none⟩) l cap) ∧ W.cell? ⟨g, o + k, none⟩ = some (.int .i64 (x : Int)) ∧ W.cell? ⟨gN, x * 7, none⟩ = some (.int .i64 a0) ∧ W.cell? ⟨gN, x * 7 + 1, none⟩ = some (.int .i64 a1) ∧ W.cell? ⟨gN, x * 7 + 2, none⟩ = some (.string a2) ∧ W.cell? ⟨gN, x * 7 + 3, none⟩ = some (.slice pa la ca) ∧ W.cell? ⟨gN, x * 7 + 4, none⟩ = some (.string a4) ∧ W.cell? ⟨gN, x * 7 + 5, none⟩ = some (.int .i64 a5) ∧ W.cell? ⟨gN, x * 7 + 6, none⟩ = some (.slice none 0 0)) (by kernel_rfl) (HSB.out _ h0) (fun hHeld => ?_)
  generalize w.drew = W0 at *
  refine wpAnyL_take (i := 0) (oi := { dst := some 25, op := Op.move (Operand.tmp 0), type := 26, pos := "ref.go:158", after := #[], guard := none }) (v := ?_) rfl (by kernel_rfl) (by kernel_rfl) (by kernel_rfl) (by kernel_rfl) (HRE.out 0 (by decide)) (fun _ _ _ h => h) (Or.inl ⟨by rfl, ?_⟩) (by assumption) ?_
  rotate_left
  focus (intro w hSw; (try dsimp only at hSw); obtain ⟨z1, z2, z3, z4, z5, z6, z7, z8, z9, z10, z11⟩ := hSw; go_simp; (try with_reducible rfl))
  try simp only [Act.put, List.setIfInBounds_toArray, List.set_cons_zero, List.set_cons_succ]
  refine wpAnyL_take (i := 1) (oi := { dst := some 26, op := Op.nilCheck (Operand.tmp 25), type := 0, pos := "ref.go:158", after := #[{ on := 0, ground := Ground.data }], guard := none }) (v := ?_) rfl (by kernel_rfl) (by kernel_rfl) (by kernel_rfl) (by kernel_rfl) (HRE.out 1 (by decide)) (fun _ _ _ h => h) (Or.inl ⟨by rfl, ?_⟩) (by assumption) ?_
  rotate_left
  focus (intro w hSw; (try dsimp only at hSw); obtain ⟨z1, z2, z3, z4, z5, z6, z7, z8, z9, z10, z11⟩ := hSw; go_simp; (try with_reducible rfl))
  try simp only [Act.put, List.setIfInBounds_toArray, List.set_cons_zero, List.set_cons_succ]
  refine wpAnyL_take (i := 2) (oi := { dst := some 27, op := Op.fieldAddr 35 (Operand.tmp 26) 0, type := 0, pos := "ref.go:158", after := #[{ on := 1, ground := Ground.data }], guard := none }) (v := ?_) rfl (by kernel_rfl) (by kernel_rfl) (by kernel_rfl) (by kernel_rfl) (HRE.out 2 (by decide)) (fun _ _ _ h => h) (Or.inl ⟨by rfl, ?_⟩) (by assumption) ?_
  rotate_left
  focus (intro w hSw; (try dsimp only at hSw); obtain ⟨z1, z2, z3, z4, z5, z6, z7, z8, z9, z10, z11⟩ := hSw; go_simp; (try with_reducible rfl))
  try simp only [Act.put, List.setIfInBounds_toArray, List.set_cons_zero, List.set_cons_succ]
  refine wpAnyL_take (i := 3) (oi := { dst := some 28, op := Op.load 31 (Operand.tmp 27), type := 31, pos := "ref.go:158", after := #[{ on := 2, ground := Ground.data }], guard := none }) (v := ?_) rfl (by kernel_rfl) (by kernel_rfl) (by kernel_rfl) (by kernel_rfl) (HRE.out 3 (by decide)) (fun _ _ _ h => h) (Or.inl ⟨by rfl, ?_⟩) (by assumption) ?_
  rotate_left
  focus (intro w hSw; (try dsimp only at hSw); obtain ⟨z1, z2, z3, z4, z5, z6, z7, z8, z9, z10, z11⟩ := hSw; go_simp; (try with_reducible rfl))
  try simp only [Act.put, List.setIfInBounds_toArray, List.set_cons_zero, List.set_cons_succ]
  refine wpAnyL_take (i := 4) (oi := { dst := some 29, op := Op.move (Operand.tmp 0), type := 26, pos := "ref.go:158", after := #[], guard := none }) (v := ?_) rfl (by kernel_rfl) (by kernel_rfl) (by kernel_rfl) (by kernel_rfl) (HRE.out 4 (by decide)) (fun _ _ _ h => h) (Or.inl ⟨by rfl, ?_⟩) (by assumption) ?_
  rotate_left
  focus (intro w hSw; (try dsimp only at hSw); obtain ⟨z1, z2, z3, z4, z5, z6, z7, z8, z9, z10, z11⟩ := hSw; go_simp; (try with_reducible rfl))
  try simp only [Act.put, List.setIfInBounds_toArray, List.set_cons_zero, List.set_cons_succ]
  refine wpAnyL_take (i := 5) (oi := { dst := some 30, op := Op.nilCheck (Operand.tmp 29), type := 0, pos := "ref.go:158", after := #[{ on := 4, ground := Ground.data }], guard := none }) (v := ?_) rfl (by kernel_rfl) (by kernel_rfl) (by kernel_rfl) (by kernel_rfl) (HRE.out 5 (by decide)) (fun _ _ _ h => h) (Or.inl ⟨by rfl, ?_⟩) (by assumption) ?_
  rotate_left
  focus (intro w hSw; (try dsimp only at hSw); obtain ⟨z1, z2, z3, z4, z5, z6, z7, z8, z9, z10, z11⟩ := hSw; go_simp; (try with_reducible rfl))
  try simp only [Act.put, List.setIfInBounds_toArray, List.set_cons_zero, List.set_cons_succ]
  refine wpAnyL_take (i := 6) (oi := { dst := some 31, op := Op.fieldAddr 35 (Operand.tmp 30) 2, type := 0, pos := "ref.go:158", after := #[{ on := 5, ground := Ground.data }], guard := none }) (v := ?_) rfl (by kernel_rfl) (by kernel_rfl) (by kernel_rfl) (by kernel_rfl) (HRE.out 6 (by decide)) (fun _ _ _ h => h) (Or.inl ⟨by rfl, ?_⟩) (by assumption) ?_
  rotate_left
  focus (intro w hSw; (try dsimp only at hSw); obtain ⟨z1, z2, z3, z4, z5, z6, z7, z8, z9, z10, z11⟩ := hSw; go_simp; (try with_reducible rfl))
  try simp only [Act.put, List.setIfInBounds_toArray, List.set_cons_zero, List.set_cons_succ]
  refine wpAnyL_take (i := 7) (oi := { dst := some 32, op := Op.load 33 (Operand.tmp 31), type := 33, pos := "ref.go:158", after := #[{ on := 6, ground := Ground.data }], guard := none }) (v := ?_) rfl (by kernel_rfl) (by kernel_rfl) (by kernel_rfl) (by kernel_rfl) (HRE.out 7 (by decide)) (fun _ _ _ h => h) (Or.inl ⟨by rfl, ?_⟩) (by assumption) ?_
  rotate_left
  focus (intro w hSw; (try dsimp only at hSw); obtain ⟨z1, z2, z3, z4, z5, z6, z7, z8, z9, z10, z11⟩ := hSw; go_simp; (try with_reducible rfl))
  try simp only [Act.put, List.setIfInBounds_toArray, List.set_cons_zero, List.set_cons_succ]
  refine wpAnyL_take (i := 8) (oi := { dst := some 33, op := Op.move (Operand.tmp 1), type := 3, pos := "ref.go:158", after := #[], guard := none }) (v := ?_) rfl (by kernel_rfl) (by kernel_rfl) (by kernel_rfl) (by kernel_rfl) (HRE.out 8 (by decide)) (fun _ _ _ h => h) (Or.inl ⟨by rfl, ?_⟩) (by assumption) ?_
  rotate_left
  focus (intro w hSw; (try dsimp only at hSw); obtain ⟨z1, z2, z3, z4, z5, z6, z7, z8, z9, z10, z11⟩ := hSw; go_simp; (try with_reducible rfl))
  try simp only [Act.put, List.setIfInBounds_toArray, List.set_cons_zero, List.set_cons_succ]
  refine wpAnyL_take (i := 9) (oi := { dst := some 34, op := Op.indexAddr 33 (Operand.tmp 32) (Operand.tmp 33), type := 0, pos := "ref.go:158", after := #[{ on := 7, ground := Ground.data }, { on := 8, ground := Ground.data }], guard := none }) (v := ?_) rfl (by kernel_rfl) (by kernel_rfl) (by kernel_rfl) (by kernel_rfl) (HRE.out 9 (by decide)) (fun _ _ _ h => h) (Or.inl ⟨by rfl, ?_⟩) (by assumption) ?_
  rotate_left
  focus (intro w hSw; (try dsimp only at hSw); obtain ⟨z1, z2, z3, z4, z5, z6, z7, z8, z9, z10, z11⟩ := hSw; go_simp; (try with_reducible rfl))
  try simp only [Act.put, List.setIfInBounds_toArray, List.set_cons_zero, List.set_cons_succ]
  refine wpAnyL_take (i := 10) (oi := { dst := some 35, op := Op.load 32 (Operand.tmp 34), type := 32, pos := "ref.go:158", after := #[{ on := 9, ground := Ground.data }], guard := none }) (v := ?_) rfl (by kernel_rfl) (by kernel_rfl) (by kernel_rfl) (by kernel_rfl) (HRE.out 10 (by decide)) (fun _ _ _ h => h) (Or.inl ⟨by rfl, ?_⟩) (by assumption) ?_
  rotate_left
  focus (intro w hSw; (try dsimp only at hSw); obtain ⟨z1, z2, z3, z4, z5, z6, z7, z8, z9, z10, z11⟩ := hSw; go_simp; (try with_reducible rfl))
  try simp only [Act.put, List.setIfInBounds_toArray, List.set_cons_zero, List.set_cons_succ]
  refine wpAnyL_take (i := 11) (oi := { dst := some 36, op := Op.move (Operand.tmp 6), type := 3, pos := "ref.go:158", after := #[], guard := none }) (v := ?_) rfl (by kernel_rfl) (by kernel_rfl) (by kernel_rfl) (by kernel_rfl) (HRE.out 11 (by decide)) (fun _ _ _ h => h) (Or.inl ⟨by rfl, ?_⟩) (by assumption) ?_
  rotate_left
  focus (intro w hSw; (try dsimp only at hSw); obtain ⟨z1, z2, z3, z4, z5, z6, z7, z8, z9, z10, z11⟩ := hSw; go_simp; (try with_reducible rfl))
  try simp only [Act.put, List.setIfInBounds_toArray, List.set_cons_zero, List.set_cons_succ]
  refine wpAnyL_take (i := 12) (oi := { dst := some 37, op := Op.indexAddr 32 (Operand.tmp 35) (Operand.tmp 36), type := 0, pos := "ref.go:158", after := #[{ on := 10, ground := Ground.data }, { on := 11, ground := Ground.data }], guard := none }) (v := ?_) rfl (by kernel_rfl) (by kernel_rfl) (by kernel_rfl) (by kernel_rfl) (HRE.out 12 (by decide)) (fun _ _ _ h => h) (Or.inl ⟨by rfl, ?_⟩) (by assumption) ?_
  rotate_left
  focus (intro w hSw; (try dsimp only at hSw); obtain ⟨z1, z2, z3, z4, z5, z6, z7, z8, z9, z10, z11⟩ := hSw; go_simp; (try with_reducible rfl))
  try simp only [Act.put, List.setIfInBounds_toArray, List.set_cons_zero, List.set_cons_succ]
  refine wpAnyL_take (i := 13) (oi := { dst := some 38, op := Op.load 3 (Operand.tmp 37), type := 3, pos := "ref.go:158", after := #[{ on := 12, ground := Ground.data }], guard := none }) (v := ?_) rfl (by kernel_rfl) (by kernel_rfl) (by kernel_rfl) (by kernel_rfl) (HRE.out 13 (by decide)) (fun _ _ _ h => h) (Or.inl ⟨by rfl, ?_⟩) (by assumption) ?_
  rotate_left
  focus (intro w hSw; (try dsimp only at hSw); obtain ⟨z1, z2, z3, z4, z5, z6, z7, z8, z9, z10, z11⟩ := hSw; go_simp; (try with_reducible rfl))
  try simp only [Act.put, List.setIfInBounds_toArray, List.set_cons_zero, List.set_cons_succ]
  refine wpAnyL_take (i := 14) (oi := { dst := some 39, op := Op.indexAddr 31 (Operand.tmp 28) (Operand.tmp 38), type := 0, pos := "ref.go:158", after := #[{ on := 3, ground := Ground.data }, { on := 13, ground := Ground.data }], guard := none }) (v := ?_) rfl (by kernel_rfl) (by kernel_rfl) (by kernel_rfl) (by kernel_rfl) (HRE.out 14 (by decide)) (fun _ _ _ h => h) (Or.inl ⟨by rfl, ?_⟩) (by assumption) ?_
  rotate_left
  focus (intro w hSw; (try dsimp only at hSw); obtain ⟨z1, z2, z3, z4, z5, z6, z7, z8, z9, z10, z11⟩ := hSw; go_simp; (try with_reducible rfl))
  try simp only [Act.put, List.setIfInBounds_toArray, List.set_cons_zero, List.set_cons_succ]
  refine wpAnyL_take (i := 15) (oi := { dst := some 40, op := Op.load 43 (Operand.tmp 39), type := 43, pos := "ref.go:158", after := #[{ on := 14, ground := Ground.data }], guard := none }) (v := ?_) rfl (by kernel_rfl) (by kernel_rfl) (by kernel_rfl) (by kernel_rfl) (HRE.out 15 (by decide)) (fun _ _ _ h => h) (Or.inl ⟨by rfl, ?_⟩) (by assumption) ?_
  rotate_left
  focus (intro w hSw; (try dsimp only at hSw); obtain ⟨z1, z2, z3, z4, z5, z6, z7, z8, z9, z10, z11⟩ := hSw; go_simp; (try with_reducible rfl))
  try simp only [Act.put, List.setIfInBounds_toArray, List.set_cons_zero, List.set_cons_succ]
  refine wpAnyL_ready (rs := [16]) (by kernel_rfl) (by simp) ?_
  refine AllReadyL.cons (o := { dst := some 7, op := Op.alloc 43, type := 0, pos := "ref.go:158", after := #[], guard := none }) rfl (fun K hK => ?_) AllReadyL.nil
  go_simp
  have h1 : Below w.heap.size w (W0.alloc (.cells #[.int .i64 0, .int .i64 0, .string ⟨#[]⟩, .slice none 0 0, .string ⟨#[]⟩, .int .i64 0, .slice none 0 0] 43 (0, 0))) := h0.alloc (Nat.le_of_eq hz.symm) _
  have hx1 : (W0.alloc (.cells #[.int .i64 0, .int .i64 0, .string ⟨#[]⟩, .slice none 0 0, .string ⟨#[]⟩, .int .i64 0, .slice none 0 0] 43 (0, 0))).heap[w.heap.size]? = some (.cells #[.int .i64 0, .int .i64 0, .string ⟨#[]⟩, .slice none 0 0, .string ⟨#[]⟩, .int .i64 0, .slice none 0 0] 43 (0, 0)) := by rw [← hz]; exact heap_alloc_new _ _
  have hs1 : (W0.alloc (.cells #[.int .i64 0, .int .i64 0, .string ⟨#[]⟩, .slice none 0 0, .string ⟨#[]⟩, .int .i64 0, .slice none 0 0] 43 (0, 0))).heap.size = w.heap.size + 1 := by rw [← hz]; simp
  refine hK.out _ _ (HSB.out _ h1) (fun hHeld => ?_)
  clear hK K
  try simp only [Act.put, List.setIfInBounds_toArray, List.set_cons_zero, List.set_cons_succ]
  clear hHeld
  have hHeld := HSB.out _ h1
  change wpAnyL _ _ _ _ _ _ _ _ _ (W0.alloc (.cells #[.int .i64 0, .int .i64 0, .string ⟨#[]⟩, .slice none 0 0, .string ⟨#[]⟩, .int .i64 0, .slice none 0 0] 43 (0, 0)))
  generalize W0.alloc (.cells #[.int .i64 0, .int .i64 0, .string ⟨#[]⟩, .slice none 0 0, .string ⟨#[]⟩, .int .i64 0, .slice none 0 0] 43 (0, 0)) = W1 at *
  have e0 := block_cell6 hx1 0
  have c0 : W1.cell? ⟨w.heap.size, 0, none⟩ = some (.int .i64 0) := (block_cell6 hx1 0).1
  have c1 : W1.cell? ⟨w.heap.size, 1, none⟩ = some (.int .i64 0) := (block_cell6 hx1 1).1
  have c2 : W1.cell? ⟨w.heap.size, 2, none⟩ = some (.string ⟨#[]⟩) := (block_cell6 hx1 2).1
  have c3 : W1.cell? ⟨w.heap.size, 3, none⟩ = some (.slice none 0 0) := (block_cell6 hx1 3).1
  have c4 : W1.cell? ⟨w.heap.size, 4, none⟩ = some (.string ⟨#[]⟩) := (block_cell6 hx1 4).1
  have c5 : W1.cell? ⟨w.heap.size, 5, none⟩ = some (.int .i64 0) := (block_cell6 hx1 5).1
  have c6 : W1.cell? ⟨w.heap.size, 6, none⟩ = some (.slice none 0 0) := (block_cell6 hx1 6).1
  have f0 : W1.frozen? ⟨w.heap.size, 0, none⟩ = false := (block_cell6 hx1 0).2
  have f1 : W1.frozen? ⟨w.heap.size, 1, none⟩ = false := (block_cell6 hx1 1).2
  have f2 : W1.frozen? ⟨w.heap.size, 2, none⟩ = false := (block_cell6 hx1 2).2
  have f3 : W1.frozen? ⟨w.heap.size, 3, none⟩ = false := (block_cell6 hx1 3).2
  have f4 : W1.frozen? ⟨w.heap.size, 4, none⟩ = false := (block_cell6 hx1 4).2
  have f5 : W1.frozen? ⟨w.heap.size, 5, none⟩ = false := (block_cell6 hx1 5).2
  have f6 : W1.frozen? ⟨w.heap.size, 6, none⟩ = false := (block_cell6 hx1 6).2
  refine wpAnyL_ready (rs := [17]) (by kernel_rfl) (by simp) ?_
  refine AllReadyL.last (o := { dst := none, op := Op.store 43 (Operand.tmp 7) (Operand.tmp 40), type := 0, pos := "ref.go:158", after := #[{ on := 16, ground := Ground.data }, { on := 15, ground := Ground.data }, { on := 0, ground := Ground.phase }, { on := 1, ground := Ground.phase }, { on := 2, ground := Ground.phase }, { on := 3, ground := Ground.phase }, { on := 4, ground := Ground.phase }, { on := 5, ground := Ground.phase }, { on := 6, ground := Ground.phase }, { on := 7, ground := Ground.phase }, { on := 8, ground := Ground.phase }, { on := 9, ground := Ground.phase }, { on := 10, ground := Ground.phase }, { on := 11, ground := Ground.phase }, { on := 12, ground := Ground.phase }, { on := 13, ground := Ground.phase }, { on := 14, ground := Ground.phase }, { on := 15, ground := Ground.phase }, { on := 16, ground := Ground.phase }], guard := none }) rfl (by kernel_rfl) (fun K hK => ?_) AllReadyL.nil
  go_simp
  refine hK.out _ _ ?_
  refine wpAnyL_done (by kernel_rfl) ?_ _
  try simp only [Act.put, List.setIfInBounds_toArray, List.set_cons_zero, List.set_cons_succ]
  have g0 := heap_setCell_same W1 _ 0 _ _ (.int .i64 a0) hx1
  have g1 := heap_setCell_same _ _ 1 _ _ (.int .i64 a1) g0
  have g2 := heap_setCell_same _ _ 2 _ _ (.string a2) g1
  have g3 := heap_setCell_same _ _ 3 _ _ (.slice pa la ca) g2
  have g4 := heap_setCell_same _ _ 4 _ _ (.string a4) g3
  have g5 := heap_setCell_same _ _ 5 _ _ (.int .i64 a5) g4
  have g6 := heap_setCell_same _ _ 6 _ _ (.slice none 0 0) g5
  have hb := ((((((h1.setCell (p := ⟨w.heap.size, 0, none⟩) (Nat.le_refl _) (.int .i64 a0)).setCell (p := ⟨w.heap.size, 1, none⟩) (Nat.le_refl _) (.int .i64 a1)).setCell (p := ⟨w.heap.size, 2, none⟩) (Nat.le_refl _) (.string a2)).setCell (p := ⟨w.heap.size, 3, none⟩) (Nat.le_refl _) (.slice pa la ca)).setCell (p := ⟨w.heap.size, 4, none⟩) (Nat.le_refl _) (.string a4)).setCell (p := ⟨w.heap.size, 5, none⟩) (Nat.le_refl _) (.int .i64 a5)).setCell (p := ⟨w.heap.size, 6, none⟩) (Nat.le_refl _) (.slice none 0 0)
  exact NoPanic.normal (HQ.out _ _ _ _ _ _ _ _ _ _ _ _ _ _ _ _ _ hb (by simpa using g6) (by simpa using hs1))
end Go.Proofs.Ytkoijkdhmfnlbaa
