/-
  The drawn region of the reference's Take for nodes by numbers, over an opaque post: the last of a row without room.
-/
import Derived.Test.YtkoijkdhmfnlbaaDRefF
namespace Go.Proofs.Ytkoijkdhmfnlbaa
open Go.RowKit

def rtake6_regB_ops : Array Oper := #[{ dst := some 32, op := Op.move (Operand.tmp 0), type := 26, pos := "ref.go:108", after := #[], guard := none }, { dst := some 33, op := Op.nilCheck (Operand.tmp 32), type := 0, pos := "ref.go:108", after := #[{ on := 0, ground := Ground.data }], guard := none }, { dst := some 34, op := Op.fieldAddr 35 (Operand.tmp 33) 2, type := 0, pos := "ref.go:108", after := #[{ on := 1, ground := Ground.data }], guard := none }, { dst := some 35, op := Op.load 33 (Operand.tmp 34), type := 33, pos := "ref.go:108", after := #[{ on := 2, ground := Ground.data }], guard := none }, { dst := some 36, op := Op.move (Operand.tmp 5), type := 3, pos := "ref.go:108", after := #[], guard := none }, { dst := some 37, op := Op.buildSlice 32 0 #[], type := 32, pos := "ref.go:108", after := #[], guard := none }, { dst := some 38, op := Op.move (Operand.tmp 0), type := 26, pos := "ref.go:108", after := #[], guard := none }, { dst := some 39, op := Op.nilCheck (Operand.tmp 38), type := 0, pos := "ref.go:108", after := #[{ on := 6, ground := Ground.data }], guard := none }, { dst := some 40, op := Op.fieldAddr 35 (Operand.tmp 39) 2, type := 0, pos := "ref.go:108", after := #[{ on := 7, ground := Ground.data }], guard := none }, { dst := some 41, op := Op.load 33 (Operand.tmp 40), type := 33, pos := "ref.go:108", after := #[{ on := 8, ground := Ground.data }], guard := none }, { dst := some 42, op := Op.move (Operand.tmp 5), type := 3, pos := "ref.go:108", after := #[], guard := none }, { dst := some 43, op := Op.indexAddr 33 (Operand.tmp 41) (Operand.tmp 42), type := 0, pos := "ref.go:108", after := #[{ on := 9, ground := Ground.data }, { on := 10, ground := Ground.data }], guard := none }, { dst := some 44, op := Op.load 32 (Operand.tmp 43), type := 32, pos := "ref.go:108", after := #[{ on := 11, ground := Ground.data }], guard := none }, { dst := some 45, op := Op.move (Operand.tmp 6), type := 3, pos := "ref.go:108", after := #[], guard := none }, { dst := some 46, op := Op.slice 32 (Operand.tmp 44) none (some (Operand.tmp 45)) none, type := 32, pos := "ref.go:108", after := #[{ on := 12, ground := Ground.data }, { on := 13, ground := Ground.data }], guard := none }, { dst := some 47, op := Op.call { callee := Callee.builtin Builtin.append, args := #[Operand.tmp 37, Operand.tmp 46], argTypes := #[ 32, 32 ] }, type := 32, pos := "ref.go:108", after := #[{ on := 5, ground := Ground.data }, { on := 14, ground := Ground.data }], guard := none }, { dst := some 48, op := Op.move (Operand.tmp 0), type := 26, pos := "ref.go:108", after := #[], guard := none }, { dst := some 49, op := Op.nilCheck (Operand.tmp 48), type := 0, pos := "ref.go:108", after := #[{ on := 16, ground := Ground.data }], guard := none }, { dst := some 50, op := Op.fieldAddr 35 (Operand.tmp 49) 2, type := 0, pos := "ref.go:108", after := #[{ on := 17, ground := Ground.data }], guard := none }, { dst := some 51, op := Op.load 33 (Operand.tmp 50), type := 33, pos := "ref.go:108", after := #[{ on := 18, ground := Ground.data }], guard := none }, { dst := some 52, op := Op.move (Operand.tmp 5), type := 3, pos := "ref.go:108", after := #[], guard := none }, { dst := some 53, op := Op.indexAddr 33 (Operand.tmp 51) (Operand.tmp 52), type := 0, pos := "ref.go:108", after := #[{ on := 19, ground := Ground.data }, { on := 20, ground := Ground.data }], guard := none }, { dst := some 54, op := Op.load 32 (Operand.tmp 53), type := 32, pos := "ref.go:108", after := #[{ on := 21, ground := Ground.data }], guard := none }, { dst := some 55, op := Op.move (Operand.tmp 6), type := 3, pos := "ref.go:108", after := #[], guard := none }, { dst := some 56, op := Op.binOp BinOp.add 3 (Operand.tmp 55) (Operand.const (Value.int IntKind.i64 1)) 3, type := 3, pos := "ref.go:108", after := #[{ on := 23, ground := Ground.data }], guard := none }, { dst := some 57, op := Op.slice 32 (Operand.tmp 54) (some (Operand.tmp 56)) none none, type := 32, pos := "ref.go:108", after := #[{ on := 22, ground := Ground.data }, { on := 24, ground := Ground.data }], guard := none }, { dst := some 58, op := Op.call { callee := Callee.builtin Builtin.append, args := #[Operand.tmp 47, Operand.tmp 57], argTypes := #[ 32, 32 ] }, type := 32, pos := "ref.go:108", after := #[{ on := 15, ground := Ground.data }, { on := 25, ground := Ground.data }, { on := 15, ground := Ground.chain }], guard := none }, { dst := some 59, op := Op.indexAddr 33 (Operand.tmp 35) (Operand.tmp 36), type := 0, pos := "ref.go:108", after := #[{ on := 3, ground := Ground.data }, { on := 4, ground := Ground.data }, { on := 0, ground := Ground.phase }, { on := 1, ground := Ground.phase }, { on := 2, ground := Ground.phase }, { on := 3, ground := Ground.phase }, { on := 4, ground := Ground.phase }, { on := 5, ground := Ground.phase }, { on := 6, ground := Ground.phase }, { on := 7, ground := Ground.phase }, { on := 8, ground := Ground.phase }, { on := 9, ground := Ground.phase }, { on := 10, ground := Ground.phase }, { on := 11, ground := Ground.phase }, { on := 12, ground := Ground.phase }, { on := 13, ground := Ground.phase }, { on := 14, ground := Ground.phase }, { on := 15, ground := Ground.phase }, { on := 16, ground := Ground.phase }, { on := 17, ground := Ground.phase }, { on := 18, ground := Ground.phase }, { on := 19, ground := Ground.phase }, { on := 20, ground := Ground.phase }, { on := 21, ground := Ground.phase }, { on := 22, ground := Ground.phase }, { on := 23, ground := Ground.phase }, { on := 24, ground := Ground.phase }, { on := 25, ground := Ground.phase }, { on := 26, ground := Ground.phase }], guard := none }, { dst := none, op := Op.store 32 (Operand.tmp 59) (Operand.tmp 58), type := 0, pos := "ref.go:108", after := #[{ on := 27, ground := Ground.data }, { on := 26, ground := Ground.data }, { on := 26, ground := Ground.chain }, { on := 0, ground := Ground.phase }, { on := 1, ground := Ground.phase }, { on := 2, ground := Ground.phase }, { on := 3, ground := Ground.phase }, { on := 4, ground := Ground.phase }, { on := 5, ground := Ground.phase }, { on := 6, ground := Ground.phase }, { on := 7, ground := Ground.phase }, { on := 8, ground := Ground.phase }, { on := 9, ground := Ground.phase }, { on := 10, ground := Ground.phase }, { on := 11, ground := Ground.phase }, { on := 12, ground := Ground.phase }, { on := 13, ground := Ground.phase }, { on := 14, ground := Ground.phase }, { on := 15, ground := Ground.phase }, { on := 16, ground := Ground.phase }, { on := 17, ground := Ground.phase }, { on := 18, ground := Ground.phase }, { on := 19, ground := Ground.phase }, { on := 20, ground := Ground.phase }, { on := 21, ground := Ground.phase }, { on := 22, ground := Ground.phase }, { on := 23, ground := Ground.phase }, { on := 24, ground := Ground.phase }, { on := 25, ground := Ground.phase }, { on := 26, ground := Ground.phase }], guard := none }]
set_option maxHeartbeats 8000000 in
set_option maxRecDepth 100000 in
theorem rtake6_regB {w : World} {es fs : List Nat} {B gR m cR u k k1 g o : Nat} {Q : Exit → Act → World → Prop} {u1 u2 u3 u4 u7 u8 u9 u10 u11 u12 u13 u14 u15 u16 u17 u18 u19 u20 u21 u22 u23 u24 u25 u26 u27 u28 u29 u30 u31 u32 u33 u34 u35 u36 u37 u38 u39 u40 u41 u42 u43 u44 u45 u46 u47 u48 u49 u50 u51 u52 u53 u54 u55 u56 u57 u58 u59 u60 u61 u62 u63 u64 u65 : Value} (hB : B < w.heap.size) (hG : gR < w.heap.size) (h2 : w.cell? ⟨B, 2, none⟩ = some (.slice (some ⟨gR, 0, none⟩) m cR)) (hr : w.cell? ⟨gR, u, none⟩ = some (.slice (some ⟨g, o, none⟩) k1 k1)) (hf : w.frozen? ⟨gR, u, none⟩ = false) (hu : u < m) (hk1 : k1 = k + 1) (hls : k1 ≤ 100000)
    (hel : es.length = k) (hfl : fs.length = 0)
    (hE : ∀ W, Below w.heap.size w W → ∀ ad, ((some ⟨g, o, none⟩) : Option Addr) = some ad → ∀ j (hj : j < es.length), W.cell? (ad.add j) = some (.int .i64 (es[j] : Int)))
    (hF : ∀ W, Below w.heap.size w W → ∀ ad, ((some ⟨g, o, none⟩) : Option Addr) = some ad → ∀ j (hj : j < fs.length), W.cell? (ad.add j) = some (.int .i64 (fs[j] : Int)))
    (hQ : ∀ (y32 y33 y34 y35 y36 y37 y38 y39 y40 y41 y42 y43 y44 y45 y46 y47 y48 y49 y50 y51 y52 y53 y54 y55 y56 y57 y58 y59 : Value) (p' : Option Addr) (c' : Nat) (w' : World), RowX w w' (.slice p' (k + 0) c') (k + 0) ([] ++ intsV es ++ intsV fs) [] → Q .normal { tmps := #[.pointer (some ⟨B, 0, none⟩), u1, u2, u3, u4, .int .i64 (u : Int), .int .i64 (k : Int), u7, u8, u9, u10, u11, u12, u13, u14, u15, u16, u17, u18, u19, u20, u21, u22, u23, u24, u25, u26, u27, u28, u29, u30, u31, y32, y33, y34, y35, y36, y37, y38, y39, y40, y41, y42, y43, y44, y45, y46, y47, y48, y49, y50, y51, y52, y53, y54, y55, y56, y57, y58, y59, u60, u61, u62, u63, u64, u65], defers := [] } (w'.setCell ⟨gR, u, none⟩ (.slice p' (k + 0) c'))) :
    (Code.region 5 rtake6_regB_ops true).wp Try.prog Q { tmps := #[.pointer (some ⟨B, 0, none⟩), u1, u2, u3, u4, .int .i64 (u : Int), .int .i64 (k : Int), u7, u8, u9, u10, u11, u12, u13, u14, u15, u16, u17, u18, u19, u20, u21, u22, u23, u24, u25, u26, u27, u28, u29, u30, u31, u32, u33, u34, u35, u36, u37, u38, u39, u40, u41, u42, u43, u44, u45, u46, u47, u48, u49, u50, u51, u52, u53, u54, u55, u56, u57, u58, u59, u60, u61, u62, u63, u64, u65], defers := [] } w := by
  refine wp_region_noPanic ?_
  unfold rtake6_regB_ops
  have HQ := Lib.hid hQ
  have HE := Lib.hid hE
  have HF := Lib.hid hF
  have HRE := Lib.hid (lateOk_spec (md := .any) (ops := rtake6_regB_ops) (late := [27, 28]) (is := [0, 1, 2, 3, 4, 6, 7, 8, 9, 10, 11, 12, 13, 14, 16, 17, 18, 19, 20, 21, 22, 23, 24, 25]) (f := 8) (by kernel_rfl))
  have HS1 : Hid (0 + k ≤ 4294967296) := Lib.hid (by omega)
  have HS3 : Hid (0 + k + 0 ≤ 4294967296) := Lib.hid (by omega)
  have hk9 : k1 ≤ 100000 := by omega
  have j0 : (0 : Int) ≤ (k : Int) := by omega
  have i0 : (0 : Int) ≤ (k1 : Int) := by omega
  have hpe : (some ⟨g, o, none⟩ : Option Addr) = none → k = 0 ∧ k1 = 0 := fun e => by cases e
  have hpf : (some ⟨g, o, none⟩ : Option Addr) = none → (0 : Nat) = 0 ∧ (0 : Nat) = 0 := fun e => by cases e
  have j1 : k ≤ k1 := by omega
  have j2 : (k : Int) ≤ (k1 : Int) := by omega
  have hne3 : k1 ≠ k := by omega
  have HSB : Hid (∀ W, Below w.heap.size w W → W.cell? ⟨B, 2, none⟩ = some (.slice (some ⟨gR, 0, none⟩) m cR) ∧ W.cell? ⟨gR, u, none⟩ = some (.slice (some ⟨g, o, none⟩) k1 k1)) := Lib.hid fun W hb => ⟨(hb.cell (p := ⟨B, 2, none⟩) hB).trans h2, (hb.cell (p := ⟨gR, u, none⟩) hG).trans hr⟩
  have HFR : Hid (∀ W, Below w.heap.size w W → W.frozen? ⟨gR, u, none⟩ = false) := Lib.hid fun W hb => by rw [World.frozen?_of_block (w := w) (hb.block gR hG)]; exact hf
  have hu0 : (0 : Int) ≤ (u : Int) := by omega
  have hu1 : (u : Int) < (m : Int) := by omega
  clear h2 hr hf
  have qw : wrap64 ((k : Int) + 1) = (k1 : Int) := wrap64_one6 hk1 hk9
  have qw2 : IntKind.i64.wrap ((k : Int) + 1) = (k1 : Int) := wrap_one6 hk1 hk9
  clear hk1 hk9
  have h0 : RowX w w.drew (.slice none 0 0) 0 [] [] := .new (Below.refl _ w).drew
  clear hQ hE hF
  refine wp_region_heldL_drew (late := [27, 28]) (S := fun W => W.cell? ⟨B, 2, none⟩ = some (.slice (some ⟨gR, 0, none⟩) m cR) ∧ W.cell? ⟨gR, u, none⟩ = some (.slice (some ⟨g, o, none⟩) k1 k1)) (by kernel_rfl) (HSB.out _ h0.below) (fun hHeld => ?_)
  generalize w.drew = W0 at *
  refine wpAnyL_take (i := 0) (oi := { dst := some 32, op := Op.move (Operand.tmp 0), type := 26, pos := "ref.go:108", after := #[], guard := none }) (v := ?_) rfl (by kernel_rfl) (by kernel_rfl) (by kernel_rfl) (by kernel_rfl) (HRE.out 0 (by decide)) (fun _ _ _ h => h) (Or.inl ⟨by rfl, ?_⟩) (by assumption) ?_
  rotate_left
  focus (intro w hSw; (try dsimp only at hSw); go_simp; (try with_reducible rfl))
  try simp only [Act.put, List.setIfInBounds_toArray, List.set_cons_zero, List.set_cons_succ]
  refine wpAnyL_take (i := 1) (oi := { dst := some 33, op := Op.nilCheck (Operand.tmp 32), type := 0, pos := "ref.go:108", after := #[{ on := 0, ground := Ground.data }], guard := none }) (v := ?_) rfl (by kernel_rfl) (by kernel_rfl) (by kernel_rfl) (by kernel_rfl) (HRE.out 1 (by decide)) (fun _ _ _ h => h) (Or.inl ⟨by rfl, ?_⟩) (by assumption) ?_
  rotate_left
  focus (intro w hSw; (try dsimp only at hSw); go_simp; (try with_reducible rfl))
  try simp only [Act.put, List.setIfInBounds_toArray, List.set_cons_zero, List.set_cons_succ]
  refine wpAnyL_take (i := 2) (oi := { dst := some 34, op := Op.fieldAddr 35 (Operand.tmp 33) 2, type := 0, pos := "ref.go:108", after := #[{ on := 1, ground := Ground.data }], guard := none }) (v := ?_) rfl (by kernel_rfl) (by kernel_rfl) (by kernel_rfl) (by kernel_rfl) (HRE.out 2 (by decide)) (fun _ _ _ h => h) (Or.inl ⟨by rfl, ?_⟩) (by assumption) ?_
  rotate_left
  focus (intro w hSw; (try dsimp only at hSw); go_simp; (try with_reducible rfl))
  try simp only [Act.put, List.setIfInBounds_toArray, List.set_cons_zero, List.set_cons_succ]
  refine wpAnyL_take (i := 3) (oi := { dst := some 35, op := Op.load 33 (Operand.tmp 34), type := 33, pos := "ref.go:108", after := #[{ on := 2, ground := Ground.data }], guard := none }) (v := ?_) rfl (by kernel_rfl) (by kernel_rfl) (by kernel_rfl) (by kernel_rfl) (HRE.out 3 (by decide)) (fun _ _ _ h => h) (Or.inl ⟨by rfl, ?_⟩) (by assumption) ?_
  rotate_left
  focus (intro w hSw; (try dsimp only at hSw); go_simp; (try with_reducible rfl))
  try simp only [Act.put, List.setIfInBounds_toArray, List.set_cons_zero, List.set_cons_succ]
  refine wpAnyL_take (i := 4) (oi := { dst := some 36, op := Op.move (Operand.tmp 5), type := 3, pos := "ref.go:108", after := #[], guard := none }) (v := ?_) rfl (by kernel_rfl) (by kernel_rfl) (by kernel_rfl) (by kernel_rfl) (HRE.out 4 (by decide)) (fun _ _ _ h => h) (Or.inl ⟨by rfl, ?_⟩) (by assumption) ?_
  rotate_left
  focus (intro w hSw; (try dsimp only at hSw); go_simp; (try with_reducible rfl))
  try simp only [Act.put, List.setIfInBounds_toArray, List.set_cons_zero, List.set_cons_succ]
  refine wpAnyL_take (i := 6) (oi := { dst := some 38, op := Op.move (Operand.tmp 0), type := 26, pos := "ref.go:108", after := #[], guard := none }) (v := ?_) rfl (by kernel_rfl) (by kernel_rfl) (by kernel_rfl) (by kernel_rfl) (HRE.out 6 (by decide)) (fun _ _ _ h => h) (Or.inl ⟨by rfl, ?_⟩) (by assumption) ?_
  rotate_left
  focus (intro w hSw; (try dsimp only at hSw); go_simp; (try with_reducible rfl))
  try simp only [Act.put, List.setIfInBounds_toArray, List.set_cons_zero, List.set_cons_succ]
  refine wpAnyL_take (i := 7) (oi := { dst := some 39, op := Op.nilCheck (Operand.tmp 38), type := 0, pos := "ref.go:108", after := #[{ on := 6, ground := Ground.data }], guard := none }) (v := ?_) rfl (by kernel_rfl) (by kernel_rfl) (by kernel_rfl) (by kernel_rfl) (HRE.out 7 (by decide)) (fun _ _ _ h => h) (Or.inl ⟨by rfl, ?_⟩) (by assumption) ?_
  rotate_left
  focus (intro w hSw; (try dsimp only at hSw); go_simp; (try with_reducible rfl))
  try simp only [Act.put, List.setIfInBounds_toArray, List.set_cons_zero, List.set_cons_succ]
  refine wpAnyL_take (i := 8) (oi := { dst := some 40, op := Op.fieldAddr 35 (Operand.tmp 39) 2, type := 0, pos := "ref.go:108", after := #[{ on := 7, ground := Ground.data }], guard := none }) (v := ?_) rfl (by kernel_rfl) (by kernel_rfl) (by kernel_rfl) (by kernel_rfl) (HRE.out 8 (by decide)) (fun _ _ _ h => h) (Or.inl ⟨by rfl, ?_⟩) (by assumption) ?_
  rotate_left
  focus (intro w hSw; (try dsimp only at hSw); go_simp; (try with_reducible rfl))
  try simp only [Act.put, List.setIfInBounds_toArray, List.set_cons_zero, List.set_cons_succ]
  refine wpAnyL_take (i := 9) (oi := { dst := some 41, op := Op.load 33 (Operand.tmp 40), type := 33, pos := "ref.go:108", after := #[{ on := 8, ground := Ground.data }], guard := none }) (v := ?_) rfl (by kernel_rfl) (by kernel_rfl) (by kernel_rfl) (by kernel_rfl) (HRE.out 9 (by decide)) (fun _ _ _ h => h) (Or.inl ⟨by rfl, ?_⟩) (by assumption) ?_
  rotate_left
  focus (intro w hSw; (try dsimp only at hSw); go_simp; (try with_reducible rfl))
  try simp only [Act.put, List.setIfInBounds_toArray, List.set_cons_zero, List.set_cons_succ]
  refine wpAnyL_take (i := 10) (oi := { dst := some 42, op := Op.move (Operand.tmp 5), type := 3, pos := "ref.go:108", after := #[], guard := none }) (v := ?_) rfl (by kernel_rfl) (by kernel_rfl) (by kernel_rfl) (by kernel_rfl) (HRE.out 10 (by decide)) (fun _ _ _ h => h) (Or.inl ⟨by rfl, ?_⟩) (by assumption) ?_
  rotate_left
  focus (intro w hSw; (try dsimp only at hSw); go_simp; (try with_reducible rfl))
  try simp only [Act.put, List.setIfInBounds_toArray, List.set_cons_zero, List.set_cons_succ]
  refine wpAnyL_take (i := 11) (oi := { dst := some 43, op := Op.indexAddr 33 (Operand.tmp 41) (Operand.tmp 42), type := 0, pos := "ref.go:108", after := #[{ on := 9, ground := Ground.data }, { on := 10, ground := Ground.data }], guard := none }) (v := ?_) rfl (by kernel_rfl) (by kernel_rfl) (by kernel_rfl) (by kernel_rfl) (HRE.out 11 (by decide)) (fun _ _ _ h => h) (Or.inl ⟨by rfl, ?_⟩) (by assumption) ?_
  rotate_left
  focus (intro w hSw; (try dsimp only at hSw); go_simp; (try with_reducible rfl))
  try simp only [Act.put, List.setIfInBounds_toArray, List.set_cons_zero, List.set_cons_succ]
  refine wpAnyL_take (i := 12) (oi := { dst := some 44, op := Op.load 32 (Operand.tmp 43), type := 32, pos := "ref.go:108", after := #[{ on := 11, ground := Ground.data }], guard := none }) (v := ?_) rfl (by kernel_rfl) (by kernel_rfl) (by kernel_rfl) (by kernel_rfl) (HRE.out 12 (by decide)) (fun _ _ _ h => h) (Or.inl ⟨by rfl, ?_⟩) (by assumption) ?_
  rotate_left
  focus (intro w hSw; (try dsimp only at hSw); go_simp; (try with_reducible rfl))
  try simp only [Act.put, List.setIfInBounds_toArray, List.set_cons_zero, List.set_cons_succ]
  refine wpAnyL_take (i := 13) (oi := { dst := some 45, op := Op.move (Operand.tmp 6), type := 3, pos := "ref.go:108", after := #[], guard := none }) (v := ?_) rfl (by kernel_rfl) (by kernel_rfl) (by kernel_rfl) (by kernel_rfl) (HRE.out 13 (by decide)) (fun _ _ _ h => h) (Or.inl ⟨by rfl, ?_⟩) (by assumption) ?_
  rotate_left
  focus (intro w hSw; (try dsimp only at hSw); go_simp; (try with_reducible rfl))
  try simp only [Act.put, List.setIfInBounds_toArray, List.set_cons_zero, List.set_cons_succ]
  refine wpAnyL_take (i := 14) (oi := { dst := some 46, op := Op.slice 32 (Operand.tmp 44) none (some (Operand.tmp 45)) none, type := 32, pos := "ref.go:108", after := #[{ on := 12, ground := Ground.data }, { on := 13, ground := Ground.data }], guard := none }) (v := ?_) rfl (by kernel_rfl) (by kernel_rfl) (by kernel_rfl) (by kernel_rfl) (HRE.out 14 (by decide)) (fun _ _ _ h => h) (Or.inl ⟨by rfl, ?_⟩) (by assumption) ?_
  rotate_left
  focus (intro w hSw; (try dsimp only at hSw); go_simp; (try with_reducible rfl))
  try simp only [Act.put, List.setIfInBounds_toArray, List.set_cons_zero, List.set_cons_succ]
  refine wpAnyL_take (i := 16) (oi := { dst := some 48, op := Op.move (Operand.tmp 0), type := 26, pos := "ref.go:108", after := #[], guard := none }) (v := ?_) rfl (by kernel_rfl) (by kernel_rfl) (by kernel_rfl) (by kernel_rfl) (HRE.out 16 (by decide)) (fun _ _ _ h => h) (Or.inl ⟨by rfl, ?_⟩) (by assumption) ?_
  rotate_left
  focus (intro w hSw; (try dsimp only at hSw); go_simp; (try with_reducible rfl))
  try simp only [Act.put, List.setIfInBounds_toArray, List.set_cons_zero, List.set_cons_succ]
  refine wpAnyL_take (i := 17) (oi := { dst := some 49, op := Op.nilCheck (Operand.tmp 48), type := 0, pos := "ref.go:108", after := #[{ on := 16, ground := Ground.data }], guard := none }) (v := ?_) rfl (by kernel_rfl) (by kernel_rfl) (by kernel_rfl) (by kernel_rfl) (HRE.out 17 (by decide)) (fun _ _ _ h => h) (Or.inl ⟨by rfl, ?_⟩) (by assumption) ?_
  rotate_left
  focus (intro w hSw; (try dsimp only at hSw); go_simp; (try with_reducible rfl))
  try simp only [Act.put, List.setIfInBounds_toArray, List.set_cons_zero, List.set_cons_succ]
  refine wpAnyL_take (i := 18) (oi := { dst := some 50, op := Op.fieldAddr 35 (Operand.tmp 49) 2, type := 0, pos := "ref.go:108", after := #[{ on := 17, ground := Ground.data }], guard := none }) (v := ?_) rfl (by kernel_rfl) (by kernel_rfl) (by kernel_rfl) (by kernel_rfl) (HRE.out 18 (by decide)) (fun _ _ _ h => h) (Or.inl ⟨by rfl, ?_⟩) (by assumption) ?_
  rotate_left
  focus (intro w hSw; (try dsimp only at hSw); go_simp; (try with_reducible rfl))
  try simp only [Act.put, List.setIfInBounds_toArray, List.set_cons_zero, List.set_cons_succ]
  refine wpAnyL_take (i := 19) (oi := { dst := some 51, op := Op.load 33 (Operand.tmp 50), type := 33, pos := "ref.go:108", after := #[{ on := 18, ground := Ground.data }], guard := none }) (v := ?_) rfl (by kernel_rfl) (by kernel_rfl) (by kernel_rfl) (by kernel_rfl) (HRE.out 19 (by decide)) (fun _ _ _ h => h) (Or.inl ⟨by rfl, ?_⟩) (by assumption) ?_
  rotate_left
  focus (intro w hSw; (try dsimp only at hSw); go_simp; (try with_reducible rfl))
  try simp only [Act.put, List.setIfInBounds_toArray, List.set_cons_zero, List.set_cons_succ]
  refine wpAnyL_take (i := 20) (oi := { dst := some 52, op := Op.move (Operand.tmp 5), type := 3, pos := "ref.go:108", after := #[], guard := none }) (v := ?_) rfl (by kernel_rfl) (by kernel_rfl) (by kernel_rfl) (by kernel_rfl) (HRE.out 20 (by decide)) (fun _ _ _ h => h) (Or.inl ⟨by rfl, ?_⟩) (by assumption) ?_
  rotate_left
  focus (intro w hSw; (try dsimp only at hSw); go_simp; (try with_reducible rfl))
  try simp only [Act.put, List.setIfInBounds_toArray, List.set_cons_zero, List.set_cons_succ]
  refine wpAnyL_take (i := 21) (oi := { dst := some 53, op := Op.indexAddr 33 (Operand.tmp 51) (Operand.tmp 52), type := 0, pos := "ref.go:108", after := #[{ on := 19, ground := Ground.data }, { on := 20, ground := Ground.data }], guard := none }) (v := ?_) rfl (by kernel_rfl) (by kernel_rfl) (by kernel_rfl) (by kernel_rfl) (HRE.out 21 (by decide)) (fun _ _ _ h => h) (Or.inl ⟨by rfl, ?_⟩) (by assumption) ?_
  rotate_left
  focus (intro w hSw; (try dsimp only at hSw); go_simp; (try with_reducible rfl))
  try simp only [Act.put, List.setIfInBounds_toArray, List.set_cons_zero, List.set_cons_succ]
  refine wpAnyL_take (i := 22) (oi := { dst := some 54, op := Op.load 32 (Operand.tmp 53), type := 32, pos := "ref.go:108", after := #[{ on := 21, ground := Ground.data }], guard := none }) (v := ?_) rfl (by kernel_rfl) (by kernel_rfl) (by kernel_rfl) (by kernel_rfl) (HRE.out 22 (by decide)) (fun _ _ _ h => h) (Or.inl ⟨by rfl, ?_⟩) (by assumption) ?_
  rotate_left
  focus (intro w hSw; (try dsimp only at hSw); go_simp; (try with_reducible rfl))
  try simp only [Act.put, List.setIfInBounds_toArray, List.set_cons_zero, List.set_cons_succ]
  refine wpAnyL_take (i := 23) (oi := { dst := some 55, op := Op.move (Operand.tmp 6), type := 3, pos := "ref.go:108", after := #[], guard := none }) (v := ?_) rfl (by kernel_rfl) (by kernel_rfl) (by kernel_rfl) (by kernel_rfl) (HRE.out 23 (by decide)) (fun _ _ _ h => h) (Or.inl ⟨by rfl, ?_⟩) (by assumption) ?_
  rotate_left
  focus (intro w hSw; (try dsimp only at hSw); go_simp; (try with_reducible rfl))
  try simp only [Act.put, List.setIfInBounds_toArray, List.set_cons_zero, List.set_cons_succ]
  refine wpAnyL_take (i := 24) (oi := { dst := some 56, op := Op.binOp BinOp.add 3 (Operand.tmp 55) (Operand.const (Value.int IntKind.i64 1)) 3, type := 3, pos := "ref.go:108", after := #[{ on := 23, ground := Ground.data }], guard := none }) (v := ?_) rfl (by kernel_rfl) (by kernel_rfl) (by kernel_rfl) (by kernel_rfl) (HRE.out 24 (by decide)) (fun _ _ _ h => h) (Or.inl ⟨by rfl, ?_⟩) (by assumption) ?_
  rotate_left
  focus (intro w hSw; (try dsimp only at hSw); go_simp; (try with_reducible rfl))
  try simp only [Act.put, List.setIfInBounds_toArray, List.set_cons_zero, List.set_cons_succ]
  refine wpAnyL_take (i := 25) (oi := { dst := some 57, op := Op.slice 32 (Operand.tmp 54) (some (Operand.tmp 56)) none none, type := 32, pos := "ref.go:108", after := #[{ on := 22, ground := Ground.data }, { on := 24, ground := Ground.data }], guard := none }) (v := ?_) rfl (by kernel_rfl) (by kernel_rfl) (by kernel_rfl) (by kernel_rfl) (HRE.out 25 (by decide)) (fun _ _ _ h => h) (Or.inl ⟨by rfl, ?_⟩) (by assumption) ?_
  rotate_left
  focus (intro w hSw; (try dsimp only at hSw); go_simp; (try with_reducible rfl))
  try simp only [Act.put, List.setIfInBounds_toArray, List.set_cons_zero, List.set_cons_succ]
  refine wpAnyL_ready (rs := [5]) (by kernel_rfl) (by simp) ?_
  refine (AllReadyL.cons (o := { dst := some 37, op := Op.buildSlice 32 0 #[], type := 32, pos := "ref.go:108", after := #[], guard := none }) rfl (fun K hK => ?_) AllReadyL.nil)
  go_simp
  have h1 := h0.alloc (.cells #[] 3 (0, 0))
  have hn1 : w.heap.size ≤ W0.heap.size := h0.below.size
  refine hK.out _ _ (HSB.out _ h1.below) (fun hHeld => ?_)
  clear hK K
  try simp only [Act.put, List.setIfInBounds_toArray, List.set_cons_zero, List.set_cons_succ]
  clear hHeld
  have hHeld := HSB.out _ h1.below
  clear h0
  change wpAnyL _ _ _ _ _ _ _ _ _ (W0.alloc (.cells #[] 3))
  generalize (W0.alloc (.cells #[] 3)) = W1 at *
  generalize W0.heap.size = A1 at *
  refine wpAnyL_ready (rs := [15]) (by kernel_rfl) (by simp) ?_
  refine (AllReadyL.cons (o := { dst := some 47, op := Op.call { callee := Callee.builtin Builtin.append, args := #[Operand.tmp 37, Operand.tmp 46], argTypes := #[ 32, 32 ] }, type := 32, pos := "ref.go:108", after := #[{ on := 5, ground := Ground.data }, { on := 14, ground := Ground.data }], guard := none }) rfl (fun K hK => ?_) AllReadyL.nil)
  have hb2 := h1.begin_ (E := A1) (ex' := []) (h1.ex (A1, (.cells #[] 3 (0, 0))) (by simp)).1 hn1 (fun p hp => by cases hp)
  refine step_append_int rfl (.tmp 37) (.tmp 46) rfl w.heap.size _ _ _ (by rfl) hb2.row (some ⟨g, o, none⟩) _ _ es (by rfl) hpe hel (HE.out _ hb2.below) HS1.out hb2.below.size ?_
  intro v2 W2 hr2 hg2 ho2
  have h2 := hb2.grow hr2 hg2 ho2
  clear hr2 hg2 ho2
  refine hK.out _ _ (HSB.out _ h2.below) (fun hHeld => ?_)
  clear hK K
  try simp only [Act.put, List.setIfInBounds_toArray, List.set_cons_zero, List.set_cons_succ]
  refine wpAnyL_ready (rs := [26]) (by kernel_rfl) (by simp) ?_
  refine (AllReadyL.cons (o := { dst := some 58, op := Op.call { callee := Callee.builtin Builtin.append, args := #[Operand.tmp 47, Operand.tmp 57], argTypes := #[ 32, 32 ] }, type := 32, pos := "ref.go:108", after := #[{ on := 15, ground := Ground.data }, { on := 25, ground := Ground.data }, { on := 15, ground := Ground.chain }], guard := none }) rfl (fun K hK => ?_) AllReadyL.nil)
  refine step_append_int rfl (.tmp 47) (.tmp 57) rfl w.heap.size _ _ _ (by rfl) h2.row (some ⟨g, o, none⟩) _ _ fs (by rfl) hpf hfl (HF.out _ h2.below) HS3.out h2.below.size ?_
  intro v3 W3 hr3 hg3 ho3
  have h3 := h2.grow hr3 hg3 ho3
  obtain ⟨p3, c3, rfl⟩ := h3.form
  clear hr3 hg3 ho3
  refine hK.out _ _ (HSB.out _ h3.below) (fun hHeld => ?_)
  clear hK K
  try simp only [Act.put, List.setIfInBounds_toArray, List.set_cons_zero, List.set_cons_succ]
  refine wpAnyL_ready (rs := [27]) (by kernel_rfl) (by simp) ?_
  refine AllReadyL.last (o := { dst := some 59, op := Op.indexAddr 33 (Operand.tmp 35) (Operand.tmp 36), type := 0, pos := "ref.go:108", after := #[{ on := 3, ground := Ground.data }, { on := 4, ground := Ground.data }, { on := 0, ground := Ground.phase }, { on := 1, ground := Ground.phase }, { on := 2, ground := Ground.phase }, { on := 3, ground := Ground.phase }, { on := 4, ground := Ground.phase }, { on := 5, ground := Ground.phase }, { on := 6, ground := Ground.phase }, { on := 7, ground := Ground.phase }, { on := 8, ground := Ground.phase }, { on := 9, ground := Ground.phase }, { on := 10, ground := Ground.phase }, { on := 11, ground := Ground.phase }, { on := 12, ground := Ground.phase }, { on := 13, ground := Ground.phase }, { on := 14, ground := Ground.phase }, { on := 15, ground := Ground.phase }, { on := 16, ground := Ground.phase }, { on := 17, ground := Ground.phase }, { on := 18, ground := Ground.phase }, { on := 19, ground := Ground.phase }, { on := 20, ground := Ground.phase }, { on := 21, ground := Ground.phase }, { on := 22, ground := Ground.phase }, { on := 23, ground := Ground.phase }, { on := 24, ground := Ground.phase }, { on := 25, ground := Ground.phase }, { on := 26, ground := Ground.phase }], guard := none }) rfl (by kernel_rfl) (fun K hK => ?_) AllReadyL.nil
  go_simp
  refine hK.out _ _ ?_
  clear hK K
  try simp only [Act.put, List.setIfInBounds_toArray, List.set_cons_zero, List.set_cons_succ]
  have cB := (HSB.out _ h3.below).2
  have fB := HFR.out _ h3.below
  refine wpAnyL_ready (rs := [28]) (by kernel_rfl) (by simp) ?_
  refine AllReadyL.last (o := { dst := none, op := Op.store 32 (Operand.tmp 59) (Operand.tmp 58), type := 0, pos := "ref.go:108", after := #[{ on := 27, ground := Ground.data }, { on := 26, ground := Ground.data }, { on := 26, ground := Ground.chain }, { on := 0, ground := Ground.phase }, { on := 1, ground := Ground.phase }, { on := 2, ground := Ground.phase }, { on := 3, ground := Ground.phase }, { on := 4, ground := Ground.phase }, { on := 5, ground := Ground.phase }, { on := 6, ground := Ground.phase }, { on := 7, ground := Ground.phase }, { on := 8, ground := Ground.phase }, { on := 9, ground := Ground.phase }, { on := 10, ground := Ground.phase }, { on := 11, ground := Ground.phase }, { on := 12, ground := Ground.phase }, { on := 13, ground := Ground.phase }, { on := 14, ground := Ground.phase }, { on := 15, ground := Ground.phase }, { on := 16, ground := Ground.phase }, { on := 17, ground := Ground.phase }, { on := 18, ground := Ground.phase }, { on := 19, ground := Ground.phase }, { on := 20, ground := Ground.phase }, { on := 21, ground := Ground.phase }, { on := 22, ground := Ground.phase }, { on := 23, ground := Ground.phase }, { on := 24, ground := Ground.phase }, { on := 25, ground := Ground.phase }, { on := 26, ground := Ground.phase }], guard := none }) rfl (by kernel_rfl) (fun K hK => ?_) AllReadyL.nil
  go_simp
  refine hK.out _ _ ?_
  refine wpAnyL_done (by kernel_rfl) ?_ _
  try simp only [Act.put, List.setIfInBounds_toArray, List.set_cons_zero, List.set_cons_succ]
  exact NoPanic.normal (HQ.out _ _ _ _ _ _ _ _ _ _ _ _ _ _ _ _ _ _ _ _ _ _ _ _ _ _ _ _ _ _ _ (by have q := h3.less (ex' := []) (by simp); simpa only [Nat.zero_add, Nat.add_zero] using q))
end Go.Proofs.Ytkoijkdhmfnlbaa
