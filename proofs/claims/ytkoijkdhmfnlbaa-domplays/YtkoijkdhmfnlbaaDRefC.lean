/-
  The drawn region of the reference's Put for nodes by numbers, over an opaque post: no row yet.
-/
import Derived.Test.YtkoijkdhmfnlbaaDRefA
namespace Go.Proofs.Ytkoijkdhmfnlbaa
open Go.RowKit

def rput6_regN_ops : Array Oper := #[{ dst := some 46, op := Op.move (Operand.tmp 0), type := 26, pos := "ref.go:74", after := #[], guard := none }, { dst := some 47, op := Op.nilCheck (Operand.tmp 46), type := 0, pos := "ref.go:74", after := #[{ on := 0, ground := Ground.data }], guard := none }, { dst := some 48, op := Op.fieldAddr 35 (Operand.tmp 47) 2, type := 0, pos := "ref.go:74", after := #[{ on := 1, ground := Ground.data }], guard := none }, { dst := some 49, op := Op.load 33 (Operand.tmp 48), type := 33, pos := "ref.go:74", after := #[{ on := 2, ground := Ground.data }], guard := none }, { dst := some 50, op := Op.move (Operand.tmp 2), type := 3, pos := "ref.go:74", after := #[], guard := none }, { dst := some 51, op := Op.buildSlice 32 0 #[], type := 32, pos := "ref.go:74", after := #[], guard := none }, { dst := some 52, op := Op.move (Operand.tmp 0), type := 26, pos := "ref.go:74", after := #[], guard := none }, { dst := some 53, op := Op.nilCheck (Operand.tmp 52), type := 0, pos := "ref.go:74", after := #[{ on := 6, ground := Ground.data }], guard := none }, { dst := some 54, op := Op.fieldAddr 35 (Operand.tmp 53) 2, type := 0, pos := "ref.go:74", after := #[{ on := 7, ground := Ground.data }], guard := none }, { dst := some 55, op := Op.load 33 (Operand.tmp 54), type := 33, pos := "ref.go:74", after := #[{ on := 8, ground := Ground.data }], guard := none }, { dst := some 56, op := Op.move (Operand.tmp 2), type := 3, pos := "ref.go:74", after := #[], guard := none }, { dst := some 57, op := Op.indexAddr 33 (Operand.tmp 55) (Operand.tmp 56), type := 0, pos := "ref.go:74", after := #[{ on := 9, ground := Ground.data }, { on := 10, ground := Ground.data }], guard := none }, { dst := some 58, op := Op.load 32 (Operand.tmp 57), type := 32, pos := "ref.go:74", after := #[{ on := 11, ground := Ground.data }], guard := none }, { dst := some 59, op := Op.move (Operand.tmp 9), type := 3, pos := "ref.go:74", after := #[], guard := none }, { dst := some 60, op := Op.slice 32 (Operand.tmp 58) none (some (Operand.tmp 59)) none, type := 32, pos := "ref.go:74", after := #[{ on := 12, ground := Ground.data }, { on := 13, ground := Ground.data }], guard := none }, { dst := some 61, op := Op.call { callee := Callee.builtin Builtin.append, args := #[Operand.tmp 51, Operand.tmp 60], argTypes := #[ 32, 32 ] }, type := 32, pos := "ref.go:74", after := #[{ on := 5, ground := Ground.data }, { on := 14, ground := Ground.data }], guard := none }, { dst := some 62, op := Op.move (Operand.tmp 1), type := 3, pos := "ref.go:74", after := #[], guard := none }, { dst := some 63, op := Op.buildSlice 32 1 #[(0, Operand.tmp 62)], type := 32, pos := "ref.go:74", after := #[{ on := 16, ground := Ground.data }], guard := none }, { dst := some 64, op := Op.call { callee := Callee.builtin Builtin.append, args := #[Operand.tmp 61, Operand.tmp 63], argTypes := #[ 32, 32 ] }, type := 32, pos := "ref.go:74", after := #[{ on := 15, ground := Ground.data }, { on := 17, ground := Ground.data }, { on := 15, ground := Ground.chain }], guard := none }, { dst := some 65, op := Op.move (Operand.tmp 0), type := 26, pos := "ref.go:74", after := #[], guard := none }, { dst := some 66, op := Op.nilCheck (Operand.tmp 65), type := 0, pos := "ref.go:74", after := #[{ on := 19, ground := Ground.data }], guard := none }, { dst := some 67, op := Op.fieldAddr 35 (Operand.tmp 66) 2, type := 0, pos := "ref.go:74", after := #[{ on := 20, ground := Ground.data }], guard := none }, { dst := some 68, op := Op.load 33 (Operand.tmp 67), type := 33, pos := "ref.go:74", after := #[{ on := 21, ground := Ground.data }], guard := none }, { dst := some 69, op := Op.move (Operand.tmp 2), type := 3, pos := "ref.go:74", after := #[], guard := none }, { dst := some 70, op := Op.indexAddr 33 (Operand.tmp 68) (Operand.tmp 69), type := 0, pos := "ref.go:74", after := #[{ on := 22, ground := Ground.data }, { on := 23, ground := Ground.data }], guard := none }, { dst := some 71, op := Op.load 32 (Operand.tmp 70), type := 32, pos := "ref.go:74", after := #[{ on := 24, ground := Ground.data }], guard := none }, { dst := some 72, op := Op.move (Operand.tmp 9), type := 3, pos := "ref.go:74", after := #[], guard := none }, { dst := some 73, op := Op.slice 32 (Operand.tmp 71) (some (Operand.tmp 72)) none none, type := 32, pos := "ref.go:74", after := #[{ on := 25, ground := Ground.data }, { on := 26, ground := Ground.data }], guard := none }, { dst := some 74, op := Op.call { callee := Callee.builtin Builtin.append, args := #[Operand.tmp 64, Operand.tmp 73], argTypes := #[ 32, 32 ] }, type := 32, pos := "ref.go:74", after := #[{ on := 18, ground := Ground.data }, { on := 27, ground := Ground.data }, { on := 18, ground := Ground.chain }], guard := none }, { dst := some 75, op := Op.indexAddr 33 (Operand.tmp 49) (Operand.tmp 50), type := 0, pos := "ref.go:74", after := #[{ on := 3, ground := Ground.data }, { on := 4, ground := Ground.data }, { on := 0, ground := Ground.phase }, { on := 1, ground := Ground.phase }, { on := 2, ground := Ground.phase }, { on := 3, ground := Ground.phase }, { on := 4, ground := Ground.phase }, { on := 5, ground := Ground.phase }, { on := 6, ground := Ground.phase }, { on := 7, ground := Ground.phase }, { on := 8, ground := Ground.phase }, { on := 9, ground := Ground.phase }, { on := 10, ground := Ground.phase }, { on := 11, ground := Ground.phase }, { on := 12, ground := Ground.phase }, { on := 13, ground := Ground.phase }, { on := 14, ground := Ground.phase }, { on := 15, ground := Ground.phase }, { on := 16, ground := Ground.phase }, { on := 17, ground := Ground.phase }, { on := 18, ground := Ground.phase }, { on := 19, ground := Ground.phase }, { on := 20, ground := Ground.phase }, { on := 21, ground := Ground.phase }, { on := 22, ground := Ground.phase }, { on := 23, ground := Ground.phase }, { on := 24, ground := Ground.phase }, { on := 25, ground := Ground.phase }, { on := 26, ground := Ground.phase }, { on := 27, ground := Ground.phase }, { on := 28, ground := Ground.phase }], guard := none }, { dst := none, op := Op.store 32 (Operand.tmp 75) (Operand.tmp 74), type := 0, pos := "ref.go:74", after := #[{ on := 29, ground := Ground.data }, { on := 28, ground := Ground.data }, { on := 28, ground := Ground.chain }, { on := 0, ground := Ground.phase }, { on := 1, ground := Ground.phase }, { on := 2, ground := Ground.phase }, { on := 3, ground := Ground.phase }, { on := 4, ground := Ground.phase }, { on := 5, ground := Ground.phase }, { on := 6, ground := Ground.phase }, { on := 7, ground := Ground.phase }, { on := 8, ground := Ground.phase }, { on := 9, ground := Ground.phase }, { on := 10, ground := Ground.phase }, { on := 11, ground := Ground.phase }, { on := 12, ground := Ground.phase }, { on := 13, ground := Ground.phase }, { on := 14, ground := Ground.phase }, { on := 15, ground := Ground.phase }, { on := 16, ground := Ground.phase }, { on := 17, ground := Ground.phase }, { on := 18, ground := Ground.phase }, { on := 19, ground := Ground.phase }, { on := 20, ground := Ground.phase }, { on := 21, ground := Ground.phase }, { on := 22, ground := Ground.phase }, { on := 23, ground := Ground.phase }, { on := 24, ground := Ground.phase }, { on := 25, ground := Ground.phase }, { on := 26, ground := Ground.phase }, { on := 27, ground := Ground.phase }, { on := 28, ground := Ground.phase }], guard := none }]
set_option maxHeartbeats 8000000 in
set_option maxRecDepth 100000 in
theorem rput6_regN {w : World} {n : Nat} {es fs : List Nat} {B gR m cR u : Nat} {Q : Exit → Act → World → Prop} {u3 u4 u5 u6 u7 u8 u10 u11 u12 u13 u14 u15 u16 u17 u18 u19 u20 u21 u22 u23 u24 u25 u26 u27 u28 u29 u30 u31 u32 u33 u34 u35 u36 u37 u38 u39 u40 u41 u42 u43 u44 u45 u46 u47 u48 u49 u50 u51 u52 u53 u54 u55 u56 u57 u58 u59 u60 u61 u62 u63 u64 u65 u66 u67 u68 u69 u70 u71 u72 u73 u74 u75 u76 u77 u78 u79 u80 u81 u82 : Value} (hB : B < w.heap.size) (hG : gR < w.heap.size) (h2 : w.cell? ⟨B, 2, none⟩ = some (.slice (some ⟨gR, 0, none⟩) m cR)) (hr : w.cell? ⟨gR, u, none⟩ = some (.slice none 0 0)) (hf : w.frozen? ⟨gR, u, none⟩ = false) (hu : u < m) 
    (hel : es.length = 0) (hfl : fs.length = 0)
    (hE : ∀ W, Below w.heap.size w W → ∀ ad, (none : Option Addr) = some ad → ∀ j (hj : j < es.length), W.cell? (ad.add j) = some (.int .i64 (es[j] : Int)))
    (hF : ∀ W, Below w.heap.size w W → ∀ ad, (none : Option Addr) = some ad → ∀ j (hj : j < fs.length), W.cell? (ad.add j) = some (.int .i64 (fs[j] : Int)))
    (hQ : ∀ (y46 y47 y48 y49 y50 y51 y52 y53 y54 y55 y56 y57 y58 y59 y60 y61 y62 y63 y64 y65 y66 y67 y68 y69 y70 y71 y72 y73 y74 y75 : Value) (p' : Option Addr) (c' : Nat) (w' : World), RowX w w' (.slice p' (1) c') (1) ([] ++ intsV es ++ intsV [n] ++ intsV fs) [] → Q .normal { tmps := #[.pointer (some ⟨B, 0, none⟩), .int .i64 (n : Int), .int .i64 (u : Int), u3, u4, u5, u6, u7, u8, .int .i64 0, u10, u11, u12, u13, u14, u15, u16, u17, u18, u19, u20, u21, u22, u23, u24, u25, u26, u27, u28, u29, u30, u31, u32, u33, u34, u35, u36, u37, u38, u39, u40, u41, u42, u43, u44, u45, y46, y47, y48, y49, y50, y51, y52, y53, y54, y55, y56, y57, y58, y59, y60, y61, y62, y63, y64, y65, y66, y67, y68, y69, y70, y71, y72, y73, y74, y75, u76, u77, u78, u79, u80, u81, u82], defers := [] } (w'.setCell ⟨gR, u, none⟩ (.slice p' (1) c'))) :
    (Code.region 6 rput6_regN_ops true).wp Try.prog Q { tmps := #[.pointer (some ⟨B, 0, none⟩), .int .i64 (n : Int), .int .i64 (u : Int), u3, u4, u5, u6, u7, u8, .int .i64 0, u10, u11, u12, u13, u14, u15, u16, u17, u18, u19, u20, u21, u22, u23, u24, u25, u26, u27, u28, u29, u30, u31, u32, u33, u34, u35, u36, u37, u38, u39, u40, u41, u42, u43, u44, u45, u46, u47, u48, u49, u50, u51, u52, u53, u54, u55, u56, u57, u58, u59, u60, u61, u62, u63, u64, u65, u66, u67, u68, u69, u70, u71, u72, u73, u74, u75, u76, u77, u78, u79, u80, u81, u82], defers := [] } w := by
  refine wp_region_noPanic ?_
  unfold rput6_regN_ops
  have HQ := Lib.hid hQ
  have HE := Lib.hid hE
  have HF := Lib.hid hF
  have HRE := Lib.hid (lateOk_spec (md := .any) (ops := rput6_regN_ops) (late := [29, 30]) (is := [0, 1, 2, 3, 4, 6, 7, 8, 9, 10, 11, 12, 13, 14, 16, 19, 20, 21, 22, 23, 24, 25, 26, 27]) (f := 8) (by kernel_rfl))
  have HS1 : Hid (0 + 0 ≤ 4294967296) := Lib.hid (by omega)
  have HS2 : Hid (0 + 0 + 1 ≤ 4294967296) := Lib.hid (by omega)
  have HS3 : Hid (0 + 0 + 1 + 0 ≤ 4294967296) := Lib.hid (by omega)
  have hpe : (none : Option Addr) = none → (0 : Nat) = 0 ∧ (0 : Nat) = 0 := fun _ => ⟨rfl, rfl⟩
  have hpf : (none : Option Addr) = none → (0 : Nat) = 0 ∧ (0 : Nat) = 0 := fun _ => ⟨rfl, rfl⟩
  have HSB : Hid (∀ W, Below w.heap.size w W → W.cell? ⟨B, 2, none⟩ = some (.slice (some ⟨gR, 0, none⟩) m cR) ∧ W.cell? ⟨gR, u, none⟩ = some (.slice none 0 0)) := Lib.hid fun W hb => ⟨(hb.cell (p := ⟨B, 2, none⟩) hB).trans h2, (hb.cell (p := ⟨gR, u, none⟩) hG).trans hr⟩
  have HFR : Hid (∀ W, Below w.heap.size w W → W.frozen? ⟨gR, u, none⟩ = false) := Lib.hid fun W hb => by rw [World.frozen?_of_block (w := w) (hb.block gR hG)]; exact hf
  have hu0 : (0 : Int) ≤ (u : Int) := by omega
  have hu1 : (u : Int) < (m : Int) := by omega
  clear h2 hr hf
  have h0 : RowX w w.drew (.slice none 0 0) 0 [] [] := .new (Below.refl _ w).drew
  clear hQ hE hF
  refine wp_region_heldL_drew (late := [29, 30]) (S := fun W => W.cell? ⟨B, 2, none⟩ = some (.slice (some ⟨gR, 0, none⟩) m cR) ∧ W.cell? ⟨gR, u, none⟩ = some (.slice none 0 0)) (by kernel_rfl) (HSB.out _ h0.below) (fun hHeld => ?_)
  generalize w.drew = W0 at *
  refine wpAnyL_take (i := 0) (oi := { dst := some 46, op := Op.move (Operand.tmp 0), type := 26, pos := "ref.go:74", after := #[], guard := none }) (v := ?_) rfl (by kernel_rfl) (by kernel_rfl) (by kernel_rfl) (by kernel_rfl) (HRE.out 0 (by decide)) (fun _ _ _ h => h) (Or.inl ⟨by rfl, ?_⟩) (by assumption) ?_
  rotate_left
  focus (intro w hSw; (try dsimp only at hSw); go_simp; (try with_reducible rfl))
  try simp only [Act.put, List.setIfInBounds_toArray, List.set_cons_zero, List.set_cons_succ]
  refine wpAnyL_take (i := 1) (oi := { dst := some 47, op := Op.nilCheck (Operand.tmp 46), type := 0, pos := "ref.go:74", after := #[{ on := 0, ground := Ground.data }], guard := none }) (v := ?_) rfl (by kernel_rfl) (by kernel_rfl) (by kernel_rfl) (by kernel_rfl) (HRE.out 1 (by decide)) (fun _ _ _ h => h) (Or.inl ⟨by rfl, ?_⟩) (by assumption) ?_
  rotate_left
  focus (intro w hSw; (try dsimp only at hSw); go_simp; (try with_reducible rfl))
  try simp only [Act.put, List.setIfInBounds_toArray, List.set_cons_zero, List.set_cons_succ]
  refine wpAnyL_take (i := 2) (oi := { dst := some 48, op := Op.fieldAddr 35 (Operand.tmp 47) 2, type := 0, pos := "ref.go:74", after := #[{ on := 1, ground := Ground.data }], guard := none }) (v := ?_) rfl (by kernel_rfl) (by kernel_rfl) (by kernel_rfl) (by kernel_rfl) (HRE.out 2 (by decide)) (fun _ _ _ h => h) (Or.inl ⟨by rfl, ?_⟩) (by assumption) ?_
  rotate_left
  focus (intro w hSw; (try dsimp only at hSw); go_simp; (try with_reducible rfl))
  try simp only [Act.put, List.setIfInBounds_toArray, List.set_cons_zero, List.set_cons_succ]
  refine wpAnyL_take (i := 3) (oi := { dst := some 49, op := Op.load 33 (Operand.tmp 48), type := 33, pos := "ref.go:74", after := #[{ on := 2, ground := Ground.data }], guard := none }) (v := ?_) rfl (by kernel_rfl) (by kernel_rfl) (by kernel_rfl) (by kernel_rfl) (HRE.out 3 (by decide)) (fun _ _ _ h => h) (Or.inl ⟨by rfl, ?_⟩) (by assumption) ?_
  rotate_left
  focus (intro w hSw; (try dsimp only at hSw); go_simp; (try with_reducible rfl))
  try simp only [Act.put, List.setIfInBounds_toArray, List.set_cons_zero, List.set_cons_succ]
  refine wpAnyL_take (i := 4) (oi := { dst := some 50, op := Op.move (Operand.tmp 2), type := 3, pos := "ref.go:74", after := #[], guard := none }) (v := ?_) rfl (by kernel_rfl) (by kernel_rfl) (by kernel_rfl) (by kernel_rfl) (HRE.out 4 (by decide)) (fun _ _ _ h => h) (Or.inl ⟨by rfl, ?_⟩) (by assumption) ?_
  rotate_left
  focus (intro w hSw; (try dsimp only at hSw); go_simp; (try with_reducible rfl))
  try simp only [Act.put, List.setIfInBounds_toArray, List.set_cons_zero, List.set_cons_succ]
  refine wpAnyL_take (i := 6) (oi := { dst := some 52, op := Op.move (Operand.tmp 0), type := 26, pos := "ref.go:74", after := #[], guard := none }) (v := ?_) rfl (by kernel_rfl) (by kernel_rfl) (by kernel_rfl) (by kernel_rfl) (HRE.out 6 (by decide)) (fun _ _ _ h => h) (Or.inl ⟨by rfl, ?_⟩) (by assumption) ?_
  rotate_left
  focus (intro w hSw; (try dsimp only at hSw); go_simp; (try with_reducible rfl))
  try simp only [Act.put, List.setIfInBounds_toArray, List.set_cons_zero, List.set_cons_succ]
  refine wpAnyL_take (i := 7) (oi := { dst := some 53, op := Op.nilCheck (Operand.tmp 52), type := 0, pos := "ref.go:74", after := #[{ on := 6, ground := Ground.data }], guard := none }) (v := ?_) rfl (by kernel_rfl) (by kernel_rfl) (by kernel_rfl) (by kernel_rfl) (HRE.out 7 (by decide)) (fun _ _ _ h => h) (Or.inl ⟨by rfl, ?_⟩) (by assumption) ?_
  rotate_left
  focus (intro w hSw; (try dsimp only at hSw); go_simp; (try with_reducible rfl))
  try simp only [Act.put, List.setIfInBounds_toArray, List.set_cons_zero, List.set_cons_succ]
  refine wpAnyL_take (i := 8) (oi := { dst := some 54, op := Op.fieldAddr 35 (Operand.tmp 53) 2, type := 0, pos := "ref.go:74", after := #[{ on := 7, ground := Ground.data }], guard := none }) (v := ?_) rfl (by kernel_rfl) (by kernel_rfl) (by kernel_rfl) (by kernel_rfl) (HRE.out 8 (by decide)) (fun _ _ _ h => h) (Or.inl ⟨by rfl, ?_⟩) (by assumption) ?_
  rotate_left
  focus (intro w hSw; (try dsimp only at hSw); go_simp; (try with_reducible rfl))
  try simp only [Act.put, List.setIfInBounds_toArray, List.set_cons_zero, List.set_cons_succ]
  refine wpAnyL_take (i := 9) (oi := { dst := some 55, op := Op.load 33 (Operand.tmp 54), type := 33, pos := "ref.go:74", after := #[{ on := 8, ground := Ground.data }], guard := none }) (v := ?_) rfl (by kernel_rfl) (by kernel_rfl) (by kernel_rfl) (by kernel_rfl) (HRE.out 9 (by decide)) (fun _ _ _ h => h) (Or.inl ⟨by rfl, ?_⟩) (by assumption) ?_
  rotate_left
  focus (intro w hSw; (try dsimp only at hSw); go_simp; (try with_reducible rfl))
  try simp only [Act.put, List.setIfInBounds_toArray, List.set_cons_zero, List.set_cons_succ]
  refine wpAnyL_take (i := 10) (oi := { dst := some 56, op := Op.move (Operand.tmp 2), type := 3, pos := "ref.go:74", after := #[], guard := none }) (v := ?_) rfl (by kernel_rfl) (by kernel_rfl) (by kernel_rfl) (by kernel_rfl) (HRE.out 10 (by decide)) (fun _ _ _ h => h) (Or.inl ⟨by rfl, ?_⟩) (by assumption) ?_
  rotate_left
  focus (intro w hSw; (try dsimp only at hSw); go_simp; (try with_reducible rfl))
  try simp only [Act.put, List.setIfInBounds_toArray, List.set_cons_zero, List.set_cons_succ]
  refine wpAnyL_take (i := 11) (oi := { dst := some 57, op := Op.indexAddr 33 (Operand.tmp 55) (Operand.tmp 56), type := 0, pos := "ref.go:74", after := #[{ on := 9, ground := Ground.data }, { on := 10, ground := Ground.data }], guard := none }) (v := ?_) rfl (by kernel_rfl) (by kernel_rfl) (by kernel_rfl) (by kernel_rfl) (HRE.out 11 (by decide)) (fun _ _ _ h => h) (Or.inl ⟨by rfl, ?_⟩) (by assumption) ?_
  rotate_left
  focus (intro w hSw; (try dsimp only at hSw); go_simp; (try with_reducible rfl))
  try simp only [Act.put, List.setIfInBounds_toArray, List.set_cons_zero, List.set_cons_succ]
  refine wpAnyL_take (i := 12) (oi := { dst := some 58, op := Op.load 32 (Operand.tmp 57), type := 32, pos := "ref.go:74", after := #[{ on := 11, ground := Ground.data }], guard := none }) (v := ?_) rfl (by kernel_rfl) (by kernel_rfl) (by kernel_rfl) (by kernel_rfl) (HRE.out 12 (by decide)) (fun _ _ _ h => h) (Or.inl ⟨by rfl, ?_⟩) (by assumption) ?_
  rotate_left
  focus (intro w hSw; (try dsimp only at hSw); go_simp; (try with_reducible rfl))
  try simp only [Act.put, List.setIfInBounds_toArray, List.set_cons_zero, List.set_cons_succ]
  refine wpAnyL_take (i := 13) (oi := { dst := some 59, op := Op.move (Operand.tmp 9), type := 3, pos := "ref.go:74", after := #[], guard := none }) (v := ?_) rfl (by kernel_rfl) (by kernel_rfl) (by kernel_rfl) (by kernel_rfl) (HRE.out 13 (by decide)) (fun _ _ _ h => h) (Or.inl ⟨by rfl, ?_⟩) (by assumption) ?_
  rotate_left
  focus (intro w hSw; (try dsimp only at hSw); go_simp; (try with_reducible rfl))
  try simp only [Act.put, List.setIfInBounds_toArray, List.set_cons_zero, List.set_cons_succ]
  refine wpAnyL_take (i := 14) (oi := { dst := some 60, op := Op.slice 32 (Operand.tmp 58) none (some (Operand.tmp 59)) none, type := 32, pos := "ref.go:74", after := #[{ on := 12, ground := Ground.data }, { on := 13, ground := Ground.data }], guard := none }) (v := ?_) rfl (by kernel_rfl) (by kernel_rfl) (by kernel_rfl) (by kernel_rfl) (HRE.out 14 (by decide)) (fun _ _ _ h => h) (Or.inl ⟨by rfl, ?_⟩) (by assumption) ?_
  rotate_left
  focus (intro w hSw; (try dsimp only at hSw); go_simp; (try with_reducible rfl))
  try simp only [Act.put, List.setIfInBounds_toArray, List.set_cons_zero, List.set_cons_succ]
  refine wpAnyL_take (i := 16) (oi := { dst := some 62, op := Op.move (Operand.tmp 1), type := 3, pos := "ref.go:74", after := #[], guard := none }) (v := ?_) rfl (by kernel_rfl) (by kernel_rfl) (by kernel_rfl) (by kernel_rfl) (HRE.out 16 (by decide)) (fun _ _ _ h => h) (Or.inl ⟨by rfl, ?_⟩) (by assumption) ?_
  rotate_left
  focus (intro w hSw; (try dsimp only at hSw); go_simp; (try with_reducible rfl))
  try simp only [Act.put, List.setIfInBounds_toArray, List.set_cons_zero, List.set_cons_succ]
  refine wpAnyL_take (i := 19) (oi := { dst := some 65, op := Op.move (Operand.tmp 0), type := 26, pos := "ref.go:74", after := #[], guard := none }) (v := ?_) rfl (by kernel_rfl) (by kernel_rfl) (by kernel_rfl) (by kernel_rfl) (HRE.out 19 (by decide)) (fun _ _ _ h => h) (Or.inl ⟨by rfl, ?_⟩) (by assumption) ?_
  rotate_left
  focus (intro w hSw; (try dsimp only at hSw); go_simp; (try with_reducible rfl))
  try simp only [Act.put, List.setIfInBounds_toArray, List.set_cons_zero, List.set_cons_succ]
  refine wpAnyL_take (i := 20) (oi := { dst := some 66, op := Op.nilCheck (Operand.tmp 65), type := 0, pos := "ref.go:74", after := #[{ on := 19, ground := Ground.data }], guard := none }) (v := ?_) rfl (by kernel_rfl) (by kernel_rfl) (by kernel_rfl) (by kernel_rfl) (HRE.out 20 (by decide)) (fun _ _ _ h => h) (Or.inl ⟨by rfl, ?_⟩) (by assumption) ?_
  rotate_left
  focus (intro w hSw; (try dsimp only at hSw); go_simp; (try with_reducible rfl))
  try simp only [Act.put, List.setIfInBounds_toArray, List.set_cons_zero, List.set_cons_succ]
  refine wpAnyL_take (i := 21) (oi := { dst := some 67, op := Op.fieldAddr 35 (Operand.tmp 66) 2, type := 0, pos := "ref.go:74", after := #[{ on := 20, ground := Ground.data }], guard := none }) (v := ?_) rfl (by kernel_rfl) (by kernel_rfl) (by kernel_rfl) (by kernel_rfl) (HRE.out 21 (by decide)) (fun _ _ _ h => h) (Or.inl ⟨by rfl, ?_⟩) (by assumption) ?_
  rotate_left
  focus (intro w hSw; (try dsimp only at hSw); go_simp; (try with_reducible rfl))
  try simp only [Act.put, List.setIfInBounds_toArray, List.set_cons_zero, List.set_cons_succ]
  refine wpAnyL_take (i := 22) (oi := { dst := some 68, op := Op.load 33 (Operand.tmp 67), type := 33, pos := "ref.go:74", after := #[{ on := 21, ground := Ground.data }], guard := none }) (v := ?_) rfl (by kernel_rfl) (by kernel_rfl) (by kernel_rfl) (by kernel_rfl) (HRE.out 22 (by decide)) (fun _ _ _ h => h) (Or.inl ⟨by rfl, ?_⟩) (by assumption) ?_
  rotate_left
  focus (intro w hSw; (try dsimp only at hSw); go_simp; (try with_reducible rfl))
  try simp only [Act.put, List.setIfInBounds_toArray, List.set_cons_zero, List.set_cons_succ]
  refine wpAnyL_take (i := 23) (oi := { dst := some 69, op := Op.move (Operand.tmp 2), type := 3, pos := "ref.go:74", after := #[], guard := none }) (v := ?_) rfl (by kernel_rfl) (by kernel_rfl) (by kernel_rfl) (by kernel_rfl) (HRE.out 23 (by decide)) (fun _ _ _ h => h) (Or.inl ⟨by rfl, ?_⟩) (by assumption) ?_
  rotate_left
  focus (intro w hSw; (try dsimp only at hSw); go_simp; (try with_reducible rfl))
  try simp only [Act.put, List.setIfInBounds_toArray, List.set_cons_zero, List.set_cons_succ]
  refine wpAnyL_take (i := 24) (oi := { dst := some 70, op := Op.indexAddr 33 (Operand.tmp 68) (Operand.tmp 69), type := 0, pos := "ref.go:74", after := #[{ on := 22, ground := Ground.data }, { on := 23, ground := Ground.data }], guard := none }) (v := ?_) rfl (by kernel_rfl) (by kernel_rfl) (by kernel_rfl) (by kernel_rfl) (HRE.out 24 (by decide)) (fun _ _ _ h => h) (Or.inl ⟨by rfl, ?_⟩) (by assumption) ?_
  rotate_left
  focus (intro w hSw; (try dsimp only at hSw); go_simp; (try with_reducible rfl))
  try simp only [Act.put, List.setIfInBounds_toArray, List.set_cons_zero, List.set_cons_succ]
  refine wpAnyL_take (i := 25) (oi := { dst := some 71, op := Op.load 32 (Operand.tmp 70), type := 32, pos := "ref.go:74", after := #[{ on := 24, ground := Ground.data }], guard := none }) (v := ?_) rfl (by kernel_rfl) (by kernel_rfl) (by kernel_rfl) (by kernel_rfl) (HRE.out 25 (by decide)) (fun _ _ _ h => h) (Or.inl ⟨by rfl, ?_⟩) (by assumption) ?_
  rotate_left
  focus (intro w hSw; (try dsimp only at hSw); go_simp; (try with_reducible rfl))
  try simp only [Act.put, List.setIfInBounds_toArray, List.set_cons_zero, List.set_cons_succ]
  refine wpAnyL_take (i := 26) (oi := { dst := some 72, op := Op.move (Operand.tmp 9), type := 3, pos := "ref.go:74", after := #[], guard := none }) (v := ?_) rfl (by kernel_rfl) (by kernel_rfl) (by kernel_rfl) (by kernel_rfl) (HRE.out 26 (by decide)) (fun _ _ _ h => h) (Or.inl ⟨by rfl, ?_⟩) (by assumption) ?_
  rotate_left
  focus (intro w hSw; (try dsimp only at hSw); go_simp; (try with_reducible rfl))
  try simp only [Act.put, List.setIfInBounds_toArray, List.set_cons_zero, List.set_cons_succ]
  refine wpAnyL_take (i := 27) (oi := { dst := some 73, op := Op.slice 32 (Operand.tmp 71) (some (Operand.tmp 72)) none none, type := 32, pos := "ref.go:74", after := #[{ on := 25, ground := Ground.data }, { on := 26, ground := Ground.data }], guard := none }) (v := ?_) rfl (by kernel_rfl) (by kernel_rfl) (by kernel_rfl) (by kernel_rfl) (HRE.out 27 (by decide)) (fun _ _ _ h => h) (Or.inl ⟨by rfl, ?_⟩) (by assumption) ?_
  rotate_left
  focus (intro w hSw; (try dsimp only at hSw); go_simp; (try with_reducible rfl))
  try simp only [Act.put, List.setIfInBounds_toArray, List.set_cons_zero, List.set_cons_succ]
  refine wpAnyL_ready (rs := [5, 17]) (by kernel_rfl) (by simp) ?_
  refine (AllReadyL.cons (o := { dst := some 51, op := Op.buildSlice 32 0 #[], type := 32, pos := "ref.go:74", after := #[], guard := none }) rfl (fun K hK => ?_) (AllReadyL.cons (o := { dst := some 63, op := Op.buildSlice 32 1 #[(0, Operand.tmp 62)], type := 32, pos := "ref.go:74", after := #[{ on := 16, ground := Ground.data }], guard := none }) rfl (fun K hK => ?_) AllReadyL.nil))
  · go_simp
    have h1 := h0.alloc (.cells #[] 3 (0, 0))
    have hn1 : w.heap.size ≤ W0.heap.size := h0.below.size
    refine hK.out _ _ (HSB.out _ h1.below) (fun hHeld => ?_)
    clear hK K
    try simp only [Act.put, List.setIfInBounds_toArray, List.set_cons_zero, List.set_cons_succ]
    clear hHeld
    have hHeld := HSB.out _ h1.below
    clear h0
    change wpAnyL _ _ _ _ _ _ _ _ _ (W0.alloc (.cells #[] 3))
    generalize (W0.alloc (.cells #[] 3)) = W1 at *
    generalize W0.heap.size = A1 at *
    refine wpAnyL_ready (rs := [15, 17]) (by kernel_rfl) (by simp) ?_
    refine (AllReadyL.cons (o := { dst := some 61, op := Op.call { callee := Callee.builtin Builtin.append, args := #[Operand.tmp 51, Operand.tmp 60], argTypes := #[ 32, 32 ] }, type := 32, pos := "ref.go:74", after := #[{ on := 5, ground := Ground.data }, { on := 14, ground := Ground.data }], guard := none }) rfl (fun K hK => ?_) (AllReadyL.cons (o := { dst := some 63, op := Op.buildSlice 32 1 #[(0, Operand.tmp 62)], type := 32, pos := "ref.go:74", after := #[{ on := 16, ground := Ground.data }], guard := none }) rfl (fun K hK => ?_) AllReadyL.nil))
    · have hb2 := h1.begin_ (E := A1) (ex' := []) (h1.ex (A1, (.cells #[] 3 (0, 0))) (by simp)).1 hn1 (fun p hp => by cases hp)
      refine step_append_int rfl (.tmp 51) (.tmp 60) rfl w.heap.size _ _ _ (by rfl) hb2.row none _ _ es (by rfl) hpe hel (HE.out _ hb2.below) HS1.out hb2.below.size ?_
      intro v2 W2 hr2 hg2 ho2
      have h2 := hb2.grow hr2 hg2 ho2
      clear hr2 hg2 ho2
      refine hK.out _ _ (HSB.out _ h2.below) (fun hHeld => ?_)
      clear hK K
      try simp only [Act.put, List.setIfInBounds_toArray, List.set_cons_zero, List.set_cons_succ]
      refine wpAnyL_ready (rs := [17]) (by kernel_rfl) (by simp) ?_
      refine (AllReadyL.cons (o := { dst := some 63, op := Op.buildSlice 32 1 #[(0, Operand.tmp 62)], type := 32, pos := "ref.go:74", after := #[{ on := 16, ground := Ground.data }], guard := none }) rfl (fun K hK => ?_) AllReadyL.nil)
      go_simp
      have h3 := h2.alloc (.cells #[.int .i64 (n : Int)] 3 (0, 0))
      have hn3 : w.heap.size ≤ W2.heap.size := h2.below.size
      refine hK.out _ _ (HSB.out _ h3.below) (fun hHeld => ?_)
      clear hK K
      try simp only [Act.put, List.setIfInBounds_toArray, List.set_cons_zero, List.set_cons_succ]
      clear hHeld
      have hHeld := HSB.out _ h3.below
      clear h2
      change wpAnyL _ _ _ _ _ _ _ _ _ (W2.alloc (.cells #[.int .i64 (n : Int)] 3))
      generalize (W2.alloc (.cells #[.int .i64 (n : Int)] 3)) = W3 at *
      generalize W2.heap.size = A3 at *
      refine wpAnyL_ready (rs := [18]) (by kernel_rfl) (by simp) ?_
      refine (AllReadyL.cons (o := { dst := some 64, op := Op.call { callee := Callee.builtin Builtin.append, args := #[Operand.tmp 61, Operand.tmp 63], argTypes := #[ 32, 32 ] }, type := 32, pos := "ref.go:74", after := #[{ on := 15, ground := Ground.data }, { on := 17, ground := Ground.data }, { on := 15, ground := Ground.chain }], guard := none }) rfl (fun K hK => ?_) AllReadyL.nil)
      refine step_append_int rfl (.tmp 61) (.tmp 63) rfl w.heap.size _ _ _ (by rfl) h3.row (some ⟨A3, 0, none⟩) 1 1 [n] (by rfl) (fun e => by cases e) rfl (one_news (h3.ex (A3, (.cells #[.int .i64 (n : Int)] 3 (0, 0))) (by simp)).1) HS2.out h3.below.size ?_
      intro v4 W4 hr4 hg4 ho4
      have h4 := h3.grow hr4 hg4 ho4
      clear hr4 hg4 ho4
      refine hK.out _ _ (HSB.out _ h4.below) (fun hHeld => ?_)
      clear hK K
      try simp only [Act.put, List.setIfInBounds_toArray, List.set_cons_zero, List.set_cons_succ]
      refine wpAnyL_ready (rs := [28]) (by kernel_rfl) (by simp) ?_
      refine (AllReadyL.cons (o := { dst := some 74, op := Op.call { callee := Callee.builtin Builtin.append, args := #[Operand.tmp 64, Operand.tmp 73], argTypes := #[ 32, 32 ] }, type := 32, pos := "ref.go:74", after := #[{ on := 18, ground := Ground.data }, { on := 27, ground := Ground.data }, { on := 18, ground := Ground.chain }], guard := none }) rfl (fun K hK => ?_) AllReadyL.nil)
      refine step_append_int rfl (.tmp 64) (.tmp 73) rfl w.heap.size _ _ _ (by rfl) h4.row none _ _ fs (by rfl) hpf hfl (HF.out _ h4.below) HS3.out h4.below.size ?_
      intro v5 W5 hr5 hg5 ho5
      have h5 := h4.grow hr5 hg5 ho5
      obtain ⟨p5, c5, rfl⟩ := h5.form
      clear hr5 hg5 ho5
      refine hK.out _ _ (HSB.out _ h5.below) (fun hHeld => ?_)
      clear hK K
      try simp only [Act.put, List.setIfInBounds_toArray, List.set_cons_zero, List.set_cons_succ]
      refine wpAnyL_ready (rs := [29]) (by kernel_rfl) (by simp) ?_
      refine AllReadyL.last (o := { dst := some 75, op := Op.indexAddr 33 (Operand.tmp 49) (Operand.tmp 50), type := 0, pos := "ref.go:74", after := #[{ on := 3, ground := Ground.data }, { on := 4, ground := Ground.data }, { on := 0, ground := Ground.phase }, { on := 1, ground := Ground.phase }, { on := 2, ground := Ground.phase }, { on := 3, ground := Ground.phase }, { on := 4, ground := Ground.phase }, { on := 5, ground := Ground.phase }, { on := 6, ground := Ground.phase }, { on := 7, ground := Ground.phase }, { on := 8, ground := Ground.phase }, { on := 9, ground := Ground.phase }, { on := 10, ground := Ground.phase }, { on := 11, ground := Ground.phase }, { on := 12, ground := Ground.phase }, { on := 13, ground := Ground.phase }, { on := 14, ground := Ground.phase }, { on := 15, ground := Ground.phase }, { on := 16, ground := Ground.phase }, { on := 17, ground := Ground.phase }, { on := 18, ground := Ground.phase }, { on := 19, ground := Ground.phase }, { on := 20, ground := Ground.phase }, { on := 21, ground := Ground.phase }, { on := 22, ground := Ground.phase }, { on := 23, ground := Ground.phase }, { on := 24, ground := Ground.phase }, { on := 25, ground := Ground.phase }, { on := 26, ground := Ground.phase }, { on := 27, ground := Ground.phase }, { on := 28, ground := Ground.phase }], guard := none }) rfl (by kernel_rfl) (fun K hK => ?_) AllReadyL.nil
      go_simp
      refine hK.out _ _ ?_
      clear hK K
      try simp only [Act.put, List.setIfInBounds_toArray, List.set_cons_zero, List.set_cons_succ]
      have cB := (HSB.out _ h5.below).2
      have fB := HFR.out _ h5.below
      refine wpAnyL_ready (rs := [30]) (by kernel_rfl) (by simp) ?_
      refine AllReadyL.last (o := { dst := none, op := Op.store 32 (Operand.tmp 75) (Operand.tmp 74), type := 0, pos := "ref.go:74", after := #[{ on := 29, ground := Ground.data }, { on := 28, ground := Ground.data }, { on := 28, ground := Ground.chain }, { on := 0, ground := Ground.phase }, { on := 1, ground := Ground.phase }, { on := 2, ground := Ground.phase }, { on := 3, ground := Ground.phase }, { on := 4, ground := Ground.phase }, { on := 5, ground := Ground.phase }, { on := 6, ground := Ground.phase }, { on := 7, ground := Ground.phase }, { on := 8, ground := Ground.phase }, { on := 9, ground := Ground.phase }, { on := 10, ground := Ground.phase }, { on := 11, ground := Ground.phase }, { on := 12, ground := Ground.phase }, { on := 13, ground := Ground.phase }, { on := 14, ground := Ground.phase }, { on := 15, ground := Ground.phase }, { on := 16, ground := Ground.phase }, { on := 17, ground := Ground.phase }, { on := 18, ground := Ground.phase }, { on := 19, ground := Ground.phase }, { on := 20, ground := Ground.phase }, { on := 21, ground := Ground.phase }, { on := 22, ground := Ground.phase }, { on := 23, ground := Ground.phase }, { on := 24, ground := Ground.phase }, { on := 25, ground := Ground.phase }, { on := 26, ground := Ground.phase }, { on := 27, ground := Ground.phase }, { on := 28, ground := Ground.phase }], guard := none }) rfl (by kernel_rfl) (fun K hK => ?_) AllReadyL.nil
      go_simp
      refine hK.out _ _ ?_
      refine wpAnyL_done (by kernel_rfl) ?_ _
      try simp only [Act.put, List.setIfInBounds_toArray, List.set_cons_zero, List.set_cons_succ]
      exact NoPanic.normal (HQ.out _ _ _ _ _ _ _ _ _ _ _ _ _ _ _ _ _ _ _ _ _ _ _ _ _ _ _ _ _ _ _ _ _ (by have q := h5.less (ex' := []) (by simp); simpa only [Nat.zero_add, Nat.add_zero] using q))
    · go_simp
      have h6 := h1.alloc (.cells #[.int .i64 (n : Int)] 3 (0, 0))
      have hn6 : w.heap.size ≤ W1.heap.size := h1.below.size
      have hne : W1.heap.size ≠ A1 := fun e => by have := heap_lt (h1.ex (A1, _) (List.mem_cons_self ..)).1; omega
      refine hK.out _ _ (HSB.out _ h6.below) (fun hHeld => ?_)
      clear hK K
      try simp only [Act.put, List.setIfInBounds_toArray, List.set_cons_zero, List.set_cons_succ]
      clear hHeld
      have hHeld := HSB.out _ h6.below
      clear h1
      change wpAnyL _ _ _ _ _ _ _ _ _ (W1.alloc (.cells #[.int .i64 (n : Int)] 3))
      generalize (W1.alloc (.cells #[.int .i64 (n : Int)] 3)) = W6 at *
      generalize W1.heap.size = A6 at *
      refine wpAnyL_ready (rs := [15]) (by kernel_rfl) (by simp) ?_
      refine (AllReadyL.cons (o := { dst := some 61, op := Op.call { callee := Callee.builtin Builtin.append, args := #[Operand.tmp 51, Operand.tmp 60], argTypes := #[ 32, 32 ] }, type := 32, pos := "ref.go:74", after := #[{ on := 5, ground := Ground.data }, { on := 14, ground := Ground.data }], guard := none }) rfl (fun K hK => ?_) AllReadyL.nil)
      have hb7 := h6.begin_ (E := A1) (ex' := [(A6, (.cells #[.int .i64 (n : Int)] 3 (0, 0)))]) (h6.ex (A1, (.cells #[] 3 (0, 0))) (by simp)).1 hn1 (fun p hp => by rw [List.mem_singleton.1 hp]; exact ⟨by simp, hne⟩)
      refine step_append_int rfl (.tmp 51) (.tmp 60) rfl w.heap.size _ _ _ (by rfl) hb7.row none _ _ es (by rfl) hpe hel (HE.out _ hb7.below) HS1.out hb7.below.size ?_
      intro v7 W7 hr7 hg7 ho7
      have h7 := hb7.grow hr7 hg7 ho7
      clear hr7 hg7 ho7
      refine hK.out _ _ (HSB.out _ h7.below) (fun hHeld => ?_)
      clear hK K
      try simp only [Act.put, List.setIfInBounds_toArray, List.set_cons_zero, List.set_cons_succ]
      refine wpAnyL_ready (rs := [18]) (by kernel_rfl) (by simp) ?_
      refine (AllReadyL.cons (o := { dst := some 64, op := Op.call { callee := Callee.builtin Builtin.append, args := #[Operand.tmp 61, Operand.tmp 63], argTypes := #[ 32, 32 ] }, type := 32, pos := "ref.go:74", after := #[{ on := 15, ground := Ground.data }, { on := 17, ground := Ground.data }, { on := 15, ground := Ground.chain }], guard := none }) rfl (fun K hK => ?_) AllReadyL.nil)
      refine step_append_int rfl (.tmp 61) (.tmp 63) rfl w.heap.size _ _ _ (by rfl) h7.row (some ⟨A6, 0, none⟩) 1 1 [n] (by rfl) (fun e => by cases e) rfl (one_news (h7.ex (A6, (.cells #[.int .i64 (n : Int)] 3 (0, 0))) (by simp)).1) HS2.out h7.below.size ?_
      intro v8 W8 hr8 hg8 ho8
      have h8 := h7.grow hr8 hg8 ho8
      clear hr8 hg8 ho8
      refine hK.out _ _ (HSB.out _ h8.below) (fun hHeld => ?_)
      clear hK K
      try simp only [Act.put, List.setIfInBounds_toArray, List.set_cons_zero, List.set_cons_succ]
      refine wpAnyL_ready (rs := [28]) (by kernel_rfl) (by simp) ?_
      refine (AllReadyL.cons (o := { dst := some 74, op := Op.call { callee := Callee.builtin Builtin.append, args := #[Operand.tmp 64, Operand.tmp 73], argTypes := #[ 32, 32 ] }, type := 32, pos := "ref.go:74", after := #[{ on := 18, ground := Ground.data }, { on := 27, ground := Ground.data }, { on := 18, ground := Ground.chain }], guard := none }) rfl (fun K hK => ?_) AllReadyL.nil)
      refine step_append_int rfl (.tmp 64) (.tmp 73) rfl w.heap.size _ _ _ (by rfl) h8.row none _ _ fs (by rfl) hpf hfl (HF.out _ h8.below) HS3.out h8.below.size ?_
      intro v9 W9 hr9 hg9 ho9
      have h9 := h8.grow hr9 hg9 ho9
      obtain ⟨p9, c9, rfl⟩ := h9.form
      clear hr9 hg9 ho9
      refine hK.out _ _ (HSB.out _ h9.below) (fun hHeld => ?_)
      clear hK K
      try simp only [Act.put, List.setIfInBounds_toArray, List.set_cons_zero, List.set_cons_succ]
      refine wpAnyL_ready (rs := [29]) (by kernel_rfl) (by simp) ?_
      refine AllReadyL.last (o := { dst := some 75, op := Op.indexAddr 33 (Operand.tmp 49) (Operand.tmp 50), type := 0, pos := "ref.go:74", after := #[{ on := 3, ground := Ground.data }, { on := 4, ground := Ground.data }, { on := 0, ground := Ground.phase }, { on := 1, ground := Ground.phase }, { on := 2, ground := Ground.phase }, { on := 3, ground := Ground.phase }, { on := 4, ground := Ground.phase }, { on := 5, ground := Ground.phase }, { on := 6, ground := Ground.phase }, { on := 7, ground := Ground.phase }, { on := 8, ground := Ground.phase }, { on := 9, ground := Ground.phase }, { on := 10, ground := Ground.phase }, { on := 11, ground := Ground.phase }, { on := 12, ground := Ground.phase }, { on := 13, ground := Ground.phase }, { on := 14, ground := Ground.phase }, { on := 15, ground := Ground.phase }, { on := 16, ground := Ground.phase }, { on := 17, ground := Ground.phase }, { on := 18, ground := Ground.phase }, { on := 19, ground := Ground.phase }, { on := 20, ground := Ground.phase }, { on := 21, ground := Ground.phase }, { on := 22, ground := Ground.phase }, { on := 23, ground := Ground.phase }, { on := 24, ground := Ground.phase }, { on := 25, ground := Ground.phase }, { on := 26, ground := Ground.phase }, { on := 27, ground := Ground.phase }, { on := 28, ground := Ground.phase }], guard := none }) rfl (by kernel_rfl) (fun K hK => ?_) AllReadyL.nil
      go_simp
      refine hK.out _ _ ?_
      clear hK K
      try simp only [Act.put, List.setIfInBounds_toArray, List.set_cons_zero, List.set_cons_succ]
      have cB := (HSB.out _ h9.below).2
      have fB := HFR.out _ h9.below
      refine wpAnyL_ready (rs := [30]) (by kernel_rfl) (by simp) ?_
      refine AllReadyL.last (o := { dst := none, op := Op.store 32 (Operand.tmp 75) (Operand.tmp 74), type := 0, pos := "ref.go:74", after := #[{ on := 29, ground := Ground.data }, { on := 28, ground := Ground.data }, { on := 28, ground := Ground.chain }, { on := 0, ground := Ground.phase }, { on := 1, ground := Ground.phase }, { on := 2, ground := Ground.phase }, { on := 3, ground := Ground.phase }, { on := 4, ground := Ground.phase }, { on := 5, ground := Ground.phase }, { on := 6, ground := Ground.phase }, { on := 7, ground := Ground.phase }, { on := 8, ground := Ground.phase }, { on := 9, ground := Ground.phase }, { on := 10, ground := Ground.phase }, { on := 11, ground := Ground.phase }, { on := 12, ground := Ground.phase }, { on := 13, ground := Ground.phase }, { on := 14, ground := Ground.phase }, { on := 15, ground := Ground.phase }, { on := 16, ground := Ground.phase }, { on := 17, ground := Ground.phase }, { on := 18, ground := Ground.phase }, { on := 19, ground := Ground.phase }, { on := 20, ground := Ground.phase }, { on := 21, ground := Ground.phase }, { on := 22, ground := Ground.phase }, { on := 23, ground := Ground.phase }, { on := 24, ground := Ground.phase }, { on := 25, ground := Ground.phase }, { on := 26, ground := Ground.phase }, { on := 27, ground := Ground.phase }, { on := 28, ground := Ground.phase }], guard := none }) rfl (by kernel_rfl) (fun K hK => ?_) AllReadyL.nil
      go_simp
      refine hK.out _ _ ?_
      refine wpAnyL_done (by kernel_rfl) ?_ _
      try simp only [Act.put, List.setIfInBounds_toArray, List.set_cons_zero, List.set_cons_succ]
      exact NoPanic.normal (HQ.out _ _ _ _ _ _ _ _ _ _ _ _ _ _ _ _ _ _ _ _ _ _ _ _ _ _ _ _ _ _ _ _ _ (by have q := h9.less (ex' := []) (by simp); simpa only [Nat.zero_add, Nat.add_zero] using q))
  · go_simp
    have h10 := h0.alloc (.cells #[.int .i64 (n : Int)] 3 (0, 0))
    have hn10 : w.heap.size ≤ W0.heap.size := h0.below.size
    refine hK.out _ _ (HSB.out _ h10.below) (fun hHeld => ?_)
    clear hK K
    try simp only [Act.put, List.setIfInBounds_toArray, List.set_cons_zero, List.set_cons_succ]
    clear hHeld
    have hHeld := HSB.out _ h10.below
    clear h0
    change wpAnyL _ _ _ _ _ _ _ _ _ (W0.alloc (.cells #[.int .i64 (n : Int)] 3))
    generalize (W0.alloc (.cells #[.int .i64 (n : Int)] 3)) = W10 at *
    generalize W0.heap.size = A10 at *
    refine wpAnyL_ready (rs := [5]) (by kernel_rfl) (by simp) ?_
    refine (AllReadyL.cons (o := { dst := some 51, op := Op.buildSlice 32 0 #[], type := 32, pos := "ref.go:74", after := #[], guard := none }) rfl (fun K hK => ?_) AllReadyL.nil)
    go_simp
    have h11 := h10.alloc (.cells #[] 3 (0, 0))
    have hn11 : w.heap.size ≤ W10.heap.size := h10.below.size
    have hne : A10 ≠ W10.heap.size := fun e => by have := heap_lt (h10.ex (A10, _) (List.mem_cons_self ..)).1; omega
    refine hK.out _ _ (HSB.out _ h11.below) (fun hHeld => ?_)
    clear hK K
    try simp only [Act.put, List.setIfInBounds_toArray, List.set_cons_zero, List.set_cons_succ]
    clear hHeld
    have hHeld := HSB.out _ h11.below
    clear h10
    change wpAnyL _ _ _ _ _ _ _ _ _ (W10.alloc (.cells #[] 3))
    generalize (W10.alloc (.cells #[] 3)) = W11 at *
    generalize W10.heap.size = A11 at *
    refine wpAnyL_ready (rs := [15]) (by kernel_rfl) (by simp) ?_
    refine (AllReadyL.cons (o := { dst := some 61, op := Op.call { callee := Callee.builtin Builtin.append, args := #[Operand.tmp 51, Operand.tmp 60], argTypes := #[ 32, 32 ] }, type := 32, pos := "ref.go:74", after := #[{ on := 5, ground := Ground.data }, { on := 14, ground := Ground.data }], guard := none }) rfl (fun K hK => ?_) AllReadyL.nil)
    have hb12 := h11.begin_ (E := A11) (ex' := [(A10, (.cells #[.int .i64 (n : Int)] 3 (0, 0)))]) (h11.ex (A11, (.cells #[] 3 (0, 0))) (by simp)).1 hn11 (fun p hp => by rw [List.mem_singleton.1 hp]; exact ⟨by simp, hne⟩)
    refine step_append_int rfl (.tmp 51) (.tmp 60) rfl w.heap.size _ _ _ (by rfl) hb12.row none _ _ es (by rfl) hpe hel (HE.out _ hb12.below) HS1.out hb12.below.size ?_
    intro v12 W12 hr12 hg12 ho12
    have h12 := hb12.grow hr12 hg12 ho12
    clear hr12 hg12 ho12
    refine hK.out _ _ (HSB.out _ h12.below) (fun hHeld => ?_)
    clear hK K
    try simp only [Act.put, List.setIfInBounds_toArray, List.set_cons_zero, List.set_cons_succ]
    refine wpAnyL_ready (rs := [18]) (by kernel_rfl) (by simp) ?_
    refine (AllReadyL.cons (o := { dst := some 64, op := Op.call { callee := Callee.builtin Builtin.append, args := #[Operand.tmp 61, Operand.tmp 63], argTypes := #[ 32, 32 ] }, type := 32, pos := "ref.go:74", after := #[{ on := 15, ground := Ground.data }, { on := 17, ground := Ground.data }, { on := 15, ground := Ground.chain }], guard := none }) rfl (fun K hK => ?_) AllReadyL.nil)
    refine step_append_int rfl (.tmp 61) (.tmp 63) rfl w.heap.size _ _ _ (by rfl) h12.row (some ⟨A10, 0, none⟩) 1 1 [n] (by rfl) (fun e => by cases e) rfl (one_news (h12.ex (A10, (.cells #[.int .i64 (n : Int)] 3 (0, 0))) (by simp)).1) HS2.out h12.below.size ?_
    intro v13 W13 hr13 hg13 ho13
    have h13 := h12.grow hr13 hg13 ho13
    clear hr13 hg13 ho13
    refine hK.out _ _ (HSB.out _ h13.below) (fun hHeld => ?_)
    clear hK K
    try simp only [Act.put, List.setIfInBounds_toArray, List.set_cons_zero, List.set_cons_succ]
    refine wpAnyL_ready (rs := [28]) (by kernel_rfl) (by simp) ?_
    refine (AllReadyL.cons (o := { dst := some 74, op := Op.call { callee := Callee.builtin Builtin.append, args := #[Operand.tmp 64, Operand.tmp 73], argTypes := #[ 32, 32 ] }, type := 32, pos := "ref.go:74", after := #[{ on := 18, ground := Ground.data }, { on := 27, ground := Ground.data }, { on := 18, ground := Ground.chain }], guard := none }) rfl (fun K hK => ?_) AllReadyL.nil)
    refine step_append_int rfl (.tmp 64) (.tmp 73) rfl w.heap.size _ _ _ (by rfl) h13.row none _ _ fs (by rfl) hpf hfl (HF.out _ h13.below) HS3.out h13.below.size ?_
    intro v14 W14 hr14 hg14 ho14
    have h14 := h13.grow hr14 hg14 ho14
    obtain ⟨p14, c14, rfl⟩ := h14.form
    clear hr14 hg14 ho14
    refine hK.out _ _ (HSB.out _ h14.below) (fun hHeld => ?_)
    clear hK K
    try simp only [Act.put, List.setIfInBounds_toArray, List.set_cons_zero, List.set_cons_succ]
    refine wpAnyL_ready (rs := [29]) (by kernel_rfl) (by simp) ?_
    refine AllReadyL.last (o := { dst := some 75, op := Op.indexAddr 33 (Operand.tmp 49) (Operand.tmp 50), type := 0, pos := "ref.go:74", after := #[{ on := 3, ground := Ground.data }, { on := 4, ground := Ground.data }, { on := 0, ground := Ground.phase }, { on := 1, ground := Ground.phase }, { on := 2, ground := Ground.phase }, { on := 3, ground := Ground.phase }, { on := 4, ground := Ground.phase }, { on := 5, ground := Ground.phase }, { on := 6, ground := Ground.phase }, { on := 7, ground := Ground.phase }, { on := 8, ground := Ground.phase }, { on := 9, ground := Ground.phase }, { on := 10, ground := Ground.phase }, { on := 11, ground := Ground.phase }, { on := 12, ground := Ground.phase }, { on := 13, ground := Ground.phase }, { on := 14, ground := Ground.phase }, { on := 15, ground := Ground.phase }, { on := 16, ground := Ground.phase }, { on := 17, ground := Ground.phase }, { on := 18, ground := Ground.phase }, { on := 19, ground := Ground.phase }, { on := 20, ground := Ground.phase }, { on := 21, ground := Ground.phase }, { on := 22, ground := Ground.phase }, { on := 23, ground := Ground.phase }, { on := 24, ground := Ground.phase }, { on := 25, ground := Ground.phase }, { on := 26, ground := Ground.phase }, { on := 27, ground := Ground.phase }, { on := 28, ground := Ground.phase }], guard := none }) rfl (by kernel_rfl) (fun K hK => ?_) AllReadyL.nil
    go_simp
    refine hK.out _ _ ?_
    clear hK K
    try simp only [Act.put, List.setIfInBounds_toArray, List.set_cons_zero, List.set_cons_succ]
    have cB := (HSB.out _ h14.below).2
    have fB := HFR.out _ h14.below
    refine wpAnyL_ready (rs := [30]) (by kernel_rfl) (by simp) ?_
    refine AllReadyL.last (o := { dst := none, op := Op.store 32 (Operand.tmp 75) (Operand.tmp 74), type := 0, pos := "ref.go:74", after := #[{ on := 29, ground := Ground.data }, { on := 28, ground := Ground.data }, { on := 28, ground := Ground.chain }, { on := 0, ground := Ground.phase }, { on := 1, ground := Ground.phase }, { on := 2, ground := Ground.phase }, { on := 3, ground := Ground.phase }, { on := 4, ground := Ground.phase }, { on := 5, ground := Ground.phase }, { on := 6, ground := Ground.phase }, { on := 7, ground := Ground.phase }, { on := 8, ground := Ground.phase }, { on := 9, ground := Ground.phase }, { on := 10, ground := Ground.phase }, { on := 11, ground := Ground.phase }, { on := 12, ground := Ground.phase }, { on := 13, ground := Ground.phase }, { on := 14, ground := Ground.phase }, { on := 15, ground := Ground.phase }, { on := 16, ground := Ground.phase }, { on := 17, ground := Ground.phase }, { on := 18, ground := Ground.phase }, { on := 19, ground := Ground.phase }, { on := 20, ground := Ground.phase }, { on := 21, ground := Ground.phase }, { on := 22, ground := Ground.phase }, { on := 23, ground := Ground.phase }, { on := 24, ground := Ground.phase }, { on := 25, ground := Ground.phase }, { on := 26, ground := Ground.phase }, { on := 27, ground := Ground.phase }, { on := 28, ground := Ground.phase }], guard := none }) rfl (by kernel_rfl) (fun K hK => ?_) AllReadyL.nil
    go_simp
    refine hK.out _ _ ?_
    refine wpAnyL_done (by kernel_rfl) ?_ _
    try simp only [Act.put, List.setIfInBounds_toArray, List.set_cons_zero, List.set_cons_succ]
    exact NoPanic.normal (HQ.out _ _ _ _ _ _ _ _ _ _ _ _ _ _ _ _ _ _ _ _ _ _ _ _ _ _ _ _ _ _ _ _ _ (by have q := h14.less (ex' := []) (by simp); simpa only [Nat.zero_add, Nat.add_zero] using q))
end Go.Proofs.Ytkoijkdhmfnlbaa
