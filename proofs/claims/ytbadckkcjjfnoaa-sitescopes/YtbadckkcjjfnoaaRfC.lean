/-
  The drawn region of the reference's Put for nodes by numbers, over an opaque post: a row without room, at its end.
  The drawn region of the reference's Put for nodes by numbers, over an opaque post: no row yet.
  The reference's Put for nodes by numbers. Any nodes, not too many.
  The walk of the reference's Put for nodes by numbers. Any nodes, not too many.
-/
import Derived.Test.YtbadckkcjjfnoaaDRefA
import Derived.Test.YtbadckkcjjfnoaaRfB
namespace Go.Proofs.Ytbadckkcjjfnoaa
open Go.RowKit

def rput6_regB_ops : Array Oper := #[{ dst := some 46, op := Op.move (Operand.tmp 0), type := 26, pos := "ref.go:74", after := #[], guard := none }, { dst := some 47, op := Op.nilCheck (Operand.tmp 46), type := 0, pos := "ref.go:74", after := #[{ on := 0, ground := Ground.data }], guard := none }, { dst := some 48, op := Op.fieldAddr 35 (Operand.tmp 47) 2, type := 0, pos := "ref.go:74", after := #[{ on := 1, ground := Ground.data }], guard := none }, { dst := some 49, op := Op.load 33 (Operand.tmp 48), type := 33, pos := "ref.go:74", after := #[{ on := 2, ground := Ground.data }], guard := none }, { dst := some 50, op := Op.move (Operand.tmp 2), type := 3, pos := "ref.go:74", after := #[], guard := none }, { dst := some 51, op := Op.buildSlice 32 0 #[], type := 32, pos := "ref.go:74", after := #[], guard := none }, { dst := some 52, op := Op.move (Operand.tmp 0), type := 26, pos := "ref.go:74", after := #[], guard := none }, { dst := some 53, op := Op.nilCheck (Operand.tmp 52), type := 0, pos := "ref.go:74", after := #[{ on := 6, ground := Ground.data }], guard := none }, { dst := some 54, op := Op.fieldAddr 35 (Operand.tmp 53) 2, type := 0, pos := "ref.go:74", after := #[{ on := 7, ground := Ground.data }], guard := none }, { dst := some 55, op := Op.load 33 (Operand.tmp 54), type := 33, pos := "ref.go:74", after := #[{ on := 8, ground := Ground.data }], guard := none }, { dst := some 56, op := Op.move (Operand.tmp 2), type := 3, pos := "ref.go:74", after := #[], guard := none }, { dst := some 57, op := Op.indexAddr 33 (Operand.tmp 55) (Operand.tmp 56), type := 0, pos := "ref.go:74", after := #[{ on := 9, ground := Ground.data }, { on := 10, ground := Ground.data }], guard := none }, { dst := some 58, op := Op.load 32 (Operand.tmp 57), type := 32, pos := "ref.go:74", after := #[{ on := 11, ground := Ground.data }], guard := none }, { dst := some 59, op := Op.move (Operand.tmp 9), type := 3, pos := "ref.go:74", after := #[], guard := none }, { dst := some 60, op := Op.slice 32 (Operand.tmp 58) none (some (Operand.tmp 59)) none, type := 32, pos := "ref.go:74", after := #[{ on := 12, ground := Ground.data }, { on := 13, ground := Ground.data }], guard := none }, { dst := some 61, op := Op.call { callee := Callee.builtin Builtin.append, args := #[Operand.tmp 51, Operand.tmp 60], argTypes := #[ 32, 32 ] }, type := 32, pos := "ref.go:74", after := #[{ on := 5, ground := Ground.data }, { on := 14, ground := Ground.data }], guard := none }, { dst := some 62, op := Op.move (Operand.tmp 1), type := 3, pos := "ref.go:74", after := #[], guard := none }, { dst := some 63, op := Op.buildSlice 32 1 #[(0, Operand.tmp 62)], type := 32, pos := "ref.go:74", after := #[{ on := 16, ground := Ground.data }], guard := none }, { dst := some 64, op := Op.call { callee := Callee.builtin Builtin.append, args := #[Operand.tmp 61, Operand.tmp 63], argTypes := #[ 32, 32 ] }, type := 32, pos := "ref.go:74", after := #[{ on := 15, ground := Ground.data }, { on := 17, ground := Ground.data }, { on := 15, ground := Ground.chain }], guard := none }, { dst := some 65, op := Op.move (Operand.tmp 0), type := 26, pos := "ref.go:74", after := #[], guard := none }, { dst := some 66, op := Op.nilCheck (Operand.tmp 65), type := 0, pos := "ref.go:74", after := #[{ on := 19, ground := Ground.data }], guard := none }, { dst := some 67, op := Op.fieldAddr 35 (Operand.tmp 66) 2, type := 0, pos := "ref.go:74", after := #[{ on := 20, ground := Ground.data }], guard := none }, { dst := some 68, op := Op.load 33 (Operand.tmp 67), type := 33, pos := "ref.go:74", after := #[{ on := 21, ground := Ground.data }], guard := none }, { dst := some 69, op := Op.move (Operand.tmp 2), type := 3, pos := "ref.go:74", after := #[], guard := none }, { dst := some 70, op := Op.indexAddr 33 (Operand.tmp 68) (Operand.tmp 69), type := 0, pos := "ref.go:74", after := #[{ on := 22, ground := Ground.data }, { on := 23, ground := Ground.data }], guard := none }, { dst := some 71, op := Op.load 32 (Operand.tmp 70), type := 32, pos := "ref.go:74", after := #[{ on := 24, ground := Ground.data }], guard := none }, { dst := some 72, op := Op.move (Operand.tmp 9), type := 3, pos := "ref.go:74", after := #[], guard := none }, { dst := some 73, op := Op.slice 32 (Operand.tmp 71) (some (Operand.tmp 72)) none none, type := 32, pos := "ref.go:74", after := #[{ on := 25, ground := Ground.data }, { on := 26, ground := Ground.data }], guard := none }, { dst := some 74, op := Op.call { callee := Callee.builtin Builtin.append, args := #[Operand.tmp 64, Operand.tmp 73], argTypes := #[ 32, 32 ] }, type := 32, pos := "ref.go:74", after := #[{ on := 18, ground := Ground.data }, { on := 27, ground := Ground.data }, { on := 18, ground := Ground.chain }], guard := none }, { dst := some 75, op := Op.indexAddr 33 (Operand.tmp 49) (Operand.tmp 50), type := 0, pos := "ref.go:74", after := #[{ on := 3, ground := Ground.data }, { on := 4, ground := Ground.data }, { on := 0, ground := Ground.phase }, { on := 1, ground := Ground.phase }, { on := 2, ground := Ground.phase }, { on := 3, ground := Ground.phase }, { on := 4, ground := Ground.phase }, { on := 5, ground := Ground.phase }, { on := 6, ground := Ground.phase }, { on := 7, ground := Ground.phase }, { on := 8, ground := Ground.phase }, { on := 9, ground := Ground.phase }, { on := 10, ground := Ground.phase }, { on := 11, ground := Ground.phase }, { on := 12, ground := Ground.phase }, { on := 13, ground := Ground.phase }, { on := 14, ground := Ground.phase }, { on := 15, ground := Ground.phase }, { on := 16, ground := Ground.phase }, { on := 17, ground := Ground.phase }, { on := 18, ground := Ground.phase }, { on := 19, ground := Ground.phase }, { on := 20, ground := Ground.phase }, { on := 21, ground := Ground.phase }, { on := 22, ground := Ground.phase }, { on := 23, ground := Ground.phase }, { on := 24, ground := Ground.phase }, { on := 25, ground := Ground.phase }, { on := 26, ground := Ground.phase }, { on := 27, ground := Ground.phase }, { on := 28, ground := Ground.phase }], guard := none }, { dst := none, op := Op.store 32 (Operand.tmp 75) (Operand.tmp 74), type := 0, pos := "ref.go:74", after := #[{ on := 29, ground := Ground.data }, { on := 28, ground := Ground.data }, { on := 28, ground := Ground.chain }, { on := 0, ground := Ground.phase }, { on := 1, ground := Ground.phase }, { on := 2, ground := Ground.phase }, { on := 3, ground := Ground.phase }, { on := 4, ground := Ground.phase }, { on := 5, ground := Ground.phase }, { on := 6, ground := Ground.phase }, { on := 7, ground := Ground.phase }, { on := 8, ground := Ground.phase }, { on := 9, ground := Ground.phase }, { on := 10, ground := Ground.phase }, { on := 11, ground := Ground.phase }, { on := 12, ground := Ground.phase }, { on := 13, ground := Ground.phase }, { on := 14, ground := Ground.phase }, { on := 15, ground := Ground.phase }, { on := 16, ground := Ground.phase }, { on := 17, ground := Ground.phase }, { on := 18, ground := Ground.phase }, { on := 19, ground := Ground.phase }, { on := 20, ground := Ground.phase }, { on := 21, ground := Ground.phase }, { on := 22, ground := Ground.phase }, { on := 23, ground := Ground.phase }, { on := 24, ground := Ground.phase }, { on := 25, ground := Ground.phase }, { on := 26, ground := Ground.phase }, { on := 27, ground := Ground.phase }, { on := 28, ground := Ground.phase }], guard := none }]
set_option maxHeartbeats 8000000 in
set_option maxRecDepth 100000 in
theorem rput6_regB {w : World} {n : Nat} {es fs : List Nat} {B gR m cR u k g o : Nat} {Q : Exit → Act → World → Prop} {u3 u4 u5 u6 u7 u8 u10 u11 u12 u13 u14 u15 u16 u17 u18 u19 u20 u21 u22 u23 u24 u25 u26 u27 u28 u29 u30 u31 u32 u33 u34 u35 u36 u37 u38 u39 u40 u41 u42 u43 u44 u45 u46 u47 u48 u49 u50 u51 u52 u53 u54 u55 u56 u57 u58 u59 u60 u61 u62 u63 u64 u65 u66 u67 u68 u69 u70 u71 u72 u73 u74 u75 u76 u77 u78 u79 u80 u81 u82 : Value} (hB : B < w.heap.size) (hG : gR < w.heap.size) (h2 : w.cell? ⟨B, 2, none⟩ = some (.slice (some ⟨gR, 0, none⟩) m cR)) (hr : w.cell? ⟨gR, u, none⟩ = some (.slice (some ⟨g, o, none⟩) k k)) (hf : w.frozen? ⟨gR, u, none⟩ = false) (hu : u < m) (hls : k ≤ 100000)
    (hel : es.length = k) (hfl : fs.length = 0)
    (hE : ∀ W, Below w.heap.size w W → ∀ ad, ((some ⟨g, o, none⟩) : Option Addr) = some ad → ∀ j (hj : j < es.length), W.cell? (ad.add j) = some (.int .i64 (es[j] : Int)))
    (hF : ∀ W, Below w.heap.size w W → ∀ ad, ((some ⟨g, o, none⟩) : Option Addr) = some ad → ∀ j (hj : j < fs.length), W.cell? (ad.add j) = some (.int .i64 (fs[j] : Int)))
    (hQ : ∀ (y46 y47 y48 y49 y50 y51 y52 y53 y54 y55 y56 y57 y58 y59 y60 y61 y62 y63 y64 y65 y66 y67 y68 y69 y70 y71 y72 y73 y74 y75 : Value) (p' : Option Addr) (c' : Nat) (w' : World), RowX w w' (.slice p' (k + 1) c') (k + 1) ([] ++ intsV es ++ intsV [n] ++ intsV fs) [] → Q .normal { tmps := #[.pointer (some ⟨B, 0, none⟩), .int .i64 (n : Int), .int .i64 (u : Int), u3, u4, u5, u6, u7, u8, .int .i64 (k : Int), u10, u11, u12, u13, u14, u15, u16, u17, u18, u19, u20, u21, u22, u23, u24, u25, u26, u27, u28, u29, u30, u31, u32, u33, u34, u35, u36, u37, u38, u39, u40, u41, u42, u43, u44, u45, y46, y47, y48, y49, y50, y51, y52, y53, y54, y55, y56, y57, y58, y59, y60, y61, y62, y63, y64, y65, y66, y67, y68, y69, y70, y71, y72, y73, y74, y75, u76, u77, u78, u79, u80, u81, u82], defers := [] } (w'.setCell ⟨gR, u, none⟩ (.slice p' (k + 1) c'))) :
    (Code.region 6 rput6_regB_ops true).wp Try.prog Q { tmps := #[.pointer (some ⟨B, 0, none⟩), .int .i64 (n : Int), .int .i64 (u : Int), u3, u4, u5, u6, u7, u8, .int .i64 (k : Int), u10, u11, u12, u13, u14, u15, u16, u17, u18, u19, u20, u21, u22, u23, u24, u25, u26, u27, u28, u29, u30, u31, u32, u33, u34, u35, u36, u37, u38, u39, u40, u41, u42, u43, u44, u45, u46, u47, u48, u49, u50, u51, u52, u53, u54, u55, u56, u57, u58, u59, u60, u61, u62, u63, u64, u65, u66, u67, u68, u69, u70, u71, u72, u73, u74, u75, u76, u77, u78, u79, u80, u81, u82], defers := [] } w := by
  refine wp_region_noPanic ?_
  unfold rput6_regB_ops
  have HQ := Lib.hid hQ
  have HE := Lib.hid hE
  have HF := Lib.hid hF
  have HRE := Lib.hid (lateOk_spec (md := .any) (ops := rput6_regB_ops) (late := [29, 30]) (is := [0, 1, 2, 3, 4, 6, 7, 8, 9, 10, 11, 12, 13, 14, 16, 19, 20, 21, 22, 23, 24, 25, 26, 27]) (f := 8) (by kernel_rfl))
  have HS1 : Hid (0 + k ≤ 4294967296) := Lib.hid (by omega)
  have HS2 : Hid (0 + k + 1 ≤ 4294967296) := Lib.hid (by omega)
  have HS3 : Hid (0 + k + 1 + 0 ≤ 4294967296) := Lib.hid (by omega)
  have hpe : (some ⟨g, o, none⟩ : Option Addr) = none → k = 0 ∧ k = 0 := fun e => by cases e
  have hpf : (some ⟨g, o, none⟩ : Option Addr) = none → (0 : Nat) = 0 ∧ (0 : Nat) = 0 := fun e => by cases e
  have j0 : (0 : Int) ≤ (k : Int) := by omega
  have HSB : Hid (∀ W, Below w.heap.size w W → W.cell? ⟨B, 2, none⟩ = some (.slice (some ⟨gR, 0, none⟩) m cR) ∧ W.cell? ⟨gR, u, none⟩ = some (.slice (some ⟨g, o, none⟩) k k)) := Lib.hid fun W hb => ⟨(hb.cell (p := ⟨B, 2, none⟩) hB).trans h2, (hb.cell (p := ⟨gR, u, none⟩) hG).trans hr⟩
  have HFR : Hid (∀ W, Below w.heap.size w W → W.frozen? ⟨gR, u, none⟩ = false) := Lib.hid fun W hb => by rw [World.frozen?_of_block (w := w) (hb.block gR hG)]; exact hf
  have hu0 : (0 : Int) ≤ (u : Int) := by omega
  have hu1 : (u : Int) < (m : Int) := by omega
  clear h2 hr hf
  have h0 : RowX w w.drew (.slice none 0 0) 0 [] [] := .new (Below.refl _ w).drew
  clear hQ hE hF
  refine wp_region_heldL_drew (late := [29, 30]) (S := fun W => W.cell? ⟨B, 2, none⟩ = some (.slice (some ⟨gR, 0, none⟩) m cR) ∧ W.cell? ⟨gR, u, none⟩ = some (.slice (some ⟨g, o, none⟩) k k)) (by kernel_rfl) (HSB.out _ h0.below) (fun hHeld => ?_)
  generalize w.drew = W0 at *
  refine wpAnyL_take (i := 0) (oi := { dst := some 46, op := Op.move (Operand.tmp 0), type := 26, pos := "ref.go:74", after := #[], guard := none }) (v := ?_) rfl (by kernel_rfl) (by kernel_rfl) (by kernel_rfl) (by kernel_rfl) (HRE.out 0 (by decide)) (fun _ _ _ h => h) (Or.inl ⟨by rfl, ?_⟩) (by assumption) ?_
  rotate_left
  focus (intro w hSw; (try dsimp only at hSw); go_simp; (try with_reducible rfl))
  try simp only [Act.put, List.setIfInBounds_toArray, List.set_cons_zero, List.set_cons_succ]
  refine wpAnyL_take (i := 1) (oi := { dst := some 47, op := Op.nilCheck (Operand.tmp 46), type := 0, pos := "ref.go:74", after := #[{ on := 0, ground := Ground.data }], guard := none }) (v := ?_) rfl (by kernel_rfl) (by kernel_rfl) (by kernel_rfl) (by kernel_rfl) (HRE.out 1 (by decide)) (fun _ _ _ h => h) (Or.inl ⟨by rfl, ?_⟩) (by assumption) ?_
  rotate_left
  focus (intro w hSw; (try dsimp only at hSw); go_simp; (try with_reducible rfl))
  try simp only [Act.put, List.setIfInBounds_toArray, List.set_cons_zero, List.set_cons_succ]
  refine wpAnyL_take (i := 2) (oi := { dst := some 48, op := Op.fieldAddr 35 (Operand.tmp 47) 2, type := 0, pos := "ref.go:74", after := #[{ on := 1, ground := Ground.data }], guard := none }) (v := ?_) rfl (by kernel_rfl) (by kernel_rfl) (by kernel_rfl) (by kernel_rfl) (HRE.out 2 (by decide)) (fun _ _ _ h => h) (Or.inl ⟨by rfl, ?_⟩) (by assumption) ?_
  rotate_left
  focus (intro w hSw; (try dsimp only at hSw); go_simp; (try with_reducible rfl))
  try simp only [Act.put, List.setIfInBounds_toArray, List.set_cons_zero, List.set_cons_succ]
  refine wpAnyL_take (i := 3) (oi := { dst := some 49, op := Op.load 33 (Operand.tmp 48), type := 33, pos := "ref.go:74", after := #[{ on := 2, ground := Ground.data }], guard := none }) (v := ?_) rfl (by kernel_rfl) (by kernel_rfl) (by kernel_rfl) (by kernel_rfl) (HRE.out 3 (by decide)) (fun _ _ _ h => h) (Or.inl ⟨by rfl, ?_⟩) (by assumption) ?_
  rotate_left
  focus (intro w hSw; (try dsimp only at hSw); go_simp; (try with_reducible rfl))
  try simp only [Act.put, List.setIfInBounds_toArray, List.set_cons_zero, List.set_cons_succ]
  refine wpAnyL_take (i := 4) (oi := { dst := some 50, op := Op.move (Operand.tmp 2), type := 3, pos := "ref.go:74", after := #[], guard := none }) (v := ?_) rfl (by kernel_rfl) (by kernel_rfl) (by kernel_rfl) (by kernel_rfl) (HRE.out 4 (by decide)) (fun _ _ _ h => h) (Or.inl ⟨by rfl, ?_⟩) (by assumption) ?_
  rotate_left
  focus (intro w hSw; (try dsimp only at hSw); go_simp; (try with_reducible rfl))
  try simp only [Act.put, List.setIfInBounds_toArray, List.set_cons_zero, List.set_cons_succ]
  refine wpAnyL_take (i := 6) (oi := { dst := some 52, op := Op.move (Operand.tmp 0), type := 26, pos := "ref.go:74", after := #[], guard := none }) (v := ?_) rfl (by kernel_rfl) (by kernel_rfl) (by kernel_rfl) (by kernel_rfl) (HRE.out 6 (by decide)) (fun _ _ _ h => h) (Or.inl ⟨by rfl, ?_⟩) (by assumption) ?_
  rotate_left
  focus (intro w hSw; (try dsimp only at hSw); go_simp; (try with_reducible rfl))
  try simp only [Act.put, List.setIfInBounds_toArray, List.set_cons_zero, List.set_cons_succ]
  refine wpAnyL_take (i := 7) (oi := { dst := some 53, op := Op.nilCheck (Operand.tmp 52), type := 0, pos := "ref.go:74", after := #[{ on := 6, ground := Ground.data }], guard := none }) (v := ?_) rfl (by kernel_rfl) (by kernel_rfl) (by kernel_rfl) (by kernel_rfl) (HRE.out 7 (by decide)) (fun _ _ _ h => h) (Or.inl ⟨by rfl, ?_⟩) (by assumption) ?_
  rotate_left
  focus (intro w hSw; (try dsimp only at hSw); go_simp; (try with_reducible rfl))
  try simp only [Act.put, List.setIfInBounds_toArray, List.set_cons_zero, List.set_cons_succ]
  refine wpAnyL_take (i := 8) (oi := { dst := some 54, op := Op.fieldAddr 35 (Operand.tmp 53) 2, type := 0, pos := "ref.go:74", after := #[{ on := 7, ground := Ground.data }], guard := none }) (v := ?_) rfl (by kernel_rfl) (by kernel_rfl) (by kernel_rfl) (by kernel_rfl) (HRE.out 8 (by decide)) (fun _ _ _ h => h) (Or.inl ⟨by rfl, ?_⟩) (by assumption) ?_
  rotate_left
  focus (intro w hSw; (try dsimp only at hSw); go_simp; (try with_reducible rfl))
  try simp only [Act.put, List.setIfInBounds_toArray, List.set_cons_zero, List.set_cons_succ]
  refine wpAnyL_take (i := 9) (oi := { dst := some 55, op := Op.load 33 (Operand.tmp 54), type := 33, pos := "ref.go:74", after := #[{ on := 8, ground := Ground.data }], guard := none }) (v := ?_) rfl (by kernel_rfl) (by kernel_rfl) (by kernel_rfl) (by kernel_rfl) (HRE.out 9 (by decide)) (fun _ _ _ h => h) (Or.inl ⟨by rfl, ?_⟩) (by assumption) ?_
  rotate_left
  focus (intro w hSw; (try dsimp only at hSw); go_simp; (try with_reducible rfl))
  try simp only [Act.put, List.setIfInBounds_toArray, List.set_cons_zero, List.set_cons_succ]
  refine wpAnyL_take (i := 10) (oi := { dst := some 56, op := Op.move (Operand.tmp 2), type := 3, pos := "ref.go:74", after := #[], guard := none }) (v := ?_) rfl (by kernel_rfl) (by kernel_rfl) (by kernel_rfl) (by kernel_rfl) (HRE.out 10 (by decide)) (fun _ _ _ h => h) (Or.inl ⟨by rfl, ?_⟩) (by assumption) ?_
  rotate_left
  focus (intro w hSw; (try dsimp only at hSw); go_simp; (try with_reducible rfl))
  try simp only [Act.put, List.setIfInBounds_toArray, List.set_cons_zero, List.set_cons_succ]
  refine wpAnyL_take (i := 11) (oi := { dst := some 57, op := Op.indexAddr 33 (Operand.tmp 55) (Operand.tmp 56), type := 0, pos := "ref.go:74", after := #[{ on := 9, ground := Ground.data }, { on := 10, ground := Ground.data }], guard := none }) (v := ?_) rfl (by kernel_rfl) (by kernel_rfl) (by kernel_rfl) (by kernel_rfl) (HRE.out 11 (by decide)) (fun _ _ _ h => h) (Or.inl ⟨by rfl, ?_⟩) (by assumption) ?_
  rotate_left
  focus (intro w hSw; (try dsimp only at hSw); go_simp; (try with_reducible rfl))
  try simp only [Act.put, List.setIfInBounds_toArray, List.set_cons_zero, List.set_cons_succ]
  refine wpAnyL_take (i := 12) (oi := { dst := some 58, op := Op.load 32 (Operand.tmp 57), type := 32, pos := "ref.go:74", after := #[{ on := 11, ground := Ground.data }], guard := none }) (v := ?_) rfl (by kernel_rfl) (by kernel_rfl) (by kernel_rfl) (by kernel_rfl) (HRE.out 12 (by decide)) (fun _ _ _ h => h) (Or.inl ⟨by rfl, ?_⟩) (by assumption) ?_
  rotate_left
  focus (intro w hSw; (try dsimp only at hSw); go_simp; (try with_reducible rfl))
  try simp only [Act.put, List.setIfInBounds_toArray, List.set_cons_zero, List.set_cons_succ]
  refine wpAnyL_take (i := 13) (oi := { dst := some 59, op := Op.move (Operand.tmp 9), type := 3, pos := "ref.go:74", after := #[], guard := none }) (v := ?_) rfl (by kernel_rfl) (by kernel_rfl) (by kernel_rfl) (by kernel_rfl) (HRE.out 13 (by decide)) (fun _ _ _ h => h) (Or.inl ⟨by rfl, ?_⟩) (by assumption) ?_
  rotate_left
  focus (intro w hSw; (try dsimp only at hSw); go_simp; (try with_reducible rfl))
  try simp only [Act.put, List.setIfInBounds_toArray, List.set_cons_zero, List.set_cons_succ]
  refine wpAnyL_take (i := 14) (oi := { dst := some 60, op := Op.slice 32 (Operand.tmp 58) none (some (Operand.tmp 59)) none, type := 32, pos := "ref.go:74", after := #[{ on := 12, ground := Ground.data }, { on := 13, ground := Ground.data }], guard := none }) (v := ?_) rfl (by kernel_rfl) (by kernel_rfl) (by kernel_rfl) (by kernel_rfl) (HRE.out 14 (by decide)) (fun _ _ _ h => h) (Or.inl ⟨by rfl, ?_⟩) (by assumption) ?_
  rotate_left
  focus (intro w hSw; (try dsimp only at hSw); go_simp; (try with_reducible rfl))
  try simp only [Act.put, List.setIfInBounds_toArray, List.set_cons_zero, List.set_cons_succ]
  refine wpAnyL_take (i := 16) (oi := { dst := some 62, op := Op.move (Operand.tmp 1), type := 3, pos := "ref.go:74", after := #[], guard := none }) (v := ?_) rfl (by kernel_rfl) (by kernel_rfl) (by kernel_rfl) (by kernel_rfl) (HRE.out 16 (by decide)) (fun _ _ _ h => h) (Or.inl ⟨by rfl, ?_⟩) (by assumption) ?_
  rotate_left
  focus (intro w hSw; (try dsimp only at hSw); go_simp; (try with_reducible rfl))
  try simp only [Act.put, List.setIfInBounds_toArray, List.set_cons_zero, List.set_cons_succ]
  refine wpAnyL_take (i := 19) (oi := { dst := some 65, op := Op.move (Operand.tmp 0), type := 26, pos := "ref.go:74", after := #[], guard := none }) (v := ?_) rfl (by kernel_rfl) (by kernel_rfl) (by kernel_rfl) (by kernel_rfl) (HRE.out 19 (by decide)) (fun _ _ _ h => h) (Or.inl ⟨by rfl, ?_⟩) (by assumption) ?_
  rotate_left
  focus (intro w hSw; (try dsimp only at hSw); go_simp; (try with_reducible rfl))
  try simp only [Act.put, List.setIfInBounds_toArray, List.set_cons_zero, List.set_cons_succ]
  refine wpAnyL_take (i := 20) (oi := { dst := some 66, op := Op.nilCheck (Operand.tmp 65), type := 0, pos := "ref.go:74", after := #[{ on := 19, ground := Ground.data }], guard := none }) (v := ?_) rfl (by kernel_rfl) (by kernel_rfl) (by kernel_rfl) (by kernel_rfl) (HRE.out 20 (by decide)) (fun _ _ _ h => h) (Or.inl ⟨by rfl, ?_⟩) (by assumption) ?_
  rotate_left
  focus (intro w hSw; (try dsimp only at hSw); go_simp; (try with_reducible rfl))
  try simp only [Act.put, List.setIfInBounds_toArray, List.set_cons_zero, List.set_cons_succ]
  refine wpAnyL_take (i := 21) (oi := { dst := some 67, op := Op.fieldAddr 35 (Operand.tmp 66) 2, type := 0, pos := "ref.go:74", after := #[{ on := 20, ground := Ground.data }], guard := none }) (v := ?_) rfl (by kernel_rfl) (by kernel_rfl) (by kernel_rfl) (by kernel_rfl) (HRE.out 21 (by decide)) (fun _ _ _ h => h) (Or.inl ⟨by rfl, ?_⟩) (by assumption) ?_
  rotate_left
  focus (intro w hSw; (try dsimp only at hSw); go_simp; (try with_reducible rfl))
  try simp only [Act.put, List.setIfInBounds_toArray, List.set_cons_zero, List.set_cons_succ]
  refine wpAnyL_take (i := 22) (oi := { dst := some 68, op := Op.load 33 (Operand.tmp 67), type := 33, pos := "ref.go:74", after := #[{ on := 21, ground := Ground.data }], guard := none }) (v := ?_) rfl (by kernel_rfl) (by kernel_rfl) (by kernel_rfl) (by kernel_rfl) (HRE.out 22 (by decide)) (fun _ _ _ h => h) (Or.inl ⟨by rfl, ?_⟩) (by assumption) ?_
  rotate_left
  focus (intro w hSw; (try dsimp only at hSw); go_simp; (try with_reducible rfl))
  try simp only [Act.put, List.setIfInBounds_toArray, List.set_cons_zero, List.set_cons_succ]
  refine wpAnyL_take (i := 23) (oi := { dst := some 69, op := Op.move (Operand.tmp 2), type := 3, pos := "ref.go:74", after := #[], guard := none }) (v := ?_) rfl (by kernel_rfl) (by kernel_rfl) (by kernel_rfl) (by kernel_rfl) (HRE.out 23 (by decide)) (fun _ _ _ h => h) (Or.inl ⟨by rfl, ?_⟩) (by assumption) ?_
  rotate_left
  focus (intro w hSw; (try dsimp only at hSw); go_simp; (try with_reducible rfl))
  try simp only [Act.put, List.setIfInBounds_toArray, List.set_cons_zero, List.set_cons_succ]
  refine wpAnyL_take (i := 24) (oi := { dst := some 70, op := Op.indexAddr 33 (Operand.tmp 68) (Operand.tmp 69), type := 0, pos := "ref.go:74", after := #[{ on := 22, ground := Ground.data }, { on := 23, ground := Ground.data }], guard := none }) (v := ?_) rfl (by kernel_rfl) (by kernel_rfl) (by kernel_rfl) (by kernel_rfl) (HRE.out 24 (by decide)) (fun _ _ _ h => h) (Or.inl ⟨by rfl, ?_⟩) (by assumption) ?_
  rotate_left
  focus (intro w hSw; (try dsimp only at hSw); go_simp; (try with_reducible rfl))
  try simp only [Act.put, List.setIfInBounds_toArray, List.set_cons_zero, List.set_cons_succ]
  refine wpAnyL_take (i := 25) (oi := { dst := some 71, op := Op.load 32 (Operand.tmp 70), type := 32, pos := "ref.go:74", after := #[{ on := 24, ground := Ground.data }], guard := none }) (v := ?_) rfl (by kernel_rfl) (by kernel_rfl) (by kernel_rfl) (by kernel_rfl) (HRE.out 25 (by decide)) (fun _ _ _ h => h) (Or.inl ⟨by rfl, ?_⟩) (by assumption) ?_
  rotate_left
  focus (intro w hSw; (try dsimp only at hSw); go_simp; (try with_reducible rfl))
  try simp only [Act.put, List.setIfInBounds_toArray, List.set_cons_zero, List.set_cons_succ]
  refine wpAnyL_take (i := 26) (oi := { dst := some 72, op := Op.move (Operand.tmp 9), type := 3, pos := "ref.go:74", after := #[], guard := none }) (v := ?_) rfl (by kernel_rfl) (by kernel_rfl) (by kernel_rfl) (by kernel_rfl) (HRE.out 26 (by decide)) (fun _ _ _ h => h) (Or.inl ⟨by rfl, ?_⟩) (by assumption) ?_
  rotate_left
  focus (intro w hSw; (try dsimp only at hSw); go_simp; (try with_reducible rfl))
  try simp only [Act.put, List.setIfInBounds_toArray, List.set_cons_zero, List.set_cons_succ]
  refine wpAnyL_take (i := 27) (oi := { dst := some 73, op := Op.slice 32 (Operand.tmp 71) (some (Operand.tmp 72)) none none, type := 32, pos := "ref.go:74", after := #[{ on := 25, ground := Ground.data }, { on := 26, ground := Ground.data }], guard := none }) (v := ?_) rfl (by kernel_rfl) (by kernel_rfl) (by kernel_rfl) (by kernel_rfl) (HRE.out 27 (by decide)) (fun _ _ _ h => h) (Or.inl ⟨by rfl, ?_⟩) (by assumption) ?_
  rotate_left
  focus (intro w hSw; (try dsimp only at hSw); go_simp; (try with_reducible rfl))
  try simp only [Act.put, List.setIfInBounds_toArray, List.set_cons_zero, List.set_cons_succ]
  refine wpAnyL_ready (rs := [5, 17]) (by kernel_rfl) (by simp) ?_
  refine (AllReadyL.cons (o := { dst := some 51, op := Op.buildSlice 32 0 #[], type := 32, pos := "ref.go:74", after := #[], guard := none }) rfl (fun K hK => ?_) (AllReadyL.cons (o := { dst := some 63, op := Op.buildSlice 32 1 #[(0, Operand.tmp 62)], type := 32, pos := "ref.go:74", after := #[{ on := 16, ground := Ground.data }], guard := none }) rfl (fun K hK => ?_) AllReadyL.nil))
  · go_simp
    have h1 := h0.alloc (.cells #[] 3 (0, 0))
    have hn1 : w.heap.size ≤ W0.heap.size := h0.below.size
    refine hK.out _ _ (HSB.out _ h1.below) (fun hHeld => ?_)
    clear hK K
    try simp only [Act.put, List.setIfInBounds_toArray, List.set_cons_zero, List.set_cons_succ]
    clear hHeld
    have hHeld := HSB.out _ h1.below
    clear h0
    change wpAnyL _ _ _ _ _ _ _ _ _ (W0.alloc (.cells #[] 3))
    generalize (W0.alloc (.cells #[] 3)) = W1 at *
    generalize W0.heap.size = A1 at *
    refine wpAnyL_ready (rs := [15, 17]) (by kernel_rfl) (by simp) ?_
    refine (AllReadyL.cons (o := { dst := some 61, op := Op.call { callee := Callee.builtin Builtin.append, args := #[Operand.tmp 51, Operand.tmp 60], argTypes := #[ 32, 32 ] }, type := 32, pos := "ref.go:74", after := #[{ on := 5, ground := Ground.data }, { on := 14, ground := Ground.data }], guard := none }) rfl (fun K hK => ?_) (AllReadyL.cons (o := { dst := some 63, op := Op.buildSlice 32 1 #[(0, Operand.tmp 62)], type := 32, pos := "ref.go:74", after := #[{ on := 16, ground := Ground.data }], guard := none }) rfl (fun K hK => ?_) AllReadyL.nil))
    · have hb2 := h1.begin_ (E := A1) (ex' := []) (h1.ex (A1, (.cells #[] 3 (0, 0))) (by simp)).1 hn1 (fun p hp => by cases hp)
      refine step_append_int rfl (.tmp 51) (.tmp 60) rfl w.heap.size _ _ _ (by rfl) hb2.row (some ⟨g, o, none⟩) _ _ es (by rfl) hpe hel (HE.out _ hb2.below) HS1.out hb2.below.size ?_
      intro v2 W2 hr2 hg2 ho2
      have h2 := hb2.grow hr2 hg2 ho2
      clear hr2 hg2 ho2
      refine hK.out _ _ (HSB.out _ h2.below) (fun hHeld => ?_)
      clear hK K
      try simp only [Act.put, List.setIfInBounds_toArray, List.set_cons_zero, List.set_cons_succ]
      refine wpAnyL_ready (rs := [17]) (by kernel_rfl) (by simp) ?_
      refine (AllReadyL.cons (o := { dst := some 63, op := Op.buildSlice 32 1 #[(0, Operand.tmp 62)], type := 32, pos := "ref.go:74", after := #[{ on := 16, ground := Ground.data }], guard := none }) rfl (fun K hK => ?_) AllReadyL.nil)
      go_simp
      have h3 := h2.alloc (.cells #[.int .i64 (n : Int)] 3 (0, 0))
      have hn3 : w.heap.size ≤ W2.heap.size := h2.below.size
      refine hK.out _ _ (HSB.out _ h3.below) (fun hHeld => ?_)
      clear hK K
      try simp only [Act.put, List.setIfInBounds_toArray, List.set_cons_zero, List.set_cons_succ]
      clear hHeld
      have hHeld := HSB.out _ h3.below
      clear h2
      change wpAnyL _ _ _ _ _ _ _ _ _ (W2.alloc (.cells #[.int .i64 (n : Int)] 3))
      generalize (W2.alloc (.cells #[.int .i64 (n : Int)] 3)) = W3 at *
      generalize W2.heap.size = A3 at *
      refine wpAnyL_ready (rs := [18]) (by kernel_rfl) (by simp) ?_
      refine (AllReadyL.cons (o := { dst := some 64, op := Op.call { callee := Callee.builtin Builtin.append, args := #[Operand.tmp 61, Operand.tmp 63], argTypes := #[ 32, 32 ] }, type := 32, pos := "ref.go:74", after := #[{ on := 15, ground := Ground.data }, { on := 17, ground := Ground.data }, { on := 15, ground := Ground.chain }], guard := none }) rfl (fun K hK => ?_) AllReadyL.nil)
      refine step_append_int rfl (.tmp 61) (.tmp 63) rfl w.heap.size _ _ _ (by rfl) h3.row (some ⟨A3, 0, none⟩) 1 1 [n] (by rfl) (fun e => by cases e) rfl (one_news (h3.ex (A3, (.cells #[.int .i64 (n : Int)] 3 (0, 0))) (by simp)).1) HS2.out h3.below.size ?_
      intro v4 W4 hr4 hg4 ho4
      have h4 := h3.grow hr4 hg4 ho4
      clear hr4 hg4 ho4
      refine hK.out _ _ (HSB.out _ h4.below) (fun hHeld => ?_)
      clear hK K
      try simp only [Act.put, List.setIfInBounds_toArray, List.set_cons_zero, List.set_cons_succ]
      refine wpAnyL_ready (rs := [28]) (by kernel_rfl) (by simp) ?_
      refine (AllReadyL.cons (o := { dst := some 74, op := Op.call { callee := Callee.builtin Builtin.append, args := #[Operand.tmp 64, Operand.tmp 73], argTypes := #[ 32, 32 ] }, type := 32, pos := "ref.go:74", after := #[{ on := 18, ground := Ground.data }, { on := 27, ground := Ground.data }, { on := 18, ground := Ground.chain }], guard := none }) rfl (fun K hK => ?_) AllReadyL.nil)
      refine step_append_int rfl (.tmp 64) (.tmp 73) rfl w.heap.size _ _ _ (by rfl) h4.row (some ⟨g, o, none⟩) _ _ fs (by rfl) hpf hfl (HF.out _ h4.below) HS3.out h4.below.size ?_
      intro v5 W5 hr5 hg5 ho5
      have h5 := h4.grow hr5 hg5 ho5
      obtain ⟨p5, c5, rfl⟩ := h5.form
      clear hr5 hg5 ho5
      refine hK.out _ _ (HSB.out _ h5.below) (fun hHeld => ?_)
      clear hK K
      try simp only [Act.put, List.setIfInBounds_toArray, List.set_cons_zero, List.set_cons_succ]
      refine wpAnyL_ready (rs := [29]) (by kernel_rfl) (by simp) ?_
      refine AllReadyL.last (o := { dst := some 75, op := Op.indexAddr 33 (Operand.tmp 49) (Operand.tmp 50), type := 0, pos := "ref.go:74", after := #[{ on := 3, ground := Ground.data }, { on := 4, ground := Ground.data }, { on := 0, ground := Ground.phase }, { on := 1, ground := Ground.phase }, { on := 2, ground := Ground.phase }, { on := 3, ground := Ground.phase }, { on := 4, ground := Ground.phase }, { on := 5, ground := Ground.phase }, { on := 6, ground := Ground.phase }, { on := 7, ground := Ground.phase }, { on := 8, ground := Ground.phase }, { on := 9, ground := Ground.phase }, { on := 10, ground := Ground.phase }, { on := 11, ground := Ground.phase }, { on := 12, ground := Ground.phase }, { on := 13, ground := Ground.phase }, { on := 14, ground := Ground.phase }, { on := 15, ground := Ground.phase }, { on := 16, ground := Ground.phase }, { on := 17, ground := Ground.phase }, { on := 18, ground := Ground.phase }, { on := 19, ground := Ground.phase }, { on := 20, ground := Ground.phase }, { on := 21, ground := Ground.phase }, { on := 22, ground := Ground.phase }, { on := 23, ground := Ground.phase }, { on := 24, ground := Ground.phase }, { on := 25, ground := Ground.phase }, { on := 26, ground := Ground.phase }, { on := 27, ground := Ground.phase }, { on := 28, ground := Ground.phase }], guard := none }) rfl (by kernel_rfl) (fun K hK => ?_) AllReadyL.nil
      go_simp
      refine hK.out _ _ ?_
      clear hK K
      try simp only [Act.put, List.setIfInBounds_toArray, List.set_cons_zero, List.set_cons_succ]
      have cB := (HSB.out _ h5.below).2
      have fB := HFR.out _ h5.below
      refine wpAnyL_ready (rs := [30]) (by kernel_rfl) (by simp) ?_
      refine AllReadyL.last (o := { dst := none, op := Op.store 32 (Operand.tmp 75) (Operand.tmp 74), type := 0, pos := "ref.go:74", after := #[{ on := 29, ground := Ground.data }, { on := 28, ground := Ground.data }, { on := 28, ground := Ground.chain }, { on := 0, ground := Ground.phase }, { on := 1, ground := Ground.phase }, { on := 2, ground := Ground.phase }, { on := 3, ground := Ground.phase }, { on := 4, ground := Ground.phase }, { on := 5, ground := Ground.phase }, { on := 6, ground := Ground.phase }, { on := 7, ground := Ground.phase }, { on := 8, ground := Ground.phase }, { on := 9, ground := Ground.phase }, { on := 10, ground := Ground.phase }, { on := 11, ground := Ground.phase }, { on := 12, ground := Ground.phase }, { on := 13, ground := Ground.phase }, { on := 14, ground := Ground.phase }, { on := 15, ground := Ground.phase }, { on := 16, ground := Ground.phase }, { on := 17, ground := Ground.phase }, { on := 18, ground := Ground.phase }, { on := 19, ground := Ground.phase }, { on := 20, ground := Ground.phase }, { on := 21, ground := Ground.phase }, { on := 22, ground := Ground.phase }, { on := 23, ground := Ground.phase }, { on := 24, ground := Ground.phase }, { on := 25, ground := Ground.phase }, { on := 26, ground := Ground.phase }, { on := 27, ground := Ground.phase }, { on := 28, ground := Ground.phase }], guard := none }) rfl (by kernel_rfl) (fun K hK => ?_) AllReadyL.nil
      go_simp
      refine hK.out _ _ ?_
      refine wpAnyL_done (by kernel_rfl) ?_ _
      try simp only [Act.put, List.setIfInBounds_toArray, List.set_cons_zero, List.set_cons_succ]
      exact NoPanic.normal (HQ.out _ _ _ _ _ _ _ _ _ _ _ _ _ _ _ _ _ _ _ _ _ _ _ _ _ _ _ _ _ _ _ _ _ (by have q := h5.less (ex' := []) (by simp); simpa only [Nat.zero_add, Nat.add_zero] using q))
    · go_simp
      have h6 := h1.alloc (.cells #[.int .i64 (n : Int)] 3 (0, 0))
      have hn6 : w.heap.size ≤ W1.heap.size := h1.below.size
      have hne : W1.heap.size ≠ A1 := fun e => by have := heap_lt (h1.ex (A1, _) (List.mem_cons_self ..)).1; omega
      refine hK.out _ _ (HSB.out _ h6.below) (fun hHeld => ?_)
      clear hK K
      try simp only [Act.put, List.setIfInBounds_toArray, List.set_cons_zero, List.set_cons_succ]
      clear hHeld
      have hHeld := HSB.out _ h6.below
      clear h1
      change wpAnyL _ _ _ _ _ _ _ _ _ (W1.alloc (.cells #[.int .i64 (n : Int)] 3))
      generalize (W1.alloc (.cells #[.int .i64 (n : Int)] 3)) = W6 at *
      generalize W1.heap.size = A6 at *
      refine wpAnyL_ready (rs := [15]) (by kernel_rfl) (by simp) ?_
      refine (AllReadyL.cons (o := { dst := some 61, op := Op.call { callee := Callee.builtin Builtin.append, args := #[Operand.tmp 51, Operand.tmp 60], argTypes := #[ 32, 32 ] }, type := 32, pos := "ref.go:74", after := #[{ on := 5, ground := Ground.data }, { on := 14, ground := Ground.data }], guard := none }) rfl (fun K hK => ?_) AllReadyL.nil)
      have hb7 := h6.begin_ (E := A1) (ex' := [(A6, (.cells #[.int .i64 (n : Int)] 3 (0, 0)))]) (h6.ex (A1, (.cells #[] 3 (0, 0))) (by simp)).1 hn1 (fun p hp => by rw [List.mem_singleton.1 hp]; exact ⟨by simp, hne⟩)
      refine step_append_int rfl (.tmp 51) (.tmp 60) rfl w.heap.size _ _ _ (by rfl) hb7.row (some ⟨g, o, none⟩) _ _ es (by rfl) hpe hel (HE.out _ hb7.below) HS1.out hb7.below.size ?_
      intro v7 W7 hr7 hg7 ho7
      have h7 := hb7.grow hr7 hg7 ho7
      clear hr7 hg7 ho7
      refine hK.out _ _ (HSB.out _ h7.below) (fun hHeld => ?_)
      clear hK K
      try simp only [Act.put, List.setIfInBounds_toArray, List.set_cons_zero, List.set_cons_succ]
      refine wpAnyL_ready (rs := [18]) (by kernel_rfl) (by simp) ?_
      refine (AllReadyL.cons (o := { dst := some 64, op := Op.call { callee := Callee.builtin Builtin.append, args := #[Operand.tmp 61, Operand.tmp 63], argTypes := #[ 32, 32 ] }, type := 32, pos := "ref.go:74", after := #[{ on := 15, ground := Ground.data }, { on := 17, ground := Ground.data }, { on := 15, ground := Ground.chain }], guard := none }) rfl (fun K hK => ?_) AllReadyL.nil)
      refine step_append_int rfl (.tmp 61) (.tmp 63) rfl w.heap.size _ _ _ (by rfl) h7.row (some ⟨A6, 0, none⟩) 1 1 [n] (by rfl) (fun e => by cases e) rfl (one_news (h7.ex (A6, (.cells #[.int .i64 (n : Int)] 3 (0, 0))) (by simp)).1) HS2.out h7.below.size ?_
      intro v8 W8 hr8 hg8 ho8
      have h8 := h7.grow hr8 hg8 ho8
      clear hr8 hg8 ho8
      refine hK.out _ _ (HSB.out _ h8.below) (fun hHeld => ?_)
      clear hK K
      try simp only [Act.put, List.setIfInBounds_toArray, List.set_cons_zero, List.set_cons_succ]
      refine wpAnyL_ready (rs := [28]) (by kernel_rfl) (by simp) ?_
      refine (AllReadyL.cons (o := { dst := some 74, op := Op.call { callee := Callee.builtin Builtin.append, args := #[Operand.tmp 64, Operand.tmp 73], argTypes := #[ 32, 32 ] }, type := 32, pos := "ref.go:74", after := #[{ on := 18, ground := Ground.data }, { on := 27, ground := Ground.data }, { on := 18, ground := Ground.chain }], guard := none }) rfl (fun K hK => ?_) AllReadyL.nil)
      refine step_append_int rfl (.tmp 64) (.tmp 73) rfl w.heap.size _ _ _ (by rfl) h8.row (some ⟨g, o, none⟩) _ _ fs (by rfl) hpf hfl (HF.out _ h8.below) HS3.out h8.below.size ?_
      intro v9 W9 hr9 hg9 ho9
      have h9 := h8.grow hr9 hg9 ho9
      obtain ⟨p9, c9, rfl⟩ := h9.form
      clear hr9 hg9 ho9
      refine hK.out _ _ (HSB.out _ h9.below) (fun hHeld => ?_)
      clear hK K
      try simp only [Act.put, List.setIfInBounds_toArray, List.set_cons_zero, List.set_cons_succ]
      refine wpAnyL_ready (rs := [29]) (by kernel_rfl) (by simp) ?_
      refine AllReadyL.last (o := { dst := some 75, op := Op.indexAddr 33 (Operand.tmp 49) (Operand.tmp 50), type := 0, pos := "ref.go:74", after := #[{ on := 3, ground := Ground.data }, { on := 4, ground := Ground.data }, { on := 0, ground := Ground.phase }, { on := 1, ground := Ground.phase }, { on := 2, ground := Ground.phase }, { on := 3, ground := Ground.phase }, { on := 4, ground := Ground.phase }, { on := 5, ground := Ground.phase }, { on := 6, ground := Ground.phase }, { on := 7, ground := Ground.phase }, { on := 8, ground := Ground.phase }, { on := 9, ground := Ground.phase }, { on := 10, ground := Ground.phase }, { on := 11, ground := Ground.phase }, { on := 12, ground := Ground.phase }, { on := 13, ground := Ground.phase }, { on := 14, ground := Ground.phase }, { on := 15, ground := Ground.phase }, { on := 16, ground := Ground.phase }, { on := 17, ground := Ground.phase }, { on := 18, ground := Ground.phase }, { on := 19, ground := Ground.phase }, { on := 20, ground := Ground.phase }, { on := 21, ground := Ground.phase }, { on := 22, ground := Ground.phase }, { on := 23, ground := Ground.phase }, { on := 24, ground := Ground.phase }, { on := 25, ground := Ground.phase }, { on := 26, ground := Ground.phase }, { on := 27, ground := Ground.phase }, { on := 28, ground := Ground.phase }], guard := none }) rfl (by kernel_rfl) (fun K hK => ?_) AllReadyL.nil
      go_simp
      refine hK.out _ _ ?_
      clear hK K
      try simp only [Act.put, List.setIfInBounds_toArray, List.set_cons_zero, List.set_cons_succ]
      have cB := (HSB.out _ h9.below).2
      have fB := HFR.out _ h9.below
      refine wpAnyL_ready (rs := [30]) (by kernel_rfl) (by simp) ?_
      refine AllReadyL.last (o := { dst := none, op := Op.store 32 (Operand.tmp 75) (Operand.tmp 74), type := 0, pos := "ref.go:74", after := #[{ on := 29, ground := Ground.data }, { on := 28, ground := Ground.data }, { on := 28, ground := Ground.chain }, { on := 0, ground := Ground.phase }, { on := 1, ground := Ground.phase }, { on := 2, ground := Ground.phase }, { on := 3, ground := Ground.phase }, { on := 4, ground := Ground.phase }, { on := 5, ground := Ground.phase }, { on := 6, ground := Ground.phase }, { on := 7, ground := Ground.phase }, { on := 8, ground := Ground.phase }, { on := 9, ground := Ground.phase }, { on := 10, ground := Ground.phase }, { on := 11, ground := Ground.phase }, { on := 12, ground := Ground.phase }, { on := 13, ground := Ground.phase }, { on := 14, ground := Ground.phase }, { on := 15, ground := Ground.phase }, { on := 16, ground := Ground.phase }, { on := 17, ground := Ground.phase }, { on := 18, ground := Ground.phase }, { on := 19, ground := Ground.phase }, { on := 20, ground := Ground.phase }, { on := 21, ground := Ground.phase }, { on := 22, ground := Ground.phase }, { on := 23, ground := Ground.phase }, { on := 24, ground := Ground.phase }, { on := 25, ground := Ground.phase }, { on := 26, ground := Ground.phase }, { on := 27, ground := Ground.phase }, { on := 28, ground := Ground.phase }], guard := none }) rfl (by kernel_rfl) (fun K hK => ?_) AllReadyL.nil
      go_simp
      refine hK.out _ _ ?_
      refine wpAnyL_done (by kernel_rfl) ?_ _
      try simp only [Act.put, List.setIfInBounds_toArray, List.set_cons_zero, List.set_cons_succ]
      exact NoPanic.normal (HQ.out _ _ _ _ _ _ _ _ _ _ _ _ _ _ _ _ _ _ _ _ _ _ _ _ _ _ _ _ _ _ _ _ _ (by have q := h9.less (ex' := []) (by simp); simpa only [Nat.zero_add, Nat.add_zero] using q))
  · go_simp
    have h10 := h0.alloc (.cells #[.int .i64 (n : Int)] 3 (0, 0))
    have hn10 : w.heap.size ≤ W0.heap.size := h0.below.size
    refine hK.out _ _ (HSB.out _ h10.below) (fun hHeld => ?_)
    clear hK K
    try simp only [Act.put, List.setIfInBounds_toArray, List.set_cons_zero, List.set_cons_succ]
    clear hHeld
    have hHeld := HSB.out _ h10.below
    clear h0
    change wpAnyL _ _ _ _ _ _ _ _ _ (W0.alloc (.cells #[.int .i64 (n : Int)] 3))
    generalize (W0.alloc (.cells #[.int .i64 (n : Int)] 3)) = W10 at *
    generalize W0.heap.size = A10 at *
    refine wpAnyL_ready (rs := [5]) (by kernel_rfl) (by simp) ?_
    refine (AllReadyL.cons (o := { dst := some 51, op := Op.buildSlice 32 0 #[], type := 32, pos := "ref.go:74", after := #[], guard := none }) rfl (fun K hK => ?_) AllReadyL.nil)
    go_simp
    have h11 := h10.alloc (.cells #[] 3 (0, 0))
    have hn11 : w.heap.size ≤ W10.heap.size := h10.below.size
    have hne : A10 ≠ W10.heap.size := fun e => by have := heap_lt (h10.ex (A10, _) (List.mem_cons_self ..)).1; omega
    refine hK.out _ _ (HSB.out _ h11.below) (fun hHeld => ?_)
    clear hK K
    try simp only [Act.put, List.setIfInBounds_toArray, List.set_cons_zero, List.set_cons_succ]
    clear hHeld
    have hHeld := HSB.out _ h11.below
    clear h10
    change wpAnyL _ _ _ _ _ _ _ _ _ (W10.alloc (.cells #[] 3))
    generalize (W10.alloc (.cells #[] 3)) = W11 at *
    generalize W10.heap.size = A11 at *
    refine wpAnyL_ready (rs := [15]) (by kernel_rfl) (by simp) ?_
    refine (AllReadyL.cons (o := { dst := some 61, op := Op.call { callee := Callee.builtin Builtin.append, args := #[Operand.tmp 51, Operand.tmp 60], argTypes := #[ 32, 32 ] }, type := 32, pos := "ref.go:74", after := #[{ on := 5, ground := Ground.data }, { on := 14, ground := Ground.data }], guard := none }) rfl (fun K hK => ?_) AllReadyL.nil)
    have hb12 := h11.begin_ (E := A11) (ex' := [(A10, (.cells #[.int .i64 (n : Int)] 3 (0, 0)))]) (h11.ex (A11, (.cells #[] 3 (0, 0))) (by simp)).1 hn11 (fun p hp => by rw [List.mem_singleton.1 hp]; exact ⟨by simp, hne⟩)
    refine step_append_int rfl (.tmp 51) (.tmp 60) rfl w.heap.size _ _ _ (by rfl) hb12.row (some ⟨g, o, none⟩) _ _ es (by rfl) hpe hel (HE.out _ hb12.below) HS1.out hb12.below.size ?_
    intro v12 W12 hr12 hg12 ho12
    have h12 := hb12.grow hr12 hg12 ho12
    clear hr12 hg12 ho12
    refine hK.out _ _ (HSB.out _ h12.below) (fun hHeld => ?_)
    clear hK K
    try simp only [Act.put, List.setIfInBounds_toArray, List.set_cons_zero, List.set_cons_succ]
    refine wpAnyL_ready (rs := [18]) (by kernel_rfl) (by simp) ?_
    refine (AllReadyL.cons (o := { dst := some 64, op := Op.call { callee := Callee.builtin Builtin.append, args := #[Operand.tmp 61, Operand.tmp 63], argTypes := #[ 32, 32 ] }, type := 32, pos := "ref.go:74", after := #[{ on := 15, ground := Ground.data }, { on := 17, ground := Ground.data }, { on := 15, ground := Ground.chain }], guard := none }) rfl (fun K hK => ?_) AllReadyL.nil)
    refine step_append_int rfl (.tmp 61) (.tmp 63) rfl w.heap.size _ _ _ (by rfl) h12.row (some ⟨A10, 0, none⟩) 1 1 [n] (by rfl) (fun e => by cases e) rfl (one_news (h12.ex (A10, (.cells #[.int .i64 (n : Int)] 3 (0, 0))) (by simp)).1) HS2.out h12.below.size ?_
    intro v13 W13 hr13 hg13 ho13
    have h13 := h12.grow hr13 hg13 ho13
    clear hr13 hg13 ho13
    refine hK.out _ _ (HSB.out _ h13.below) (fun hHeld => ?_)
    clear hK K
    try simp only [Act.put, List.setIfInBounds_toArray, List.set_cons_zero, List.set_cons_succ]
    refine wpAnyL_ready (rs := [28]) (by kernel_rfl) (by simp) ?_
    refine (AllReadyL.cons (o := { dst := some 74, op := Op.call { callee := Callee.builtin Builtin.append, args := #[Operand.tmp 64, Operand.tmp 73], argTypes := #[ 32, 32 ] }, type := 32, pos := "ref.go:74", after := #[{ on := 18, ground := Ground.data }, { on := 27, ground := Ground.data }, { on := 18, ground := Ground.chain }], guard := none }) rfl (fun K hK => ?_) AllReadyL.nil)
    refine step_append_int rfl (.tmp 64) (.tmp 73) rfl w.heap.size _ _ _ (by rfl) h13.row (some ⟨g, o, none⟩) _ _ fs (by rfl) hpf hfl (HF.out _ h13.below) HS3.out h13.below.size ?_
    intro v14 W14 hr14 hg14 ho14
    have h14 := h13.grow hr14 hg14 ho14
    obtain ⟨p14, c14, rfl⟩ := h14.form
    clear hr14 hg14 ho14
    refine hK.out _ _ (HSB.out _ h14.below) (fun hHeld => ?_)
    clear hK K
    try simp only [Act.put, List.setIfInBounds_toArray, List.set_cons_zero, List.set_cons_succ]
    refine wpAnyL_ready (rs := [29]) (by kernel_rfl) (by simp) ?_
    refine AllReadyL.last (o := { dst := some 75, op := Op.indexAddr 33 (Operand.tmp 49) (Operand.tmp 50), type := 0, pos := "ref.go:74", after := #[{ on := 3, ground := Ground.data }, { on := 4, ground := Ground.data }, { on := 0, ground := Ground.phase }, { on := 1, ground := Ground.phase }, { on := 2, ground := Ground.phase }, { on := 3, ground := Ground.phase }, { on := 4, ground := Ground.phase }, { on := 5, ground := Ground.phase }, { on := 6, ground := Ground.phase }, { on := 7, ground := Ground.phase }, { on := 8, ground := Ground.phase }, { on := 9, ground := Ground.phase }, { on := 10, ground := Ground.phase }, { on := 11, ground := Ground.phase }, { on := 12, ground := Ground.phase }, { on := 13, ground := Ground.phase }, { on := 14, ground := Ground.phase }, { on := 15, ground := Ground.phase }, { on := 16, ground := Ground.phase }, { on := 17, ground := Ground.phase }, { on := 18, ground := Ground.phase }, { on := 19, ground := Ground.phase }, { on := 20, ground := Ground.phase }, { on := 21, ground := Ground.phase }, { on := 22, ground := Ground.phase }, { on := 23, ground := Ground.phase }, { on := 24, ground := Ground.phase }, { on := 25, ground := Ground.phase }, { on := 26, ground := Ground.phase }, { on := 27, ground := Ground.phase }, { on := 28, ground := Ground.phase }], guard := none }) rfl (by kernel_rfl) (fun K hK => ?_) AllReadyL.nil
    go_simp
    refine hK.out _ _ ?_
    clear hK K
    try simp only [Act.put, List.setIfInBounds_toArray, List.set_cons_zero, List.set_cons_succ]
    have cB := (HSB.out _ h14.below).2
    have fB := HFR.out _ h14.below
    refine wpAnyL_ready (rs := [30]) (by kernel_rfl) (by simp) ?_
    refine AllReadyL.last (o := { dst := none, op := Op.store 32 (Operand.tmp 75) (Operand.tmp 74), type := 0, pos := "ref.go:74", after := #[{ on := 29, ground := Ground.data }, { on := 28, ground := Ground.data }, { on := 28, ground := Ground.chain }, { on := 0, ground := Ground.phase }, { on := 1, ground := Ground.phase }, { on := 2, ground := Ground.phase }, { on := 3, ground := Ground.phase }, { on := 4, ground := Ground.phase }, { on := 5, ground := Ground.phase }, { on := 6, ground := Ground.phase }, { on := 7, ground := Ground.phase }, { on := 8, ground := Ground.phase }, { on := 9, ground := Ground.phase }, { on := 10, ground := Ground.phase }, { on := 11, ground := Ground.phase }, { on := 12, ground := Ground.phase }, { on := 13, ground := Ground.phase }, { on := 14, ground := Ground.phase }, { on := 15, ground := Ground.phase }, { on := 16, ground := Ground.phase }, { on := 17, ground := Ground.phase }, { on := 18, ground := Ground.phase }, { on := 19, ground := Ground.phase }, { on := 20, ground := Ground.phase }, { on := 21, ground := Ground.phase }, { on := 22, ground := Ground.phase }, { on := 23, ground := Ground.phase }, { on := 24, ground := Ground.phase }, { on := 25, ground := Ground.phase }, { on := 26, ground := Ground.phase }, { on := 27, ground := Ground.phase }, { on := 28, ground := Ground.phase }], guard := none }) rfl (by kernel_rfl) (fun K hK => ?_) AllReadyL.nil
    go_simp
    refine hK.out _ _ ?_
    refine wpAnyL_done (by kernel_rfl) ?_ _
    try simp only [Act.put, List.setIfInBounds_toArray, List.set_cons_zero, List.set_cons_succ]
    exact NoPanic.normal (HQ.out _ _ _ _ _ _ _ _ _ _ _ _ _ _ _ _ _ _ _ _ _ _ _ _ _ _ _ _ _ _ _ _ _ (by have q := h14.less (ex' := []) (by simp); simpa only [Nat.zero_add, Nat.add_zero] using q))
end Go.Proofs.Ytbadckkcjjfnoaa
namespace Go.Proofs.Ytbadckkcjjfnoaa
open Go.RowKit

def rput6_regN_ops : Array Oper := #[{ dst := some 46, op := Op.move (Operand.tmp 0), type := 26, pos := "ref.go:74", after := #[], guard := none }, { dst := some 47, op := Op.nilCheck (Operand.tmp 46), type := 0, pos := "ref.go:74", after := #[{ on := 0, ground := Ground.data }], guard := none }, { dst := some 48, op := Op.fieldAddr 35 (Operand.tmp 47) 2, type := 0, pos := "ref.go:74", after := #[{ on := 1, ground := Ground.data }], guard := none }, { dst := some 49, op := Op.load 33 (Operand.tmp 48), type := 33, pos := "ref.go:74", after := #[{ on := 2, ground := Ground.data }], guard := none }, { dst := some 50, op := Op.move (Operand.tmp 2), type := 3, pos := "ref.go:74", after := #[], guard := none }, { dst := some 51, op := Op.buildSlice 32 0 #[], type := 32, pos := "ref.go:74", after := #[], guard := none }, { dst := some 52, op := Op.move (Operand.tmp 0), type := 26, pos := "ref.go:74", after := #[], guard := none }, { dst := some 53, op := Op.nilCheck (Operand.tmp 52), type := 0, pos := "ref.go:74", after := #[{ on := 6, ground := Ground.data }], guard := none }, { dst := some 54, op := Op.fieldAddr 35 (Operand.tmp 53) 2, type := 0, pos := "ref.go:74", after := #[{ on := 7, ground := Ground.data }], guard := none }, { dst := some 55, op := Op.load 33 (Operand.tmp 54), type := 33, pos := "ref.go:74", after := #[{ on := 8, ground := Ground.data }], guard := none }, { dst := some 56, op := Op.move (Operand.tmp 2), type := 3, pos := "ref.go:74", after := #[], guard := none }, { dst := some 57, op := Op.indexAddr 33 (Operand.tmp 55) (Operand.tmp 56), type := 0, pos := "ref.go:74", after := #[{ on := 9, ground := Ground.data }, { on := 10, ground := Ground.data }], guard := none }, { dst := some 58, op := Op.load 32 (Operand.tmp 57), type := 32, pos := "ref.go:74", after := #[{ on := 11, ground := Ground.data }], guard := none }, { dst := some 59, op := Op.move (Operand.tmp 9), type := 3, pos := "ref.go:74", after := #[], guard := none }, { dst := some 60, op := Op.slice 32 (Operand.tmp 58) none (some (Operand.tmp 59)) none, type := 32, pos := "ref.go:74", after := #[{ on := 12, ground := Ground.data }, { on := 13, ground := Ground.data }], guard := none }, { dst := some 61, op := Op.call { callee := Callee.builtin Builtin.append, args := #[Operand.tmp 51, Operand.tmp 60], argTypes := #[ 32, 32 ] }, type := 32, pos := "ref.go:74", after := #[{ on := 5, ground := Ground.data }, { on := 14, ground := Ground.data }], guard := none }, { dst := some 62, op := Op.move (Operand.tmp 1), type := 3, pos := "ref.go:74", after := #[], guard := none }, { dst := some 63, op := Op.buildSlice 32 1 #[(0, Operand.tmp 62)], type := 32, pos := "ref.go:74", after := #[{ on := 16, ground := Ground.data }], guard := none }, { dst := some 64, op := Op.call { callee := Callee.builtin Builtin.append, args := #[Operand.tmp 61, Operand.tmp 63], argTypes := #[ 32, 32 ] }, type := 32, pos := "ref.go:74", after := #[{ on := 15, ground := Ground.data }, { on := 17, ground := Ground.data }, { on := 15, ground := Ground.chain }], guard := none }, { dst := some 65, op := Op.move (Operand.tmp 0), type := 26, pos := "ref.go:74", after := #[], guard := none }, { dst := some 66, op := Op.nilCheck (Operand.tmp 65), type := 0, pos := "ref.go:74", after := #[{ on := 19, ground := Ground.data }], guard := none }, { dst := some 67, op := Op.fieldAddr 35 (Operand.tmp 66) 2, type := 0, pos := "ref.go:74", after := #[{ on := 20, ground := Ground.data }], guard := none }, { dst := some 68, op := Op.load 33 (Operand.tmp 67), type := 33, pos := "ref.go:74", after := #[{ on := 21, ground := Ground.data }], guard := none }, { dst := some 69, op := Op.move (Operand.tmp 2), type := 3, pos := "ref.go:74", after := #[], guard := none }, { dst := some 70, op := Op.indexAddr 33 (Operand.tmp 68) (Operand.tmp 69), type := 0, pos := "ref.go:74", after := #[{ on := 22, ground := Ground.data }, { on := 23, ground := Ground.data }], guard := none }, { dst := some 71, op := Op.load 32 (Operand.tmp 70), type := 32, pos := "ref.go:74", after := #[{ on := 24, ground := Ground.data }], guard := none }, { dst := some 72, op := Op.move (Operand.tmp 9), type := 3, pos := "ref.go:74", after := #[], guard := none }, { dst := some 73, op := Op.slice 32 (Operand.tmp 71) (some (Operand.tmp 72)) none none, type := 32, pos := "ref.go:74", after := #[{ on := 25, ground := Ground.data }, { on := 26, ground := Ground.data }], guard := none }, { dst := some 74, op := Op.call { callee := Callee.builtin Builtin.append, args := #[Operand.tmp 64, Operand.tmp 73], argTypes := #[ 32, 32 ] }, type := 32, pos := "ref.go:74", after := #[{ on := 18, ground := Ground.data }, { on := 27, ground := Ground.data }, { on := 18, ground := Ground.chain }], guard := none }, { dst := some 75, op := Op.indexAddr 33 (Operand.tmp 49) (Operand.tmp 50), type := 0, pos := "ref.go:74", after := #[{ on := 3, ground := Ground.data }, { on := 4, ground := Ground.data }, { on := 0, ground := Ground.phase }, { on := 1, ground := Ground.phase }, { on := 2, ground := Ground.phase }, { on := 3, ground := Ground.phase }, { on := 4, ground := Ground.phase }, { on := 5, ground := Ground.phase }, { on := 6, ground := Ground.phase }, { on := 7, ground := Ground.phase }, { on := 8, ground := Ground.phase }, { on := 9, ground := Ground.phase }, { on := 10, ground := Ground.phase }, { on := 11, ground := Ground.phase }, { on := 12, ground := Ground.phase }, { on := 13, ground := Ground.phase }, { on := 14, ground := Ground.phase }, { on := 15, ground := Ground.phase }, { on := 16, ground := Ground.phase }, { on := 17, ground := Ground.phase }, { on := 18, ground := Ground.phase }, { on := 19, ground := Ground.phase }, { on := 20, ground := Ground.phase }, { on := 21, ground := Ground.phase }, { on := 22, ground := Ground.phase }, { on := 23, ground := Ground.phase }, { on := 24, ground := Ground.phase }, { on := 25, ground := Ground.phase }, { on := 26, ground := Ground.phase }, { on := 27, ground := Ground.phase }, { on := 28, ground := Ground.phase }], guard := none }, { dst := none, op := Op.store 32 (Operand.tmp 75) (Operand.tmp 74), type := 0, pos := "ref.go:74", after := #[{ on := 29, ground := Ground.data }, { on := 28, ground := Ground.data }, { on := 28, ground := Ground.chain }, { on := 0, ground := Ground.phase }, { on := 1, ground := Ground.phase }, { on := 2, ground := Ground.phase }, { on := 3, ground := Ground.phase }, { on := 4, ground := Ground.phase }, { on := 5, ground := Ground.phase }, { on := 6, ground := Ground.phase }, { on := 7, ground := Ground.phase }, { on := 8, ground := Ground.phase }, { on := 9, ground := Ground.phase }, { on := 10, ground := Ground.phase }, { on := 11, ground := Ground.phase }, { on := 12, ground := Ground.phase }, { on := 13, ground := Ground.phase }, { on := 14, ground := Ground.phase }, { on := 15, ground := Ground.phase }, { on := 16, ground := Ground.phase }, { on := 17, ground := Ground.phase }, { on := 18, ground := Ground.phase }, { on := 19, ground := Ground.phase }, { on := 20, ground := Ground.phase }, { on := 21, ground := Ground.phase }, { on := 22, ground := Ground.phase }, { on := 23, ground := Ground.phase }, { on := 24, ground := Ground.phase }, { on := 25, ground := Ground.phase }, { on := 26, ground := Ground.phase }, { on := 27, ground := Ground.phase }, { on := 28, ground := Ground.phase }], guard := none }]
set_option maxHeartbeats 8000000 in
set_option maxRecDepth 100000 in
theorem rput6_regN {w : World} {n : Nat} {es fs : List Nat} {B gR m cR u : Nat} {Q : Exit → Act → World → Prop} {u3 u4 u5 u6 u7 u8 u10 u11 u12 u13 u14 u15 u16 u17 u18 u19 u20 u21 u22 u23 u24 u25 u26 u27 u28 u29 u30 u31 u32 u33 u34 u35 u36 u37 u38 u39 u40 u41 u42 u43 u44 u45 u46 u47 u48 u49 u50 u51 u52 u53 u54 u55 u56 u57 u58 u59 u60 u61 u62 u63 u64 u65 u66 u67 u68 u69 u70 u71 u72 u73 u74 u75 u76 u77 u78 u79 u80 u81 u82 : Value} (hB : B < w.heap.size) (hG : gR < w.heap.size) (h2 : w.cell? ⟨B, 2, none⟩ = some (.slice (some ⟨gR, 0, none⟩) m cR)) (hr : w.cell? ⟨gR, u, none⟩ = some (.slice none 0 0)) (hf : w.frozen? ⟨gR, u, none⟩ = false) (hu : u < m) 
    (hel : es.length = 0) (hfl : fs.length = 0)
    (hE : ∀ W, Below w.heap.size w W → ∀ ad, (none : Option Addr) = some ad → ∀ j (hj : j < es.length), W.cell? (ad.add j) = some (.int .i64 (es[j] : Int)))
    (hF : ∀ W, Below w.heap.size w W → ∀ ad, (none : Option Addr) = some ad → ∀ j (hj : j < fs.length), W.cell? (ad.add j) = some (.int .i64 (fs[j] : Int)))
    (hQ : ∀ (y46 y47 y48 y49 y50 y51 y52 y53 y54 y55 y56 y57 y58 y59 y60 y61 y62 y63 y64 y65 y66 y67 y68 y69 y70 y71 y72 y73 y74 y75 : Value) (p' : Option Addr) (c' : Nat) (w' : World), RowX w w' (.slice p' (1) c') (1) ([] ++ intsV es ++ intsV [n] ++ intsV fs) [] → Q .normal { tmps := #[.pointer (some ⟨B, 0, none⟩), .int .i64 (n : Int), .int .i64 (u : Int), u3, u4, u5, u6, u7, u8, .int .i64 0, u10, u11, u12, u13, u14, u15, u16, u17, u18, u19, u20, u21, u22, u23, u24, u25, u26, u27, u28, u29, u30, u31, u32, u33, u34, u35, u36, u37, u38, u39, u40, u41, u42, u43, u44, u45, y46, y47, y48, y49, y50, y51, y52, y53, y54, y55, y56, y57, y58, y59, y60, y61, y62, y63, y64, y65, y66, y67, y68, y69, y70, y71, y72, y73, y74, y75, u76, u77, u78, u79, u80, u81, u82], defers := [] } (w'.setCell ⟨gR, u, none⟩ (.slice p' (1) c'))) :
    (Code.region 6 rput6_regN_ops true).wp Try.prog Q { tmps := #[.pointer (some ⟨B, 0, none⟩), .int .i64 (n : Int), .int .i64 (u : Int), u3, u4, u5, u6, u7, u8, .int .i64 0, u10, u11, u12, u13, u14, u15, u16, u17, u18, u19, u20, u21, u22, u23, u24, u25, u26, u27, u28, u29, u30, u31, u32, u33, u34, u35, u36, u37, u38, u39, u40, u41, u42, u43, u44, u45, u46, u47, u48, u49, u50, u51, u52, u53, u54, u55, u56, u57, u58, u59, u60, u61, u62, u63, u64, u65, u66, u67, u68, u69, u70, u71, u72, u73, u74, u75, u76, u77, u78, u79, u80, u81, u82], defers := [] } w := by
  refine wp_region_noPanic ?_
  unfold rput6_regN_ops
  have HQ := Lib.hid hQ
  have HE := Lib.hid hE
  have HF := Lib.hid hF
  have HRE := Lib.hid (lateOk_spec (md := .any) (ops := rput6_regN_ops) (late := [29, 30]) (is := [0, 1, 2, 3, 4, 6, 7, 8, 9, 10, 11, 12, 13, 14, 16, 19, 20, 21, 22, 23, 24, 25, 26, 27]) (f := 8) (by kernel_rfl))
  have HS1 : Hid (0 + 0 ≤ 4294967296) := Lib.hid (by omega)
  have HS2 : Hid (0 + 0 + 1 ≤ 4294967296) := Lib.hid (by omega)
  have HS3 : Hid (0 + 0 + 1 + 0 ≤ 4294967296) := Lib.hid (by omega)
  have hpe : (none : Option Addr) = none → (0 : Nat) = 0 ∧ (0 : Nat) = 0 := fun _ => ⟨rfl, rfl⟩
  have hpf : (none : Option Addr) = none → (0 : Nat) = 0 ∧ (0 : Nat) = 0 := fun _ => ⟨rfl, rfl⟩
  have HSB : Hid (∀ W, Below w.heap.size w W → W.cell? ⟨B, 2, none⟩ = some (.slice (some ⟨gR, 0, none⟩) m cR) ∧ W.cell? ⟨gR, u, none⟩ = some (.slice none 0 0)) := Lib.hid fun W hb => ⟨(hb.cell (p := ⟨B, 2, none⟩) hB).trans h2, (hb.cell (p := ⟨gR, u, none⟩) hG).trans hr⟩
  have HFR : Hid (∀ W, Below w.heap.size w W → W.frozen? ⟨gR, u, none⟩ = false) := Lib.hid fun W hb => by rw [World.frozen?_of_block (w := w) (hb.block gR hG)]; exact hf
  have hu0 : (0 : Int) ≤ (u : Int) := by omega
  have hu1 : (u : Int) < (m : Int) := by omega
  clear h2 hr hf
  have h0 : RowX w w.drew (.slice none 0 0) 0 [] [] := .new (Below.refl _ w).drew
  clear hQ hE hF
  refine wp_region_heldL_drew (late := [29, 30]) (S := fun W => W.cell? ⟨B, 2, none⟩ = some (.slice (some ⟨gR, 0, none⟩) m cR) ∧ W.cell? ⟨gR, u, none⟩ = some (.slice none 0 0)) (by kernel_rfl) (HSB.out _ h0.below) (fun hHeld => ?_)
  generalize w.drew = W0 at *
  refine wpAnyL_take (i := 0) (oi := { dst := some 46, op := Op.move (Operand.tmp 0), type := 26, pos := "ref.go:74", after := #[], guard := none }) (v := ?_) rfl (by kernel_rfl) (by kernel_rfl) (by kernel_rfl) (by kernel_rfl) (HRE.out 0 (by decide)) (fun _ _ _ h => h) (Or.inl ⟨by rfl, ?_⟩) (by assumption) ?_
  rotate_left
  focus (intro w hSw; (try dsimp only at hSw); go_simp; (try with_reducible rfl))
  try simp only [Act.put, List.setIfInBounds_toArray, List.set_cons_zero, List.set_cons_succ]
  refine wpAnyL_take (i := 1) (oi := { dst := some 47, op := Op.nilCheck (Operand.tmp 46), type := 0, pos := "ref.go:74", after := #[{ on := 0, ground := Ground.data }], guard := none }) (v := ?_) rfl (by kernel_rfl) (by kernel_rfl) (by kernel_rfl) (by kernel_rfl) (HRE.out 1 (by decide)) (fun _ _ _ h => h) (Or.inl ⟨by rfl, ?_⟩) (by assumption) ?_
  rotate_left
  focus (intro w hSw; (try dsimp only at hSw); go_simp; (try with_reducible rfl))
  try simp only [Act.put, List.setIfInBounds_toArray, List.set_cons_zero, List.set_cons_succ]
  refine wpAnyL_take (i := 2) (oi := { dst := some 48, op := Op.fieldAddr 35 (Operand.tmp 47) 2, type := 0, pos := "ref.go:74", after := #[{ on := 1, ground := Ground.data }], guard := none }) (v := ?_) rfl (by kernel_rfl) (by kernel_rfl) (by kernel_rfl) (by kernel_rfl) (HRE.out 2 (by decide)) (fun _ _ _ h => h) (Or.inl ⟨by rfl, ?_⟩) (by assumption) ?_
  rotate_left
  focus (intro w hSw; (try dsimp only at hSw); go_simp; (try with_reducible rfl))
  try simp only [Act.put, List.setIfInBounds_toArray, List.set_cons_zero, List.set_cons_succ]
  refine wpAnyL_take (i := 3) (oi := { dst := some 49, op := Op.load 33 (Operand.tmp 48), type := 33, pos := "ref.go:74", after := #[{ on := 2, ground := Ground.data }], guard := none }) (v := ?_) rfl (by kernel_rfl) (by kernel_rfl) (by kernel_rfl) (by kernel_rfl) (HRE.out 3 (by decide)) (fun _ _ _ h => h) (Or.inl ⟨by rfl, ?_⟩) (by assumption) ?_
  rotate_left
  focus (intro w hSw; (try dsimp only at hSw); go_simp; (try with_reducible rfl))
  try simp only [Act.put, List.setIfInBounds_toArray, List.set_cons_zero, List.set_cons_succ]
  refine wpAnyL_take (i := 4) (oi := { dst := some 50, op := Op.move (Operand.tmp 2), type := 3, pos := "ref.go:74", after := #[], guard := none }) (v := ?_) rfl (by kernel_rfl) (by kernel_rfl) (by kernel_rfl) (by kernel_rfl) (HRE.out 4 (by decide)) (fun _ _ _ h => h) (Or.inl ⟨by rfl, ?_⟩) (by assumption) ?_
  rotate_left
  focus (intro w hSw; (try dsimp only at hSw); go_simp; (try with_reducible rfl))
  try simp only [Act.put, List.setIfInBounds_toArray, List.set_cons_zero, List.set_cons_succ]
  refine wpAnyL_take (i := 6) (oi := { dst := some 52, op := Op.move (Operand.tmp 0), type := 26, pos := "ref.go:74", after := #[], guard := none }) (v := ?_) rfl (by kernel_rfl) (by kernel_rfl) (by kernel_rfl) (by kernel_rfl) (HRE.out 6 (by decide)) (fun _ _ _ h => h) (Or.inl ⟨by rfl, ?_⟩) (by assumption) ?_
  rotate_left
  focus (intro w hSw; (try dsimp only at hSw); go_simp; (try with_reducible rfl))
  try simp only [Act.put, List.setIfInBounds_toArray, List.set_cons_zero, List.set_cons_succ]
  refine wpAnyL_take (i := 7) (oi := { dst := some 53, op := Op.nilCheck (Operand.tmp 52), type := 0, pos := "ref.go:74", after := #[{ on := 6, ground := Ground.data }], guard := none }) (v := ?_) rfl (by kernel_rfl) (by kernel_rfl) (by kernel_rfl) (by kernel_rfl) (HRE.out 7 (by decide)) (fun _ _ _ h => h) (Or.inl ⟨by rfl, ?_⟩) (by assumption) ?_
  rotate_left
  focus (intro w hSw; (try dsimp only at hSw); go_simp; (try with_reducible rfl))
  try simp only [Act.put, List.setIfInBounds_toArray, List.set_cons_zero, List.set_cons_succ]
  refine wpAnyL_take (i := 8) (oi := { dst := some 54, op := Op.fieldAddr 35 (Operand.tmp 53) 2, type := 0, pos := "ref.go:74", after := #[{ on := 7, ground := Ground.data }], guard := none }) (v := ?_) rfl (by kernel_rfl) (by kernel_rfl) (by kernel_rfl) (by kernel_rfl) (HRE.out 8 (by decide)) (fun _ _ _ h => h) (Or.inl ⟨by rfl, ?_⟩) (by assumption) ?_
  rotate_left
  focus (intro w hSw; (try dsimp only at hSw); go_simp; (try with_reducible rfl))
  try simp only [Act.put, List.setIfInBounds_toArray, List.set_cons_zero, List.set_cons_succ]
  refine wpAnyL_take (i := 9) (oi := { dst := some 55, op := Op.load 33 (Operand.tmp 54), type := 33, pos := "ref.go:74", after := #[{ on := 8, ground := Ground.data }], guard := none }) (v := ?_) rfl (by kernel_rfl) (by kernel_rfl) (by kernel_rfl) (by kernel_rfl) (HRE.out 9 (by decide)) (fun _ _ _ h => h) (Or.inl ⟨by rfl, ?_⟩) (by assumption) ?_
  rotate_left
  focus (intro w hSw; (try dsimp only at hSw); go_simp; (try with_reducible rfl))
  try simp only [Act.put, List.setIfInBounds_toArray, List.set_cons_zero, List.set_cons_succ]
  refine wpAnyL_take (i := 10) (oi := { dst := some 56, op := Op.move (Operand.tmp 2), type := 3, pos := "ref.go:74", after := #[], guard := none }) (v := ?_) rfl (by kernel_rfl) (by kernel_rfl) (by kernel_rfl) (by kernel_rfl) (HRE.out 10 (by decide)) (fun _ _ _ h => h) (Or.inl ⟨by rfl, ?_⟩) (by assumption) ?_
  rotate_left
  focus (intro w hSw; (try dsimp only at hSw); go_simp; (try with_reducible rfl))
  try simp only [Act.put, List.setIfInBounds_toArray, List.set_cons_zero, List.set_cons_succ]
  refine wpAnyL_take (i := 11) (oi := { dst := some 57, op := Op.indexAddr 33 (Operand.tmp 55) (Operand.tmp 56), type := 0, pos := "ref.go:74", after := #[{ on := 9, ground := Ground.data }, { on := 10, ground := Ground.data }], guard := none }) (v := ?_) rfl (by kernel_rfl) (by kernel_rfl) (by kernel_rfl) (by kernel_rfl) (HRE.out 11 (by decide)) (fun _ _ _ h => h) (Or.inl ⟨by rfl, ?_⟩) (by assumption) ?_
  rotate_left
  focus (intro w hSw; (try dsimp only at hSw); go_simp; (try with_reducible rfl))
  try simp only [Act.put, List.setIfInBounds_toArray, List.set_cons_zero, List.set_cons_succ]
  refine wpAnyL_take (i := 12) (oi := { dst := some 58, op := Op.load 32 (Operand.tmp 57), type := 32, pos := "ref.go:74", after := #[{ on := 11, ground := Ground.data }], guard := none }) (v := ?_) rfl (by kernel_rfl) (by kernel_rfl) (by kernel_rfl) (by kernel_rfl) (HRE.out 12 (by decide)) (fun _ _ _ h => h) (Or.inl ⟨by rfl, ?_⟩) (by assumption) ?_
  rotate_left
  focus (intro w hSw; (try dsimp only at hSw); go_simp; (try with_reducible rfl))
  try simp only [Act.put, List.setIfInBounds_toArray, List.set_cons_zero, List.set_cons_succ]
  refine wpAnyL_take (i := 13) (oi := { dst := some 59, op := Op.move (Operand.tmp 9), type := 3, pos := "ref.go:74", after := #[], guard := none }) (v := ?_) rfl (by kernel_rfl) (by kernel_rfl) (by kernel_rfl) (by kernel_rfl) (HRE.out 13 (by decide)) (fun _ _ _ h => h) (Or.inl ⟨by rfl, ?_⟩) (by assumption) ?_
  rotate_left
  focus (intro w hSw; (try dsimp only at hSw); go_simp; (try with_reducible rfl))
  try simp only [Act.put, List.setIfInBounds_toArray, List.set_cons_zero, List.set_cons_succ]
  refine wpAnyL_take (i := 14) (oi := { dst := some 60, op := Op.slice 32 (Operand.tmp 58) none (some (Operand.tmp 59)) none, type := 32, pos := "ref.go:74", after := #[{ on := 12, ground := Ground.data }, { on := 13, ground := Ground.data }], guard := none }) (v := ?_) rfl (by kernel_rfl) (by kernel_rfl) (by kernel_rfl) (by kernel_rfl) (HRE.out 14 (by decide)) (fun _ _ _ h => h) (Or.inl ⟨by rfl, ?_⟩) (by assumption) ?_
  rotate_left
  focus (intro w hSw; (try dsimp only at hSw); go_simp; (try with_reducible rfl))
  try simp only [Act.put, List.setIfInBounds_toArray, List.set_cons_zero, List.set_cons_succ]
  refine wpAnyL_take (i := 16) (oi := { dst := some 62, op := Op.move (Operand.tmp 1), type := 3, pos := "ref.go:74", after := #[], guard := none }) (v := ?_) rfl (by kernel_rfl) (by kernel_rfl) (by kernel_rfl) (by kernel_rfl) (HRE.out 16 (by decide)) (fun _ _ _ h => h) (Or.inl ⟨by rfl, ?_⟩) (by assumption) ?_
  rotate_left
  focus (intro w hSw; (try dsimp only at hSw); go_simp; (try with_reducible rfl))
  try simp only [Act.put, List.setIfInBounds_toArray, List.set_cons_zero, List.set_cons_succ]
  refine wpAnyL_take (i := 19) (oi := { dst := some 65, op := Op.move (Operand.tmp 0), type := 26, pos := "ref.go:74", after := #[], guard := none }) (v := ?_) rfl (by kernel_rfl) (by kernel_rfl) (by kernel_rfl) (by kernel_rfl) (HRE.out 19 (by decide)) (fun _ _ _ h => h) (Or.inl ⟨by rfl, ?_⟩) (by assumption) ?_
  rotate_left
  focus (intro w hSw; (try dsimp only at hSw); go_simp; (try with_reducible rfl))
  try simp only [Act.put, List.setIfInBounds_toArray, List.set_cons_zero, List.set_cons_succ]
  refine wpAnyL_take (i := 20) (oi := { dst := some 66, op := Op.nilCheck (Operand.tmp 65), type := 0, pos := "ref.go:74", after := #[{ on := 19, ground := Ground.data }], guard := none }) (v := ?_) rfl (by kernel_rfl) (by kernel_rfl) (by kernel_rfl) (by kernel_rfl) (HRE.out 20 (by decide)) (fun _ _ _ h => h) (Or.inl ⟨by rfl, ?_⟩) (by assumption) ?_
  rotate_left
  focus (intro w hSw; (try dsimp only at hSw); go_simp; (try with_reducible rfl))
  try simp only [Act.put, List.setIfInBounds_toArray, List.set_cons_zero, List.set_cons_succ]
  refine wpAnyL_take (i := 21) (oi := { dst := some 67, op := Op.fieldAddr 35 (Operand.tmp 66) 2, type := 0, pos := "ref.go:74", after := #[{ on := 20, ground := Ground.data }], guard := none }) (v := ?_) rfl (by kernel_rfl) (by kernel_rfl) (by kernel_rfl) (by kernel_rfl) (HRE.out 21 (by decide)) (fun _ _ _ h => h) (Or.inl ⟨by rfl, ?_⟩) (by assumption) ?_
  rotate_left
  focus (intro w hSw; (try dsimp only at hSw); go_simp; (try with_reducible rfl))
  try simp only [Act.put, List.setIfInBounds_toArray, List.set_cons_zero, List.set_cons_succ]
  refine wpAnyL_take (i := 22) (oi := { dst := some 68, op := Op.load 33 (Operand.tmp 67), type := 33, pos := "ref.go:74", after := #[{ on := 21, ground := Ground.data }], guard := none }) (v := ?_) rfl (by kernel_rfl) (by kernel_rfl) (by kernel_rfl) (by kernel_rfl) (HRE.out 22 (by decide)) (fun _ _ _ h => h) (Or.inl ⟨by rfl, ?_⟩) (by assumption) ?_
  rotate_left
  focus (intro w hSw; (try dsimp only at hSw); go_simp; (try with_reducible rfl))
  try simp only [Act.put, List.setIfInBounds_toArray, List.set_cons_zero, List.set_cons_succ]
  refine wpAnyL_take (i := 23) (oi := { dst := some 69, op := Op.move (Operand.tmp 2), type := 3, pos := "ref.go:74", after := #[], guard := none }) (v := ?_) rfl (by kernel_rfl) (by kernel_rfl) (by kernel_rfl) (by kernel_rfl) (HRE.out 23 (by decide)) (fun _ _ _ h => h) (Or.inl ⟨by rfl, ?_⟩) (by assumption) ?_
  rotate_left
  focus (intro w hSw; (try dsimp only at hSw); go_simp; (try with_reducible rfl))
  try simp only [Act.put, List.setIfInBounds_toArray, List.set_cons_zero, List.set_cons_succ]
  refine wpAnyL_take (i := 24) (oi := { dst := some 70, op := Op.indexAddr 33 (Operand.tmp 68) (Operand.tmp 69), type := 0, pos := "ref.go:74", after := #[{ on := 22, ground := Ground.data }, { on := 23, ground := Ground.data }], guard := none }) (v := ?_) rfl (by kernel_rfl) (by kernel_rfl) (by kernel_rfl) (by kernel_rfl) (HRE.out 24 (by decide)) (fun _ _ _ h => h) (Or.inl ⟨by rfl, ?_⟩) (by assumption) ?_
  rotate_left
  focus (intro w hSw; (try dsimp only at hSw); go_simp; (try with_reducible rfl))
  try simp only [Act.put, List.setIfInBounds_toArray, List.set_cons_zero, List.set_cons_succ]
  refine wpAnyL_take (i := 25) (oi := { dst := some 71, op := Op.load 32 (Operand.tmp 70), type := 32, pos := "ref.go:74", after := #[{ on := 24, ground := Ground.data }], guard := none }) (v := ?_) rfl (by kernel_rfl) (by kernel_rfl) (by kernel_rfl) (by kernel_rfl) (HRE.out 25 (by decide)) (fun _ _ _ h => h) (Or.inl ⟨by rfl, ?_⟩) (by assumption) ?_
  rotate_left
  focus (intro w hSw; (try dsimp only at hSw); go_simp; (try with_reducible rfl))
  try simp only [Act.put, List.setIfInBounds_toArray, List.set_cons_zero, List.set_cons_succ]
  refine wpAnyL_take (i := 26) (oi := { dst := some 72, op := Op.move (Operand.tmp 9), type := 3, pos := "ref.go:74", after := #[], guard := none }) (v := ?_) rfl (by kernel_rfl) (by kernel_rfl) (by kernel_rfl) (by kernel_rfl) (HRE.out 26 (by decide)) (fun _ _ _ h => h) (Or.inl ⟨by rfl, ?_⟩) (by assumption) ?_
  rotate_left
  focus (intro w hSw; (try dsimp only at hSw); go_simp; (try with_reducible rfl))
  try simp only [Act.put, List.setIfInBounds_toArray, List.set_cons_zero, List.set_cons_succ]
  refine wpAnyL_take (i := 27) (oi := { dst := some 73, op := Op.slice 32 (Operand.tmp 71) (some (Operand.tmp 72)) none none, type := 32, pos := "ref.go:74", after := #[{ on := 25, ground := Ground.data }, { on := 26, ground := Ground.data }], guard := none }) (v := ?_) rfl (by kernel_rfl) (by kernel_rfl) (by kernel_rfl) (by kernel_rfl) (HRE.out 27 (by decide)) (fun _ _ _ h => h) (Or.inl ⟨by rfl, ?_⟩) (by assumption) ?_
  rotate_left
  focus (intro w hSw; (try dsimp only at hSw); go_simp; (try with_reducible rfl))
  try simp only [Act.put, List.setIfInBounds_toArray, List.set_cons_zero, List.set_cons_succ]
  refine wpAnyL_ready (rs := [5, 17]) (by kernel_rfl) (by simp) ?_
  refine (AllReadyL.cons (o := { dst := some 51, op := Op.buildSlice 32 0 #[], type := 32, pos := "ref.go:74", after := #[], guard := none }) rfl (fun K hK => ?_) (AllReadyL.cons (o := { dst := some 63, op := Op.buildSlice 32 1 #[(0, Operand.tmp 62)], type := 32, pos := "ref.go:74", after := #[{ on := 16, ground := Ground.data }], guard := none }) rfl (fun K hK => ?_) AllReadyL.nil))
  · go_simp
    have h1 := h0.alloc (.cells #[] 3 (0, 0))
    have hn1 : w.heap.size ≤ W0.heap.size := h0.below.size
    refine hK.out _ _ (HSB.out _ h1.below) (fun hHeld => ?_)
    clear hK K
    try simp only [Act.put, List.setIfInBounds_toArray, List.set_cons_zero, List.set_cons_succ]
    clear hHeld
    have hHeld := HSB.out _ h1.below
    clear h0
    change wpAnyL _ _ _ _ _ _ _ _ _ (W0.alloc (.cells #[] 3))
    generalize (W0.alloc (.cells #[] 3)) = W1 at *
    generalize W0.heap.size = A1 at *
    refine wpAnyL_ready (rs := [15, 17]) (by kernel_rfl) (by simp) ?_
    refine (AllReadyL.cons (o := { dst := some 61, op := Op.call { callee := Callee.builtin Builtin.append, args := #[Operand.tmp 51, Operand.tmp 60], argTypes := #[ 32, 32 ] }, type := 32, pos := "ref.go:74", after := #[{ on := 5, ground := Ground.data }, { on := 14, ground := Ground.data }], guard := none }) rfl (fun K hK => ?_) (AllReadyL.cons (o := { dst := some 63, op := Op.buildSlice 32 1 #[(0, Operand.tmp 62)], type := 32, pos := "ref.go:74", after := #[{ on := 16, ground := Ground.data }], guard := none }) rfl (fun K hK => ?_) AllReadyL.nil))
    · have hb2 := h1.begin_ (E := A1) (ex' := []) (h1.ex (A1, (.cells #[] 3 (0, 0))) (by simp)).1 hn1 (fun p hp => by cases hp)
      refine step_append_int rfl (.tmp 51) (.tmp 60) rfl w.heap.size _ _ _ (by rfl) hb2.row none _ _ es (by rfl) hpe hel (HE.out _ hb2.below) HS1.out hb2.below.size ?_
      intro v2 W2 hr2 hg2 ho2
      have h2 := hb2.grow hr2 hg2 ho2
      clear hr2 hg2 ho2
      refine hK.out _ _ (HSB.out _ h2.below) (fun hHeld => ?_)
      clear hK K
      try simp only [Act.put, List.setIfInBounds_toArray, List.set_cons_zero, List.set_cons_succ]
      refine wpAnyL_ready (rs := [17]) (by kernel_rfl) (by simp) ?_
      refine (AllReadyL.cons (o := { dst := some 63, op := Op.buildSlice 32 1 #[(0, Operand.tmp 62)], type := 32, pos := "ref.go:74", after := #[{ on := 16, ground := Ground.data }], guard := none }) rfl (fun K hK => ?_) AllReadyL.nil)
      go_simp
      have h3 := h2.alloc (.cells #[.int .i64 (n : Int)] 3 (0, 0))
      have hn3 : w.heap.size ≤ W2.heap.size := h2.below.size
      refine hK.out _ _ (HSB.out _ h3.below) (fun hHeld => ?_)
      clear hK K
      try simp only [Act.put, List.setIfInBounds_toArray, List.set_cons_zero, List.set_cons_succ]
      clear hHeld
      have hHeld := HSB.out _ h3.below
      clear h2
      change wpAnyL _ _ _ _ _ _ _ _ _ (W2.alloc (.cells #[.int .i64 (n : Int)] 3))
      generalize (W2.alloc (.cells #[.int .i64 (n : Int)] 3)) = W3 at *
      generalize W2.heap.size = A3 at *
      refine wpAnyL_ready (rs := [18]) (by kernel_rfl) (by simp) ?_
      refine (AllReadyL.cons (o := { dst := some 64, op := Op.call { callee := Callee.builtin Builtin.append, args := #[Operand.tmp 61, Operand.tmp 63], argTypes := #[ 32, 32 ] }, type := 32, pos := "ref.go:74", after := #[{ on := 15, ground := Ground.data }, { on := 17, ground := Ground.data }, { on := 15, ground := Ground.chain }], guard := none }) rfl (fun K hK => ?_) AllReadyL.nil)
      refine step_append_int rfl (.tmp 61) (.tmp 63) rfl w.heap.size _ _ _ (by rfl) h3.row (some ⟨A3, 0, none⟩) 1 1 [n] (by rfl) (fun e => by cases e) rfl (one_news (h3.ex (A3, (.cells #[.int .i64 (n : Int)] 3 (0, 0))) (by simp)).1) HS2.out h3.below.size ?_
      intro v4 W4 hr4 hg4 ho4
      have h4 := h3.grow hr4 hg4 ho4
      clear hr4 hg4 ho4
      refine hK.out _ _ (HSB.out _ h4.below) (fun hHeld => ?_)
      clear hK K
      try simp only [Act.put, List.setIfInBounds_toArray, List.set_cons_zero, List.set_cons_succ]
      refine wpAnyL_ready (rs := [28]) (by kernel_rfl) (by simp) ?_
      refine (AllReadyL.cons (o := { dst := some 74, op := Op.call { callee := Callee.builtin Builtin.append, args := #[Operand.tmp 64, Operand.tmp 73], argTypes := #[ 32, 32 ] }, type := 32, pos := "ref.go:74", after := #[{ on := 18, ground := Ground.data }, { on := 27, ground := Ground.data }, { on := 18, ground := Ground.chain }], guard := none }) rfl (fun K hK => ?_) AllReadyL.nil)
      refine step_append_int rfl (.tmp 64) (.tmp 73) rfl w.heap.size _ _ _ (by rfl) h4.row none _ _ fs (by rfl) hpf hfl (HF.out _ h4.below) HS3.out h4.below.size ?_
      intro v5 W5 hr5 hg5 ho5
      have h5 := h4.grow hr5 hg5 ho5
      obtain ⟨p5, c5, rfl⟩ := h5.form
      clear hr5 hg5 ho5
      refine hK.out _ _ (HSB.out _ h5.below) (fun hHeld => ?_)
      clear hK K
      try simp only [Act.put, List.setIfInBounds_toArray, List.set_cons_zero, List.set_cons_succ]
      refine wpAnyL_ready (rs := [29]) (by kernel_rfl) (by simp) ?_
      refine AllReadyL.last (o := { dst := some 75, op := Op.indexAddr 33 (Operand.tmp 49) (Operand.tmp 50), type := 0, pos := "ref.go:74", after := #[{ on := 3, ground := Ground.data }, { on := 4, ground := Ground.data }, { on := 0, ground := Ground.phase }, { on := 1, ground := Ground.phase }, { on := 2, ground := Ground.phase }, { on := 3, ground := Ground.phase }, { on := 4, ground := Ground.phase }, { on := 5, ground := Ground.phase }, { on := 6, ground := Ground.phase }, { on := 7, ground := Ground.phase }, { on := 8, ground := Ground.phase }, { on := 9, ground := Ground.phase }, { on := 10, ground := Ground.phase }, { on := 11, ground := Ground.phase }, { on := 12, ground := Ground.phase }, { on := 13, ground := Ground.phase }, { on := 14, ground := Ground.phase }, { on := 15, ground := Ground.phase }, { on := 16, ground := Ground.phase }, { on := 17, ground := Ground.phase }, { on := 18, ground := Ground.phase }, { on := 19, ground := Ground.phase }, { on := 20, ground := Ground.phase }, { on := 21, ground := Ground.phase }, { on := 22, ground := Ground.phase }, { on := 23, ground := Ground.phase }, { on := 24, ground := Ground.phase }, { on := 25, ground := Ground.phase }, { on := 26, ground := Ground.phase }, { on := 27, ground := Ground.phase }, { on := 28, ground := Ground.phase }], guard := none }) rfl (by kernel_rfl) (fun K hK => ?_) AllReadyL.nil
      go_simp
      refine hK.out _ _ ?_
      clear hK K
      try simp only [Act.put, List.setIfInBounds_toArray, List.set_cons_zero, List.set_cons_succ]
      have cB := (HSB.out _ h5.below).2
      have fB := HFR.out _ h5.below
      refine wpAnyL_ready (rs := [30]) (by kernel_rfl) (by simp) ?_
      refine AllReadyL.last (o := { dst := none, op := Op.store 32 (Operand.tmp 75) (Operand.tmp 74), type := 0, pos := "ref.go:74", after := #[{ on := 29, ground := Ground.data }, { on := 28, ground := Ground.data }, { on := 28, ground := Ground.chain }, { on := 0, ground := Ground.phase }, { on := 1, ground := Ground.phase }, { on := 2, ground := Ground.phase }, { on := 3, ground := Ground.phase }, { on := 4, ground := Ground.phase }, { on := 5, ground := Ground.phase }, { on := 6, ground := Ground.phase }, { on := 7, ground := Ground.phase }, { on := 8, ground := Ground.phase }, { on := 9, ground := Ground.phase }, { on := 10, ground := Ground.phase }, { on := 11, ground := Ground.phase }, { on := 12, ground := Ground.phase }, { on := 13, ground := Ground.phase }, { on := 14, ground := Ground.phase }, { on := 15, ground := Ground.phase }, { on := 16, ground := Ground.phase }, { on := 17, ground := Ground.phase }, { on := 18, ground := Ground.phase }, { on := 19, ground := Ground.phase }, { on := 20, ground := Ground.phase }, { on := 21, ground := Ground.phase }, { on := 22, ground := Ground.phase }, { on := 23, ground := Ground.phase }, { on := 24, ground := Ground.phase }, { on := 25, ground := Ground.phase }, { on := 26, ground := Ground.phase }, { on := 27, ground := Ground.phase }, { on := 28, ground := Ground.phase }], guard := none }) rfl (by kernel_rfl) (fun K hK => ?_) AllReadyL.nil
      go_simp
      refine hK.out _ _ ?_
      refine wpAnyL_done (by kernel_rfl) ?_ _
      try simp only [Act.put, List.setIfInBounds_toArray, List.set_cons_zero, List.set_cons_succ]
      exact NoPanic.normal (HQ.out _ _ _ _ _ _ _ _ _ _ _ _ _ _ _ _ _ _ _ _ _ _ _ _ _ _ _ _ _ _ _ _ _ (by have q := h5.less (ex' := []) (by simp); simpa only [Nat.zero_add, Nat.add_zero] using q))
    · go_simp
      have h6 := h1.alloc (.cells #[.int .i64 (n : Int)] 3 (0, 0))
      have hn6 : w.heap.size ≤ W1.heap.size := h1.below.size
      have hne : W1.heap.size ≠ A1 := fun e => by have := heap_lt (h1.ex (A1, _) (List.mem_cons_self ..)).1; omega
      refine hK.out _ _ (HSB.out _ h6.below) (fun hHeld => ?_)
      clear hK K
      try simp only [Act.put, List.setIfInBounds_toArray, List.set_cons_zero, List.set_cons_succ]
      clear hHeld
      have hHeld := HSB.out _ h6.below
      clear h1
      change wpAnyL _ _ _ _ _ _ _ _ _ (W1.alloc (.cells #[.int .i64 (n : Int)] 3))
      generalize (W1.alloc (.cells #[.int .i64 (n : Int)] 3)) = W6 at *
      generalize W1.heap.size = A6 at *
      refine wpAnyL_ready (rs := [15]) (by kernel_rfl) (by simp) ?_
      refine (AllReadyL.cons (o := { dst := some 61, op := Op.call { callee := Callee.builtin Builtin.append, args := #[Operand.tmp 51, Operand.tmp 60], argTypes := #[ 32, 32 ] }, type := 32, pos := "ref.go:74", after := #[{ on := 5, ground := Ground.data }, { on := 14, ground := Ground.data }], guard := none }) rfl (fun K hK => ?_) AllReadyL.nil)
      have hb7 := h6.begin_ (E := A1) (ex' := [(A6, (.cells #[.int .i64 (n : Int)] 3 (0, 0)))]) (h6.ex (A1, (.cells #[] 3 (0, 0))) (by simp)).1 hn1 (fun p hp => by rw [List.mem_singleton.1 hp]; exact ⟨by simp, hne⟩)
      refine step_append_int rfl (.tmp 51) (.tmp 60) rfl w.heap.size _ _ _ (by rfl) hb7.row none _ _ es (by rfl) hpe hel (HE.out _ hb7.below) HS1.out hb7.below.size ?_
      intro v7 W7 hr7 hg7 ho7
      have h7 := hb7.grow hr7 hg7 ho7
      clear hr7 hg7 ho7
      refine hK.out _ _ (HSB.out _ h7.below) (fun hHeld => ?_)
      clear hK K
      try simp only [Act.put, List.setIfInBounds_toArray, List.set_cons_zero, List.set_cons_succ]
      refine wpAnyL_ready (rs := [18]) (by kernel_rfl) (by simp) ?_
      refine (AllReadyL.cons (o := { dst := some 64, op := Op.call { callee := Callee.builtin Builtin.append, args := #[Operand.tmp 61, Operand.tmp 63], argTypes := #[ 32, 32 ] }, type := 32, pos := "ref.go:74", after := #[{ on := 15, ground := Ground.data }, { on := 17, ground := Ground.data }, { on := 15, ground := Ground.chain }], guard := none }) rfl (fun K hK => ?_) AllReadyL.nil)
      refine step_append_int rfl (.tmp 61) (.tmp 63) rfl w.heap.size _ _ _ (by rfl) h7.row (some ⟨A6, 0, none⟩) 1 1 [n] (by rfl) (fun e => by cases e) rfl (one_news (h7.ex (A6, (.cells #[.int .i64 (n : Int)] 3 (0, 0))) (by simp)).1) HS2.out h7.below.size ?_
      intro v8 W8 hr8 hg8 ho8
      have h8 := h7.grow hr8 hg8 ho8
      clear hr8 hg8 ho8
      refine hK.out _ _ (HSB.out _ h8.below) (fun hHeld => ?_)
      clear hK K
      try simp only [Act.put, List.setIfInBounds_toArray, List.set_cons_zero, List.set_cons_succ]
      refine wpAnyL_ready (rs := [28]) (by kernel_rfl) (by simp) ?_
      refine (AllReadyL.cons (o := { dst := some 74, op := Op.call { callee := Callee.builtin Builtin.append, args := #[Operand.tmp 64, Operand.tmp 73], argTypes := #[ 32, 32 ] }, type := 32, pos := "ref.go:74", after := #[{ on := 18, ground := Ground.data }, { on := 27, ground := Ground.data }, { on := 18, ground := Ground.chain }], guard := none }) rfl (fun K hK => ?_) AllReadyL.nil)
      refine step_append_int rfl (.tmp 64) (.tmp 73) rfl w.heap.size _ _ _ (by rfl) h8.row none _ _ fs (by rfl) hpf hfl (HF.out _ h8.below) HS3.out h8.below.size ?_
      intro v9 W9 hr9 hg9 ho9
      have h9 := h8.grow hr9 hg9 ho9
      obtain ⟨p9, c9, rfl⟩ := h9.form
      clear hr9 hg9 ho9
      refine hK.out _ _ (HSB.out _ h9.below) (fun hHeld => ?_)
      clear hK K
      try simp only [Act.put, List.setIfInBounds_toArray, List.set_cons_zero, List.set_cons_succ]
      refine wpAnyL_ready (rs := [29]) (by kernel_rfl) (by simp) ?_
      refine AllReadyL.last (o := { dst := some 75, op := Op.indexAddr 33 (Operand.tmp 49) (Operand.tmp 50), type := 0, pos := "ref.go:74", after := #[{ on := 3, ground := Ground.data }, { on := 4, ground := Ground.data }, { on := 0, ground := Ground.phase }, { on := 1, ground := Ground.phase }, { on := 2, ground := Ground.phase }, { on := 3, ground := Ground.phase }, { on := 4, ground := Ground.phase }, { on := 5, ground := Ground.phase }, { on := 6, ground := Ground.phase }, { on := 7, ground := Ground.phase }, { on := 8, ground := Ground.phase }, { on := 9, ground := Ground.phase }, { on := 10, ground := Ground.phase }, { on := 11, ground := Ground.phase }, { on := 12, ground := Ground.phase }, { on := 13, ground := Ground.phase }, { on := 14, ground := Ground.phase }, { on := 15, ground := Ground.phase }, { on := 16, ground := Ground.phase }, { on := 17, ground := Ground.phase }, { on := 18, ground := Ground.phase }, { on := 19, ground := Ground.phase }, { on := 20, ground := Ground.phase }, { on := 21, ground := Ground.phase }, { on := 22, ground := Ground.phase }, { on := 23, ground := Ground.phase }, { on := 24, ground := Ground.phase }, { on := 25, ground := Ground.phase }, { on := 26, ground := Ground.phase }, { on := 27, ground := Ground.phase }, { on := 28, ground := Ground.phase }], guard := none }) rfl (by kernel_rfl) (fun K hK => ?_) AllReadyL.nil
      go_simp
      refine hK.out _ _ ?_
      clear hK K
      try simp only [Act.put, List.setIfInBounds_toArray, List.set_cons_zero, List.set_cons_succ]
      have cB := (HSB.out _ h9.below).2
      have fB := HFR.out _ h9.below
      refine wpAnyL_ready (rs := [30]) (by kernel_rfl) (by simp) ?_
      refine AllReadyL.last (o := { dst := none, op := Op.store 32 (Operand.tmp 75) (Operand.tmp 74), type := 0, pos := "ref.go:74", after := #[{ on := 29, ground := Ground.data }, { on := 28, ground := Ground.data }, { on := 28, ground := Ground.chain }, { on := 0, ground := Ground.phase }, { on := 1, ground := Ground.phase }, { on := 2, ground := Ground.phase }, { on := 3, ground := Ground.phase }, { on := 4, ground := Ground.phase }, { on := 5, ground := Ground.phase }, { on := 6, ground := Ground.phase }, { on := 7, ground := Ground.phase }, { on := 8, ground := Ground.phase }, { on := 9, ground := Ground.phase }, { on := 10, ground := Ground.phase }, { on := 11, ground := Ground.phase }, { on := 12, ground := Ground.phase }, { on := 13, ground := Ground.phase }, { on := 14, ground := Ground.phase }, { on := 15, ground := Ground.phase }, { on := 16, ground := Ground.phase }, { on := 17, ground := Ground.phase }, { on := 18, ground := Ground.phase }, { on := 19, ground := Ground.phase }, { on := 20, ground := Ground.phase }, { on := 21, ground := Ground.phase }, { on := 22, ground := Ground.phase }, { on := 23, ground := Ground.phase }, { on := 24, ground := Ground.phase }, { on := 25, ground := Ground.phase }, { on := 26, ground := Ground.phase }, { on := 27, ground := Ground.phase }, { on := 28, ground := Ground.phase }], guard := none }) rfl (by kernel_rfl) (fun K hK => ?_) AllReadyL.nil
      go_simp
      refine hK.out _ _ ?_
      refine wpAnyL_done (by kernel_rfl) ?_ _
      try simp only [Act.put, List.setIfInBounds_toArray, List.set_cons_zero, List.set_cons_succ]
      exact NoPanic.normal (HQ.out _ _ _ _ _ _ _ _ _ _ _ _ _ _ _ _ _ _ _ _ _ _ _ _ _ _ _ _ _ _ _ _ _ (by have q := h9.less (ex' := []) (by simp); simpa only [Nat.zero_add, Nat.add_zero] using q))
  · go_simp
    have h10 := h0.alloc (.cells #[.int .i64 (n : Int)] 3 (0, 0))
    have hn10 : w.heap.size ≤ W0.heap.size := h0.below.size
    refine hK.out _ _ (HSB.out _ h10.below) (fun hHeld => ?_)
    clear hK K
    try simp only [Act.put, List.setIfInBounds_toArray, List.set_cons_zero, List.set_cons_succ]
    clear hHeld
    have hHeld := HSB.out _ h10.below
    clear h0
    change wpAnyL _ _ _ _ _ _ _ _ _ (W0.alloc (.cells #[.int .i64 (n : Int)] 3))
    generalize (W0.alloc (.cells #[.int .i64 (n : Int)] 3)) = W10 at *
    generalize W0.heap.size = A10 at *
    refine wpAnyL_ready (rs := [5]) (by kernel_rfl) (by simp) ?_
    refine (AllReadyL.cons (o := { dst := some 51, op := Op.buildSlice 32 0 #[], type := 32, pos := "ref.go:74", after := #[], guard := none }) rfl (fun K hK => ?_) AllReadyL.nil)
    go_simp
    have h11 := h10.alloc (.cells #[] 3 (0, 0))
    have hn11 : w.heap.size ≤ W10.heap.size := h10.below.size
    have hne : A10 ≠ W10.heap.size := fun e => by have := heap_lt (h10.ex (A10, _) (List.mem_cons_self ..)).1; omega
    refine hK.out _ _ (HSB.out _ h11.below) (fun hHeld => ?_)
    clear hK K
    try simp only [Act.put, List.setIfInBounds_toArray, List.set_cons_zero, List.set_cons_succ]
    clear hHeld
    have hHeld := HSB.out _ h11.below
    clear h10
    change wpAnyL _ _ _ _ _ _ _ _ _ (W10.alloc (.cells #[] 3))
    generalize (W10.alloc (.cells #[] 3)) = W11 at *
    generalize W10.heap.size = A11 at *
    refine wpAnyL_ready (rs := [15]) (by kernel_rfl) (by simp) ?_
    refine (AllReadyL.cons (o := { dst := some 61, op := Op.call { callee := Callee.builtin Builtin.append, args := #[Operand.tmp 51, Operand.tmp 60], argTypes := #[ 32, 32 ] }, type := 32, pos := "ref.go:74", after := #[{ on := 5, ground := Ground.data }, { on := 14, ground := Ground.data }], guard := none }) rfl (fun K hK => ?_) AllReadyL.nil)
    have hb12 := h11.begin_ (E := A11) (ex' := [(A10, (.cells #[.int .i64 (n : Int)] 3 (0, 0)))]) (h11.ex (A11, (.cells #[] 3 (0, 0))) (by simp)).1 hn11 (fun p hp => by rw [List.mem_singleton.1 hp]; exact ⟨by simp, hne⟩)
    refine step_append_int rfl (.tmp 51) (.tmp 60) rfl w.heap.size _ _ _ (by rfl) hb12.row none _ _ es (by rfl) hpe hel (HE.out _ hb12.below) HS1.out hb12.below.size ?_
    intro v12 W12 hr12 hg12 ho12
    have h12 := hb12.grow hr12 hg12 ho12
    clear hr12 hg12 ho12
    refine hK.out _ _ (HSB.out _ h12.below) (fun hHeld => ?_)
    clear hK K
    try simp only [Act.put, List.setIfInBounds_toArray, List.set_cons_zero, List.set_cons_succ]
    refine wpAnyL_ready (rs := [18]) (by kernel_rfl) (by simp) ?_
    refine (AllReadyL.cons (o := { dst := some 64, op := Op.call { callee := Callee.builtin Builtin.append, args := #[Operand.tmp 61, Operand.tmp 63], argTypes := #[ 32, 32 ] }, type := 32, pos := "ref.go:74", after := #[{ on := 15, ground := Ground.data }, { on := 17, ground := Ground.data }, { on := 15, ground := Ground.chain }], guard := none }) rfl (fun K hK => ?_) AllReadyL.nil)
    refine step_append_int rfl (.tmp 61) (.tmp 63) rfl w.heap.size _ _ _ (by rfl) h12.row (some ⟨A10, 0, none⟩) 1 1 [n] (by rfl) (fun e => by cases e) rfl (one_news (h12.ex (A10, (.cells #[.int .i64 (n : Int)] 3 (0, 0))) (by simp)).1) HS2.out h12.below.size ?_
    intro v13 W13 hr13 hg13 ho13
    have h13 := h12.grow hr13 hg13 ho13
    clear hr13 hg13 ho13
    refine hK.out _ _ (HSB.out _ h13.below) (fun hHeld => ?_)
    clear hK K
    try simp only [Act.put, List.setIfInBounds_toArray, List.set_cons_zero, List.set_cons_succ]
    refine wpAnyL_ready (rs := [28]) (by kernel_rfl) (by simp) ?_
    refine (AllReadyL.cons (o := { dst := some 74, op := Op.call { callee := Callee.builtin Builtin.append, args := #[Operand.tmp 64, Operand.tmp 73], argTypes := #[ 32, 32 ] }, type := 32, pos := "ref.go:74", after := #[{ on := 18, ground := Ground.data }, { on := 27, ground := Ground.data }, { on := 18, ground := Ground.chain }], guard := none }) rfl (fun K hK => ?_) AllReadyL.nil)
    refine step_append_int rfl (.tmp 64) (.tmp 73) rfl w.heap.size _ _ _ (by rfl) h13.row none _ _ fs (by rfl) hpf hfl (HF.out _ h13.below) HS3.out h13.below.size ?_
    intro v14 W14 hr14 hg14 ho14
    have h14 := h13.grow hr14 hg14 ho14
    obtain ⟨p14, c14, rfl⟩ := h14.form
    clear hr14 hg14 ho14
    refine hK.out _ _ (HSB.out _ h14.below) (fun hHeld => ?_)
    clear hK K
    try simp only [Act.put, List.setIfInBounds_toArray, List.set_cons_zero, List.set_cons_succ]
    refine wpAnyL_ready (rs := [29]) (by kernel_rfl) (by simp) ?_
    refine AllReadyL.last (o := { dst := some 75, op := Op.indexAddr 33 (Operand.tmp 49) (Operand.tmp 50), type := 0, pos := "ref.go:74", after := #[{ on := 3, ground := Ground.data }, { on := 4, ground := Ground.data }, { on := 0, ground := Ground.phase }, { on := 1, ground := Ground.phase }, { on := 2, ground := Ground.phase }, { on := 3, ground := Ground.phase }, { on := 4, ground := Ground.phase }, { on := 5, ground := Ground.phase }, { on := 6, ground := Ground.phase }, { on := 7, ground := Ground.phase }, { on := 8, ground := Ground.phase }, { on := 9, ground := Ground.phase }, { on := 10, ground := Ground.phase }, { on := 11, ground := Ground.phase }, { on := 12, ground := Ground.phase }, { on := 13, ground := Ground.phase }, { on := 14, ground := Ground.phase }, { on := 15, ground := Ground.phase }, { on := 16, ground := Ground.phase }, { on := 17, ground := Ground.phase }, { on := 18, ground := Ground.phase }, { on := 19, ground := Ground.phase }, { on := 20, ground := Ground.phase }, { on := 21, ground := Ground.phase }, { on := 22, ground := Ground.phase }, { on := 23, ground := Ground.phase }, { on := 24, ground := Ground.phase }, { on := 25, ground := Ground.phase }, { on := 26, ground := Ground.phase }, { on := 27, ground := Ground.phase }, { on := 28, ground := Ground.phase }], guard := none }) rfl (by kernel_rfl) (fun K hK => ?_) AllReadyL.nil
    go_simp
    refine hK.out _ _ ?_
    clear hK K
    try simp only [Act.put, List.setIfInBounds_toArray, List.set_cons_zero, List.set_cons_succ]
    have cB := (HSB.out _ h14.below).2
    have fB := HFR.out _ h14.below
    refine wpAnyL_ready (rs := [30]) (by kernel_rfl) (by simp) ?_
    refine AllReadyL.last (o := { dst := none, op := Op.store 32 (Operand.tmp 75) (Operand.tmp 74), type := 0, pos := "ref.go:74", after := #[{ on := 29, ground := Ground.data }, { on := 28, ground := Ground.data }, { on := 28, ground := Ground.chain }, { on := 0, ground := Ground.phase }, { on := 1, ground := Ground.phase }, { on := 2, ground := Ground.phase }, { on := 3, ground := Ground.phase }, { on := 4, ground := Ground.phase }, { on := 5, ground := Ground.phase }, { on := 6, ground := Ground.phase }, { on := 7, ground := Ground.phase }, { on := 8, ground := Ground.phase }, { on := 9, ground := Ground.phase }, { on := 10, ground := Ground.phase }, { on := 11, ground := Ground.phase }, { on := 12, ground := Ground.phase }, { on := 13, ground := Ground.phase }, { on := 14, ground := Ground.phase }, { on := 15, ground := Ground.phase }, { on := 16, ground := Ground.phase }, { on := 17, ground := Ground.phase }, { on := 18, ground := Ground.phase }, { on := 19, ground := Ground.phase }, { on := 20, ground := Ground.phase }, { on := 21, ground := Ground.phase }, { on := 22, ground := Ground.phase }, { on := 23, ground := Ground.phase }, { on := 24, ground := Ground.phase }, { on := 25, ground := Ground.phase }, { on := 26, ground := Ground.phase }, { on := 27, ground := Ground.phase }, { on := 28, ground := Ground.phase }], guard := none }) rfl (by kernel_rfl) (fun K hK => ?_) AllReadyL.nil
    go_simp
    refine hK.out _ _ ?_
    refine wpAnyL_done (by kernel_rfl) ?_ _
    try simp only [Act.put, List.setIfInBounds_toArray, List.set_cons_zero, List.set_cons_succ]
    exact NoPanic.normal (HQ.out _ _ _ _ _ _ _ _ _ _ _ _ _ _ _ _ _ _ _ _ _ _ _ _ _ _ _ _ _ _ _ _ _ (by have q := h14.less (ex' := []) (by simp); simpa only [Nat.zero_add, Nat.add_zero] using q))
end Go.Proofs.Ytbadckkcjjfnoaa
namespace Go.Proofs.Ytbadckkcjjfnoaa
open Go.RowKit

theorem link_at {S : List Cl} {n u i j : Nat} (hj : j < S.length) : ∃ h : j < (link S n u i).length, (link S n u i)[j] = ⟨S[j].d, if n = j then some u else S[j].up, if u = j then S[j].row.take i ++ [n] ++ S[j].row.drop i else S[j].row⟩ := by
  have h := link_get n u i (List.getElem?_eq_getElem hj)
  have hl : j < (link S n u i).length := by rw [link_len]; exact hj
  exact ⟨hl, by rw [List.getElem?_eq_getElem hl] at h; exact Option.some.inj h⟩
theorem upsV_link {S : List Cl} {n u i : Nat} : upsV (link S n u i) = (upsV S).set n (.int .i64 (u : Int)) := by
  unfold upsV
  apply List.ext_getElem
  · simp [link_len]
  · intro j h1 h2
    have hj : j < S.length := by simpa using h2
    obtain ⟨hl, e⟩ := link_at (n := n) (u := u) (i := i) hj
    rw [List.getElem_map, e, List.getElem_set]
    by_cases hnj : n = j
    · rw [if_pos hnj, if_pos hnj]
      rfl
    · rw [if_neg hnj, if_neg hnj, List.getElem_map]
theorem nodes_link {S : List Cl} {n u i : Nat} : (link S n u i).map (·.d) = S.map (·.d) := by
  apply List.ext_getElem
  · simp [link_len]
  · intro j h1 h2
    have hj : j < S.length := by simpa using h2
    obtain ⟨hl, e⟩ := link_at (n := n) (u := u) (i := i) hj
    rw [List.getElem_map, e, List.getElem_map]
theorem intsV_app (a b : List Nat) : intsV (a ++ b) = intsV a ++ intsV b := by simp [intsV]
theorem RefQ6.linked {M P : Nat → Prop} {w w1 : World} {B gN gU gR cN cU cR n u i c' : Nat} {S : List Cl} {p' : Option Addr} {qs : List (Nd × Value × Value)} {rv : List Value} (h : RefQ6 M P w B S (.slice (some ⟨gN, 0, none⟩) S.length cN) (.slice (some ⟨gU, 0, none⟩) S.length cU) (.slice (some ⟨gR, 0, none⟩) S.length cR) qs rv)
    (hu : u < S.length) (L : List Nat) (hL : L = S[u].row.take i ++ [n] ++ S[u].row.drop i) (hx : RowX w w1 (.slice p' L.length c') L.length (intsV L) []) :
    RStep6 w M P B (link S n u i) ((w1.setCell ⟨gR, u, none⟩ (.slice p' L.length c')).setCell ⟨gU, n, none⟩ (.int .i64 (u : Int))) := by
  have hb := hx.below
  have z := hb.size
  have h1 := (h.on hb).own
  have m1 : M gU := by
    rcases h.own.mU gU rfl with k | k
    · exact k
    · have := (h.own.rU.lt gU rfl).2; omega
  have m2 : M gR := by
    rcases h.own.mR gR rfl with k | k
    · exact k
    · have := (h.own.rR.lt gR rfl).2; omega
  obtain ⟨r2, g2⟩ := h1.rR.stored u (.slice p' L.length c')
  have h2 := h1.growR r2 g2 rfl (.inl rfl)
  obtain ⟨r3, g3⟩ := h2.rU.stored n (.int .i64 (u : Int))
  have h3 := h2.growU r3 g3 rfl (.inl rfl)
  have t3 : Turns M w ((w1.setCell ⟨gR, u, none⟩ (.slice p' L.length c')).setCell ⟨gU, n, none⟩ (.int .i64 (u : Int))) := ((Turns.of_below hb).setCell (.inl m2) u _).setCell (.inl m1) n _
  have t13 : Turns M w1 ((w1.setCell ⟨gR, u, none⟩ (.slice p' L.length c')).setCell ⟨gU, n, none⟩ (.int .i64 (u : Int))) := ((Turns.refl M w1).setCell (.inl m2) u _).setCell (.inl m1) n _
  have zz : ((w1.setCell ⟨gR, u, none⟩ (.slice p' L.length c')).setCell ⟨gU, n, none⟩ (.int .i64 (u : Int))).heap.size = w1.heap.size := by simp
  have hP : ∀ b, NewP6 P w w1 b → ¬ M b := by
    rintro b (k | k) q
    · exact h.pM b k q
    · have := h.min b q; omega
  have hk : Kept P w ((w1.setCell ⟨gR, u, none⟩ (.slice p' L.length c')).setCell ⟨gU, n, none⟩ (.int .i64 (u : Int))) := t3.kept fun b _ k => h.pM b k
  refine ⟨M, NewP6 P w w1, ⟨.slice (some ⟨gN, 0, none⟩) S.length cN, .slice (some ⟨gU, 0, none⟩) S.length cU, .slice (some ⟨gR, 0, none⟩) S.length cR, qs, rv.set u (.slice p' L.length c'), ?_, h.mB, fun b k => ?_, ?_, hP, ?_, ?_, ?_, fun q hq => ⟨((h.attrs q hq).1.kept hk).mono fun b k _ => .inl k, (h.attrs q hq).2⟩, ?_, fun j hj => ?_⟩, fun _ _ k => k, ?_, t3⟩
  · rw [link_len, upsV_link]
    exact h3.rebase fun b k1 k2 => by
      rcases k2 with k2 | k2
      · exact k2
      · rw [zz] at k1; omega
  · have := h.min b k; rw [zz]; omega
  · rintro b (k | k)
    · have := h.pin b k; rw [zz]; omega
    · rw [zz]; exact k.2
  · rw [link_len]; exact h.pos
  · rw [link_len]; exact h.len
  · rw [nodes_link]; exact h.nodes
  · rw [List.length_set, link_len]; exact h.rlen
  · rw [link_len] at hj
    obtain ⟨hl, e⟩ := link_at (n := n) (u := u) (i := i) hj
    rw [e]
    by_cases huj : u = j
    · subst huj
      refine ⟨.slice p' L.length c', by rw [List.getElem?_set_self (by rw [h.rlen]; exact hu)], ?_⟩
      rw [if_pos rfl, ← hL]
      have hnum := NumsP.of_row (l := L) hx.row
      refine (hnum.mono (Q := fun b => w.heap.size ≤ b ∧ b < w1.heap.size) fun b k hb => ⟨k, hb⟩).kept (t13.kept fun b hb k q => ?_) |>.mono fun b k _ => .inr k
      have := h.min b q
      omega
    · obtain ⟨v, hv, hr⟩ := h.rows j hj
      refine ⟨v, by rw [List.getElem?_set_ne huj]; exact hv, ?_⟩
      rw [if_neg huj]
      exact (hr.kept hk).mono fun b k _ => .inl k
  · rintro b hb2 (k | k)
    · exact k
    · omega
theorem RStep6.same {M P : Nat → Prop} {w : World} {B : Nat} {S : List Cl} (h : RefD M P w B S) : RStep6 w M P B S w := ⟨M, P, h, fun _ _ k => k, fun _ _ k => k, Turns.refl _ _⟩
end Go.Proofs.Ytbadckkcjjfnoaa
namespace Go.Proofs.Ytbadckkcjjfnoaa
open Go.RowKit

theorem add_plain6 (b o k : Nat) : (⟨b, o, none⟩ : Addr).add k = ⟨b, o + k, none⟩ := by unfold Addr.add; split <;> simp_all
/-- What Put answers and leaves. -/
def PutOut6 (S : List Cl) (w : World) (M P : Nat → Prop) (B : Nat) (n up ahead : Int) (e : Ending) (w' : World) : Prop :=
  ∃ b, (isN S n = true → isEl S up = true → (b = true ↔ Anc S up.toNat n.toNat)) ∧ e = .returned (.bool (putD S n up ahead b).2) ∧ RStep6 w M P B (putD S n up ahead b).1 w'
theorem putD_no {S : List Cl} {n up ahead : Int} {b : Bool} (h : (isN S n && isEl S up && !(n == 0) && (upAt S n.toNat).isNone && !b) = false) : putD S n up ahead b = (S, false) := by
  unfold putD
  rw [if_neg (by rw [h]; decide)]
theorem PutOut6.no {S : List Cl} {w : World} {M P : Nat → Prop} {B : Nat} {n up ahead : Int} {b : Bool} (hb : isN S n = true → isEl S up = true → (b = true ↔ Anc S up.toNat n.toNat)) (hp : putD S n up ahead b = (S, false)) (hs : RStep6 w M P B S w) : PutOut6 S w M P B n up ahead (.returned (.bool false)) w :=
  ⟨b, hb, by rw [hp], by rw [hp]; exact hs⟩
theorem PutOut6.yes {S S' : List Cl} {w w' : World} {M P : Nat → Prop} {B : Nat} {n up ahead : Int} {b : Bool} (hb : b = true ↔ Anc S up.toNat n.toNat) (hp : putD S n up ahead b = (S', true)) (hs : RStep6 w M P B S' w') : PutOut6 S w M P B n up ahead (.returned (.bool true)) w' :=
  ⟨b, fun _ _ => hb, by rw [hp], by rw [hp]; exact hs⟩
set_option maxHeartbeats 4000000 in
set_option maxRecDepth 100000 in
theorem rputP6 (S : List Cl) (B : Nat) (M P : Nat → Prop) (w : World) (n up ahead : Int) (h : RefD M P w B S) (hI : Inv S) (hrow : ∀ c ∈ S, c.row.length ≤ 100000) :
    Calls Try.prog 64 #[.pointer (some ⟨B, 0, none⟩), .int .i64 n, .int .i64 up, .int .i64 ahead] w (PutOut6 S w M P B n up ahead) := by
  have HS := Lib.hid (RStep6.same h)
  have HRD := Lib.hid h.rdoc
  have HI := Lib.hid (ris_any S B w n h.rdoc)
  have HEL := Lib.hid (relem_any S B w up h.rdoc)
  have HINV := Lib.hid hI
  have HROW := Lib.hid hrow
  clear hI hrow
  cases hn : isN S n
  · rw [hn] at HI
    have HP := Lib.hid (putD_no (S := S) (n := n) (up := up) (ahead := ahead) (b := false) (by rw [hn]; rfl))
    clear h
    go_enter Try.func64, Try.ntmps64
    go_wp2_with fail
    refine HI.out.mono ?_
    rintro e w1 ⟨rfl, rfl⟩
    go_wp2_with fail
    go_ret
    exact PutOut6.no (b := false) (fun k => by rw [hn] at k; cases k) HP.out HS.out
  · rw [hn] at HI
    cases he : isEl S up
    · rw [he] at HEL
      have HP := Lib.hid (putD_no (S := S) (n := n) (up := up) (ahead := ahead) (b := false) (by rw [he]; simp))
      clear h
      go_enter Try.func64, Try.ntmps64
      go_wp2_with fail
      refine HI.out.mono ?_
      rintro e w1 ⟨rfl, rfl⟩
      go_wp2_with fail
      refine HEL.out.mono ?_
      rintro e w1 ⟨rfl, rfl⟩
      go_wp2_with fail
      go_ret
      exact PutOut6.no (b := false) (fun _ k => by rw [he] at k; cases k) HP.out HS.out
    · rw [he] at HEL
      obtain ⟨n0, n1⟩ := (isN_iff S n).1 hn
      obtain ⟨nn, rfl⟩ : ∃ nn : Nat, n = (nn : Int) := ⟨n.toNat, by omega⟩
      have hup : isN S up = true := by unfold isEl at he; simp only [Bool.and_eq_true] at he; exact he.1
      obtain ⟨u0, u1⟩ := (isN_iff S up).1 hup
      obtain ⟨u, rfl⟩ : ∃ u : Nat, up = (u : Int) := ⟨up.toNat, by omega⟩
      have hnn : nn < S.length := by omega
      have hu : u < S.length := by omega
      have HBL := Lib.hid (rbelow_any S B w u nn HRD.out HINV.out hu)
      have HPL := Lib.hid (rplace_any S B w u ahead HRD.out hu (by have := HROW.out S[u] (List.getElem_mem hu); omega))
      obtain ⟨vN, vU, vR, qs, rv, hq⟩ := h
      obtain ⟨gN, cN, gU, cU, gR, cR, rfl, rfl, rfl⟩ := hq.forms
      have HQ := Lib.hid hq
      have hbk := hq.own.at_ (List.mem_singleton.2 rfl)
      have hB1 := (block_cell6 hbk 1).1
      have hB2 := (block_cell6 hbk 2).1
      simp at hB1 hB2
      have hBlt : B < w.heap.size := heap_lt hbk
      have hUlt := (hq.own.rU.lt gU rfl).2
      have hRlt := (hq.own.rR.lt gR rfl).2
      have hcU : w.cell? ⟨gU, nn, none⟩ = some (.int .i64 (upI S[nn].up)) := by
        rw [hq.own.rU.cellAt nn (by omega)]
        unfold upsV
        rw [List.getElem?_map, List.getElem?_eq_getElem hnn]
        rfl
      have HNE : Hid (gR ≠ B ∧ gR ≠ gU) := Lib.hid ⟨fun e => (hq.own.ex _ (List.mem_singleton.2 rfl)).2.2.2 (by rw [← e]; rfl), fun e => hq.own.nUR gU rfl (by rw [← e]; rfl)⟩
      have HFU := Lib.hid (hq.own.rU.frozenAt nn)
      have HFR := Lib.hid (hq.own.rR.frozenAt u)
      obtain ⟨rowv, hrv, hnum⟩ := hq.rows u hu
      have hcR : w.cell? ⟨gR, u, none⟩ = some rowv := by rw [hq.own.rR.cellAt u (by omega)]; exact hrv
      have HNU := Lib.hid hnum
      have hrl : S[u].row.length ≤ 100000 := HROW.out S[u] (List.getElem_mem hu)
      obtain ⟨L, hL⟩ : ∃ L, L = S[u].row := ⟨_, rfl⟩
      have HL := Lib.hid hL
      rw [← hL] at HNU hrl
      clear hq hbk hnum hrv hL n0 n1 u0 u1 hup
      by_cases h0 : nn = 0
      · have p0 : ((nn : Int) == 0) = true := by simp [h0]
        obtain ⟨b0, hb0⟩ : ∃ b0 : Bool, (b0 = true ↔ Anc S u nn) := by
          by_cases ha : Anc S u nn
          · exact ⟨true, by simp [ha]⟩
          · exact ⟨false, by simp [ha]⟩
        have HP := Lib.hid (putD_no (S := S) (n := (nn : Int)) (up := (u : Int)) (ahead := ahead) (b := b0) (by rw [p0]; simp))
        have HB0 := Lib.hid hb0
        have HP0 := Lib.hid p0
        clear p0 h0
        clear hb0 HBL HPL HFU HFR
        go_enter Try.func64, Try.ntmps64
        go_wp2_with fail
        refine HI.out.mono ?_
        rintro e w1 ⟨rfl, rfl⟩
        go_wp2_with fail
        refine HEL.out.mono ?_
        rintro e w1 ⟨rfl, rfl⟩
        have p0 := HP0.out
        go_wp2_with fail
        go_ret
        exact PutOut6.no (b := b0) (fun _ _ => HB0.out) HP.out HS.out
      · have p0 : ((nn : Int) == 0) = false := beq_eq_false_iff_ne.2 (by omega)
        clear h0
        cases hua : S[nn].up with
        | some k =>
          obtain ⟨b0, hb0⟩ : ∃ b0 : Bool, (b0 = true ↔ Anc S u nn) := by
            by_cases ha : Anc S u nn
            · exact ⟨true, by simp [ha]⟩
            · exact ⟨false, by simp [ha]⟩
          have HP := Lib.hid (putD_no (S := S) (n := (nn : Int)) (up := (u : Int)) (ahead := ahead) (b := b0) (by rw [show ((nn : Int)).toNat = nn from rfl, up_get hnn, hua]; simp))
          have HB0 := Lib.hid hb0
          rw [hua] at hcU
          have p1 : (0 : Int) ≤ (k : Int) := by omega
          have p2 : upI (some k) = (k : Int) := rfl
          rw [p2] at hcU
          clear hb0 HBL HPL HFU HFR
          go_enter Try.func64, Try.ntmps64
          go_wp2_with fail
          refine HI.out.mono ?_
          rintro e w1 ⟨rfl, rfl⟩
          go_wp2_with fail
          refine HEL.out.mono ?_
          rintro e w1 ⟨rfl, rfl⟩
          go_wp2_with fail
          go_ret
          exact PutOut6.no (b := b0) (fun _ _ => HB0.out) HP.out HS.out
        | none =>
          rw [hua] at hcU
          have p2 : upI none = -1 := rfl
          rw [p2] at hcU
          go_enter Try.func64, Try.ntmps64
          go_wp2_with fail
          refine HI.out.mono ?_
          rintro e w1 ⟨rfl, rfl⟩
          go_wp2_with fail
          refine HEL.out.mono ?_
          rintro e w1 ⟨rfl, rfl⟩
          go_wp2_with fail
          refine HBL.out.mono ?_
          rintro e w1 ⟨b, rfl, hb, rfl⟩
          have HB0 := Lib.hid hb
          clear hb
          cases b
          case true =>
            have HP := Lib.hid (putD_no (S := S) (n := (nn : Int)) (up := (u : Int)) (ahead := ahead) (b := true) (by simp))
            go_wp2_with fail
            go_ret
            exact PutOut6.no (b := true) (fun _ _ => by simpa using HB0.out) HP.out HS.out
          case false =>
            cases hsp : spot S u ahead with
            | none =>
              have HP : Hid (putD S (nn : Int) (u : Int) ahead false = (S, false)) := Lib.hid (by
                unfold putD
                split
                · rw [show ((u : Int)).toNat = u from rfl, hsp]
                · rfl)
              rw [hsp] at HPL
              have p3 : placeI none = -1 := rfl
              rw [p3] at HPL
              go_wp2_with fail
              refine HPL.out.mono ?_
              rintro e w1 ⟨rfl, rfl⟩
              go_wp2_with fail
              go_ret
              exact PutOut6.no (b := false) (fun _ _ => by simpa using HB0.out) HP.out HS.out
            | some k =>
              have HPD : Hid (putD S (nn : Int) (u : Int) ahead false = (link S nn u k, true)) := Lib.hid (by
                unfold putD
                rw [if_pos (by rw [hn, he, p0, show ((nn : Int)).toNat = nn from rfl, up_get hnn, hua]; rfl)]
                rw [show ((u : Int)).toNat = u from rfl, hsp]
                rfl)
              have hkl : k ≤ L.length := by
                rw [HL.out, ← row_get hu]
                unfold spot at hsp
                split at hsp
                · injection hsp with hsp; omega
                · obtain ⟨x, hx, _⟩ := place_at _ _ _ hsp
                  exact Nat.le_of_lt (lt_of_some hx)
              rw [hsp] at HPL
              have p3 : placeI (some k) = (k : Int) := rfl
              rw [p3] at HPL
              have p4 : (0 : Int) ≤ (k : Int) := by omega
              go_wp2_with fail
              refine HPL.out.mono ?_
              rintro e w1 ⟨rfl, rfl⟩
              clear HI HEL HBL HPL HRD HINV HS hsp
              obtain ⟨p, cap, rfl, hlc, hpc, hnm⟩ := HNU.out
              go_upto_region 6 with fail
              cases p with
              | none =>
                obtain rfl : cap = 0 := hpc rfl
                have hl0 : L = [] := List.eq_nil_of_length_eq_zero (by omega)
                subst hl0
                obtain rfl : k = 0 := by simpa using hkl
                refine rput6_regN (n := nn) (es := []) (fs := []) hBlt hRlt hB2 hcR HFR.out hu rfl rfl (fun W hb ad e j hj => by cases hj) (fun W hb ad e j hj => by cases hj) ?_
                intro y46 y47 y48 y49 y50 y51 y52 y53 y54 y55 y56 y57 y58 y59 y60 y61 y62 y63 y64 y65 y66 y67 y68 y69 y70 y71 y72 y73 y74 y75 p' c' w2 hx
                have hLL : (([] : List Nat).take 0 ++ [nn] ++ ([] : List Nat).drop 0).length = 1 := by simp
                have hx2 : RowX w w2 (.slice p' (([] : List Nat).take 0 ++ [nn] ++ ([] : List Nat).drop 0).length c') (([] : List Nat).take 0 ++ [nn] ++ ([] : List Nat).drop 0).length (intsV (([] : List Nat).take 0 ++ [nn] ++ ([] : List Nat).drop 0)) [] := by
                  rw [hLL, intsV_app, intsV_app]
                  simpa using hx
                have b1 : (w2.setCell ⟨gR, u, none⟩ (.slice p' (1) c')).cell? ⟨B, 1, none⟩ = some (.slice (some ⟨gU, 0, none⟩) S.length cU) := (World.cell?_setCell_other _ _ _ _ (by intro e; injection e with e; exact HNE.out.1 e)).trans ((hx.below.cell (p := ⟨B, 1, none⟩) hBlt).trans hB1)
                have c1 : (w2.setCell ⟨gR, u, none⟩ (.slice p' (1) c')).cell? ⟨gU, nn, none⟩ = some (.int .i64 (-1)) := (World.cell?_setCell_other _ _ _ _ (by intro e; injection e with e; exact HNE.out.2 e)).trans ((hx.below.cell (p := ⟨gU, nn, none⟩) hUlt).trans hcU)
                have f1 : (w2.setCell ⟨gR, u, none⟩ (.slice p' (1) c')).frozen? ⟨gU, nn, none⟩ = false := by
                  have e : (w2.setCell ⟨gR, u, none⟩ (.slice p' (1) c')).frozen? ⟨gU, nn, none⟩ = w2.frozen? ⟨gU, nn, none⟩ := by simp
                  rw [e, World.frozen?_of_block (w := w) (hx.below.block gU hUlt)]
                  exact HFU.out
                have HST := Lib.hid (HQ.out.linked (n := nn) (u := u) (i := 0) hu _ (by rw [← HL.out]) hx2)
                rw [hLL] at HST
                have q0 : (0 : Int) ≤ (nn : Int) := by omega
                have q1 : (nn : Int) < (S.length : Int) := by omega
                clear hx hx2 hLL
                go_wp2_with fail
                go_ret
                exact PutOut6.yes (b := false) (by simpa using HB0.out) HPD.out HST.out
              | some ad =>
                obtain ⟨g, o, s⟩ := ad
                obtain ⟨rfl, _, hglt, hcell⟩ := hnm g o s rfl
                have hE : ∀ W, Below w.heap.size w W → ∀ ad, (some ⟨g, o, none⟩ : Option Addr) = some ad → ∀ j (hj : j < (L.take k).length), W.cell? (ad.add j) = some (.int .i64 ((L.take k)[j] : Int)) := by
                  intro W hb ad e j hj
                  obtain rfl : (⟨g, o, none⟩ : Addr) = ad := Option.some.inj e
                  have hj2 : j < L.length := by rw [List.length_take] at hj; omega
                  rw [add_plain6, (hb.cell (p := ⟨g, o + j, none⟩) hglt), hcell j hj2]
                  simp
                by_cases hkc : k < cap
                · have hF : ∀ W, Below w.heap.size w W → ∀ ad, (some ⟨g, o + k, none⟩ : Option Addr) = some ad → ∀ j (hj : j < (L.drop k).length), W.cell? (ad.add j) = some (.int .i64 ((L.drop k)[j] : Int)) := by
                    intro W hb ad e j hj
                    obtain rfl : (⟨g, o + k, none⟩ : Addr) = ad := Option.some.inj e
                    have hj2 : k + j < L.length := by rw [List.length_drop] at hj; omega
                    rw [add_plain6, (hb.cell (p := ⟨g, o + k + j, none⟩) hglt), Nat.add_assoc, hcell (k + j) hj2]
                    simp
                  refine rput6_regA (n := nn) (es := L.take k) (fs := L.drop k) hBlt hRlt hB2 hcR HFR.out hu hkl hkc hrl (by rw [List.length_take]; omega) (by rw [List.length_drop]) hE hF ?_
                  intro y46 y47 y48 y49 y50 y51 y52 y53 y54 y55 y56 y57 y58 y59 y60 y61 y62 y63 y64 y65 y66 y67 y68 y69 y70 y71 y72 y73 y74 y75 p' c' w2 hx
                  have hLL : (L.take k ++ [nn] ++ L.drop k).length = k + 1 + (L.length - k) := by simp [List.length_take, List.length_drop]; omega
                  have hx2 : RowX w w2 (.slice p' (L.take k ++ [nn] ++ L.drop k).length c') (L.take k ++ [nn] ++ L.drop k).length (intsV (L.take k ++ [nn] ++ L.drop k)) [] := by
                    rw [hLL, intsV_app, intsV_app]
                    simpa only [List.nil_append] using hx
                  have b1 : (w2.setCell ⟨gR, u, none⟩ (.slice p' (k + 1 + (L.length - k)) c')).cell? ⟨B, 1, none⟩ = some (.slice (some ⟨gU, 0, none⟩) S.length cU) := (World.cell?_setCell_other _ _ _ _ (by intro e; injection e with e; exact HNE.out.1 e)).trans ((hx.below.cell (p := ⟨B, 1, none⟩) hBlt).trans hB1)
                  have c1 : (w2.setCell ⟨gR, u, none⟩ (.slice p' (k + 1 + (L.length - k)) c')).cell? ⟨gU, nn, none⟩ = some (.int .i64 (-1)) := (World.cell?_setCell_other _ _ _ _ (by intro e; injection e with e; exact HNE.out.2 e)).trans ((hx.below.cell (p := ⟨gU, nn, none⟩) hUlt).trans hcU)
                  have f1 : (w2.setCell ⟨gR, u, none⟩ (.slice p' (k + 1 + (L.length - k)) c')).frozen? ⟨gU, nn, none⟩ = false := by
                    have e : (w2.setCell ⟨gR, u, none⟩ (.slice p' (k + 1 + (L.length - k)) c')).frozen? ⟨gU, nn, none⟩ = w2.frozen? ⟨gU, nn, none⟩ := by simp
                    rw [e, World.frozen?_of_block (w := w) (hx.below.block gU hUlt)]
                    exact HFU.out
                  have HST := Lib.hid (HQ.out.linked (n := nn) (u := u) (i := k) hu _ (by rw [← HL.out]) hx2)
                  rw [hLL] at HST
                  have q0 : (0 : Int) ≤ (nn : Int) := by omega
                  have q1 : (nn : Int) < (S.length : Int) := by omega
                  clear hx hx2 hLL
                  go_wp2_with fail
                  go_ret
                  exact PutOut6.yes (b := false) (by simpa using HB0.out) HPD.out HST.out
                · have hk2 : k = cap := by omega
                  subst hk2
                  have hll : L.length = k := by omega
                  have hfs : L.drop k = [] := by rw [← hll]; exact List.drop_length
                  rw [hll] at hcR
                  refine rput6_regB (n := nn) (es := L.take k) (fs := []) hBlt hRlt hB2 hcR HFR.out hu (by omega) (by rw [List.length_take]; omega) rfl hE (fun W hb ad e j hj => by cases hj) ?_
                  intro y46 y47 y48 y49 y50 y51 y52 y53 y54 y55 y56 y57 y58 y59 y60 y61 y62 y63 y64 y65 y66 y67 y68 y69 y70 y71 y72 y73 y74 y75 p' c' w2 hx
                  have hLL : (L.take k ++ [nn] ++ L.drop k).length = k + 1 := by simp [List.length_take, List.length_drop]; omega
                  have hx2 : RowX w w2 (.slice p' (L.take k ++ [nn] ++ L.drop k).length c') (L.take k ++ [nn] ++ L.drop k).length (intsV (L.take k ++ [nn] ++ L.drop k)) [] := by
                    rw [hLL, intsV_app, intsV_app]
                    rw [hfs]; simpa only [List.nil_append] using hx
                  have b1 : (w2.setCell ⟨gR, u, none⟩ (.slice p' (k + 1) c')).cell? ⟨B, 1, none⟩ = some (.slice (some ⟨gU, 0, none⟩) S.length cU) := (World.cell?_setCell_other _ _ _ _ (by intro e; injection e with e; exact HNE.out.1 e)).trans ((hx.below.cell (p := ⟨B, 1, none⟩) hBlt).trans hB1)
                  have c1 : (w2.setCell ⟨gR, u, none⟩ (.slice p' (k + 1) c')).cell? ⟨gU, nn, none⟩ = some (.int .i64 (-1)) := (World.cell?_setCell_other _ _ _ _ (by intro e; injection e with e; exact HNE.out.2 e)).trans ((hx.below.cell (p := ⟨gU, nn, none⟩) hUlt).trans hcU)
                  have f1 : (w2.setCell ⟨gR, u, none⟩ (.slice p' (k + 1) c')).frozen? ⟨gU, nn, none⟩ = false := by
                    have e : (w2.setCell ⟨gR, u, none⟩ (.slice p' (k + 1) c')).frozen? ⟨gU, nn, none⟩ = w2.frozen? ⟨gU, nn, none⟩ := by simp
                    rw [e, World.frozen?_of_block (w := w) (hx.below.block gU hUlt)]
                    exact HFU.out
                  have HST := Lib.hid (HQ.out.linked (n := nn) (u := u) (i := k) hu _ (by rw [← HL.out]) hx2)
                  rw [hLL] at HST
                  have q0 : (0 : Int) ≤ (nn : Int) := by omega
                  have q1 : (nn : Int) < (S.length : Int) := by omega
                  clear hx hx2 hLL
                  go_wp2_with fail
                  go_ret
                  exact PutOut6.yes (b := false) (by simpa using HB0.out) HPD.out HST.out
end Go.Proofs.Ytbadckkcjjfnoaa
