/-
  The drawn region of the reference's Move for nodes by numbers, over an opaque post.
-/
import Derived.Test.YtkoijkdhmfnlbaaDRefA
namespace Go.Proofs.Ytkoijkdhmfnlbaa
open Go.RowKit

def rmove6_reg_ops : Array Oper := #[{ dst := some 59, op := Op.move (Operand.tmp 0), type := 26, pos := "ref.go:122", after := #[], guard := none }, { dst := some 60, op := Op.nilCheck (Operand.tmp 59), type := 0, pos := "ref.go:122", after := #[{ on := 0, ground := Ground.data }], guard := none }, { dst := some 61, op := Op.fieldAddr 35 (Operand.tmp 60) 2, type := 0, pos := "ref.go:122", after := #[{ on := 1, ground := Ground.data }], guard := none }, { dst := some 62, op := Op.load 33 (Operand.tmp 61), type := 33, pos := "ref.go:122", after := #[{ on := 2, ground := Ground.data }], guard := none }, { dst := some 63, op := Op.move (Operand.tmp 2), type := 3, pos := "ref.go:122", after := #[], guard := none }, { dst := some 64, op := Op.buildSlice 32 0 #[], type := 32, pos := "ref.go:122", after := #[], guard := none }, { dst := some 65, op := Op.move (Operand.tmp 0), type := 26, pos := "ref.go:122", after := #[], guard := none }, { dst := some 66, op := Op.nilCheck (Operand.tmp 65), type := 0, pos := "ref.go:122", after := #[{ on := 6, ground := Ground.data }], guard := none }, { dst := some 67, op := Op.fieldAddr 35 (Operand.tmp 66) 2, type := 0, pos := "ref.go:122", after := #[{ on := 7, ground := Ground.data }], guard := none }, { dst := some 68, op := Op.load 33 (Operand.tmp 67), type := 33, pos := "ref.go:122", after := #[{ on := 8, ground := Ground.data }], guard := none }, { dst := some 69, op := Op.move (Operand.tmp 2), type := 3, pos := "ref.go:122", after := #[], guard := none }, { dst := some 70, op := Op.indexAddr 33 (Operand.tmp 68) (Operand.tmp 69), type := 0, pos := "ref.go:122", after := #[{ on := 9, ground := Ground.data }, { on := 10, ground := Ground.data }], guard := none }, { dst := some 71, op := Op.load 32 (Operand.tmp 70), type := 32, pos := "ref.go:122", after := #[{ on := 11, ground := Ground.data }], guard := none }, { dst := some 72, op := Op.call { callee := Callee.builtin Builtin.append, args := #[Operand.tmp 64, Operand.tmp 71], argTypes := #[ 32, 32 ] }, type := 32, pos := "ref.go:122", after := #[{ on := 5, ground := Ground.data }, { on := 12, ground := Ground.data }], guard := none }, { dst := some 73, op := Op.move (Operand.tmp 0), type := 26, pos := "ref.go:122", after := #[], guard := none }, { dst := some 74, op := Op.nilCheck (Operand.tmp 73), type := 0, pos := "ref.go:122", after := #[{ on := 14, ground := Ground.data }], guard := none }, { dst := some 75, op := Op.fieldAddr 35 (Operand.tmp 74) 2, type := 0, pos := "ref.go:122", after := #[{ on := 15, ground := Ground.data }], guard := none }, { dst := some 76, op := Op.load 33 (Operand.tmp 75), type := 33, pos := "ref.go:122", after := #[{ on := 16, ground := Ground.data }], guard := none }, { dst := some 77, op := Op.move (Operand.tmp 1), type := 3, pos := "ref.go:122", after := #[], guard := none }, { dst := some 78, op := Op.indexAddr 33 (Operand.tmp 76) (Operand.tmp 77), type := 0, pos := "ref.go:122", after := #[{ on := 17, ground := Ground.data }, { on := 18, ground := Ground.data }], guard := none }, { dst := some 79, op := Op.load 32 (Operand.tmp 78), type := 32, pos := "ref.go:122", after := #[{ on := 19, ground := Ground.data }], guard := none }, { dst := some 80, op := Op.call { callee := Callee.builtin Builtin.append, args := #[Operand.tmp 72, Operand.tmp 79], argTypes := #[ 32, 32 ] }, type := 32, pos := "ref.go:122", after := #[{ on := 13, ground := Ground.data }, { on := 20, ground := Ground.data }, { on := 13, ground := Ground.chain }], guard := none }, { dst := some 81, op := Op.indexAddr 33 (Operand.tmp 62) (Operand.tmp 63), type := 0, pos := "ref.go:122", after := #[{ on := 3, ground := Ground.data }, { on := 4, ground := Ground.data }, { on := 0, ground := Ground.phase }, { on := 1, ground := Ground.phase }, { on := 2, ground := Ground.phase }, { on := 3, ground := Ground.phase }, { on := 4, ground := Ground.phase }, { on := 5, ground := Ground.phase }, { on := 6, ground := Ground.phase }, { on := 7, ground := Ground.phase }, { on := 8, ground := Ground.phase }, { on := 9, ground := Ground.phase }, { on := 10, ground := Ground.phase }, { on := 11, ground := Ground.phase }, { on := 12, ground := Ground.phase }, { on := 13, ground := Ground.phase }, { on := 14, ground := Ground.phase }, { on := 15, ground := Ground.phase }, { on := 16, ground := Ground.phase }, { on := 17, ground := Ground.phase }, { on := 18, ground := Ground.phase }, { on := 19, ground := Ground.phase }, { on := 20, ground := Ground.phase }, { on := 21, ground := Ground.phase }], guard := none }, { dst := none, op := Op.store 32 (Operand.tmp 81) (Operand.tmp 80), type := 0, pos := "ref.go:122", after := #[{ on := 22, ground := Ground.data }, { on := 21, ground := Ground.data }, { on := 21, ground := Ground.chain }, { on := 0, ground := Ground.phase }, { on := 1, ground := Ground.phase }, { on := 2, ground := Ground.phase }, { on := 3, ground := Ground.phase }, { on := 4, ground := Ground.phase }, { on := 5, ground := Ground.phase }, { on := 6, ground := Ground.phase }, { on := 7, ground := Ground.phase }, { on := 8, ground := Ground.phase }, { on := 9, ground := Ground.phase }, { on := 10, ground := Ground.phase }, { on := 11, ground := Ground.phase }, { on := 12, ground := Ground.phase }, { on := 13, ground := Ground.phase }, { on := 14, ground := Ground.phase }, { on := 15, ground := Ground.phase }, { on := 16, ground := Ground.phase }, { on := 17, ground := Ground.phase }, { on := 18, ground := Ground.phase }, { on := 19, ground := Ground.phase }, { on := 20, ground := Ground.phase }, { on := 21, ground := Ground.phase }], guard := none }]
set_option maxHeartbeats 8000000 in
set_option maxRecDepth 100000 in
theorem rmove6_reg {w : World} {es fs : List Nat} {B gR m cR u f l1 c1 l2 c2 : Nat} {pe pf : Option Addr} {Q : Exit → Act → World → Prop} {u3 u4 u5 u6 u7 u8 u9 u10 u11 u12 u13 u14 u15 u16 u17 u18 u19 u20 u21 u22 u23 u24 u25 u26 u27 u28 u29 u30 u31 u32 u33 u34 u35 u36 u37 u38 u39 u40 u41 u42 u43 u44 u45 u46 u47 u48 u49 u50 u51 u52 u53 u54 u55 u56 u57 u58 u59 u60 u61 u62 u63 u64 u65 u66 u67 u68 u69 u70 u71 u72 u73 u74 u75 u76 u77 u78 u79 u80 u81 u82 u83 u84 u85 u86 u87 : Value} (hB : B < w.heap.size) (hG : gR < w.heap.size) (h2 : w.cell? ⟨B, 2, none⟩ = some (.slice (some ⟨gR, 0, none⟩) m cR)) (hr : w.cell? ⟨gR, u, none⟩ = some (.slice pe l1 c1)) (hr2 : w.cell? ⟨gR, f, none⟩ = some (.slice pf l2 c2)) (hf : w.frozen? ⟨gR, u, none⟩ = false) (hu : u < m) (hfm : f < m) (hl1 : l1 ≤ 100000) (hl2 : l2 ≤ 100000) (hpe : pe = none → l1 = 0 ∧ c1 = 0) (hpf : pf = none → l2 = 0 ∧ c2 = 0)
    (hel : es.length = l1) (hfl : fs.length = l2)
    (hE : ∀ W, Below w.heap.size w W → ∀ ad, (pe : Option Addr) = some ad → ∀ j (hj : j < es.length), W.cell? (ad.add j) = some (.int .i64 (es[j] : Int)))
    (hF : ∀ W, Below w.heap.size w W → ∀ ad, (pf : Option Addr) = some ad → ∀ j (hj : j < fs.length), W.cell? (ad.add j) = some (.int .i64 (fs[j] : Int)))
    (hQ : ∀ (y59 y60 y61 y62 y63 y64 y65 y66 y67 y68 y69 y70 y71 y72 y73 y74 y75 y76 y77 y78 y79 y80 y81 : Value) (p' : Option Addr) (c' : Nat) (w' : World), RowX w w' (.slice p' (l1 + l2) c') (l1 + l2) ([] ++ intsV es ++ intsV fs) [] → Q .normal { tmps := #[.pointer (some ⟨B, 0, none⟩), .int .i64 (f : Int), .int .i64 (u : Int), u3, u4, u5, u6, u7, u8, u9, u10, u11, u12, u13, u14, u15, u16, u17, u18, u19, u20, u21, u22, u23, u24, u25, u26, u27, u28, u29, u30, u31, u32, u33, u34, u35, u36, u37, u38, u39, u40, u41, u42, u43, u44, u45, u46, u47, u48, u49, u50, u51, u52, u53, u54, u55, u56, u57, u58, y59, y60, y61, y62, y63, y64, y65, y66, y67, y68, y69, y70, y71, y72, y73, y74, y75, y76, y77, y78, y79, y80, y81, u82, u83, u84, u85, u86, u87], defers := [] } (w'.setCell ⟨gR, u, none⟩ (.slice p' (l1 + l2) c'))) :
    (Code.region 8 rmove6_reg_ops true).wp Try.prog Q { tmps := #[.pointer (some ⟨B, 0, none⟩), .int .i64 (f : Int), .int .i64 (u : Int), u3, u4, u5, u6, u7, u8, u9, u10, u11, u12, u13, u14, u15, u16, u17, u18, u19, u20, u21, u22, u23, u24, u25, u26, u27, u28, u29, u30, u31, u32, u33, u34, u35, u36, u37, u38, u39, u40, u41, u42, u43, u44, u45, u46, u47, u48, u49, u50, u51, u52, u53, u54, u55, u56, u57, u58, u59, u60, u61, u62, u63, u64, u65, u66, u67, u68, u69, u70, u71, u72, u73, u74, u75, u76, u77, u78, u79, u80, u81, u82, u83, u84, u85, u86, u87], defers := [] } w := by
  refine wp_region_noPanic ?_
  unfold rmove6_reg_ops
  have HQ := Lib.hid hQ
  have HE := Lib.hid hE
  have HF := Lib.hid hF
  have HRE := Lib.hid (lateOk_spec (md := .any) (ops := rmove6_reg_ops) (late := [22, 23]) (is := [0, 1, 2, 3, 4, 6, 7, 8, 9, 10, 11, 12, 14, 15, 16, 17, 18, 19, 20]) (f := 8) (by kernel_rfl))
  have HS1 : Hid (0 + l1 ≤ 4294967296) := Lib.hid (by omega)
  have HS3 : Hid (0 + l1 + l2 ≤ 4294967296) := Lib.hid (by omega)
  have HSB : Hid (∀ W, Below w.heap.size w W → W.cell? ⟨B, 2, none⟩ = some (.slice (some ⟨gR, 0, none⟩) m cR) ∧ W.cell? ⟨gR, u, none⟩ = some (.slice pe l1 c1) ∧ W.cell? ⟨gR, f, none⟩ = some (.slice pf l2 c2)) := Lib.hid fun W hb => ⟨(hb.cell (p := ⟨B, 2, none⟩) hB).trans h2, (hb.cell (p := ⟨gR, u, none⟩) hG).trans hr, (hb.cell (p := ⟨gR, f, none⟩) hG).trans hr2⟩
  have HFR : Hid (∀ W, Below w.heap.size w W → W.frozen? ⟨gR, u, none⟩ = false) := Lib.hid fun W hb => by rw [World.frozen?_of_block (w := w) (hb.block gR hG)]; exact hf
  have hu0 : (0 : Int) ≤ (u : Int) := by omega
  have hu1 : (u : Int) < (m : Int) := by omega
  have hf0 : (0 : Int) ≤ (f : Int) := by omega
  have hf1 : (f : Int) < (m : Int) := by omega
  clear h2 hr hr2 hf
  have h0 : RowX w w.drew (.slice none 0 0) 0 [] [] := .new (Below.refl _ w).drew
  clear hQ hE hF
  refine wp_region_heldL_drew (late := [22, 23]) (S := fun W => W.cell? ⟨B, 2, none⟩ = some (.slice (some ⟨gR, 0, none⟩) m cR) ∧ W.cell? ⟨gR, u, none⟩ = some (.slice pe l1 c1) ∧ W.cell? ⟨gR, f, none⟩ = some (.slice pf l2 c2)) (by kernel_rfl) (HSB.out _ h0.below) (fun hHeld => ?_)
  generalize w.drew = W0 at *
  refine wpAnyL_take (i := 0) (oi := { dst := some 59, op := Op.move (Operand.tmp 0), type := 26, pos := "ref.go:122", after := #[], guard := none }) (v := ?_) rfl (by kernel_rfl) (by kernel_rfl) (by kernel_rfl) (by kernel_rfl) (HRE.out 0 (by decide)) (fun _ _ _ h => h) (Or.inl ⟨by rfl, ?_⟩) (by assumption) ?_
  rotate_left
  focus (intro w hSw; (try dsimp only at hSw); go_simp; (try with_reducible rfl))
  try simp only [Act.put, List.setIfInBounds_toArray, List.set_cons_zero, List.set_cons_succ]
  refine wpAnyL_take (i := 1) (oi := { dst := some 60, op := Op.nilCheck (Operand.tmp 59), type := 0, pos := "ref.go:122", after := #[{ on := 0, ground := Ground.data }], guard := none }) (v := ?_) rfl (by kernel_rfl) (by kernel_rfl) (by kernel_rfl) (by kernel_rfl) (HRE.out 1 (by decide)) (fun _ _ _ h => h) (Or.inl ⟨by rfl, ?_⟩) (by assumption) ?_
  rotate_left
  focus (intro w hSw; (try dsimp only at hSw); go_simp; (try with_reducible rfl))
  try simp only [Act.put, List.setIfInBounds_toArray, List.set_cons_zero, List.set_cons_succ]
  refine wpAnyL_take (i := 2) (oi := { dst := some 61, op := Op.fieldAddr 35 (Operand.tmp 60) 2, type := 0, pos := "ref.go:122", after := #[{ on := 1, ground := Ground.data }], guard := none }) (v := ?_) rfl (by kernel_rfl) (by kernel_rfl) (by kernel_rfl) (by kernel_rfl) (HRE.out 2 (by decide)) (fun _ _ _ h => h) (Or.inl ⟨by rfl, ?_⟩) (by assumption) ?_
  rotate_left
  focus (intro w hSw; (try dsimp only at hSw); go_simp; (try with_reducible rfl))
  try simp only [Act.put, List.setIfInBounds_toArray, List.set_cons_zero, List.set_cons_succ]
  refine wpAnyL_take (i := 3) (oi := { dst := some 62, op := Op.load 33 (Operand.tmp 61), type := 33, pos := "ref.go:122", after := #[{ on := 2, ground := Ground.data }], guard := none }) (v := ?_) rfl (by kernel_rfl) (by kernel_rfl) (by kernel_rfl) (by kernel_rfl) (HRE.out 3 (by decide)) (fun _ _ _ h => h) (Or.inl ⟨by rfl, ?_⟩) (by assumption) ?_
  rotate_left
  focus (intro w hSw; (try dsimp only at hSw); go_simp; (try with_reducible rfl))
  try simp only [Act.put, List.setIfInBounds_toArray, List.set_cons_zero, List.set_cons_succ]
  refine wpAnyL_take (i := 4) (oi := { dst := some 63, op := Op.move (Operand.tmp 2), type := 3, pos := "ref.go:122", after := #[], guard := none }) (v := ?_) rfl (by kernel_rfl) (by kernel_rfl) (by kernel_rfl) (by kernel_rfl) (HRE.out 4 (by decide)) (fun _ _ _ h => h) (Or.inl ⟨by rfl, ?_⟩) (by assumption) ?_
  rotate_left
  focus (intro w hSw; (try dsimp only at hSw); go_simp; (try with_reducible rfl))
  try simp only [Act.put, List.setIfInBounds_toArray, List.set_cons_zero, List.set_cons_succ]
  refine wpAnyL_take (i := 6) (oi := { dst := some 65, op := Op.move (Operand.tmp 0), type := 26, pos := "ref.go:122", after := #[], guard := none }) (v := ?_) rfl (by kernel_rfl) (by kernel_rfl) (by kernel_rfl) (by kernel_rfl) (HRE.out 6 (by decide)) (fun _ _ _ h => h) (Or.inl ⟨by rfl, ?_⟩) (by assumption) ?_
  rotate_left
  focus (intro w hSw; (try dsimp only at hSw); go_simp; (try with_reducible rfl))
  try simp only [Act.put, List.setIfInBounds_toArray, List.set_cons_zero, List.set_cons_succ]
  refine wpAnyL_take (i := 7) (oi := { dst := some 66, op := Op.nilCheck (Operand.tmp 65), type := 0, pos := "ref.go:122", after := #[{ on := 6, ground := Ground.data }], guard := none }) (v := ?_) rfl (by kernel_rfl) (by kernel_rfl) (by kernel_rfl) (by kernel_rfl) (HRE.out 7 (by decide)) (fun _ _ _ h => h) (Or.inl ⟨by rfl, ?_⟩) (by assumption) ?_
  rotate_left
  focus (intro w hSw; (try dsimp only at hSw); go_simp; (try with_reducible rfl))
  try simp only [Act.put, List.setIfInBounds_toArray, List.set_cons_zero, List.set_cons_succ]
  refine wpAnyL_take (i := 8) (oi := { dst := some 67, op := Op.fieldAddr 35 (Operand.tmp 66) 2, type := 0, pos := "ref.go:122", after := #[{ on := 7, ground := Ground.data }], guard := none }) (v := ?_) rfl (by kernel_rfl) (by kernel_rfl) (by kernel_rfl) (by kernel_rfl) (HRE.out 8 (by decide)) (fun _ _ _ h => h) (Or.inl ⟨by rfl, ?_⟩) (by assumption) ?_
  rotate_left
  focus (intro w hSw; (try dsimp only at hSw); go_simp; (try with_reducible rfl))
  try simp only [Act.put, List.setIfInBounds_toArray, List.set_cons_zero, List.set_cons_succ]
  refine wpAnyL_take (i := 9) (oi := { dst := some 68, op := Op.load 33 (Operand.tmp 67), type := 33, pos := "ref.go:122", after := #[{ on := 8, ground := Ground.data }], guard := none }) (v := ?_) rfl (by kernel_rfl) (by kernel_rfl) (by kernel_rfl) (by kernel_rfl) (HRE.out 9 (by decide)) (fun _ _ _ h => h) (Or.inl ⟨by rfl, ?_⟩) (by assumption) ?_
  rotate_left
  focus (intro w hSw; (try dsimp only at hSw); go_simp; (try with_reducible rfl))
  try simp only [Act.put, List.setIfInBounds_toArray, List.set_cons_zero, List.set_cons_succ]
  refine wpAnyL_take (i := 10) (oi := { dst := some 69, op := Op.move (Operand.tmp 2), type := 3, pos := "ref.go:122", after := #[], guard := none }) (v := ?_) rfl (by kernel_rfl) (by kernel_rfl) (by kernel_rfl) (by kernel_rfl) (HRE.out 10 (by decide)) (fun _ _ _ h => h) (Or.inl ⟨by rfl, ?_⟩) (by assumption) ?_
  rotate_left
  focus (intro w hSw; (try dsimp only at hSw); go_simp; (try with_reducible rfl))
  try simp only [Act.put, List.setIfInBounds_toArray, List.set_cons_zero, List.set_cons_succ]
  refine wpAnyL_take (i := 11) (oi := { dst := some 70, op := Op.indexAddr 33 (Operand.tmp 68) (Operand.tmp 69), type := 0, pos := "ref.go:122", after := #[{ on := 9, ground := Ground.data }, { on := 10, ground := Ground.data }], guard := none }) (v := ?_) rfl (by kernel_rfl) (by kernel_rfl) (by kernel_rfl) (by kernel_rfl) (HRE.out 11 (by decide)) (fun _ _ _ h => h) (Or.inl ⟨by rfl, ?_⟩) (by assumption) ?_
  rotate_left
  focus (intro w hSw; (try dsimp only at hSw); go_simp; (try with_reducible rfl))
  try simp only [Act.put, List.setIfInBounds_toArray, List.set_cons_zero, List.set_cons_succ]
  refine wpAnyL_take (i := 12) (oi := { dst := some 71, op := Op.load 32 (Operand.tmp 70), type := 32, pos := "ref.go:122", after := #[{ on := 11, ground := Ground.data }], guard := none }) (v := ?_) rfl (by kernel_rfl) (by kernel_rfl) (by kernel_rfl) (by kernel_rfl) (HRE.out 12 (by decide)) (fun _ _ _ h => h) (Or.inl ⟨by rfl, ?_⟩) (by assumption) ?_
  rotate_left
  focus (intro w hSw; (try dsimp only at hSw); go_simp; (try with_reducible rfl))
  try simp only [Act.put, List.setIfInBounds_toArray, List.set_cons_zero, List.set_cons_succ]
  refine wpAnyL_take (i := 14) (oi := { dst := some 73, op := Op.move (Operand.tmp 0), type := 26, pos := "ref.go:122", after := #[], guard := none }) (v := ?_) rfl (by kernel_rfl) (by kernel_rfl) (by kernel_rfl) (by kernel_rfl) (HRE.out 14 (by decide)) (fun _ _ _ h => h) (Or.inl ⟨by rfl, ?_⟩) (by assumption) ?_
  rotate_left
  focus (intro w hSw; (try dsimp only at hSw); go_simp; (try with_reducible rfl))
  try simp only [Act.put, List.setIfInBounds_toArray, List.set_cons_zero, List.set_cons_succ]
  refine wpAnyL_take (i := 15) (oi := { dst := some 74, op := Op.nilCheck (Operand.tmp 73), type := 0, pos := "ref.go:122", after := #[{ on := 14, ground := Ground.data }], guard := none }) (v := ?_) rfl (by kernel_rfl) (by kernel_rfl) (by kernel_rfl) (by kernel_rfl) (HRE.out 15 (by decide)) (fun _ _ _ h => h) (Or.inl ⟨by rfl, ?_⟩) (by assumption) ?_
  rotate_left
  focus (intro w hSw; (try dsimp only at hSw); go_simp; (try with_reducible rfl))
  try simp only [Act.put, List.setIfInBounds_toArray, List.set_cons_zero, List.set_cons_succ]
  refine wpAnyL_take (i := 16) (oi := { dst := some 75, op := Op.fieldAddr 35 (Operand.tmp 74) 2, type := 0, pos := "ref.go:122", after := #[{ on := 15, ground := Ground.data }], guard := none }) (v := ?_) rfl (by kernel_rfl) (by kernel_rfl) (by kernel_rfl) (by kernel_rfl) (HRE.out 16 (by decide)) (fun _ _ _ h => h) (Or.inl ⟨by rfl, ?_⟩) (by assumption) ?_
  rotate_left
  focus (intro w hSw; (try dsimp only at hSw); go_simp; (try with_reducible rfl))
  try simp only [Act.put, List.setIfInBounds_toArray, List.set_cons_zero, List.set_cons_succ]
  refine wpAnyL_take (i := 17) (oi := { dst := some 76, op := Op.load 33 (Operand.tmp 75), type := 33, pos := "ref.go:122", after := #[{ on := 16, ground := Ground.data }], guard := none }) (v := ?_) rfl (by kernel_rfl) (by kernel_rfl) (by kernel_rfl) (by kernel_rfl) (HRE.out 17 (by decide)) (fun _ _ _ h => h) (Or.inl ⟨by rfl, ?_⟩) (by assumption) ?_
  rotate_left
  focus (intro w hSw; (try dsimp only at hSw); go_simp; (try with_reducible rfl))
  try simp only [Act.put, List.setIfInBounds_toArray, List.set_cons_zero, List.set_cons_succ]
  refine wpAnyL_take (i := 18) (oi := { dst := some 77, op := Op.move (Operand.tmp 1), type := 3, pos := "ref.go:122", after := #[], guard := none }) (v := ?_) rfl (by kernel_rfl) (by kernel_rfl) (by kernel_rfl) (by kernel_rfl) (HRE.out 18 (by decide)) (fun _ _ _ h => h) (Or.inl ⟨by rfl, ?_⟩) (by assumption) ?_
  rotate_left
  focus (intro w hSw; (try dsimp only at hSw); go_simp; (try with_reducible rfl))
  try simp only [Act.put, List.setIfInBounds_toArray, List.set_cons_zero, List.set_cons_succ]
  refine wpAnyL_take (i := 19) (oi := { dst := some 78, op := Op.indexAddr 33 (Operand.tmp 76) (Operand.tmp 77), type := 0, pos := "ref.go:122", after := #[{ on := 17, ground := Ground.data }, { on := 18, ground := Ground.data }], guard := none }) (v := ?_) rfl (by kernel_rfl) (by kernel_rfl) (by kernel_rfl) (by kernel_rfl) (HRE.out 19 (by decide)) (fun _ _ _ h => h) (Or.inl ⟨by rfl, ?_⟩) (by assumption) ?_
  rotate_left
  focus (intro w hSw; (try dsimp only at hSw); go_simp; (try with_reducible rfl))
  try simp only [Act.put, List.setIfInBounds_toArray, List.set_cons_zero, List.set_cons_succ]
  refine wpAnyL_take (i := 20) (oi := { dst := some 79, op := Op.load 32 (Operand.tmp 78), type := 32, pos := "ref.go:122", after := #[{ on := 19, ground := Ground.data }], guard := none }) (v := ?_) rfl (by kernel_rfl) (by kernel_rfl) (by kernel_rfl) (by kernel_rfl) (HRE.out 20 (by decide)) (fun _ _ _ h => h) (Or.inl ⟨by rfl, ?_⟩) (by assumption) ?_
  rotate_left
  focus (intro w hSw; (try dsimp only at hSw); go_simp; (try with_reducible rfl))
  try simp only [Act.put, List.setIfInBounds_toArray, List.set_cons_zero, List.set_cons_succ]
  refine wpAnyL_ready (rs := [5]) (by kernel_rfl) (by simp) ?_
  refine (AllReadyL.cons (o := { dst := some 64, op := Op.buildSlice 32 0 #[], type := 32, pos := "ref.go:122", after := #[], guard := none }) rfl (fun K hK => ?_) AllReadyL.nil)
  go_simp
  have h1 := h0.alloc (.cells #[] 3 (0, 0))
  have hn1 : w.heap.size ≤ W0.heap.size := h0.below.size
  refine hK.out _ _ (HSB.out _ h1.below) (fun hHeld => ?_)
  clear hK K
  try simp only [Act.put, List.setIfInBounds_toArray, List.set_cons_zero, List.set_cons_succ]
  clear hHeld
  have hHeld := HSB.out _ h1.below
  clear h0
  change wpAnyL _ _ _ _ _ _ _ _ _ (W0.alloc (.cells #[] 3))
  generalize (W0.alloc (.cells #[] 3)) = W1 at *
  generalize W0.heap.size = A1 at *
  refine wpAnyL_ready (rs := [13]) (by kernel_rfl) (by simp) ?_
  refine (AllReadyL.cons (o := { dst := some 72, op := Op.call { callee := Callee.builtin Builtin.append, args := #[Operand.tmp 64, Operand.tmp 71], argTypes := #[ 32, 32 ] }, type := 32, pos := "ref.go:122", after := #[{ on := 5, ground := Ground.data }, { on := 12, ground := Ground.data }], guard := none }) rfl (fun K hK => ?_) AllReadyL.nil)
  have hb2 := h1.begin_ (E := A1) (ex' := []) (h1.ex (A1, (.cells #[] 3 (0, 0))) (by simp)).1 hn1 (fun p hp => by cases hp)
  refine step_append_int rfl (.tmp 64) (.tmp 71) rfl w.heap.size _ _ _ (by rfl) hb2.row pe _ _ es (by rfl) hpe hel (HE.out _ hb2.below) HS1.out hb2.below.size ?_
  intro v2 W2 hr2 hg2 ho2
  have h2 := hb2.grow hr2 hg2 ho2
  clear hr2 hg2 ho2
  refine hK.out _ _ (HSB.out _ h2.below) (fun hHeld => ?_)
  clear hK K
  try simp only [Act.put, List.setIfInBounds_toArray, List.set_cons_zero, List.set_cons_succ]
  refine wpAnyL_ready (rs := [21]) (by kernel_rfl) (by simp) ?_
  refine (AllReadyL.cons (o := { dst := some 80, op := Op.call { callee := Callee.builtin Builtin.append, args := #[Operand.tmp 72, Operand.tmp 79], argTypes := #[ 32, 32 ] }, type := 32, pos := "ref.go:122", after := #[{ on := 13, ground := Ground.data }, { on := 20, ground := Ground.data }, { on := 13, ground := Ground.chain }], guard := none }) rfl (fun K hK => ?_) AllReadyL.nil)
  refine step_append_int rfl (.tmp 72) (.tmp 79) rfl w.heap.size _ _ _ (by rfl) h2.row pf _ _ fs (by rfl) hpf hfl (HF.out _ h2.below) HS3.out h2.below.size ?_
  intro v3 W3 hr3 hg3 ho3
  have h3 := h2.grow hr3 hg3 ho3
  obtain ⟨p3, c3, rfl⟩ := h3.form
  clear hr3 hg3 ho3
  refine hK.out _ _ (HSB.out _ h3.below) (fun hHeld => ?_)
  clear hK K
  try simp only [Act.put, List.setIfInBounds_toArray, List.set_cons_zero, List.set_cons_succ]
  refine wpAnyL_ready (rs := [22]) (by kernel_rfl) (by simp) ?_
  refine AllReadyL.last (o := { dst := some 81, op := Op.indexAddr 33 (Operand.tmp 62) (Operand.tmp 63), type := 0, pos := "ref.go:122", after := #[{ on := 3, ground := Ground.data }, { on := 4, ground := Ground.data }, { on := 0, ground := Ground.phase }, { on := 1, ground := Ground.phase }, { on := 2, ground := Ground.phase }, { on := 3, ground := Ground.phase }, { on := 4, ground := Ground.phase }, { on := 5, ground := Ground.phase }, { on := 6, ground := Ground.phase }, { on := 7, ground := Ground.phase }, { on := 8, ground := Ground.phase }, { on := 9, ground := Ground.phase }, { on := 10, ground := Ground.phase }, { on := 11, ground := Ground.phase }, { on := 12, ground := Ground.phase }, { on := 13, ground := Ground.phase }, { on := 14, ground := Ground.phase }, { on := 15, ground := Ground.phase }, { on := 16, ground := Ground.phase }, { on := 17, ground := Ground.phase }, { on := 18, ground := Ground.phase }, { on := 19, ground := Ground.phase }, { on := 20, ground := Ground.phase }, { on := 21, ground := Ground.phase }], guard := none }) rfl (by kernel_rfl) (fun K hK => ?_) AllReadyL.nil
  go_simp
  refine hK.out _ _ ?_
  clear hK K
  try simp only [Act.put, List.setIfInBounds_toArray, List.set_cons_zero, List.set_cons_succ]
  have cB := (HSB.out _ h3.below).2.1
  have fB := HFR.out _ h3.below
  refine wpAnyL_ready (rs := [23]) (by kernel_rfl) (by simp) ?_
  refine AllReadyL.last (o := { dst := none, op := Op.store 32 (Operand.tmp 81) (Operand.tmp 80), type := 0, pos := "ref.go:122", after := #[{ on := 22, ground := Ground.data }, { on := 21, ground := Ground.data }, { on := 21, ground := Ground.chain }, { on := 0, ground := Ground.phase }, { on := 1, ground := Ground.phase }, { on := 2, ground := Ground.phase }, { on := 3, ground := Ground.phase }, { on := 4, ground := Ground.phase }, { on := 5, ground := Ground.phase }, { on := 6, ground := Ground.phase }, { on := 7, ground := Ground.phase }, { on := 8, ground := Ground.phase }, { on := 9, ground := Ground.phase }, { on := 10, ground := Ground.phase }, { on := 11, ground := Ground.phase }, { on := 12, ground := Ground.phase }, { on := 13, ground := Ground.phase }, { on := 14, ground := Ground.phase }, { on := 15, ground := Ground.phase }, { on := 16, ground := Ground.phase }, { on := 17, ground := Ground.phase }, { on := 18, ground := Ground.phase }, { on := 19, ground := Ground.phase }, { on := 20, ground := Ground.phase }, { on := 21, ground := Ground.phase }], guard := none }) rfl (by kernel_rfl) (fun K hK => ?_) AllReadyL.nil
  go_simp
  refine hK.out _ _ ?_
  refine wpAnyL_done (by kernel_rfl) ?_ _
  try simp only [Act.put, List.setIfInBounds_toArray, List.set_cons_zero, List.set_cons_succ]
  exact NoPanic.normal (HQ.out _ _ _ _ _ _ _ _ _ _ _ _ _ _ _ _ _ _ _ _ _ _ _ _ _ _ (by have q := h3.less (ex' := []) (by simp); simpa only [Nat.zero_add, Nat.add_zero] using q))
end Go.Proofs.Ytkoijkdhmfnlbaa
