/-
  The walk of the law's own same: both Docs say the same.
-/
import Derived.Test.YtkoijkdhmfnlbaaDEq1
namespace Go.Proofs.Ytkoijkdhmfnlbaa
open Go.RowKit

theorem NumsAt.on6 {w w' : World} {v : Value} {l : List Nat} (h : NumsAt w v l) (hb : Below w.heap.size w w') : NumsAt w' v l := by
  obtain ⟨p, cap, e, h⟩ := h
  refine ⟨p, cap, e, fun h0 => ?_⟩
  obtain ⟨g, o, e2, hg, hc⟩ := h h0
  exact ⟨g, o, e2, Nat.lt_of_lt_of_le hg hb.size, fun j hj => (hb.cell (p := ⟨g, o + j, none⟩) hg).trans (hc j hj)⟩
set_option maxHeartbeats 4000000 in
set_option maxRecDepth 100000 in
theorem same_reg1 {w0 w : World} {Bd Br k : Nat} {S : List PN} {C : List Cl} {Q : Exit → Act → World → Prop} {u2 u3 u4 u5 u6 u7 u8 u9 u10 u11 u12 u13 u14 u15 u16 u17 u18 u19 u20 u21 u22 u23 u24 u25 u26 u27 u28 u29 u30 u31 u32 u33 u34 u35 u36 u37 u38 u39 u40 u41 u42 u43 u44 u45 u46 u47 u48 u49 u50 u51 u52 u53 u54 u55 u56 u57 u58 u59 u60 u61 u62 u63 u64 u65 u66 u67 u68 u69 u70 u71 u72 u73 u74 u75 u76 u77 u78 u79 u80 u81 u82 u83 u84 u85 u86 : Value} (F : Fine S C k) (hk : k ≤ 1000) (h : Two (fun _ => False) w0 w Bd Br S C)
    (hQ : ∀ (y9 y10 y11 y12 y13 y14 y15 y16 y17 y18 y19 y20 y21 y22 y23 : Value) (w' : World), Below w.heap.size w w' → Q .normal { tmps := #[.pointer (some ⟨Bd, 0, none⟩), .pointer (some ⟨Br, 0, none⟩), u2, u3, u4, u5, u6, u7, u8, y9, y10, y11, y12, y13, y14, y15, y16, y17, y18, y19, y20, y21, y22, y23, .bool false, u25, u26, u27, u28, u29, u30, u31, u32, u33, u34, u35, u36, u37, u38, u39, u40, u41, u42, u43, u44, u45, u46, u47, u48, u49, u50, u51, u52, u53, u54, u55, u56, u57, u58, u59, u60, u61, u62, u63, u64, u65, u66, u67, u68, u69, u70, u71, u72, u73, u74, u75, u76, u77, u78, u79, u80, u81, u82, u83, u84, u85, u86], defers := [] } w') :
    (Code.region 1 #[{ dst := some 9, op := Op.move (Operand.tmp 0), type := 24, pos := "law.go:56", after := #[], guard := none }, { dst := some 10, op := Op.call { callee := Callee.value (Operand.func 13), args := #[Operand.tmp 9], argTypes := #[ 24 ] }, type := 3, pos := "law.go:56", after := #[{ on := 0, ground := Ground.data }], guard := none }, { dst := some 11, op := Op.move (Operand.tmp 1), type := 26, pos := "law.go:56", after := #[], guard := none }, { dst := some 12, op := Op.nilCheck (Operand.tmp 11), type := 0, pos := "law.go:56", after := #[{ on := 2, ground := Ground.data }], guard := none }, { dst := some 13, op := Op.fieldAddr 35 (Operand.tmp 12) 0, type := 0, pos := "law.go:56", after := #[{ on := 3, ground := Ground.data }], guard := none }, { dst := some 14, op := Op.load 31 (Operand.tmp 13), type := 31, pos := "law.go:56", after := #[{ on := 4, ground := Ground.data }], guard := none }, { dst := some 15, op := Op.call { callee := Callee.builtin Builtin.len, args := #[Operand.tmp 14], argTypes := #[ 31 ] }, type := 3, pos := "law.go:56", after := #[{ on := 5, ground := Ground.data }], guard := none }, { dst := some 16, op := Op.binOp BinOp.neq 3 (Operand.tmp 10) (Operand.tmp 15) 3, type := 4, pos := "law.go:56", after := #[{ on := 1, ground := Ground.data }, { on := 6, ground := Ground.data }], guard := none }, { dst := some 17, op := Op.move (Operand.tmp 16), type := 4, pos := "law.go:56", after := #[{ on := 7, ground := Ground.data }, { on := 1, ground := Ground.chain }], guard := none }, { dst := some 18, op := Op.move (Operand.tmp 0), type := 24, pos := "law.go:56", after := #[{ on := 8, ground := Ground.guard }], guard := some (8, false) }, { dst := some 19, op := Op.call { callee := Callee.value (Operand.func 11), args := #[Operand.tmp 18, Operand.const (Value.int IntKind.i64 0)], argTypes := #[ 24, 3 ] }, type := 31, pos := "law.go:56", after := #[{ on := 9, ground := Ground.data }, { on := 8, ground := Ground.chain }, { on := 8, ground := Ground.guard }], guard := some (8, false) }, { dst := some 20, op := Op.move (Operand.tmp 1), type := 26, pos := "law.go:56", after := #[{ on := 8, ground := Ground.guard }], guard := some (8, false) }, { dst := some 21, op := Op.call { callee := Callee.value (Operand.func 26), args := #[Operand.tmp 20, Operand.const (Value.int IntKind.i64 0)], argTypes := #[ 26, 3 ] }, type := 31, pos := "law.go:56", after := #[{ on := 11, ground := Ground.data }, { on := 10, ground := Ground.chain }, { on := 8, ground := Ground.guard }], guard := some (8, false) }, { dst := some 22, op := Op.call { callee := Callee.value (Operand.func 25), args := #[Operand.tmp 19, Operand.tmp 21], argTypes := #[ 31, 31 ] }, type := 4, pos := "law.go:56", after := #[{ on := 10, ground := Ground.data }, { on := 12, ground := Ground.data }, { on := 12, ground := Ground.chain }, { on := 8, ground := Ground.guard }], guard := some (8, false) }, { dst := some 23, op := Op.unOp UnOp.not 4 (Operand.tmp 22), type := 4, pos := "law.go:56", after := #[{ on := 13, ground := Ground.data }, { on := 8, ground := Ground.guard }], guard := some (8, false) }, { dst := some 24, op := Op.pick (Operand.tmp 17) (Operand.const (Value.bool true)) (Operand.tmp 23), type := 4, pos := "law.go:56", after := #[{ on := 8, ground := Ground.data }, { on := 14, ground := Ground.data }], guard := none }] true).wp Try.prog Q { tmps := #[.pointer (some ⟨Bd, 0, none⟩), .pointer (some ⟨Br, 0, none⟩), u2, u3, u4, u5, u6, u7, u8, u9, u10, u11, u12, u13, u14, u15, u16, u17, u18, u19, u20, u21, u22, u23, u24, u25, u26, u27, u28, u29, u30, u31, u32, u33, u34, u35, u36, u37, u38, u39, u40, u41, u42, u43, u44, u45, u46, u47, u48, u49, u50, u51, u52, u53, u54, u55, u56, u57, u58, u59, u60, u61, u62, u63, u64, u65, u66, u67, u68, u69, u70, u71, u72, u73, u74, u75, u76, u77, u78, u79, u80, u81, u82, u83, u84, u85, u86], defers := [] } w := by
  refine wp_region_noPanic ?_
  have HQ : Hid (∀ (y9 y10 y11 y12 y13 y14 y15 y16 y17 y18 y19 y20 y21 y22 y23 : Value) (w' : World), Below w.drew.heap.size w.drew w' → Q .normal { tmps := #[.pointer (some ⟨Bd, 0, none⟩), .pointer (some ⟨Br, 0, none⟩), u2, u3, u4, u5, u6, u7, u8, y9, y10, y11, y12, y13, y14, y15, y16, y17, y18, y19, y20, y21, y22, y23, .bool false, u25, u26, u27, u28, u29, u30, u31, u32, u33, u34, u35, u36, u37, u38, u39, u40, u41, u42, u43, u44, u45, u46, u47, u48, u49, u50, u51, u52, u53, u54, u55, u56, u57, u58, u59, u60, u61, u62, u63, u64, u65, u66, u67, u68, u69, u70, u71, u72, u73, u74, u75, u76, u77, u78, u79, u80, u81, u82, u83, u84, u85, u86], defers := [] } w') := Lib.hid fun y9 y10 y11 y12 y13 y14 y15 y16 y17 y18 y19 y20 y21 y22 y23 w' hb => hQ y9 y10 y11 y12 y13 y14 y15 y16 y17 y18 y19 y20 y21 y22 y23 w' (((Below.refl _ w).drew).trans hb)
  have h0 := h.on (Below.refl _ w).drew
  obtain ⟨hBr, g, c, hcell⟩ := two_len h0
  obtain ⟨f, hwt, ht1, ht2⟩ := two_tree (w0 := w0) (Bd := Bd) (Br := Br) F hk
  have HCE : Hid (∀ W, Below w.drew.heap.size w.drew W → W.cell? ⟨Br, 0, none⟩ = some (.slice (some ⟨g, 0, none⟩) C.length c)) := Lib.hid fun W hb => (hb.cell (p := ⟨Br, 0, none⟩) hBr).trans hcell
  have HSZ := Lib.hid (two_size h0)
  rw [F.like.len] at HSZ
  have HT := Lib.hid h0
  have HT1 := Lib.hid ht1
  have HT2 := Lib.hid ht2
  have HWT := Lib.hid hwt
  clear hQ h h0 F hk hcell ht1 ht2 hwt hBr
  refine wp_region_held_drew (S := (fun W => W.cell? ⟨Br, 0, none⟩ = some (.slice (some ⟨g, 0, none⟩) C.length c))) (by kernel_rfl) (by exact HCE.out _ (Below.refl _ _)) (fun hHeld => ?_)
  generalize w.drew = W0 at *
  refine wpAnyH_take (i := 0) (oi := { dst := some 9, op := Op.move (Operand.tmp 0), type := 24, pos := "law.go:56", after := #[], guard := none }) (v := ?_) rfl (by kernel_rfl) (by kernel_rfl) (by kernel_rfl) (fun _ _ _ h => h) (Or.inl ⟨by rfl, ?_⟩) (by assumption) ?_
  rotate_left
  focus (intro w hSw; (try dsimp only at hSw); go_simp; (try with_reducible rfl))
  try simp only [Act.put, List.setIfInBounds_toArray, List.set_cons_zero, List.set_cons_succ]
  refine wpAnyH_take (i := 2) (oi := { dst := some 11, op := Op.move (Operand.tmp 1), type := 26, pos := "law.go:56", after := #[], guard := none }) (v := ?_) rfl (by kernel_rfl) (by kernel_rfl) (by kernel_rfl) (fun _ _ _ h => h) (Or.inl ⟨by rfl, ?_⟩) (by assumption) ?_
  rotate_left
  focus (intro w hSw; (try dsimp only at hSw); go_simp; (try with_reducible rfl))
  try simp only [Act.put, List.setIfInBounds_toArray, List.set_cons_zero, List.set_cons_succ]
  refine wpAnyH_take (i := 3) (oi := { dst := some 12, op := Op.nilCheck (Operand.tmp 11), type := 0, pos := "law.go:56", after := #[{ on := 2, ground := Ground.data }], guard := none }) (v := ?_) rfl (by kernel_rfl) (by kernel_rfl) (by kernel_rfl) (fun _ _ _ h => h) (Or.inl ⟨by rfl, ?_⟩) (by assumption) ?_
  rotate_left
  focus (intro w hSw; (try dsimp only at hSw); go_simp; (try with_reducible rfl))
  try simp only [Act.put, List.setIfInBounds_toArray, List.set_cons_zero, List.set_cons_succ]
  refine wpAnyH_take (i := 4) (oi := { dst := some 13, op := Op.fieldAddr 35 (Operand.tmp 12) 0, type := 0, pos := "law.go:56", after := #[{ on := 3, ground := Ground.data }], guard := none }) (v := ?_) rfl (by kernel_rfl) (by kernel_rfl) (by kernel_rfl) (fun _ _ _ h => h) (Or.inl ⟨by rfl, ?_⟩) (by assumption) ?_
  rotate_left
  focus (intro w hSw; (try dsimp only at hSw); go_simp; (try with_reducible rfl))
  try simp only [Act.put, List.setIfInBounds_toArray, List.set_cons_zero, List.set_cons_succ]
  refine wpAnyH_take (i := 5) (oi := { dst := some 14, op := Op.load 31 (Operand.tmp 13), type := 31, pos := "law.go:56", after := #[{ on := 4, ground := Ground.data }], guard := none }) (v := ?_) rfl (by kernel_rfl) (by kernel_rfl) (by kernel_rfl) (fun _ _ _ h => h) (Or.inl ⟨by rfl, ?_⟩) (by assumption) ?_
  rotate_left
  focus (intro w hSw; (try dsimp only at hSw); go_simp; (try with_reducible rfl))
  try simp only [Act.put, List.setIfInBounds_toArray, List.set_cons_zero, List.set_cons_succ]
  refine wpAnyH_take (i := 6) (oi := { dst := some 15, op := Op.call { callee := Callee.builtin Builtin.len, args := #[Operand.tmp 14], argTypes := #[ 31 ] }, type := 3, pos := "law.go:56", after := #[{ on := 5, ground := Ground.data }], guard := none }) (v := ?_) rfl (by kernel_rfl) (by kernel_rfl) (by kernel_rfl) (fun _ _ _ h => h) (Or.inl ⟨by rfl, ?_⟩) (by assumption) ?_
  rotate_left
  focus (intro w hSw; (try dsimp only at hSw); go_simp; (try with_reducible rfl))
  try simp only [Act.put, List.setIfInBounds_toArray, List.set_cons_zero, List.set_cons_succ]
  refine wpAnyH_ready (rs := [1]) (by kernel_rfl) (by simp) ?_
  refine AllReadyH.cons (o := { dst := some 10, op := Op.call { callee := Callee.value (Operand.func 13), args := #[Operand.tmp 9], argTypes := #[ 24 ] }, type := 3, pos := "law.go:56", after := #[{ on := 0, ground := Ground.data }], guard := none }) rfl (fun K hK => ?_) AllReadyH.nil
  go_simp
  refine (HSZ.out).mono ?_
  rintro e w1 ⟨rfl, rfl⟩
  go_wp2_with fail
  refine hK.out _ _ (by exact hHeld) (fun hHeld => ?_)
  clear hK K
  try simp only [Act.put, List.setIfInBounds_toArray, List.set_cons_zero, List.set_cons_succ]
  refine wpAnyH_take (i := 7) (oi := { dst := some 16, op := Op.binOp BinOp.neq 3 (Operand.tmp 10) (Operand.tmp 15) 3, type := 4, pos := "law.go:56", after := #[{ on := 1, ground := Ground.data }, { on := 6, ground := Ground.data }], guard := none }) (v := ?_) rfl (by kernel_rfl) (by kernel_rfl) (by kernel_rfl) (fun _ _ _ h => h) (Or.inl ⟨by rfl, ?_⟩) (by assumption) ?_
  rotate_left
  focus (intro w hSw; (try dsimp only at hSw); go_simp; (try with_reducible rfl))
  try simp only [Act.put, List.setIfInBounds_toArray, List.set_cons_zero, List.set_cons_succ]
  refine wpAnyH_take (i := 8) (oi := { dst := some 17, op := Op.move (Operand.tmp 16), type := 4, pos := "law.go:56", after := #[{ on := 7, ground := Ground.data }, { on := 1, ground := Ground.chain }], guard := none }) (v := ?_) rfl (by kernel_rfl) (by kernel_rfl) (by kernel_rfl) (fun _ _ _ h => h) (Or.inl ⟨by rfl, ?_⟩) (by assumption) ?_
  rotate_left
  focus (intro w hSw; (try dsimp only at hSw); go_simp; (try with_reducible rfl))
  try simp only [Act.put, List.setIfInBounds_toArray, List.set_cons_zero, List.set_cons_succ]
  refine wpAnyH_take (i := 9) (oi := { dst := some 18, op := Op.move (Operand.tmp 0), type := 24, pos := "law.go:56", after := #[{ on := 8, ground := Ground.guard }], guard := some (8, false) }) (v := ?_) rfl (by kernel_rfl) (by kernel_rfl) (by kernel_rfl) (fun _ _ _ h => h) (Or.inl ⟨by rfl, ?_⟩) (by assumption) ?_
  rotate_left
  focus (intro w hSw; (try dsimp only at hSw); go_simp; (try with_reducible rfl))
  try simp only [Act.put, List.setIfInBounds_toArray, List.set_cons_zero, List.set_cons_succ]
  refine wpAnyH_take (i := 11) (oi := { dst := some 20, op := Op.move (Operand.tmp 1), type := 26, pos := "law.go:56", after := #[{ on := 8, ground := Ground.guard }], guard := some (8, false) }) (v := ?_) rfl (by kernel_rfl) (by kernel_rfl) (by kernel_rfl) (fun _ _ _ h => h) (Or.inl ⟨by rfl, ?_⟩) (by assumption) ?_
  rotate_left
  focus (intro w hSw; (try dsimp only at hSw); go_simp; (try with_reducible rfl))
  try simp only [Act.put, List.setIfInBounds_toArray, List.set_cons_zero, List.set_cons_succ]
  refine wpAnyH_ready (rs := [10]) (by kernel_rfl) (by simp) ?_
  refine AllReadyH.cons (o := { dst := some 19, op := Op.call { callee := Callee.value (Operand.func 11), args := #[Operand.tmp 18, Operand.const (Value.int IntKind.i64 0)], argTypes := #[ 24, 3 ] }, type := 31, pos := "law.go:56", after := #[{ on := 9, ground := Ground.data }, { on := 8, ground := Ground.chain }, { on := 8, ground := Ground.guard }], guard := some (8, false) }) rfl (fun K hK => ?_) AllReadyH.nil
  go_simp
  refine (HT1.out _ W0 HT.out).mono ?_
  rintro e w2 ⟨v2, rfl, hn2, hb2⟩
  have HN2 := Lib.hid hn2
  have HB2 := Lib.hid hb2
  clear hn2 hb2
  go_wp2_with fail
  refine hK.out _ _ (by exact HCE.out _ HB2.out) (fun hHeld => ?_)
  clear hK K
  try simp only [Act.put, List.setIfInBounds_toArray, List.set_cons_zero, List.set_cons_succ]
  refine wpAnyH_ready (rs := [12]) (by kernel_rfl) (by simp) ?_
  refine AllReadyH.cons (o := { dst := some 21, op := Op.call { callee := Callee.value (Operand.func 26), args := #[Operand.tmp 20, Operand.const (Value.int IntKind.i64 0)], argTypes := #[ 26, 3 ] }, type := 31, pos := "law.go:56", after := #[{ on := 11, ground := Ground.data }, { on := 10, ground := Ground.chain }, { on := 8, ground := Ground.guard }], guard := some (8, false) }) rfl (fun K hK => ?_) AllReadyH.nil
  go_simp
  refine (HT2.out _ w2 (HT.out.on HB2.out)).mono ?_
  rintro e w3 ⟨v3, rfl, hn3, hb3⟩
  have HN3 := Lib.hid hn3
  have HN2 := Lib.hid (HN2.out.kept (.of_below hb3))
  have HB3 := Lib.hid (HB2.out.trans (hb3.mono HB2.out.size))
  clear hn3 hb3
  go_wp2_with fail
  refine hK.out _ _ (by exact HCE.out _ HB3.out) (fun hHeld => ?_)
  clear hK K
  try simp only [Act.put, List.setIfInBounds_toArray, List.set_cons_zero, List.set_cons_succ]
  refine wpAnyH_ready (rs := [13]) (by kernel_rfl) (by simp) ?_
  refine AllReadyH.cons (o := { dst := some 22, op := Op.call { callee := Callee.value (Operand.func 25), args := #[Operand.tmp 19, Operand.tmp 21], argTypes := #[ 31, 31 ] }, type := 4, pos := "law.go:56", after := #[{ on := 10, ground := Ground.data }, { on := 12, ground := Ground.data }, { on := 12, ground := Ground.chain }, { on := 8, ground := Ground.guard }], guard := some (8, false) }) rfl (fun K hK => ?_) AllReadyH.nil
  go_simp
  refine (rsameP f f _ _ _ _ w3 HWT.out HN2.out HN3.out).mono ?_
  rw [Fo.same_refl]
  rintro e w4 ⟨rfl, hb4⟩
  have HB4 := Lib.hid (HB3.out.trans (hb4.mono HB3.out.size))
  clear hb4
  go_wp2_with fail
  refine hK.out _ _ (by exact HCE.out _ HB4.out) (fun hHeld => ?_)
  clear hK K
  try simp only [Act.put, List.setIfInBounds_toArray, List.set_cons_zero, List.set_cons_succ]
  refine wpAnyH_take (i := 14) (oi := { dst := some 23, op := Op.unOp UnOp.not 4 (Operand.tmp 22), type := 4, pos := "law.go:56", after := #[{ on := 13, ground := Ground.data }, { on := 8, ground := Ground.guard }], guard := some (8, false) }) (v := ?_) rfl (by kernel_rfl) (by kernel_rfl) (by kernel_rfl) (fun _ _ _ h => h) (Or.inl ⟨by rfl, ?_⟩) (by assumption) ?_
  rotate_left
  focus (intro w hSw; (try dsimp only at hSw); go_simp; (try with_reducible rfl))
  try simp only [Act.put, List.setIfInBounds_toArray, List.set_cons_zero, List.set_cons_succ]
  refine wpAnyH_take (i := 15) (oi := { dst := some 24, op := Op.pick (Operand.tmp 17) (Operand.const (Value.bool true)) (Operand.tmp 23), type := 4, pos := "law.go:56", after := #[{ on := 8, ground := Ground.data }, { on := 14, ground := Ground.data }], guard := none }) (v := ?_) rfl (by kernel_rfl) (by kernel_rfl) (by kernel_rfl) (fun _ _ _ h => h) (Or.inl ⟨by rfl, ?_⟩) (by assumption) ?_
  rotate_left
  focus (intro w hSw; (try dsimp only at hSw); go_simp; (try with_reducible rfl))
  try simp only [Act.put, List.setIfInBounds_toArray, List.set_cons_zero, List.set_cons_succ]
  refine wpAnyH_done (by kernel_rfl) ?_ _
  exact NoPanic.normal (HQ.out _ _ _ _ _ _ _ _ _ _ _ _ _ _ _ _ HB4.out)
set_option maxHeartbeats 4000000 in
set_option maxRecDepth 100000 in
theorem same_reg13 {w : World} {g6 o6 l6 c6 g7 o7 l7 c7 i : Nat} {z : Int} {Q : Exit → Act → World → Prop} {u0 u1 u2 u3 u4 u5 u9 u10 u11 u12 u13 u14 u15 u16 u17 u18 u19 u20 u21 u22 u23 u24 u25 u26 u27 u28 u29 u30 u31 u32 u33 u34 u35 u36 u37 u38 u39 u40 u41 u42 u43 u44 u45 u46 u47 u48 u49 u50 u51 u52 u53 u54 u55 u56 u57 u58 u59 u60 u61 u62 u63 u64 u65 u66 u67 u68 u69 u70 u71 u72 u73 u74 u75 u76 u77 u78 u79 u80 u81 u82 u83 u84 u85 u86 : Value} (c0 : w.cell? ⟨g6, o6 + i, none⟩ = some (.int .i64 z)) (c1 : w.cell? ⟨g7, o7 + i, none⟩ = some (.int .i64 z)) (h6 : i < l6) (h7 : i < l7)
    (hQ : ∀ (y78 y79 y80 y81 y82 y83 y84 y85 : Value), Q .normal { tmps := #[u0, u1, u2, u3, u4, u5, .slice (some ⟨g6, o6, none⟩) l6 c6, .slice (some ⟨g7, o7, none⟩) l7 c7, .int .i64 (i : Int), u9, u10, u11, u12, u13, u14, u15, u16, u17, u18, u19, u20, u21, u22, u23, u24, u25, u26, u27, u28, u29, u30, u31, u32, u33, u34, u35, u36, u37, u38, u39, u40, u41, u42, u43, u44, u45, u46, u47, u48, u49, u50, u51, u52, u53, u54, u55, u56, u57, u58, u59, u60, u61, u62, u63, u64, u65, u66, u67, u68, u69, u70, u71, u72, u73, u74, u75, u76, u77, y78, y79, y80, y81, y82, y83, y84, y85, .bool false], defers := [] } w.drew) :
    (Code.region 13 #[{ dst := some 78, op := Op.move (Operand.tmp 6), type := 32, pos := "law.go:66", after := #[], guard := none }, { dst := some 79, op := Op.move (Operand.tmp 8), type := 3, pos := "law.go:66", after := #[], guard := none }, { dst := some 80, op := Op.indexAddr 32 (Operand.tmp 78) (Operand.tmp 79), type := 0, pos := "law.go:66", after := #[{ on := 0, ground := Ground.data }, { on := 1, ground := Ground.data }], guard := none }, { dst := some 81, op := Op.load 3 (Operand.tmp 80), type := 3, pos := "law.go:66", after := #[{ on := 2, ground := Ground.data }], guard := none }, { dst := some 82, op := Op.move (Operand.tmp 7), type := 32, pos := "law.go:66", after := #[], guard := none }, { dst := some 83, op := Op.move (Operand.tmp 8), type := 3, pos := "law.go:66", after := #[], guard := none }, { dst := some 84, op := Op.indexAddr 32 (Operand.tmp 82) (Operand.tmp 83), type := 0, pos := "law.go:66", after := #[{ on := 4, ground := Ground.data }, { on := 5, ground := Ground.data }], guard := none }, { dst := some 85, op := Op.load 3 (Operand.tmp 84), type := 3, pos := "law.go:66", after := #[{ on := 6, ground := Ground.data }], guard := none }, { dst := some 86, op := Op.binOp BinOp.neq 3 (Operand.tmp 81) (Operand.tmp 85) 3, type := 4, pos := "law.go:66", after := #[{ on := 3, ground := Ground.data }, { on := 7, ground := Ground.data }], guard := none }] true).wp Try.prog Q { tmps := #[u0, u1, u2, u3, u4, u5, .slice (some ⟨g6, o6, none⟩) l6 c6, .slice (some ⟨g7, o7, none⟩) l7 c7, .int .i64 (i : Int), u9, u10, u11, u12, u13, u14, u15, u16, u17, u18, u19, u20, u21, u22, u23, u24, u25, u26, u27, u28, u29, u30, u31, u32, u33, u34, u35, u36, u37, u38, u39, u40, u41, u42, u43, u44, u45, u46, u47, u48, u49, u50, u51, u52, u53, u54, u55, u56, u57, u58, u59, u60, u61, u62, u63, u64, u65, u66, u67, u68, u69, u70, u71, u72, u73, u74, u75, u76, u77, u78, u79, u80, u81, u82, u83, u84, u85, u86], defers := [] } w := by
  refine wp_region_noPanic ?_
  have HQ := Lib.hid hQ
  have k0 : (0 : Int) ≤ (i : Int) := by omega
  have k1 : (i : Int) < (l6 : Int) := by omega
  have k2 : (i : Int) < (l7 : Int) := by omega
  have c0 : w.drew.cell? ⟨g6, o6 + i, none⟩ = some (.int .i64 z) := c0
  have c1 : w.drew.cell? ⟨g7, o7 + i, none⟩ = some (.int .i64 z) := c1
  clear hQ
  refine wp_region_held_drew (S := (fun W => W.cell? ⟨g6, o6 + i, none⟩ = some (.int .i64 z) ∧ W.cell? ⟨g7, o7 + i, none⟩ = some (.int .i64 z))) (by kernel_rfl) (by exact ⟨c0, c1⟩) (fun hHeld => ?_)
  generalize w.drew = W0 at *
  refine wpAnyH_take (i := 0) (oi := { dst := some 78, op := Op.move (Operand.tmp 6), type := 32, pos := "law.go:66", after := #[], guard := none }) (v := ?_) rfl (by kernel_rfl) (by kernel_rfl) (by kernel_rfl) (fun _ _ _ h => h) (Or.inl ⟨by rfl, ?_⟩) (by assumption) ?_
  rotate_left
  focus (intro w hSw; (try dsimp only at hSw); go_simp; (try with_reducible rfl))
  try simp only [Act.put, List.setIfInBounds_toArray, List.set_cons_zero, List.set_cons_succ]
  refine wpAnyH_take (i := 1) (oi := { dst := some 79, op := Op.move (Operand.tmp 8), type := 3, pos := "law.go:66", after := #[], guard := none }) (v := ?_) rfl (by kernel_rfl) (by kernel_rfl) (by kernel_rfl) (fun _ _ _ h => h) (Or.inl ⟨by rfl, ?_⟩) (by assumption) ?_
  rotate_left
  focus (intro w hSw; (try dsimp only at hSw); go_simp; (try with_reducible rfl))
  try simp only [Act.put, List.setIfInBounds_toArray, List.set_cons_zero, List.set_cons_succ]
  refine wpAnyH_take (i := 2) (oi := { dst := some 80, op := Op.indexAddr 32 (Operand.tmp 78) (Operand.tmp 79), type := 0, pos := "law.go:66", after := #[{ on := 0, ground := Ground.data }, { on := 1, ground := Ground.data }], guard := none }) (v := ?_) rfl (by kernel_rfl) (by kernel_rfl) (by kernel_rfl) (fun _ _ _ h => h) (Or.inl ⟨by rfl, ?_⟩) (by assumption) ?_
  rotate_left
  focus (intro w hSw; (try dsimp only at hSw); go_simp; (try with_reducible rfl))
  try simp only [Act.put, List.setIfInBounds_toArray, List.set_cons_zero, List.set_cons_succ]
  refine wpAnyH_take (i := 3) (oi := { dst := some 81, op := Op.load 3 (Operand.tmp 80), type := 3, pos := "law.go:66", after := #[{ on := 2, ground := Ground.data }], guard := none }) (v := ?_) rfl (by kernel_rfl) (by kernel_rfl) (by kernel_rfl) (fun _ _ _ h => h) (Or.inl ⟨by rfl, ?_⟩) (by assumption) ?_
  rotate_left
  focus (intro w hSw; (try dsimp only at hSw); go_simp; (try with_reducible rfl))
  try simp only [Act.put, List.setIfInBounds_toArray, List.set_cons_zero, List.set_cons_succ]
  refine wpAnyH_take (i := 4) (oi := { dst := some 82, op := Op.move (Operand.tmp 7), type := 32, pos := "law.go:66", after := #[], guard := none }) (v := ?_) rfl (by kernel_rfl) (by kernel_rfl) (by kernel_rfl) (fun _ _ _ h => h) (Or.inl ⟨by rfl, ?_⟩) (by assumption) ?_
  rotate_left
  focus (intro w hSw; (try dsimp only at hSw); go_simp; (try with_reducible rfl))
  try simp only [Act.put, List.setIfInBounds_toArray, List.set_cons_zero, List.set_cons_succ]
  refine wpAnyH_take (i := 5) (oi := { dst := some 83, op := Op.move (Operand.tmp 8), type := 3, pos := "law.go:66", after := #[], guard := none }) (v := ?_) rfl (by kernel_rfl) (by kernel_rfl) (by kernel_rfl) (fun _ _ _ h => h) (Or.inl ⟨by rfl, ?_⟩) (by assumption) ?_
  rotate_left
  focus (intro w hSw; (try dsimp only at hSw); go_simp; (try with_reducible rfl))
  try simp only [Act.put, List.setIfInBounds_toArray, List.set_cons_zero, List.set_cons_succ]
  refine wpAnyH_take (i := 6) (oi := { dst := some 84, op := Op.indexAddr 32 (Operand.tmp 82) (Operand.tmp 83), type := 0, pos := "law.go:66", after := #[{ on := 4, ground := Ground.data }, { on := 5, ground := Ground.data }], guard := none }) (v := ?_) rfl (by kernel_rfl) (by kernel_rfl) (by kernel_rfl) (fun _ _ _ h => h) (Or.inl ⟨by rfl, ?_⟩) (by assumption) ?_
  rotate_left
  focus (intro w hSw; (try dsimp only at hSw); go_simp; (try with_reducible rfl))
  try simp only [Act.put, List.setIfInBounds_toArray, List.set_cons_zero, List.set_cons_succ]
  refine wpAnyH_take (i := 7) (oi := { dst := some 85, op := Op.load 3 (Operand.tmp 84), type := 3, pos := "law.go:66", after := #[{ on := 6, ground := Ground.data }], guard := none }) (v := ?_) rfl (by kernel_rfl) (by kernel_rfl) (by kernel_rfl) (fun _ _ _ h => h) (Or.inl ⟨by rfl, ?_⟩) (by assumption) ?_
  rotate_left
  focus (intro w hSw; (try dsimp only at hSw); go_simp; (try with_reducible rfl))
  try simp only [Act.put, List.setIfInBounds_toArray, List.set_cons_zero, List.set_cons_succ]
  refine wpAnyH_take (i := 8) (oi := { dst := some 86, op := Op.binOp BinOp.neq 3 (Operand.tmp 81) (Operand.tmp 85) 3, type := 4, pos := "law.go:66", after := #[{ on := 3, ground := Ground.data }, { on := 7, ground := Ground.data }], guard := none }) (v := ?_) rfl (by kernel_rfl) (by kernel_rfl) (by kernel_rfl) (fun _ _ _ h => h) (Or.inl ⟨by rfl, ?_⟩) (by assumption) ?_
  rotate_left
  focus (intro w hSw; (try dsimp only at hSw); go_simp; (try with_reducible rfl))
  try simp only [Act.put, List.setIfInBounds_toArray, List.set_cons_zero, List.set_cons_succ]
  refine wpAnyH_done (by kernel_rfl) ?_ _
  exact NoPanic.normal (HQ.out _ _ _ _ _ _ _ _)
set_option maxHeartbeats 4000000 in
set_option maxRecDepth 100000 in
theorem sameP {w0 w : World} {Bd Br k : Nat} {S : List PN} {C : List Cl} (F : Fine S C k) (hk : k ≤ 1000) (h : Two (fun _ => False) w0 w Bd Br S C) :
    Calls Try.prog 9 #[.pointer (some ⟨Bd, 0, none⟩), .pointer (some ⟨Br, 0, none⟩)] w (fun e w' => e = .returned (.bool true) ∧ Below w.heap.size w w') := by
  have HF := Lib.hid F
  have HT := Lib.hid h
  have hcl := F.len
  obtain ⟨hBr, gC, cC, hcell⟩ := two_len h
  have HCE : Hid (∀ W, Below w.heap.size w W → W.cell? ⟨Br, 0, none⟩ = some (.slice (some ⟨gC, 0, none⟩) C.length cC)) := Lib.hid fun W hb => (hb.cell (p := ⟨Br, 0, none⟩) hBr).trans hcell
  clear h F hcell hBr
  go_enter Try.func9, Try.ntmps9
  go_upto_region 1 with fail
  refine same_reg1 HF.out hk HT.out ?_
  intro y9 y10 y11 y12 y13 y14 y15 y16 y17 y18 y19 y20 y21 y22 y23 w1 hb1
  have HB1 := Lib.hid hb1
  clear hb1
  go_wp2_with fail
  go_loopw [5] (fun i wr => ∃ z : Int, i = .int .i64 z ∧ -1 ≤ z ∧ z ≤ (C.length : Int) + 1 ∧ Below w.heap.size w wr) (fun i _ => ((C.length : Int) + 1 - intOf i).toNat)
  case atStart => exact ⟨-1, rfl, by omega, by omega, HB1.out⟩
  case round =>
    obtain ⟨z, rfl, hz0, hz1, hb⟩ := hrel
    have hc := HCE.out _ hb
    have HB := Lib.hid hb
    clear hb
    by_cases hlt : z ≤ (C.length : Int)
    · obtain ⟨l, hl, k1, k2⟩ := two_kids (w0 := w0) (Bd := Bd) (Br := Br) HF.out hk z
      obtain ⟨u, u1, u2⟩ := two_up (w0 := w0) (Bd := Bd) (Br := Br) HF.out z
      obtain ⟨x, hx, n1, n2⟩ := two_node (w0 := w0) (Bd := Bd) (Br := Br) HF.out z
      have HK1 := Lib.hid k1
      have HK2 := Lib.hid k2
      have HU1 := Lib.hid u1
      have HU2 := Lib.hid u2
      have HN1 := Lib.hid n1
      have HN2 := Lib.hid n2
      clear k1 k2 u1 u2 n1 n2
      go_wp2_with fail
      refine (HK1.out _ _ (HT.out.on HB.out)).mono ?_
      rintro e w2 ⟨v2, rfl, hv2, hb2⟩
      have HB2 := Lib.hid (HB.out.trans (hb2.mono HB.out.size))
      obtain ⟨p6, c6, rfl, hr6⟩ := id hv2
      have HV2 := Lib.hid hv2
      clear hv2 hb2 hr6
      go_wp2_with fail
      refine (HK2.out _ _ (HT.out.on HB2.out)).mono ?_
      rintro e w3 ⟨v3, rfl, hv3, hb3⟩
      have HB3 := Lib.hid (HB2.out.trans (hb3.mono HB2.out.size))
      have HV2 := Lib.hid (NumsAt.on6 HV2.out hb3)
      obtain ⟨p7, c7, rfl, hr7⟩ := id hv3
      have HV3 := Lib.hid hv3
      clear hv3 hb3 hr7
      go_wp2_with fail
      refine (HU1.out _ _ (HT.out.on HB3.out)).mono ?_
      rintro e w4 ⟨rfl, rfl⟩
      go_wp2_with fail
      refine (HU2.out _ _ (HT.out.on HB3.out)).mono ?_
      rintro e w4 ⟨rfl, rfl⟩
      go_wp2_with fail
      refine (HN1.out _ _ (HT.out.on HB3.out)).mono ?_
      rintro e w5 ⟨va, rfl, hA5, hb5⟩
      have HB5 := Lib.hid (HB3.out.trans (hb5.mono HB3.out.size))
      have HV2 := Lib.hid (HV2.out.on6 hb5)
      have HV3 := Lib.hid (HV3.out.on6 hb5)
      have HA5 := Lib.hid hA5
      clear hA5 hb5
      go_wp2_with fail
      refine (HN2.out _ _ (HT.out.on HB5.out)).mono ?_
      rintro e w6 ⟨vb, rfl, hA6, hb6⟩
      have HB6 := Lib.hid (HB5.out.trans (hb6.mono HB5.out.size))
      have HV2 := Lib.hid (HV2.out.on6 hb6)
      have HV3 := Lib.hid (HV3.out.on6 hb6)
      have HA5 := Lib.hid (HA5.out.kept (.of_below hb6))
      have HA6 := Lib.hid hA6
      clear hA6 hb6
      go_wp2_with fail
      refine (rone_nd x x va vb _ _ _ _ w6 HA5.out HA6.out ⟨_, _, _, rfl⟩ ⟨_, _, _, rfl⟩ (by omega)).mono ?_
      rw [decide_eq_true rfl]
      rintro e w7 ⟨rfl, hb7⟩
      have HB7 := Lib.hid (HB6.out.trans (hb7.mono HB6.out.size))
      have HV2 := Lib.hid (HV2.out.on6 hb7)
      have HV3 := Lib.hid (HV3.out.on6 hb7)
      clear hb7
      go_wp2_with fail
      refine (HN1.out _ _ (HT.out.on HB7.out)).mono ?_
      rintro e w8 ⟨vc, rfl, hA8, hb8⟩
      have HB8 := Lib.hid (HB7.out.trans (hb8.mono HB7.out.size))
      have HV2 := Lib.hid (HV2.out.on6 hb8)
      have HV3 := Lib.hid (HV3.out.on6 hb8)
      clear hA8 hb8
      unfold nodeV
      have hfd : ∀ W : World, (Instr.field 43 (.agg #[.int .i64 x.kind, .int .i64 x.space, .string ⟨x.name.toArray⟩, vc, .string ⟨x.text.toArray⟩, .int .i64 x.frm, .slice none 0 0]) 6).run Try.prog W = .ok (.slice none 0 0) W := fun _ => by kernel_rfl
      go_wp2_with fail
      go_loopw [8] (fun i wq => ∃ j : Nat, j ≤ l.length ∧ i = .int .i64 (j : Int) ∧ Below w8.heap.size w8 wq) (fun i _ => l.length - (intOf i).toNat)
      case atStart => exact ⟨0, Nat.zero_le _, rfl, Below.refl _ _⟩
      case round =>
        obtain ⟨j, hj, rfl, hb⟩ := hrel
        have HB9 := Lib.hid (HB8.out.trans (hb.mono HB8.out.size))
        have HBB := Lib.hid hb
        clear hb
        by_cases hjl : j < l.length
        · obtain ⟨_, _, e6, hr6⟩ := HV2.out.on6 HBB.out
          obtain ⟨_, _, e7, hr7⟩ := HV3.out.on6 HBB.out
          injection e6 with e6 _ _
          injection e7 with e7 _ _
          subst e6
          subst e7
          obtain ⟨g6, o6, rfl, _, h6⟩ := hr6 (by omega)
          obtain ⟨g7, o7, rfl, _, h7⟩ := hr7 (by omega)
          have q6 := Lib.hid (h6 j hjl)
          have q7 := Lib.hid (h7 j hjl)
          clear h6 h7 hr6 hr7
          have i0 : (j : Int) < (l.length : Int) := by omega
          go_upto_region 13 with fail
          refine same_reg13 q6.out q7.out hjl hjl ?_
          intro y78 y79 y80 y81 y82 y83 y84 y85
          go_wp2_with fail
          exact ⟨⟨j + 1, by omega, by go_num, HBB.out.drew⟩, by simp [intOf]; omega⟩
        · have i0 : ¬ (j : Int) < (l.length : Int) := by omega
          go_wp2_with fail
          exact ⟨⟨z + 1, by go_num, by omega, by omega, HB9.out⟩, by simp [intOf]; omega⟩
    · go_wp2_with fail
      go_ret
      exact ⟨rfl, HB.out⟩
end Go.Proofs.Ytkoijkdhmfnlbaa
