/-
  The regions of the law's own do, over opaque posts.
-/
import Derived.Test.YtkoijkdhmfnlbaaDTwoA
import Derived.Test.YtkoijkdhmfnlbaaDOpsIn
namespace Go.Proofs.Ytkoijkdhmfnlbaa
open Go.RowKit

/-- A call lies in block T. -/
structure OpAt (W : World) (T : Nat) (z0 z1 z2 z3 : Int) (s : List UInt8) : Prop where
  c0 : W.cell? ⟨T, 0, none⟩ = some (.int .i64 z0)
  c1 : W.cell? ⟨T, 1, none⟩ = some (.int .i64 z1)
  c2 : W.cell? ⟨T, 2, none⟩ = some (.int .i64 z2)
  c3 : W.cell? ⟨T, 3, none⟩ = some (.int .i64 z3)
  c4 : W.cell? ⟨T, 4, none⟩ = some (.string ⟨s.toArray⟩)
  lt : T < W.heap.size
theorem OpAt.kept {X : Nat → Prop} {W W' : World} {T : Nat} {z0 z1 z2 z3 : Int} {s : List UInt8} (h : OpAt W T z0 z1 z2 z3 s) (hk : Kept X W W') (hx : X T) : OpAt W' T z0 z1 z2 z3 s :=
  ⟨(hk.cell hx h.lt).trans h.c0, (hk.cell hx h.lt).trans h.c1, (hk.cell hx h.lt).trans h.c2, (hk.cell hx h.lt).trans h.c3, (hk.cell hx h.lt).trans h.c4, Nat.lt_of_lt_of_le h.lt hk.size⟩
theorem OpAt.on {W W' : World} {T : Nat} {z0 z1 z2 z3 : Int} {s : List UInt8} (h : OpAt W T z0 z1 z2 z3 s) (hb : Below W.heap.size W W') : OpAt W' T z0 z1 z2 z3 s := h.kept (X := fun _ => True) (.of_below hb) trivial
theorem wrap_fit (z : Int) (h0 : -9223372036854775808 ≤ z) (h1 : z ≤ 9223372036854775807) : IntKind.i64.wrap z = z := by
  by_cases hz : 0 ≤ z
  · have e : z % 2 ^ 64 = z := Int.emod_eq_of_lt (by omega) (by omega)
    simp only [IntKind.wrap, IntKind.bits, IntKind.signed, e]
    rw [if_neg]
    simp
    omega
  · have e : z % 2 ^ 64 = z + 2 ^ 64 := by omega
    simp only [IntKind.wrap, IntKind.bits, IntKind.signed, e]
    rw [if_pos]
    · omega
    · simp
      omega
/-- What a call of both leaves. -/
def DoLeft (w0 : World) (Bd Br k : Nat) (w' : World) : Prop := ∃ S' C', Fine S' C' (k + 1) ∧ Two (fun _ => False) w0 w' Bd Br S' C'
set_option maxHeartbeats 4000000 in
set_option maxRecDepth 100000 in
theorem do_reg1 {w : World} {Bd Br : Nat} {T : Nat} {z0 z1 z2 z3 : Int} {s : List UInt8} {Q : Exit → Act → World → Prop} {u2 u3 u4 u6 u7 u8 u9 u10 u11 u12 u13 u14 u15 u16 u17 u18 u19 u20 u21 u22 u23 u24 u25 u26 u27 u28 u29 u30 u31 u32 u33 u34 u35 u36 u37 u38 u39 u40 u41 u42 u43 u44 u45 u46 u47 u48 u49 u50 u51 u52 u53 u54 u55 u56 u57 u58 u59 u60 u61 u62 u63 u64 u65 u66 u67 u68 u69 u70 u71 u72 u73 u74 u75 u76 u77 u78 u79 u80 u81 u82 u83 u84 u85 u86 u87 u88 u89 u90 u91 u92 u93 u94 u95 u96 u97 u98 u99 u100 u101 u102 u103 u104 u105 u106 u107 u108 u109 u110 u111 u112 u113 u114 : Value} (ho : OpAt w T z0 z1 z2 z3 s) (hz : Int64 z3)
    (hQ : ∀ (nm : List UInt8) (y9 y10 y11 y12 y13 y14 : Value) (w' : World), Below w.heap.size w w' → Q .normal { tmps := #[.pointer (some ⟨Bd, 0, none⟩), .pointer (some ⟨Br, 0, none⟩), u2, u3, u4, .pointer (some ⟨T, 0, none⟩), u6, .string ⟨nm.toArray⟩, u8, y9, y10, y11, y12, y13, y14, u15, u16, u17, u18, u19, u20, u21, u22, u23, u24, u25, u26, u27, u28, u29, u30, u31, u32, u33, u34, u35, u36, u37, u38, u39, u40, u41, u42, u43, u44, u45, u46, u47, u48, u49, u50, u51, u52, u53, u54, u55, u56, u57, u58, u59, u60, u61, u62, u63, u64, u65, u66, u67, u68, u69, u70, u71, u72, u73, u74, u75, u76, u77, u78, u79, u80, u81, u82, u83, u84, u85, u86, u87, u88, u89, u90, u91, u92, u93, u94, u95, u96, u97, u98, u99, u100, u101, u102, u103, u104, u105, u106, u107, u108, u109, u110, u111, u112, u113, u114], defers := [] } w') :
    (Code.region 1 #[{ dst := some 9, op := Op.buildSlice 51 5 #[(0, Operand.const (Value.string { data := #[112] })), (1, Operand.const (Value.string { data := #[98] })), (2, Operand.const (Value.string { data := #[116, 97, 98, 108, 101] })), (3, Operand.const (Value.string { data := #[] })), (4, Operand.const (Value.string { data := #[97] }))], type := 51, pos := "law.go:76", after := #[], guard := none }, { dst := some 10, op := Op.fieldAddr 29 (Operand.tmp 5) 3, type := 0, pos := "law.go:76", after := #[], guard := none }, { dst := some 11, op := Op.load 3 (Operand.tmp 10), type := 3, pos := "law.go:76", after := #[{ on := 1, ground := Ground.data }], guard := none }, { dst := some 12, op := Op.call { callee := Callee.value (Operand.func 15), args := #[Operand.tmp 11, Operand.const (Value.int IntKind.i64 5)], argTypes := #[ 3, 3 ] }, type := 3, pos := "law.go:76", after := #[{ on := 2, ground := Ground.data }], guard := none }, { dst := some 13, op := Op.indexAddr 51 (Operand.tmp 9) (Operand.tmp 12), type := 0, pos := "law.go:76", after := #[{ on := 0, ground := Ground.data }, { on := 3, ground := Ground.data }], guard := none }, { dst := some 14, op := Op.load 9 (Operand.tmp 13), type := 9, pos := "law.go:76", after := #[{ on := 4, ground := Ground.data }], guard := none }, { dst := some 7, op := Op.assign (Operand.tmp 14), type := 9, pos := "law.go:76", after := #[{ on := 5, ground := Ground.data }, { on := 3, ground := Ground.chain }, { on := 0, ground := Ground.phase }, { on := 1, ground := Ground.phase }, { on := 2, ground := Ground.phase }, { on := 3, ground := Ground.phase }, { on := 4, ground := Ground.phase }, { on := 5, ground := Ground.phase }], guard := none }] false).wp Try.prog Q { tmps := #[.pointer (some ⟨Bd, 0, none⟩), .pointer (some ⟨Br, 0, none⟩), u2, u3, u4, .pointer (some ⟨T, 0, none⟩), u6, u7, u8, u9, u10, u11, u12, u13, u14, u15, u16, u17, u18, u19, u20, u21, u22, u23, u24, u25, u26, u27, u28, u29, u30, u31, u32, u33, u34, u35, u36, u37, u38, u39, u40, u41, u42, u43, u44, u45, u46, u47, u48, u49, u50, u51, u52, u53, u54, u55, u56, u57, u58, u59, u60, u61, u62, u63, u64, u65, u66, u67, u68, u69, u70, u71, u72, u73, u74, u75, u76, u77, u78, u79, u80, u81, u82, u83, u84, u85, u86, u87, u88, u89, u90, u91, u92, u93, u94, u95, u96, u97, u98, u99, u100, u101, u102, u103, u104, u105, u106, u107, u108, u109, u110, u111, u112, u113, u114], defers := [] } w := by
  have HQ := Lib.hid hQ
  have HZ := Lib.hid hz
  have c3 := ho.c3
  have hT := ho.lt
  have hj := (within_lt z3 5 (by omega)).1
  clear hQ hz ho
  go_wp2_with fail
  refine (within6 z3 5 _ HZ.out.1 HZ.out.2 (by omega) (by omega)).mono ?_
  rintro e w4 ⟨rfl, rfl⟩
  generalize Within z3 5 = j at *
  rcases (by omega : j = 0 ∨ j = 1 ∨ j = 2 ∨ j = 3 ∨ j = 4) with rfl | rfl | rfl | rfl | rfl
  · go_wp2_with fail
    exact HQ.out [112] _ _ _ _ _ _ _ ((Below.refl _ w).alloc (Nat.le_refl _) _)
  · go_wp2_with fail
    exact HQ.out [98] _ _ _ _ _ _ _ ((Below.refl _ w).alloc (Nat.le_refl _) _)
  · go_wp2_with fail
    exact HQ.out [116, 97, 98, 108, 101] _ _ _ _ _ _ _ ((Below.refl _ w).alloc (Nat.le_refl _) _)
  · go_wp2_with fail
    exact HQ.out [] _ _ _ _ _ _ _ ((Below.refl _ w).alloc (Nat.le_refl _) _)
  · go_wp2_with fail
    exact HQ.out [97] _ _ _ _ _ _ _ ((Below.refl _ w).alloc (Nat.le_refl _) _)
set_option maxHeartbeats 4000000 in
set_option maxRecDepth 100000 in
theorem do_reg9 {w0 w : World} {Bd Br k : Nat} {S : List PN} {C : List Cl} {T : Nat} {z0 z1 z2 z3 : Int} {s : List UInt8}  {Q : Exit → Act → World → Prop} {u2 u3 u4 u6 u7 u8 u9 u10 u11 u12 u13 u14 u15 u16 u17 u18 u19 u20 u21 u22 u23 u24 u25 u26 u27 u28 u29 u30 u31 u32 u33 u34 u35 u36 u37 u38 u39 u40 u41 u42 u43 u44 u45 u46 u47 u48 u49 u50 u51 u52 u53 u54 u55 u56 u57 u58 u59 u60 u61 u62 u63 u64 u65 u66 u67 u68 u69 u70 u71 u72 u73 u74 u75 u76 u77 u78 u79 u80 u81 u82 u83 u84 u85 u86 u87 u88 u89 u90 u91 u92 u93 u94 u95 u96 u97 u98 u99 u100 u101 u102 u103 u104 u105 u106 u107 u108 u109 u110 u111 u112 u113 u114 : Value} (ho : OpAt w T z0 z1 z2 z3 s) (F : Fine S C k) (hk : k ≤ 1000) (h : Two (fun b => T ≤ b ∧ b < w.heap.size) w0 w Bd Br S C)
    (hQ : ∀ (y54 y55 y56 y57 y58 y59 y60 y61 y62 : Value) (w' : World), DoLeft w0 Bd Br k w' → Q .normal { tmps := #[.pointer (some ⟨Bd, 0, none⟩), .pointer (some ⟨Br, 0, none⟩), u2, u3, u4, .pointer (some ⟨T, 0, none⟩), .bool true, u7, u8, u9, u10, u11, u12, u13, u14, u15, u16, u17, u18, u19, u20, u21, u22, u23, u24, u25, u26, u27, u28, u29, u30, u31, u32, u33, u34, u35, u36, u37, u38, u39, u40, u41, u42, u43, u44, u45, u46, u47, u48, u49, u50, u51, u52, u53, y54, y55, y56, y57, y58, y59, y60, y61, y62, u63, u64, u65, u66, u67, u68, u69, u70, u71, u72, u73, u74, u75, u76, u77, u78, u79, u80, u81, u82, u83, u84, u85, u86, u87, u88, u89, u90, u91, u92, u93, u94, u95, u96, u97, u98, u99, u100, u101, u102, u103, u104, u105, u106, u107, u108, u109, u110, u111, u112, u113, u114], defers := [] } w') :
    (Code.region 9 #[{ dst := some 54, op := Op.move (Operand.tmp 0), type := 24, pos := "law.go:84", after := #[], guard := none }, { dst := some 55, op := Op.fieldAddr 29 (Operand.tmp 5) 1, type := 0, pos := "law.go:84", after := #[], guard := none }, { dst := some 56, op := Op.load 3 (Operand.tmp 55), type := 3, pos := "law.go:84", after := #[{ on := 1, ground := Ground.data }], guard := none }, { dst := some 57, op := Op.call { callee := Callee.value (Operand.func 19), args := #[Operand.tmp 54, Operand.tmp 56], argTypes := #[ 24, 3 ] }, type := 4, pos := "law.go:84", after := #[{ on := 0, ground := Ground.data }, { on := 2, ground := Ground.data }], guard := none }, { dst := some 58, op := Op.move (Operand.tmp 1), type := 26, pos := "law.go:84", after := #[], guard := none }, { dst := some 59, op := Op.fieldAddr 29 (Operand.tmp 5) 1, type := 0, pos := "law.go:84", after := #[], guard := none }, { dst := some 60, op := Op.load 3 (Operand.tmp 59), type := 3, pos := "law.go:84", after := #[{ on := 5, ground := Ground.data }], guard := none }, { dst := some 61, op := Op.call { callee := Callee.value (Operand.func 20), args := #[Operand.tmp 58, Operand.tmp 60], argTypes := #[ 26, 3 ] }, type := 4, pos := "law.go:84", after := #[{ on := 4, ground := Ground.data }, { on := 6, ground := Ground.data }, { on := 3, ground := Ground.chain }], guard := none }, { dst := some 62, op := Op.binOp BinOp.eql 4 (Operand.tmp 57) (Operand.tmp 61) 4, type := 4, pos := "law.go:84", after := #[{ on := 3, ground := Ground.data }, { on := 7, ground := Ground.data }], guard := none }, { dst := some 6, op := Op.assign (Operand.tmp 62), type := 4, pos := "law.go:84", after := #[{ on := 8, ground := Ground.data }, { on := 7, ground := Ground.chain }, { on := 0, ground := Ground.phase }, { on := 1, ground := Ground.phase }, { on := 2, ground := Ground.phase }, { on := 3, ground := Ground.phase }, { on := 4, ground := Ground.phase }, { on := 5, ground := Ground.phase }, { on := 6, ground := Ground.phase }, { on := 7, ground := Ground.phase }, { on := 8, ground := Ground.phase }], guard := none }] true).wp Try.prog Q { tmps := #[.pointer (some ⟨Bd, 0, none⟩), .pointer (some ⟨Br, 0, none⟩), u2, u3, u4, .pointer (some ⟨T, 0, none⟩), u6, u7, u8, u9, u10, u11, u12, u13, u14, u15, u16, u17, u18, u19, u20, u21, u22, u23, u24, u25, u26, u27, u28, u29, u30, u31, u32, u33, u34, u35, u36, u37, u38, u39, u40, u41, u42, u43, u44, u45, u46, u47, u48, u49, u50, u51, u52, u53, u54, u55, u56, u57, u58, u59, u60, u61, u62, u63, u64, u65, u66, u67, u68, u69, u70, u71, u72, u73, u74, u75, u76, u77, u78, u79, u80, u81, u82, u83, u84, u85, u86, u87, u88, u89, u90, u91, u92, u93, u94, u95, u96, u97, u98, u99, u100, u101, u102, u103, u104, u105, u106, u107, u108, u109, u110, u111, u112, u113, u114], defers := [] } w := by
  refine wp_region_noPanic ?_
  have HQ := Lib.hid hQ
  have HF := Lib.hid F
  have HO := Lib.hid (ho.on (Below.refl _ w).drew)
  have HT := Lib.hid (h.on (Below.refl _ w).drew)
  have hTl := ho.lt
  have HX : Hid ((fun b => T ≤ b ∧ b < w.heap.size) T) := Lib.hid ⟨Nat.le_refl _, ho.lt⟩
  generalize hTX : (⟨s.toArray⟩ : ByteArray) = TX
  have HTX := Lib.hid hTX
  clear hQ h ho hTX F
  refine wp_region_held_drew (S := (fun W => W.cell? ⟨T, 0, none⟩ = some (.int .i64 z0) ∧ W.cell? ⟨T, 1, none⟩ = some (.int .i64 z1) ∧ W.cell? ⟨T, 2, none⟩ = some (.int .i64 z2) ∧ W.cell? ⟨T, 3, none⟩ = some (.int .i64 z3) ∧ W.cell? ⟨T, 4, none⟩ = some (.string TX))) (by kernel_rfl) (by exact ⟨HO.out.c0, HO.out.c1, HO.out.c2, HO.out.c3, HTX.out ▸ HO.out.c4⟩) (fun hHeld => ?_)
  generalize w.drew = W0 at *
  refine wpAnyH_take (i := 0) (oi := { dst := some 54, op := Op.move (Operand.tmp 0), type := 24, pos := "law.go:84", after := #[], guard := none }) (v := ?_) rfl (by kernel_rfl) (by kernel_rfl) (by kernel_rfl) (fun _ _ _ h => h) (Or.inl ⟨by rfl, ?_⟩) (by assumption) ?_
  rotate_left
  focus (intro w hSw; (try dsimp only at hSw); go_simp; (try with_reducible rfl))
  try simp only [Act.put, List.setIfInBounds_toArray, List.set_cons_zero, List.set_cons_succ]
  refine wpAnyH_take (i := 1) (oi := { dst := some 55, op := Op.fieldAddr 29 (Operand.tmp 5) 1, type := 0, pos := "law.go:84", after := #[], guard := none }) (v := ?_) rfl (by kernel_rfl) (by kernel_rfl) (by kernel_rfl) (fun _ _ _ h => h) (Or.inl ⟨by rfl, ?_⟩) (by assumption) ?_
  rotate_left
  focus (intro w hSw; (try dsimp only at hSw); go_simp; (try with_reducible rfl))
  try simp only [Act.put, List.setIfInBounds_toArray, List.set_cons_zero, List.set_cons_succ]
  refine wpAnyH_take (i := 2) (oi := { dst := some 56, op := Op.load 3 (Operand.tmp 55), type := 3, pos := "law.go:84", after := #[{ on := 1, ground := Ground.data }], guard := none }) (v := ?_) rfl (by kernel_rfl) (by kernel_rfl) (by kernel_rfl) (fun _ _ _ h => h) (Or.inl ⟨by rfl, ?_⟩) (by assumption) ?_
  rotate_left
  focus (intro w hSw; (try dsimp only at hSw); go_simp; (try with_reducible rfl))
  try simp only [Act.put, List.setIfInBounds_toArray, List.set_cons_zero, List.set_cons_succ]
  refine wpAnyH_take (i := 4) (oi := { dst := some 58, op := Op.move (Operand.tmp 1), type := 26, pos := "law.go:84", after := #[], guard := none }) (v := ?_) rfl (by kernel_rfl) (by kernel_rfl) (by kernel_rfl) (fun _ _ _ h => h) (Or.inl ⟨by rfl, ?_⟩) (by assumption) ?_
  rotate_left
  focus (intro w hSw; (try dsimp only at hSw); go_simp; (try with_reducible rfl))
  try simp only [Act.put, List.setIfInBounds_toArray, List.set_cons_zero, List.set_cons_succ]
  refine wpAnyH_take (i := 5) (oi := { dst := some 59, op := Op.fieldAddr 29 (Operand.tmp 5) 1, type := 0, pos := "law.go:84", after := #[], guard := none }) (v := ?_) rfl (by kernel_rfl) (by kernel_rfl) (by kernel_rfl) (fun _ _ _ h => h) (Or.inl ⟨by rfl, ?_⟩) (by assumption) ?_
  rotate_left
  focus (intro w hSw; (try dsimp only at hSw); go_simp; (try with_reducible rfl))
  try simp only [Act.put, List.setIfInBounds_toArray, List.set_cons_zero, List.set_cons_succ]
  refine wpAnyH_take (i := 6) (oi := { dst := some 60, op := Op.load 3 (Operand.tmp 59), type := 3, pos := "law.go:84", after := #[{ on := 5, ground := Ground.data }], guard := none }) (v := ?_) rfl (by kernel_rfl) (by kernel_rfl) (by kernel_rfl) (fun _ _ _ h => h) (Or.inl ⟨by rfl, ?_⟩) (by assumption) ?_
  rotate_left
  focus (intro w hSw; (try dsimp only at hSw); go_simp; (try with_reducible rfl))
  try simp only [Act.put, List.setIfInBounds_toArray, List.set_cons_zero, List.set_cons_succ]
  refine wpAnyH_ready (rs := [3]) (by kernel_rfl) (by simp) ?_
  refine AllReadyH.cons (o := { dst := some 57, op := Op.call { callee := Callee.value (Operand.func 19), args := #[Operand.tmp 54, Operand.tmp 56], argTypes := #[ 24, 3 ] }, type := 4, pos := "law.go:84", after := #[{ on := 0, ground := Ground.data }, { on := 2, ground := Ground.data }], guard := none }) rfl (fun K hK => ?_) AllReadyH.nil
  go_simp
  obtain ⟨v, S', C', hfine, hP, hR⟩ := two_take (w0 := w0) (Bd := Bd) (Br := Br) HF.out hk z1
  have HA := Lib.hid (And.intro hfine hR)
  refine (hP _ _ HT.out).mono ?_
  rintro e w5 ⟨rfl, hT5, hk5⟩
  have HT5 := Lib.hid hT5
  have HO5 := Lib.hid (HO.out.kept hk5 HX.out)
  clear hP hfine hR hT5 hk5
  go_wp2_with fail
  refine hK.out _ _ (by exact ⟨HO5.out.c0, HO5.out.c1, HO5.out.c2, HO5.out.c3, HTX.out ▸ HO5.out.c4⟩) (fun hHeld => ?_)
  clear hK K
  try simp only [Act.put, List.setIfInBounds_toArray, List.set_cons_zero, List.set_cons_succ]
  refine wpAnyH_ready (rs := [7]) (by kernel_rfl) (by simp) ?_
  refine AllReadyH.cons (o := { dst := some 61, op := Op.call { callee := Callee.value (Operand.func 20), args := #[Operand.tmp 58, Operand.tmp 60], argTypes := #[ 26, 3 ] }, type := 4, pos := "law.go:84", after := #[{ on := 4, ground := Ground.data }, { on := 6, ground := Ground.data }, { on := 3, ground := Ground.chain }], guard := none }) rfl (fun K hK => ?_) AllReadyH.nil
  go_simp
  refine (HA.out.2 _ _ HT5.out).mono ?_
  rintro e w6 ⟨rfl, hT6, hk6⟩
  have HT6 := Lib.hid hT6
  have HO6 := Lib.hid (HO5.out.kept hk6 HX.out)
  clear hT6 hk6
  go_wp2_with fail
  refine hK.out _ _ (by exact ⟨HO6.out.c0, HO6.out.c1, HO6.out.c2, HO6.out.c3, HTX.out ▸ HO6.out.c4⟩) (fun hHeld => ?_)
  clear hK K
  try simp only [Act.put, List.setIfInBounds_toArray, List.set_cons_zero, List.set_cons_succ]
  refine wpAnyH_take (i := 8) (oi := { dst := some 62, op := Op.binOp BinOp.eql 4 (Operand.tmp 57) (Operand.tmp 61) 4, type := 4, pos := "law.go:84", after := #[{ on := 3, ground := Ground.data }, { on := 7, ground := Ground.data }], guard := none }) (v := ?_) rfl (by kernel_rfl) (by kernel_rfl) (by kernel_rfl) (fun _ _ _ h => h) (Or.inl ⟨by rfl, ?_⟩) (by assumption) ?_
  rotate_left
  focus (intro w hSw; (try dsimp only at hSw); go_simp; (try with_reducible rfl))
  try simp only [Act.put, List.setIfInBounds_toArray, List.set_cons_zero, List.set_cons_succ]
  refine wpAnyH_take (i := 9) (oi := { dst := some 6, op := Op.assign (Operand.tmp 62), type := 4, pos := "law.go:84", after := #[{ on := 8, ground := Ground.data }, { on := 7, ground := Ground.chain }, { on := 0, ground := Ground.phase }, { on := 1, ground := Ground.phase }, { on := 2, ground := Ground.phase }, { on := 3, ground := Ground.phase }, { on := 4, ground := Ground.phase }, { on := 5, ground := Ground.phase }, { on := 6, ground := Ground.phase }, { on := 7, ground := Ground.phase }, { on := 8, ground := Ground.phase }], guard := none }) (v := ?_) rfl (by kernel_rfl) (by kernel_rfl) (by kernel_rfl) (fun _ _ _ h => h) (Or.inl ⟨by rfl, ?_⟩) (by assumption) ?_
  rotate_left
  focus (intro w hSw; (try dsimp only at hSw); go_simp; (try with_reducible rfl))
  try simp only [Act.put, List.setIfInBounds_toArray, List.set_cons_zero, List.set_cons_succ]
  refine wpAnyH_done (by kernel_rfl) ?_ _
  exact NoPanic.normal (HQ.out _ _ _ _ _ _ _ _ _ _ ⟨_, _, HA.out.1, HT6.out.less (fun _ q => q.elim)⟩)
set_option maxHeartbeats 4000000 in
set_option maxRecDepth 100000 in
theorem do_reg15 {w0 w : World} {Bd Br k : Nat} {S : List PN} {C : List Cl} {T : Nat} {z0 z1 z2 z3 : Int} {s : List UInt8}  {Q : Exit → Act → World → Prop} {u2 u3 u4 u6 u7 u8 u9 u10 u11 u12 u13 u14 u15 u16 u17 u18 u19 u20 u21 u22 u23 u24 u25 u26 u27 u28 u29 u30 u31 u32 u33 u34 u35 u36 u37 u38 u39 u40 u41 u42 u43 u44 u45 u46 u47 u48 u49 u50 u51 u52 u53 u54 u55 u56 u57 u58 u59 u60 u61 u62 u63 u64 u65 u66 u67 u68 u69 u70 u71 u72 u73 u74 u75 u76 u77 u78 u79 u80 u81 u82 u83 u84 u85 u86 u87 u88 u89 u90 u91 u92 u93 u94 u95 u96 u97 u98 u99 u100 u101 u102 u103 u104 u105 u106 u107 u108 u109 u110 u111 u112 u113 u114 : Value} (ho : OpAt w T z0 z1 z2 z3 s) (F : Fine S C k) (hk : k ≤ 1000) (h : Two (fun b => T ≤ b ∧ b < w.heap.size) w0 w Bd Br S C)
    (hQ : ∀ (y98 y99 y100 y101 y102 y103 y104 y105 y106 y107 y108 y109 y110 y111 y112 y113 y114 : Value) (w' : World), DoLeft w0 Bd Br k w' → Q .normal { tmps := #[.pointer (some ⟨Bd, 0, none⟩), .pointer (some ⟨Br, 0, none⟩), u2, u3, u4, .pointer (some ⟨T, 0, none⟩), .bool true, u7, u8, u9, u10, u11, u12, u13, u14, u15, u16, u17, u18, u19, u20, u21, u22, u23, u24, u25, u26, u27, u28, u29, u30, u31, u32, u33, u34, u35, u36, u37, u38, u39, u40, u41, u42, u43, u44, u45, u46, u47, u48, u49, u50, u51, u52, u53, u54, u55, u56, u57, u58, u59, u60, u61, u62, u63, u64, u65, u66, u67, u68, u69, u70, u71, u72, u73, u74, u75, u76, u77, u78, u79, u80, u81, u82, u83, u84, u85, u86, u87, u88, u89, u90, u91, u92, u93, u94, u95, u96, u97, y98, y99, y100, y101, y102, y103, y104, y105, y106, y107, y108, y109, y110, y111, y112, y113, y114], defers := [] } w') :
    (Code.region 15 #[{ dst := some 98, op := Op.move (Operand.tmp 0), type := 24, pos := "law.go:90", after := #[], guard := none }, { dst := some 99, op := Op.fieldAddr 29 (Operand.tmp 5) 1, type := 0, pos := "law.go:90", after := #[], guard := none }, { dst := some 100, op := Op.load 3 (Operand.tmp 99), type := 3, pos := "law.go:90", after := #[{ on := 1, ground := Ground.data }], guard := none }, { dst := some 101, op := Op.fieldAddr 29 (Operand.tmp 5) 2, type := 0, pos := "law.go:90", after := #[], guard := none }, { dst := some 102, op := Op.load 3 (Operand.tmp 101), type := 3, pos := "law.go:90", after := #[{ on := 3, ground := Ground.data }], guard := none }, { dst := some 103, op := Op.fieldAddr 29 (Operand.tmp 5) 3, type := 0, pos := "law.go:90", after := #[], guard := none }, { dst := some 104, op := Op.load 3 (Operand.tmp 103), type := 3, pos := "law.go:90", after := #[{ on := 5, ground := Ground.data }], guard := none }, { dst := some 105, op := Op.call { callee := Callee.value (Operand.func 12), args := #[Operand.tmp 98, Operand.tmp 100, Operand.tmp 102, Operand.tmp 104], argTypes := #[ 24, 3, 3, 3 ] }, type := 4, pos := "law.go:90", after := #[{ on := 0, ground := Ground.data }, { on := 2, ground := Ground.data }, { on := 4, ground := Ground.data }, { on := 6, ground := Ground.data }], guard := none }, { dst := some 106, op := Op.move (Operand.tmp 1), type := 26, pos := "law.go:90", after := #[], guard := none }, { dst := some 107, op := Op.fieldAddr 29 (Operand.tmp 5) 1, type := 0, pos := "law.go:90", after := #[], guard := none }, { dst := some 108, op := Op.load 3 (Operand.tmp 107), type := 3, pos := "law.go:90", after := #[{ on := 9, ground := Ground.data }], guard := none }, { dst := some 109, op := Op.fieldAddr 29 (Operand.tmp 5) 2, type := 0, pos := "law.go:90", after := #[], guard := none }, { dst := some 110, op := Op.load 3 (Operand.tmp 109), type := 3, pos := "law.go:90", after := #[{ on := 11, ground := Ground.data }], guard := none }, { dst := some 111, op := Op.fieldAddr 29 (Operand.tmp 5) 3, type := 0, pos := "law.go:90", after := #[], guard := none }, { dst := some 112, op := Op.load 3 (Operand.tmp 111), type := 3, pos := "law.go:90", after := #[{ on := 13, ground := Ground.data }], guard := none }, { dst := some 113, op := Op.call { callee := Callee.value (Operand.func 24), args := #[Operand.tmp 106, Operand.tmp 108, Operand.tmp 110, Operand.tmp 112], argTypes := #[ 26, 3, 3, 3 ] }, type := 4, pos := "law.go:90", after := #[{ on := 8, ground := Ground.data }, { on := 10, ground := Ground.data }, { on := 12, ground := Ground.data }, { on := 14, ground := Ground.data }, { on := 7, ground := Ground.chain }], guard := none }, { dst := some 114, op := Op.binOp BinOp.eql 4 (Operand.tmp 105) (Operand.tmp 113) 4, type := 4, pos := "law.go:90", after := #[{ on := 7, ground := Ground.data }, { on := 15, ground := Ground.data }], guard := none }, { dst := some 6, op := Op.assign (Operand.tmp 114), type := 4, pos := "law.go:90", after := #[{ on := 16, ground := Ground.data }, { on := 15, ground := Ground.chain }, { on := 0, ground := Ground.phase }, { on := 1, ground := Ground.phase }, { on := 2, ground := Ground.phase }, { on := 3, ground := Ground.phase }, { on := 4, ground := Ground.phase }, { on := 5, ground := Ground.phase }, { on := 6, ground := Ground.phase }, { on := 7, ground := Ground.phase }, { on := 8, ground := Ground.phase }, { on := 9, ground := Ground.phase }, { on := 10, ground := Ground.phase }, { on := 11, ground := Ground.phase }, { on := 12, ground := Ground.phase }, { on := 13, ground := Ground.phase }, { on := 14, ground := Ground.phase }, { on := 15, ground := Ground.phase }, { on := 16, ground := Ground.phase }], guard := none }] true).wp Try.prog Q { tmps := #[.pointer (some ⟨Bd, 0, none⟩), .pointer (some ⟨Br, 0, none⟩), u2, u3, u4, .pointer (some ⟨T, 0, none⟩), u6, u7, u8, u9, u10, u11, u12, u13, u14, u15, u16, u17, u18, u19, u20, u21, u22, u23, u24, u25, u26, u27, u28, u29, u30, u31, u32, u33, u34, u35, u36, u37, u38, u39, u40, u41, u42, u43, u44, u45, u46, u47, u48, u49, u50, u51, u52, u53, u54, u55, u56, u57, u58, u59, u60, u61, u62, u63, u64, u65, u66, u67, u68, u69, u70, u71, u72, u73, u74, u75, u76, u77, u78, u79, u80, u81, u82, u83, u84, u85, u86, u87, u88, u89, u90, u91, u92, u93, u94, u95, u96, u97, u98, u99, u100, u101, u102, u103, u104, u105, u106, u107, u108, u109, u110, u111, u112, u113, u114], defers := [] } w := by
  refine wp_region_noPanic ?_
  have HQ := Lib.hid hQ
  have HF := Lib.hid F
  have HO := Lib.hid (ho.on (Below.refl _ w).drew)
  have HT := Lib.hid (h.on (Below.refl _ w).drew)
  have hTl := ho.lt
  have HX : Hid ((fun b => T ≤ b ∧ b < w.heap.size) T) := Lib.hid ⟨Nat.le_refl _, ho.lt⟩
  generalize hTX : (⟨s.toArray⟩ : ByteArray) = TX
  have HTX := Lib.hid hTX
  clear hQ h ho hTX F
  refine wp_region_held_drew (S := (fun W => W.cell? ⟨T, 0, none⟩ = some (.int .i64 z0) ∧ W.cell? ⟨T, 1, none⟩ = some (.int .i64 z1) ∧ W.cell? ⟨T, 2, none⟩ = some (.int .i64 z2) ∧ W.cell? ⟨T, 3, none⟩ = some (.int .i64 z3) ∧ W.cell? ⟨T, 4, none⟩ = some (.string TX))) (by kernel_rfl) (by exact ⟨HO.out.c0, HO.out.c1, HO.out.c2, HO.out.c3, HTX.out ▸ HO.out.c4⟩) (fun hHeld => ?_)
  generalize w.drew = W0 at *
  refine wpAnyH_take (i := 0) (oi := { dst := some 98, op := Op.move (Operand.tmp 0), type := 24, pos := "law.go:90", after := #[], guard := none }) (v := ?_) rfl (by kernel_rfl) (by kernel_rfl) (by kernel_rfl) (fun _ _ _ h => h) (Or.inl ⟨by rfl, ?_⟩) (by assumption) ?_
  rotate_left
  focus (intro w hSw; (try dsimp only at hSw); go_simp; (try with_reducible rfl))
  try simp only [Act.put, List.setIfInBounds_toArray, List.set_cons_zero, List.set_cons_succ]
  refine wpAnyH_take (i := 1) (oi := { dst := some 99, op := Op.fieldAddr 29 (Operand.tmp 5) 1, type := 0, pos := "law.go:90", after := #[], guard := none }) (v := ?_) rfl (by kernel_rfl) (by kernel_rfl) (by kernel_rfl) (fun _ _ _ h => h) (Or.inl ⟨by rfl, ?_⟩) (by assumption) ?_
  rotate_left
  focus (intro w hSw; (try dsimp only at hSw); go_simp; (try with_reducible rfl))
  try simp only [Act.put, List.setIfInBounds_toArray, List.set_cons_zero, List.set_cons_succ]
  refine wpAnyH_take (i := 2) (oi := { dst := some 100, op := Op.load 3 (Operand.tmp 99), type := 3, pos := "law.go:90", after := #[{ on := 1, ground := Ground.data }], guard := none }) (v := ?_) rfl (by kernel_rfl) (by kernel_rfl) (by kernel_rfl) (fun _ _ _ h => h) (Or.inl ⟨by rfl, ?_⟩) (by assumption) ?_
  rotate_left
  focus (intro w hSw; (try dsimp only at hSw); go_simp; (try with_reducible rfl))
  try simp only [Act.put, List.setIfInBounds_toArray, List.set_cons_zero, List.set_cons_succ]
  refine wpAnyH_take (i := 3) (oi := { dst := some 101, op := Op.fieldAddr 29 (Operand.tmp 5) 2, type := 0, pos := "law.go:90", after := #[], guard := none }) (v := ?_) rfl (by kernel_rfl) (by kernel_rfl) (by kernel_rfl) (fun _ _ _ h => h) (Or.inl ⟨by rfl, ?_⟩) (by assumption) ?_
  rotate_left
  focus (intro w hSw; (try dsimp only at hSw); go_simp; (try with_reducible rfl))
  try simp only [Act.put, List.setIfInBounds_toArray, List.set_cons_zero, List.set_cons_succ]
  refine wpAnyH_take (i := 4) (oi := { dst := some 102, op := Op.load 3 (Operand.tmp 101), type := 3, pos := "law.go:90", after := #[{ on := 3, ground := Ground.data }], guard := none }) (v := ?_) rfl (by kernel_rfl) (by kernel_rfl) (by kernel_rfl) (fun _ _ _ h => h) (Or.inl ⟨by rfl, ?_⟩) (by assumption) ?_
  rotate_left
  focus (intro w hSw; (try dsimp only at hSw); go_simp; (try with_reducible rfl))
  try simp only [Act.put, List.setIfInBounds_toArray, List.set_cons_zero, List.set_cons_succ]
  refine wpAnyH_take (i := 5) (oi := { dst := some 103, op := Op.fieldAddr 29 (Operand.tmp 5) 3, type := 0, pos := "law.go:90", after := #[], guard := none }) (v := ?_) rfl (by kernel_rfl) (by kernel_rfl) (by kernel_rfl) (fun _ _ _ h => h) (Or.inl ⟨by rfl, ?_⟩) (by assumption) ?_
  rotate_left
  focus (intro w hSw; (try dsimp only at hSw); go_simp; (try with_reducible rfl))
  try simp only [Act.put, List.setIfInBounds_toArray, List.set_cons_zero, List.set_cons_succ]
  refine wpAnyH_take (i := 6) (oi := { dst := some 104, op := Op.load 3 (Operand.tmp 103), type := 3, pos := "law.go:90", after := #[{ on := 5, ground := Ground.data }], guard := none }) (v := ?_) rfl (by kernel_rfl) (by kernel_rfl) (by kernel_rfl) (fun _ _ _ h => h) (Or.inl ⟨by rfl, ?_⟩) (by assumption) ?_
  rotate_left
  focus (intro w hSw; (try dsimp only at hSw); go_simp; (try with_reducible rfl))
  try simp only [Act.put, List.setIfInBounds_toArray, List.set_cons_zero, List.set_cons_succ]
  refine wpAnyH_take (i := 8) (oi := { dst := some 106, op := Op.move (Operand.tmp 1), type := 26, pos := "law.go:90", after := #[], guard := none }) (v := ?_) rfl (by kernel_rfl) (by kernel_rfl) (by kernel_rfl) (fun _ _ _ h => h) (Or.inl ⟨by rfl, ?_⟩) (by assumption) ?_
  rotate_left
  focus (intro w hSw; (try dsimp only at hSw); go_simp; (try with_reducible rfl))
  try simp only [Act.put, List.setIfInBounds_toArray, List.set_cons_zero, List.set_cons_succ]
  refine wpAnyH_take (i := 9) (oi := { dst := some 107, op := Op.fieldAddr 29 (Operand.tmp 5) 1, type := 0, pos := "law.go:90", after := #[], guard := none }) (v := ?_) rfl (by kernel_rfl) (by kernel_rfl) (by kernel_rfl) (fun _ _ _ h => h) (Or.inl ⟨by rfl, ?_⟩) (by assumption) ?_
  rotate_left
  focus (intro w hSw; (try dsimp only at hSw); go_simp; (try with_reducible rfl))
  try simp only [Act.put, List.setIfInBounds_toArray, List.set_cons_zero, List.set_cons_succ]
  refine wpAnyH_take (i := 10) (oi := { dst := some 108, op := Op.load 3 (Operand.tmp 107), type := 3, pos := "law.go:90", after := #[{ on := 9, ground := Ground.data }], guard := none }) (v := ?_) rfl (by kernel_rfl) (by kernel_rfl) (by kernel_rfl) (fun _ _ _ h => h) (Or.inl ⟨by rfl, ?_⟩) (by assumption) ?_
  rotate_left
  focus (intro w hSw; (try dsimp only at hSw); go_simp; (try with_reducible rfl))
  try simp only [Act.put, List.setIfInBounds_toArray, List.set_cons_zero, List.set_cons_succ]
  refine wpAnyH_take (i := 11) (oi := { dst := some 109, op := Op.fieldAddr 29 (Operand.tmp 5) 2, type := 0, pos := "law.go:90", after := #[], guard := none }) (v := ?_) rfl (by kernel_rfl) (by kernel_rfl) (by kernel_rfl) (fun _ _ _ h => h) (Or.inl ⟨by rfl, ?_⟩) (by assumption) ?_
  rotate_left
  focus (intro w hSw; (try dsimp only at hSw); go_simp; (try with_reducible rfl))
  try simp only [Act.put, List.setIfInBounds_toArray, List.set_cons_zero, List.set_cons_succ]
  refine wpAnyH_take (i := 12) (oi := { dst := some 110, op := Op.load 3 (Operand.tmp 109), type := 3, pos := "law.go:90", after := #[{ on := 11, ground := Ground.data }], guard := none }) (v := ?_) rfl (by kernel_rfl) (by kernel_rfl) (by kernel_rfl) (fun _ _ _ h => h) (Or.inl ⟨by rfl, ?_⟩) (by assumption) ?_
  rotate_left
  focus (intro w hSw; (try dsimp only at hSw); go_simp; (try with_reducible rfl))
  try simp only [Act.put, List.setIfInBounds_toArray, List.set_cons_zero, List.set_cons_succ]
  refine wpAnyH_take (i := 13) (oi := { dst := some 111, op := Op.fieldAddr 29 (Operand.tmp 5) 3, type := 0, pos := "law.go:90", after := #[], guard := none }) (v := ?_) rfl (by kernel_rfl) (by kernel_rfl) (by kernel_rfl) (fun _ _ _ h => h) (Or.inl ⟨by rfl, ?_⟩) (by assumption) ?_
  rotate_left
  focus (intro w hSw; (try dsimp only at hSw); go_simp; (try with_reducible rfl))
  try simp only [Act.put, List.setIfInBounds_toArray, List.set_cons_zero, List.set_cons_succ]
  refine wpAnyH_take (i := 14) (oi := { dst := some 112, op := Op.load 3 (Operand.tmp 111), type := 3, pos := "law.go:90", after := #[{ on := 13, ground := Ground.data }], guard := none }) (v := ?_) rfl (by kernel_rfl) (by kernel_rfl) (by kernel_rfl) (fun _ _ _ h => h) (Or.inl ⟨by rfl, ?_⟩) (by assumption) ?_
  rotate_left
  focus (intro w hSw; (try dsimp only at hSw); go_simp; (try with_reducible rfl))
  try simp only [Act.put, List.setIfInBounds_toArray, List.set_cons_zero, List.set_cons_succ]
  refine wpAnyH_ready (rs := [7]) (by kernel_rfl) (by simp) ?_
  refine AllReadyH.cons (o := { dst := some 105, op := Op.call { callee := Callee.value (Operand.func 12), args := #[Operand.tmp 98, Operand.tmp 100, Operand.tmp 102, Operand.tmp 104], argTypes := #[ 24, 3, 3, 3 ] }, type := 4, pos := "law.go:90", after := #[{ on := 0, ground := Ground.data }, { on := 2, ground := Ground.data }, { on := 4, ground := Ground.data }, { on := 6, ground := Ground.data }], guard := none }) rfl (fun K hK => ?_) AllReadyH.nil
  go_simp
  obtain ⟨v, S', C', hfine, hP, hR⟩ := two_put (w0 := w0) (Bd := Bd) (Br := Br) HF.out hk z1 z2 z3
  have HA := Lib.hid (And.intro hfine hR)
  refine (hP _ _ HT.out).mono ?_
  rintro e w5 ⟨rfl, hT5, hk5⟩
  have HT5 := Lib.hid hT5
  have HO5 := Lib.hid (HO.out.kept hk5 HX.out)
  clear hP hfine hR hT5 hk5
  go_wp2_with fail
  refine hK.out _ _ (by exact ⟨HO5.out.c0, HO5.out.c1, HO5.out.c2, HO5.out.c3, HTX.out ▸ HO5.out.c4⟩) (fun hHeld => ?_)
  clear hK K
  try simp only [Act.put, List.setIfInBounds_toArray, List.set_cons_zero, List.set_cons_succ]
  refine wpAnyH_ready (rs := [15]) (by kernel_rfl) (by simp) ?_
  refine AllReadyH.cons (o := { dst := some 113, op := Op.call { callee := Callee.value (Operand.func 24), args := #[Operand.tmp 106, Operand.tmp 108, Operand.tmp 110, Operand.tmp 112], argTypes := #[ 26, 3, 3, 3 ] }, type := 4, pos := "law.go:90", after := #[{ on := 8, ground := Ground.data }, { on := 10, ground := Ground.data }, { on := 12, ground := Ground.data }, { on := 14, ground := Ground.data }, { on := 7, ground := Ground.chain }], guard := none }) rfl (fun K hK => ?_) AllReadyH.nil
  go_simp
  refine (HA.out.2 _ _ HT5.out).mono ?_
  rintro e w6 ⟨rfl, hT6, hk6⟩
  have HT6 := Lib.hid hT6
  have HO6 := Lib.hid (HO5.out.kept hk6 HX.out)
  clear hT6 hk6
  go_wp2_with fail
  refine hK.out _ _ (by exact ⟨HO6.out.c0, HO6.out.c1, HO6.out.c2, HO6.out.c3, HTX.out ▸ HO6.out.c4⟩) (fun hHeld => ?_)
  clear hK K
  try simp only [Act.put, List.setIfInBounds_toArray, List.set_cons_zero, List.set_cons_succ]
  refine wpAnyH_take (i := 16) (oi := { dst := some 114, op := Op.binOp BinOp.eql 4 (Operand.tmp 105) (Operand.tmp 113) 4, type := 4, pos := "law.go:90", after := #[{ on := 7, ground := Ground.data }, { on := 15, ground := Ground.data }], guard := none }) (v := ?_) rfl (by kernel_rfl) (by kernel_rfl) (by kernel_rfl) (fun _ _ _ h => h) (Or.inl ⟨by rfl, ?_⟩) (by assumption) ?_
  rotate_left
  focus (intro w hSw; (try dsimp only at hSw); go_simp; (try with_reducible rfl))
  try simp only [Act.put, List.setIfInBounds_toArray, List.set_cons_zero, List.set_cons_succ]
  refine wpAnyH_take (i := 17) (oi := { dst := some 6, op := Op.assign (Operand.tmp 114), type := 4, pos := "law.go:90", after := #[{ on := 16, ground := Ground.data }, { on := 15, ground := Ground.chain }, { on := 0, ground := Ground.phase }, { on := 1, ground := Ground.phase }, { on := 2, ground := Ground.phase }, { on := 3, ground := Ground.phase }, { on := 4, ground := Ground.phase }, { on := 5, ground := Ground.phase }, { on := 6, ground := Ground.phase }, { on := 7, ground := Ground.phase }, { on := 8, ground := Ground.phase }, { on := 9, ground := Ground.phase }, { on := 10, ground := Ground.phase }, { on := 11, ground := Ground.phase }, { on := 12, ground := Ground.phase }, { on := 13, ground := Ground.phase }, { on := 14, ground := Ground.phase }, { on := 15, ground := Ground.phase }, { on := 16, ground := Ground.phase }], guard := none }) (v := ?_) rfl (by kernel_rfl) (by kernel_rfl) (by kernel_rfl) (fun _ _ _ h => h) (Or.inl ⟨by rfl, ?_⟩) (by assumption) ?_
  rotate_left
  focus (intro w hSw; (try dsimp only at hSw); go_simp; (try with_reducible rfl))
  try simp only [Act.put, List.setIfInBounds_toArray, List.set_cons_zero, List.set_cons_succ]
  refine wpAnyH_done (by kernel_rfl) ?_ _
  exact NoPanic.normal (HQ.out _ _ _ _ _ _ _ _ _ _ _ _ _ _ _ _ _ _ ⟨_, _, HA.out.1, HT6.out.less (fun _ q => q.elim)⟩)
set_option maxHeartbeats 4000000 in
set_option maxRecDepth 100000 in
theorem do_reg11 {w0 w : World} {Bd Br k : Nat} {S : List PN} {C : List Cl} {T : Nat} {z0 z1 z2 z3 : Int} {s : List UInt8}  {Q : Exit → Act → World → Prop} {u2 u3 u4 u6 u7 u8 u9 u10 u11 u12 u13 u14 u15 u16 u17 u18 u19 u20 u21 u22 u23 u24 u25 u26 u27 u28 u29 u30 u31 u32 u33 u34 u35 u36 u37 u38 u39 u40 u41 u42 u43 u44 u45 u46 u47 u48 u49 u50 u51 u52 u53 u54 u55 u56 u57 u58 u59 u60 u61 u62 u63 u64 u65 u66 u67 u68 u69 u70 u71 u72 u73 u74 u75 u76 u77 u78 u79 u80 u81 u82 u83 u84 u85 u86 u87 u88 u89 u90 u91 u92 u93 u94 u95 u96 u97 u98 u99 u100 u101 u102 u103 u104 u105 u106 u107 u108 u109 u110 u111 u112 u113 u114 : Value} (ho : OpAt w T z0 z1 z2 z3 s) (F : Fine S C k) (hk : k ≤ 1000) (h : Two (fun b => T ≤ b ∧ b < w.heap.size) w0 w Bd Br S C)
    (hQ : ∀ (y65 y66 y67 y68 y69 y70 y71 y72 y73 y74 y75 y76 y77 : Value) (w' : World), DoLeft w0 Bd Br k w' → Q .normal { tmps := #[.pointer (some ⟨Bd, 0, none⟩), .pointer (some ⟨Br, 0, none⟩), u2, u3, u4, .pointer (some ⟨T, 0, none⟩), .bool true, u7, u8, u9, u10, u11, u12, u13, u14, u15, u16, u17, u18, u19, u20, u21, u22, u23, u24, u25, u26, u27, u28, u29, u30, u31, u32, u33, u34, u35, u36, u37, u38, u39, u40, u41, u42, u43, u44, u45, u46, u47, u48, u49, u50, u51, u52, u53, u54, u55, u56, u57, u58, u59, u60, u61, u62, u63, u64, y65, y66, y67, y68, y69, y70, y71, y72, y73, y74, y75, y76, y77, u78, u79, u80, u81, u82, u83, u84, u85, u86, u87, u88, u89, u90, u91, u92, u93, u94, u95, u96, u97, u98, u99, u100, u101, u102, u103, u104, u105, u106, u107, u108, u109, u110, u111, u112, u113, u114], defers := [] } w') :
    (Code.region 11 #[{ dst := some 65, op := Op.move (Operand.tmp 0), type := 24, pos := "law.go:86", after := #[], guard := none }, { dst := some 66, op := Op.fieldAddr 29 (Operand.tmp 5) 1, type := 0, pos := "law.go:86", after := #[], guard := none }, { dst := some 67, op := Op.load 3 (Operand.tmp 66), type := 3, pos := "law.go:86", after := #[{ on := 1, ground := Ground.data }], guard := none }, { dst := some 68, op := Op.fieldAddr 29 (Operand.tmp 5) 2, type := 0, pos := "law.go:86", after := #[], guard := none }, { dst := some 69, op := Op.load 3 (Operand.tmp 68), type := 3, pos := "law.go:86", after := #[{ on := 3, ground := Ground.data }], guard := none }, { dst := some 70, op := Op.call { callee := Callee.value (Operand.func 21), args := #[Operand.tmp 65, Operand.tmp 67, Operand.tmp 69], argTypes := #[ 24, 3, 3 ] }, type := 4, pos := "law.go:86", after := #[{ on := 0, ground := Ground.data }, { on := 2, ground := Ground.data }, { on := 4, ground := Ground.data }], guard := none }, { dst := some 71, op := Op.move (Operand.tmp 1), type := 26, pos := "law.go:86", after := #[], guard := none }, { dst := some 72, op := Op.fieldAddr 29 (Operand.tmp 5) 1, type := 0, pos := "law.go:86", after := #[], guard := none }, { dst := some 73, op := Op.load 3 (Operand.tmp 72), type := 3, pos := "law.go:86", after := #[{ on := 7, ground := Ground.data }], guard := none }, { dst := some 74, op := Op.fieldAddr 29 (Operand.tmp 5) 2, type := 0, pos := "law.go:86", after := #[], guard := none }, { dst := some 75, op := Op.load 3 (Operand.tmp 74), type := 3, pos := "law.go:86", after := #[{ on := 9, ground := Ground.data }], guard := none }, { dst := some 76, op := Op.call { callee := Callee.value (Operand.func 22), args := #[Operand.tmp 71, Operand.tmp 73, Operand.tmp 75], argTypes := #[ 26, 3, 3 ] }, type := 4, pos := "law.go:86", after := #[{ on := 6, ground := Ground.data }, { on := 8, ground := Ground.data }, { on := 10, ground := Ground.data }, { on := 5, ground := Ground.chain }], guard := none }, { dst := some 77, op := Op.binOp BinOp.eql 4 (Operand.tmp 70) (Operand.tmp 76) 4, type := 4, pos := "law.go:86", after := #[{ on := 5, ground := Ground.data }, { on := 11, ground := Ground.data }], guard := none }, { dst := some 6, op := Op.assign (Operand.tmp 77), type := 4, pos := "law.go:86", after := #[{ on := 12, ground := Ground.data }, { on := 11, ground := Ground.chain }, { on := 0, ground := Ground.phase }, { on := 1, ground := Ground.phase }, { on := 2, ground := Ground.phase }, { on := 3, ground := Ground.phase }, { on := 4, ground := Ground.phase }, { on := 5, ground := Ground.phase }, { on := 6, ground := Ground.phase }, { on := 7, ground := Ground.phase }, { on := 8, ground := Ground.phase }, { on := 9, ground := Ground.phase }, { on := 10, ground := Ground.phase }, { on := 11, ground := Ground.phase }, { on := 12, ground := Ground.phase }], guard := none }] true).wp Try.prog Q { tmps := #[.pointer (some ⟨Bd, 0, none⟩), .pointer (some ⟨Br, 0, none⟩), u2, u3, u4, .pointer (some ⟨T, 0, none⟩), u6, u7, u8, u9, u10, u11, u12, u13, u14, u15, u16, u17, u18, u19, u20, u21, u22, u23, u24, u25, u26, u27, u28, u29, u30, u31, u32, u33, u34, u35, u36, u37, u38, u39, u40, u41, u42, u43, u44, u45, u46, u47, u48, u49, u50, u51, u52, u53, u54, u55, u56, u57, u58, u59, u60, u61, u62, u63, u64, u65, u66, u67, u68, u69, u70, u71, u72, u73, u74, u75, u76, u77, u78, u79, u80, u81, u82, u83, u84, u85, u86, u87, u88, u89, u90, u91, u92, u93, u94, u95, u96, u97, u98, u99, u100, u101, u102, u103, u104, u105, u106, u107, u108, u109, u110, u111, u112, u113, u114], defers := [] } w := by
  refine wp_region_noPanic ?_
  have HQ := Lib.hid hQ
  have HF := Lib.hid F
  have HO := Lib.hid (ho.on (Below.refl _ w).drew)
  have HT := Lib.hid (h.on (Below.refl _ w).drew)
  have hTl := ho.lt
  have HX : Hid ((fun b => T ≤ b ∧ b < w.heap.size) T) := Lib.hid ⟨Nat.le_refl _, ho.lt⟩
  generalize hTX : (⟨s.toArray⟩ : ByteArray) = TX
  have HTX := Lib.hid hTX
  clear hQ h ho hTX F
  refine wp_region_held_drew (S := (fun W => W.cell? ⟨T, 0, none⟩ = some (.int .i64 z0) ∧ W.cell? ⟨T, 1, none⟩ = some (.int .i64 z1) ∧ W.cell? ⟨T, 2, none⟩ = some (.int .i64 z2) ∧ W.cell? ⟨T, 3, none⟩ = some (.int .i64 z3) ∧ W.cell? ⟨T, 4, none⟩ = some (.string TX))) (by kernel_rfl) (by exact ⟨HO.out.c0, HO.out.c1, HO.out.c2, HO.out.c3, HTX.out ▸ HO.out.c4⟩) (fun hHeld => ?_)
  generalize w.drew = W0 at *
  refine wpAnyH_take (i := 0) (oi := { dst := some 65, op := Op.move (Operand.tmp 0), type := 24, pos := "law.go:86", after := #[], guard := none }) (v := ?_) rfl (by kernel_rfl) (by kernel_rfl) (by kernel_rfl) (fun _ _ _ h => h) (Or.inl ⟨by rfl, ?_⟩) (by assumption) ?_
  rotate_left
  focus (intro w hSw; (try dsimp only at hSw); go_simp; (try with_reducible rfl))
  try simp only [Act.put, List.setIfInBounds_toArray, List.set_cons_zero, List.set_cons_succ]
  refine wpAnyH_take (i := 1) (oi := { dst := some 66, op := Op.fieldAddr 29 (Operand.tmp 5) 1, type := 0, pos := "law.go:86", after := #[], guard := none }) (v := ?_) rfl (by kernel_rfl) (by kernel_rfl) (by kernel_rfl) (fun _ _ _ h => h) (Or.inl ⟨by rfl, ?_⟩) (by assumption) ?_
  rotate_left
  focus (intro w hSw; (try dsimp only at hSw); go_simp; (try with_reducible rfl))
  try simp only [Act.put, List.setIfInBounds_toArray, List.set_cons_zero, List.set_cons_succ]
  refine wpAnyH_take (i := 2) (oi := { dst := some 67, op := Op.load 3 (Operand.tmp 66), type := 3, pos := "law.go:86", after := #[{ on := 1, ground := Ground.data }], guard := none }) (v := ?_) rfl (by kernel_rfl) (by kernel_rfl) (by kernel_rfl) (fun _ _ _ h => h) (Or.inl ⟨by rfl, ?_⟩) (by assumption) ?_
  rotate_left
  focus (intro w hSw; (try dsimp only at hSw); go_simp; (try with_reducible rfl))
  try simp only [Act.put, List.setIfInBounds_toArray, List.set_cons_zero, List.set_cons_succ]
  refine wpAnyH_take (i := 3) (oi := { dst := some 68, op := Op.fieldAddr 29 (Operand.tmp 5) 2, type := 0, pos := "law.go:86", after := #[], guard := none }) (v := ?_) rfl (by kernel_rfl) (by kernel_rfl) (by kernel_rfl) (fun _ _ _ h => h) (Or.inl ⟨by rfl, ?_⟩) (by assumption) ?_
  rotate_left
  focus (intro w hSw; (try dsimp only at hSw); go_simp; (try with_reducible rfl))
  try simp only [Act.put, List.setIfInBounds_toArray, List.set_cons_zero, List.set_cons_succ]
  refine wpAnyH_take (i := 4) (oi := { dst := some 69, op := Op.load 3 (Operand.tmp 68), type := 3, pos := "law.go:86", after := #[{ on := 3, ground := Ground.data }], guard := none }) (v := ?_) rfl (by kernel_rfl) (by kernel_rfl) (by kernel_rfl) (fun _ _ _ h => h) (Or.inl ⟨by rfl, ?_⟩) (by assumption) ?_
  rotate_left
  focus (intro w hSw; (try dsimp only at hSw); go_simp; (try with_reducible rfl))
  try simp only [Act.put, List.setIfInBounds_toArray, List.set_cons_zero, List.set_cons_succ]
  refine wpAnyH_take (i := 6) (oi := { dst := some 71, op := Op.move (Operand.tmp 1), type := 26, pos := "law.go:86", after := #[], guard := none }) (v := ?_) rfl (by kernel_rfl) (by kernel_rfl) (by kernel_rfl) (fun _ _ _ h => h) (Or.inl ⟨by rfl, ?_⟩) (by assumption) ?_
  rotate_left
  focus (intro w hSw; (try dsimp only at hSw); go_simp; (try with_reducible rfl))
  try simp only [Act.put, List.setIfInBounds_toArray, List.set_cons_zero, List.set_cons_succ]
  refine wpAnyH_take (i := 7) (oi := { dst := some 72, op := Op.fieldAddr 29 (Operand.tmp 5) 1, type := 0, pos := "law.go:86", after := #[], guard := none }) (v := ?_) rfl (by kernel_rfl) (by kernel_rfl) (by kernel_rfl) (fun _ _ _ h => h) (Or.inl ⟨by rfl, ?_⟩) (by assumption) ?_
  rotate_left
  focus (intro w hSw; (try dsimp only at hSw); go_simp; (try with_reducible rfl))
  try simp only [Act.put, List.setIfInBounds_toArray, List.set_cons_zero, List.set_cons_succ]
  refine wpAnyH_take (i := 8) (oi := { dst := some 73, op := Op.load 3 (Operand.tmp 72), type := 3, pos := "law.go:86", after := #[{ on := 7, ground := Ground.data }], guard := none }) (v := ?_) rfl (by kernel_rfl) (by kernel_rfl) (by kernel_rfl) (fun _ _ _ h => h) (Or.inl ⟨by rfl, ?_⟩) (by assumption) ?_
  rotate_left
  focus (intro w hSw; (try dsimp only at hSw); go_simp; (try with_reducible rfl))
  try simp only [Act.put, List.setIfInBounds_toArray, List.set_cons_zero, List.set_cons_succ]
  refine wpAnyH_take (i := 9) (oi := { dst := some 74, op := Op.fieldAddr 29 (Operand.tmp 5) 2, type := 0, pos := "law.go:86", after := #[], guard := none }) (v := ?_) rfl (by kernel_rfl) (by kernel_rfl) (by kernel_rfl) (fun _ _ _ h => h) (Or.inl ⟨by rfl, ?_⟩) (by assumption) ?_
  rotate_left
  focus (intro w hSw; (try dsimp only at hSw); go_simp; (try with_reducible rfl))
  try simp only [Act.put, List.setIfInBounds_toArray, List.set_cons_zero, List.set_cons_succ]
  refine wpAnyH_take (i := 10) (oi := { dst := some 75, op := Op.load 3 (Operand.tmp 74), type := 3, pos := "law.go:86", after := #[{ on := 9, ground := Ground.data }], guard := none }) (v := ?_) rfl (by kernel_rfl) (by kernel_rfl) (by kernel_rfl) (fun _ _ _ h => h) (Or.inl ⟨by rfl, ?_⟩) (by assumption) ?_
  rotate_left
  focus (intro w hSw; (try dsimp only at hSw); go_simp; (try with_reducible rfl))
  try simp only [Act.put, List.setIfInBounds_toArray, List.set_cons_zero, List.set_cons_succ]
  refine wpAnyH_ready (rs := [5]) (by kernel_rfl) (by simp) ?_
  refine AllReadyH.cons (o := { dst := some 70, op := Op.call { callee := Callee.value (Operand.func 21), args := #[Operand.tmp 65, Operand.tmp 67, Operand.tmp 69], argTypes := #[ 24, 3, 3 ] }, type := 4, pos := "law.go:86", after := #[{ on := 0, ground := Ground.data }, { on := 2, ground := Ground.data }, { on := 4, ground := Ground.data }], guard := none }) rfl (fun K hK => ?_) AllReadyH.nil
  go_simp
  obtain ⟨v, S', C', hfine, hP, hR⟩ := two_move (w0 := w0) (Bd := Bd) (Br := Br) HF.out hk z1 z2
  have HA := Lib.hid (And.intro hfine hR)
  refine (hP _ _ HT.out).mono ?_
  rintro e w5 ⟨rfl, hT5, hk5⟩
  have HT5 := Lib.hid hT5
  have HO5 := Lib.hid (HO.out.kept hk5 HX.out)
  clear hP hfine hR hT5 hk5
  go_wp2_with fail
  refine hK.out _ _ (by exact ⟨HO5.out.c0, HO5.out.c1, HO5.out.c2, HO5.out.c3, HTX.out ▸ HO5.out.c4⟩) (fun hHeld => ?_)
  clear hK K
  try simp only [Act.put, List.setIfInBounds_toArray, List.set_cons_zero, List.set_cons_succ]
  refine wpAnyH_ready (rs := [11]) (by kernel_rfl) (by simp) ?_
  refine AllReadyH.cons (o := { dst := some 76, op := Op.call { callee := Callee.value (Operand.func 22), args := #[Operand.tmp 71, Operand.tmp 73, Operand.tmp 75], argTypes := #[ 26, 3, 3 ] }, type := 4, pos := "law.go:86", after := #[{ on := 6, ground := Ground.data }, { on := 8, ground := Ground.data }, { on := 10, ground := Ground.data }, { on := 5, ground := Ground.chain }], guard := none }) rfl (fun K hK => ?_) AllReadyH.nil
  go_simp
  refine (HA.out.2 _ _ HT5.out).mono ?_
  rintro e w6 ⟨rfl, hT6, hk6⟩
  have HT6 := Lib.hid hT6
  have HO6 := Lib.hid (HO5.out.kept hk6 HX.out)
  clear hT6 hk6
  go_wp2_with fail
  refine hK.out _ _ (by exact ⟨HO6.out.c0, HO6.out.c1, HO6.out.c2, HO6.out.c3, HTX.out ▸ HO6.out.c4⟩) (fun hHeld => ?_)
  clear hK K
  try simp only [Act.put, List.setIfInBounds_toArray, List.set_cons_zero, List.set_cons_succ]
  refine wpAnyH_take (i := 12) (oi := { dst := some 77, op := Op.binOp BinOp.eql 4 (Operand.tmp 70) (Operand.tmp 76) 4, type := 4, pos := "law.go:86", after := #[{ on := 5, ground := Ground.data }, { on := 11, ground := Ground.data }], guard := none }) (v := ?_) rfl (by kernel_rfl) (by kernel_rfl) (by kernel_rfl) (fun _ _ _ h => h) (Or.inl ⟨by rfl, ?_⟩) (by assumption) ?_
  rotate_left
  focus (intro w hSw; (try dsimp only at hSw); go_simp; (try with_reducible rfl))
  try simp only [Act.put, List.setIfInBounds_toArray, List.set_cons_zero, List.set_cons_succ]
  refine wpAnyH_take (i := 13) (oi := { dst := some 6, op := Op.assign (Operand.tmp 77), type := 4, pos := "law.go:86", after := #[{ on := 12, ground := Ground.data }, { on := 11, ground := Ground.chain }, { on := 0, ground := Ground.phase }, { on := 1, ground := Ground.phase }, { on := 2, ground := Ground.phase }, { on := 3, ground := Ground.phase }, { on := 4, ground := Ground.phase }, { on := 5, ground := Ground.phase }, { on := 6, ground := Ground.phase }, { on := 7, ground := Ground.phase }, { on := 8, ground := Ground.phase }, { on := 9, ground := Ground.phase }, { on := 10, ground := Ground.phase }, { on := 11, ground := Ground.phase }, { on := 12, ground := Ground.phase }], guard := none }) (v := ?_) rfl (by kernel_rfl) (by kernel_rfl) (by kernel_rfl) (fun _ _ _ h => h) (Or.inl ⟨by rfl, ?_⟩) (by assumption) ?_
  rotate_left
  focus (intro w hSw; (try dsimp only at hSw); go_simp; (try with_reducible rfl))
  try simp only [Act.put, List.setIfInBounds_toArray, List.set_cons_zero, List.set_cons_succ]
  refine wpAnyH_done (by kernel_rfl) ?_ _
  exact NoPanic.normal (HQ.out _ _ _ _ _ _ _ _ _ _ _ _ _ _ ⟨_, _, HA.out.1, HT6.out.less (fun _ q => q.elim)⟩)
set_option maxHeartbeats 4000000 in
set_option maxRecDepth 100000 in
theorem do_reg7 {w0 w : World} {Bd Br k : Nat} {S : List PN} {C : List Cl} {T : Nat} {z0 z1 z2 z3 : Int} {s : List UInt8}  {Q : Exit → Act → World → Prop} {u2 u3 u4 u6 u7 u8 u9 u10 u11 u12 u13 u14 u15 u16 u17 u18 u19 u20 u21 u22 u23 u24 u25 u26 u27 u28 u29 u30 u31 u32 u33 u34 u35 u36 u37 u38 u39 u40 u41 u42 u43 u44 u45 u46 u47 u48 u49 u50 u51 u52 u53 u54 u55 u56 u57 u58 u59 u60 u61 u62 u63 u64 u65 u66 u67 u68 u69 u70 u71 u72 u73 u74 u75 u76 u77 u78 u79 u80 u81 u82 u83 u84 u85 u86 u87 u88 u89 u90 u91 u92 u93 u94 u95 u96 u97 u98 u99 u100 u101 u102 u103 u104 u105 u106 u107 u108 u109 u110 u111 u112 u113 u114 : Value} (ho : OpAt w T z0 z1 z2 z3 s) (hs : s.length ≤ 50) (F : Fine S C k) (hk : k ≤ 1000) (h : Two (fun b => T ≤ b ∧ b < w.heap.size) w0 w Bd Br S C)
    (hQ : ∀ (y43 y44 y45 y46 y47 y48 y49 y50 y51 : Value) (w' : World), DoLeft w0 Bd Br k w' → Q .normal { tmps := #[.pointer (some ⟨Bd, 0, none⟩), .pointer (some ⟨Br, 0, none⟩), u2, u3, u4, .pointer (some ⟨T, 0, none⟩), .bool true, u7, u8, u9, u10, u11, u12, u13, u14, u15, u16, u17, u18, u19, u20, u21, u22, u23, u24, u25, u26, u27, u28, u29, u30, u31, u32, u33, u34, u35, u36, u37, u38, u39, u40, u41, u42, y43, y44, y45, y46, y47, y48, y49, y50, y51, u52, u53, u54, u55, u56, u57, u58, u59, u60, u61, u62, u63, u64, u65, u66, u67, u68, u69, u70, u71, u72, u73, u74, u75, u76, u77, u78, u79, u80, u81, u82, u83, u84, u85, u86, u87, u88, u89, u90, u91, u92, u93, u94, u95, u96, u97, u98, u99, u100, u101, u102, u103, u104, u105, u106, u107, u108, u109, u110, u111, u112, u113, u114], defers := [] } w') :
    (Code.region 7 #[{ dst := some 43, op := Op.move (Operand.tmp 0), type := 24, pos := "law.go:82", after := #[], guard := none }, { dst := some 44, op := Op.fieldAddr 29 (Operand.tmp 5) 4, type := 0, pos := "law.go:82", after := #[], guard := none }, { dst := some 45, op := Op.load 9 (Operand.tmp 44), type := 9, pos := "law.go:82", after := #[{ on := 1, ground := Ground.data }], guard := none }, { dst := some 46, op := Op.call { callee := Callee.value (Operand.func 17), args := #[Operand.tmp 43, Operand.tmp 45], argTypes := #[ 24, 9 ] }, type := 3, pos := "law.go:82", after := #[{ on := 0, ground := Ground.data }, { on := 2, ground := Ground.data }], guard := none }, { dst := some 47, op := Op.move (Operand.tmp 1), type := 26, pos := "law.go:82", after := #[], guard := none }, { dst := some 48, op := Op.fieldAddr 29 (Operand.tmp 5) 4, type := 0, pos := "law.go:82", after := #[], guard := none }, { dst := some 49, op := Op.load 9 (Operand.tmp 48), type := 9, pos := "law.go:82", after := #[{ on := 5, ground := Ground.data }], guard := none }, { dst := some 50, op := Op.call { callee := Callee.value (Operand.func 18), args := #[Operand.tmp 47, Operand.tmp 49], argTypes := #[ 26, 9 ] }, type := 3, pos := "law.go:82", after := #[{ on := 4, ground := Ground.data }, { on := 6, ground := Ground.data }, { on := 3, ground := Ground.chain }], guard := none }, { dst := some 51, op := Op.binOp BinOp.eql 3 (Operand.tmp 46) (Operand.tmp 50) 3, type := 4, pos := "law.go:82", after := #[{ on := 3, ground := Ground.data }, { on := 7, ground := Ground.data }], guard := none }, { dst := some 6, op := Op.assign (Operand.tmp 51), type := 4, pos := "law.go:82", after := #[{ on := 8, ground := Ground.data }, { on := 7, ground := Ground.chain }, { on := 0, ground := Ground.phase }, { on := 1, ground := Ground.phase }, { on := 2, ground := Ground.phase }, { on := 3, ground := Ground.phase }, { on := 4, ground := Ground.phase }, { on := 5, ground := Ground.phase }, { on := 6, ground := Ground.phase }, { on := 7, ground := Ground.phase }, { on := 8, ground := Ground.phase }], guard := none }] true).wp Try.prog Q { tmps := #[.pointer (some ⟨Bd, 0, none⟩), .pointer (some ⟨Br, 0, none⟩), u2, u3, u4, .pointer (some ⟨T, 0, none⟩), u6, u7, u8, u9, u10, u11, u12, u13, u14, u15, u16, u17, u18, u19, u20, u21, u22, u23, u24, u25, u26, u27, u28, u29, u30, u31, u32, u33, u34, u35, u36, u37, u38, u39, u40, u41, u42, u43, u44, u45, u46, u47, u48, u49, u50, u51, u52, u53, u54, u55, u56, u57, u58, u59, u60, u61, u62, u63, u64, u65, u66, u67, u68, u69, u70, u71, u72, u73, u74, u75, u76, u77, u78, u79, u80, u81, u82, u83, u84, u85, u86, u87, u88, u89, u90, u91, u92, u93, u94, u95, u96, u97, u98, u99, u100, u101, u102, u103, u104, u105, u106, u107, u108, u109, u110, u111, u112, u113, u114], defers := [] } w := by
  refine wp_region_noPanic ?_
  have HQ := Lib.hid hQ
  have HF := Lib.hid F
  have HO := Lib.hid (ho.on (Below.refl _ w).drew)
  have HT := Lib.hid (h.on (Below.refl _ w).drew)
  have hTl := ho.lt
  have HX : Hid ((fun b => T ≤ b ∧ b < w.heap.size) T) := Lib.hid ⟨Nat.le_refl _, ho.lt⟩
  generalize hTX : (⟨s.toArray⟩ : ByteArray) = TX
  have HTX := Lib.hid hTX
  clear hQ h ho hTX F
  refine wp_region_held_drew (S := (fun W => W.cell? ⟨T, 0, none⟩ = some (.int .i64 z0) ∧ W.cell? ⟨T, 1, none⟩ = some (.int .i64 z1) ∧ W.cell? ⟨T, 2, none⟩ = some (.int .i64 z2) ∧ W.cell? ⟨T, 3, none⟩ = some (.int .i64 z3) ∧ W.cell? ⟨T, 4, none⟩ = some (.string TX))) (by kernel_rfl) (by exact ⟨HO.out.c0, HO.out.c1, HO.out.c2, HO.out.c3, HTX.out ▸ HO.out.c4⟩) (fun hHeld => ?_)
  generalize w.drew = W0 at *
  refine wpAnyH_take (i := 0) (oi := { dst := some 43, op := Op.move (Operand.tmp 0), type := 24, pos := "law.go:82", after := #[], guard := none }) (v := ?_) rfl (by kernel_rfl) (by kernel_rfl) (by kernel_rfl) (fun _ _ _ h => h) (Or.inl ⟨by rfl, ?_⟩) (by assumption) ?_
  rotate_left
  focus (intro w hSw; (try dsimp only at hSw); go_simp; (try with_reducible rfl))
  try simp only [Act.put, List.setIfInBounds_toArray, List.set_cons_zero, List.set_cons_succ]
  refine wpAnyH_take (i := 1) (oi := { dst := some 44, op := Op.fieldAddr 29 (Operand.tmp 5) 4, type := 0, pos := "law.go:82", after := #[], guard := none }) (v := ?_) rfl (by kernel_rfl) (by kernel_rfl) (by kernel_rfl) (fun _ _ _ h => h) (Or.inl ⟨by rfl, ?_⟩) (by assumption) ?_
  rotate_left
  focus (intro w hSw; (try dsimp only at hSw); go_simp; (try with_reducible rfl))
  try simp only [Act.put, List.setIfInBounds_toArray, List.set_cons_zero, List.set_cons_succ]
  refine wpAnyH_take (i := 2) (oi := { dst := some 45, op := Op.load 9 (Operand.tmp 44), type := 9, pos := "law.go:82", after := #[{ on := 1, ground := Ground.data }], guard := none }) (v := ?_) rfl (by kernel_rfl) (by kernel_rfl) (by kernel_rfl) (fun _ _ _ h => h) (Or.inl ⟨by rfl, ?_⟩) (by assumption) ?_
  rotate_left
  focus (intro w hSw; (try dsimp only at hSw); go_simp; (try with_reducible rfl))
  try simp only [Act.put, List.setIfInBounds_toArray, List.set_cons_zero, List.set_cons_succ]
  refine wpAnyH_take (i := 4) (oi := { dst := some 47, op := Op.move (Operand.tmp 1), type := 26, pos := "law.go:82", after := #[], guard := none }) (v := ?_) rfl (by kernel_rfl) (by kernel_rfl) (by kernel_rfl) (fun _ _ _ h => h) (Or.inl ⟨by rfl, ?_⟩) (by assumption) ?_
  rotate_left
  focus (intro w hSw; (try dsimp only at hSw); go_simp; (try with_reducible rfl))
  try simp only [Act.put, List.setIfInBounds_toArray, List.set_cons_zero, List.set_cons_succ]
  refine wpAnyH_take (i := 5) (oi := { dst := some 48, op := Op.fieldAddr 29 (Operand.tmp 5) 4, type := 0, pos := "law.go:82", after := #[], guard := none }) (v := ?_) rfl (by kernel_rfl) (by kernel_rfl) (by kernel_rfl) (fun _ _ _ h => h) (Or.inl ⟨by rfl, ?_⟩) (by assumption) ?_
  rotate_left
  focus (intro w hSw; (try dsimp only at hSw); go_simp; (try with_reducible rfl))
  try simp only [Act.put, List.setIfInBounds_toArray, List.set_cons_zero, List.set_cons_succ]
  refine wpAnyH_take (i := 6) (oi := { dst := some 49, op := Op.load 9 (Operand.tmp 48), type := 9, pos := "law.go:82", after := #[{ on := 5, ground := Ground.data }], guard := none }) (v := ?_) rfl (by kernel_rfl) (by kernel_rfl) (by kernel_rfl) (fun _ _ _ h => h) (Or.inl ⟨by rfl, ?_⟩) (by assumption) ?_
  rotate_left
  focus (intro w hSw; (try dsimp only at hSw); go_simp; (try with_reducible rfl))
  try simp only [Act.put, List.setIfInBounds_toArray, List.set_cons_zero, List.set_cons_succ]
  refine wpAnyH_ready (rs := [3]) (by kernel_rfl) (by simp) ?_
  refine AllReadyH.cons (o := { dst := some 46, op := Op.call { callee := Callee.value (Operand.func 17), args := #[Operand.tmp 43, Operand.tmp 45], argTypes := #[ 24, 9 ] }, type := 3, pos := "law.go:82", after := #[{ on := 0, ground := Ground.data }, { on := 2, ground := Ground.data }], guard := none }) rfl (fun K hK => ?_) AllReadyH.nil
  go_simp
  rw [← HTX.out]
  obtain ⟨v, S', C', hfine, hP, hR⟩ := two_note (w0 := w0) (Bd := Bd) (Br := Br) HF.out hk s hs
  have HA := Lib.hid (And.intro hfine hR)
  refine (hP _ _ HT.out).mono ?_
  rintro e w5 ⟨rfl, hT5, hk5⟩
  have HT5 := Lib.hid hT5
  have HO5 := Lib.hid (HO.out.kept hk5 HX.out)
  clear hP hfine hR hT5 hk5
  go_wp2_with fail
  refine hK.out _ _ (by exact ⟨HO5.out.c0, HO5.out.c1, HO5.out.c2, HO5.out.c3, HTX.out ▸ HO5.out.c4⟩) (fun hHeld => ?_)
  clear hK K
  try simp only [Act.put, List.setIfInBounds_toArray, List.set_cons_zero, List.set_cons_succ]
  refine wpAnyH_ready (rs := [7]) (by kernel_rfl) (by simp) ?_
  refine AllReadyH.cons (o := { dst := some 50, op := Op.call { callee := Callee.value (Operand.func 18), args := #[Operand.tmp 47, Operand.tmp 49], argTypes := #[ 26, 9 ] }, type := 3, pos := "law.go:82", after := #[{ on := 4, ground := Ground.data }, { on := 6, ground := Ground.data }, { on := 3, ground := Ground.chain }], guard := none }) rfl (fun K hK => ?_) AllReadyH.nil
  go_simp
  refine (HA.out.2 _ _ HT5.out).mono ?_
  rintro e w6 ⟨rfl, hT6, hk6⟩
  have HT6 := Lib.hid hT6
  have HO6 := Lib.hid (HO5.out.kept hk6 HX.out)
  clear hT6 hk6
  go_wp2_with fail
  refine hK.out _ _ (by exact ⟨HO6.out.c0, HO6.out.c1, HO6.out.c2, HO6.out.c3, HTX.out ▸ HO6.out.c4⟩) (fun hHeld => ?_)
  clear hK K
  try simp only [Act.put, List.setIfInBounds_toArray, List.set_cons_zero, List.set_cons_succ]
  refine wpAnyH_take (i := 8) (oi := { dst := some 51, op := Op.binOp BinOp.eql 3 (Operand.tmp 46) (Operand.tmp 50) 3, type := 4, pos := "law.go:82", after := #[{ on := 3, ground := Ground.data }, { on := 7, ground := Ground.data }], guard := none }) (v := ?_) rfl (by kernel_rfl) (by kernel_rfl) (by kernel_rfl) (fun _ _ _ h => h) (Or.inl ⟨by rfl, ?_⟩) (by assumption) ?_
  rotate_left
  focus (intro w hSw; (try dsimp only at hSw); go_simp; (try with_reducible rfl))
  try simp only [Act.put, List.setIfInBounds_toArray, List.set_cons_zero, List.set_cons_succ]
  refine wpAnyH_take (i := 9) (oi := { dst := some 6, op := Op.assign (Operand.tmp 51), type := 4, pos := "law.go:82", after := #[{ on := 8, ground := Ground.data }, { on := 7, ground := Ground.chain }, { on := 0, ground := Ground.phase }, { on := 1, ground := Ground.phase }, { on := 2, ground := Ground.phase }, { on := 3, ground := Ground.phase }, { on := 4, ground := Ground.phase }, { on := 5, ground := Ground.phase }, { on := 6, ground := Ground.phase }, { on := 7, ground := Ground.phase }, { on := 8, ground := Ground.phase }], guard := none }) (v := ?_) rfl (by kernel_rfl) (by kernel_rfl) (by kernel_rfl) (fun _ _ _ h => h) (Or.inl ⟨by rfl, ?_⟩) (by assumption) ?_
  rotate_left
  focus (intro w hSw; (try dsimp only at hSw); go_simp; (try with_reducible rfl))
  try simp only [Act.put, List.setIfInBounds_toArray, List.set_cons_zero, List.set_cons_succ]
  refine wpAnyH_done (by kernel_rfl) ?_ _
  exact NoPanic.normal (HQ.out _ _ _ _ _ _ _ _ _ _ ⟨_, _, HA.out.1, HT6.out.less (fun _ q => q.elim)⟩)
set_option maxHeartbeats 4000000 in
set_option maxRecDepth 100000 in
theorem do_reg14 {w0 w : World} {Bd Br k : Nat} {S : List PN} {C : List Cl} {T : Nat} {z0 z1 z2 z3 : Int} {s : List UInt8}  {Q : Exit → Act → World → Prop} {u2 u3 u4 u6 u7 u8 u9 u10 u11 u12 u13 u14 u15 u16 u17 u18 u19 u20 u21 u22 u23 u24 u25 u26 u27 u28 u29 u30 u31 u32 u33 u34 u35 u36 u37 u38 u39 u40 u41 u42 u43 u44 u45 u46 u47 u48 u49 u50 u51 u52 u53 u54 u55 u56 u57 u58 u59 u60 u61 u62 u63 u64 u65 u66 u67 u68 u69 u70 u71 u72 u73 u74 u75 u76 u77 u78 u79 u80 u81 u82 u83 u84 u85 u86 u87 u88 u89 u90 u91 u92 u93 u94 u95 u96 u97 u98 u99 u100 u101 u102 u103 u104 u105 u106 u107 u108 u109 u110 u111 u112 u113 u114 : Value} (ho : OpAt w T z0 z1 z2 z3 s) (hs : s.length ≤ 50) (F : Fine S C k) (hk : k ≤ 1000) (h : Two (fun b => T ≤ b ∧ b < w.heap.size) w0 w Bd Br S C)
    (hQ : ∀ (y81 y82 y83 y84 y85 y86 y87 y88 y89 y90 y91 y92 y93 y94 y95 y96 y97 : Value) (w' : World), DoLeft w0 Bd Br k w' → Q .normal { tmps := #[.pointer (some ⟨Bd, 0, none⟩), .pointer (some ⟨Br, 0, none⟩), u2, u3, u4, .pointer (some ⟨T, 0, none⟩), .bool true, u7, u8, u9, u10, u11, u12, u13, u14, u15, u16, u17, u18, u19, u20, u21, u22, u23, u24, u25, u26, u27, u28, u29, u30, u31, u32, u33, u34, u35, u36, u37, u38, u39, u40, u41, u42, u43, u44, u45, u46, u47, u48, u49, u50, u51, u52, u53, u54, u55, u56, u57, u58, u59, u60, u61, u62, u63, u64, u65, u66, u67, u68, u69, u70, u71, u72, u73, u74, u75, u76, u77, u78, u79, u80, y81, y82, y83, y84, y85, y86, y87, y88, y89, y90, y91, y92, y93, y94, y95, y96, y97, u98, u99, u100, u101, u102, u103, u104, u105, u106, u107, u108, u109, u110, u111, u112, u113, u114], defers := [] } w') :
    (Code.region 14 #[{ dst := some 81, op := Op.move (Operand.tmp 0), type := 24, pos := "law.go:88", after := #[], guard := none }, { dst := some 82, op := Op.fieldAddr 29 (Operand.tmp 5) 4, type := 0, pos := "law.go:88", after := #[], guard := none }, { dst := some 83, op := Op.load 9 (Operand.tmp 82), type := 9, pos := "law.go:88", after := #[{ on := 1, ground := Ground.data }], guard := none }, { dst := some 84, op := Op.fieldAddr 29 (Operand.tmp 5) 1, type := 0, pos := "law.go:88", after := #[], guard := none }, { dst := some 85, op := Op.load 3 (Operand.tmp 84), type := 3, pos := "law.go:88", after := #[{ on := 3, ground := Ground.data }], guard := none }, { dst := some 86, op := Op.fieldAddr 29 (Operand.tmp 5) 2, type := 0, pos := "law.go:88", after := #[], guard := none }, { dst := some 87, op := Op.load 3 (Operand.tmp 86), type := 3, pos := "law.go:88", after := #[{ on := 5, ground := Ground.data }], guard := none }, { dst := some 88, op := Op.call { callee := Callee.value (Operand.func 10), args := #[Operand.tmp 81, Operand.tmp 83, Operand.tmp 85, Operand.tmp 87], argTypes := #[ 24, 9, 3, 3 ] }, type := 4, pos := "law.go:88", after := #[{ on := 0, ground := Ground.data }, { on := 2, ground := Ground.data }, { on := 4, ground := Ground.data }, { on := 6, ground := Ground.data }], guard := none }, { dst := some 89, op := Op.move (Operand.tmp 1), type := 26, pos := "law.go:88", after := #[], guard := none }, { dst := some 90, op := Op.fieldAddr 29 (Operand.tmp 5) 4, type := 0, pos := "law.go:88", after := #[], guard := none }, { dst := some 91, op := Op.load 9 (Operand.tmp 90), type := 9, pos := "law.go:88", after := #[{ on := 9, ground := Ground.data }], guard := none }, { dst := some 92, op := Op.fieldAddr 29 (Operand.tmp 5) 1, type := 0, pos := "law.go:88", after := #[], guard := none }, { dst := some 93, op := Op.load 3 (Operand.tmp 92), type := 3, pos := "law.go:88", after := #[{ on := 11, ground := Ground.data }], guard := none }, { dst := some 94, op := Op.fieldAddr 29 (Operand.tmp 5) 2, type := 0, pos := "law.go:88", after := #[], guard := none }, { dst := some 95, op := Op.load 3 (Operand.tmp 94), type := 3, pos := "law.go:88", after := #[{ on := 13, ground := Ground.data }], guard := none }, { dst := some 96, op := Op.call { callee := Callee.value (Operand.func 23), args := #[Operand.tmp 89, Operand.tmp 91, Operand.tmp 93, Operand.tmp 95], argTypes := #[ 26, 9, 3, 3 ] }, type := 4, pos := "law.go:88", after := #[{ on := 8, ground := Ground.data }, { on := 10, ground := Ground.data }, { on := 12, ground := Ground.data }, { on := 14, ground := Ground.data }, { on := 7, ground := Ground.chain }], guard := none }, { dst := some 97, op := Op.binOp BinOp.eql 4 (Operand.tmp 88) (Operand.tmp 96) 4, type := 4, pos := "law.go:88", after := #[{ on := 7, ground := Ground.data }, { on := 15, ground := Ground.data }], guard := none }, { dst := some 6, op := Op.assign (Operand.tmp 97), type := 4, pos := "law.go:88", after := #[{ on := 16, ground := Ground.data }, { on := 15, ground := Ground.chain }, { on := 0, ground := Ground.phase }, { on := 1, ground := Ground.phase }, { on := 2, ground := Ground.phase }, { on := 3, ground := Ground.phase }, { on := 4, ground := Ground.phase }, { on := 5, ground := Ground.phase }, { on := 6, ground := Ground.phase }, { on := 7, ground := Ground.phase }, { on := 8, ground := Ground.phase }, { on := 9, ground := Ground.phase }, { on := 10, ground := Ground.phase }, { on := 11, ground := Ground.phase }, { on := 12, ground := Ground.phase }, { on := 13, ground := Ground.phase }, { on := 14, ground := Ground.phase }, { on := 15, ground := Ground.phase }, { on := 16, ground := Ground.phase }], guard := none }] true).wp Try.prog Q { tmps := #[.pointer (some ⟨Bd, 0, none⟩), .pointer (some ⟨Br, 0, none⟩), u2, u3, u4, .pointer (some ⟨T, 0, none⟩), u6, u7, u8, u9, u10, u11, u12, u13, u14, u15, u16, u17, u18, u19, u20, u21, u22, u23, u24, u25, u26, u27, u28, u29, u30, u31, u32, u33, u34, u35, u36, u37, u38, u39, u40, u41, u42, u43, u44, u45, u46, u47, u48, u49, u50, u51, u52, u53, u54, u55, u56, u57, u58, u59, u60, u61, u62, u63, u64, u65, u66, u67, u68, u69, u70, u71, u72, u73, u74, u75, u76, u77, u78, u79, u80, u81, u82, u83, u84, u85, u86, u87, u88, u89, u90, u91, u92, u93, u94, u95, u96, u97, u98, u99, u100, u101, u102, u103, u104, u105, u106, u107, u108, u109, u110, u111, u112, u113, u114], defers := [] } w := by
  refine wp_region_noPanic ?_
  have HQ := Lib.hid hQ
  have HF := Lib.hid F
  have HO := Lib.hid (ho.on (Below.refl _ w).drew)
  have HT := Lib.hid (h.on (Below.refl _ w).drew)
  have hTl := ho.lt
  have HX : Hid ((fun b => T ≤ b ∧ b < w.heap.size) T) := Lib.hid ⟨Nat.le_refl _, ho.lt⟩
  generalize hTX : (⟨s.toArray⟩ : ByteArray) = TX
  have HTX := Lib.hid hTX
  clear hQ h ho hTX F
  refine wp_region_held_drew (S := (fun W => W.cell? ⟨T, 0, none⟩ = some (.int .i64 z0) ∧ W.cell? ⟨T, 1, none⟩ = some (.int .i64 z1) ∧ W.cell? ⟨T, 2, none⟩ = some (.int .i64 z2) ∧ W.cell? ⟨T, 3, none⟩ = some (.int .i64 z3) ∧ W.cell? ⟨T, 4, none⟩ = some (.string TX))) (by kernel_rfl) (by exact ⟨HO.out.c0, HO.out.c1, HO.out.c2, HO.out.c3, HTX.out ▸ HO.out.c4⟩) (fun hHeld => ?_)
  generalize w.drew = W0 at *
  refine wpAnyH_take (i := 0) (oi := { dst := some 81, op := Op.move (Operand.tmp 0), type := 24, pos := "law.go:88", after := #[], guard := none }) (v := ?_) rfl (by kernel_rfl) (by kernel_rfl) (by kernel_rfl) (fun _ _ _ h => h) (Or.inl ⟨by rfl, ?_⟩) (by assumption) ?_
  rotate_left
  focus (intro w hSw; (try dsimp only at hSw); go_simp; (try with_reducible rfl))
  try simp only [Act.put, List.setIfInBounds_toArray, List.set_cons_zero, List.set_cons_succ]
  refine wpAnyH_take (i := 1) (oi := { dst := some 82, op := Op.fieldAddr 29 (Operand.tmp 5) 4, type := 0, pos := "law.go:88", after := #[], guard := none }) (v := ?_) rfl (by kernel_rfl) (by kernel_rfl) (by kernel_rfl) (fun _ _ _ h => h) (Or.inl ⟨by rfl, ?_⟩) (by assumption) ?_
  rotate_left
  focus (intro w hSw; (try dsimp only at hSw); go_simp; (try with_reducible rfl))
  try simp only [Act.put, List.setIfInBounds_toArray, List.set_cons_zero, List.set_cons_succ]
  refine wpAnyH_take (i := 2) (oi := { dst := some 83, op := Op.load 9 (Operand.tmp 82), type := 9, pos := "law.go:88", after := #[{ on := 1, ground := Ground.data }], guard := none }) (v := ?_) rfl (by kernel_rfl) (by kernel_rfl) (by kernel_rfl) (fun _ _ _ h => h) (Or.inl ⟨by rfl, ?_⟩) (by assumption) ?_
  rotate_left
  focus (intro w hSw; (try dsimp only at hSw); go_simp; (try with_reducible rfl))
  try simp only [Act.put, List.setIfInBounds_toArray, List.set_cons_zero, List.set_cons_succ]
  refine wpAnyH_take (i := 3) (oi := { dst := some 84, op := Op.fieldAddr 29 (Operand.tmp 5) 1, type := 0, pos := "law.go:88", after := #[], guard := none }) (v := ?_) rfl (by kernel_rfl) (by kernel_rfl) (by kernel_rfl) (fun _ _ _ h => h) (Or.inl ⟨by rfl, ?_⟩) (by assumption) ?_
  rotate_left
  focus (intro w hSw; (try dsimp only at hSw); go_simp; (try with_reducible rfl))
  try simp only [Act.put, List.setIfInBounds_toArray, List.set_cons_zero, List.set_cons_succ]
  refine wpAnyH_take (i := 4) (oi := { dst := some 85, op := Op.load 3 (Operand.tmp 84), type := 3, pos := "law.go:88", after := #[{ on := 3, ground := Ground.data }], guard := none }) (v := ?_) rfl (by kernel_rfl) (by kernel_rfl) (by kernel_rfl) (fun _ _ _ h => h) (Or.inl ⟨by rfl, ?_⟩) (by assumption) ?_
  rotate_left
  focus (intro w hSw; (try dsimp only at hSw); go_simp; (try with_reducible rfl))
  try simp only [Act.put, List.setIfInBounds_toArray, List.set_cons_zero, List.set_cons_succ]
  refine wpAnyH_take (i := 5) (oi := { dst := some 86, op := Op.fieldAddr 29 (Operand.tmp 5) 2, type := 0, pos := "law.go:88", after := #[], guard := none }) (v := ?_) rfl (by kernel_rfl) (by kernel_rfl) (by kernel_rfl) (fun _ _ _ h => h) (Or.inl ⟨by rfl, ?_⟩) (by assumption) ?_
  rotate_left
  focus (intro w hSw; (try dsimp only at hSw); go_simp; (try with_reducible rfl))
  try simp only [Act.put, List.setIfInBounds_toArray, List.set_cons_zero, List.set_cons_succ]
  refine wpAnyH_take (i := 6) (oi := { dst := some 87, op := Op.load 3 (Operand.tmp 86), type := 3, pos := "law.go:88", after := #[{ on := 5, ground := Ground.data }], guard := none }) (v := ?_) rfl (by kernel_rfl) (by kernel_rfl) (by kernel_rfl) (fun _ _ _ h => h) (Or.inl ⟨by rfl, ?_⟩) (by assumption) ?_
  rotate_left
  focus (intro w hSw; (try dsimp only at hSw); go_simp; (try with_reducible rfl))
  try simp only [Act.put, List.setIfInBounds_toArray, List.set_cons_zero, List.set_cons_succ]
  refine wpAnyH_take (i := 8) (oi := { dst := some 89, op := Op.move (Operand.tmp 1), type := 26, pos := "law.go:88", after := #[], guard := none }) (v := ?_) rfl (by kernel_rfl) (by kernel_rfl) (by kernel_rfl) (fun _ _ _ h => h) (Or.inl ⟨by rfl, ?_⟩) (by assumption) ?_
  rotate_left
  focus (intro w hSw; (try dsimp only at hSw); go_simp; (try with_reducible rfl))
  try simp only [Act.put, List.setIfInBounds_toArray, List.set_cons_zero, List.set_cons_succ]
  refine wpAnyH_take (i := 9) (oi := { dst := some 90, op := Op.fieldAddr 29 (Operand.tmp 5) 4, type := 0, pos := "law.go:88", after := #[], guard := none }) (v := ?_) rfl (by kernel_rfl) (by kernel_rfl) (by kernel_rfl) (fun _ _ _ h => h) (Or.inl ⟨by rfl, ?_⟩) (by assumption) ?_
  rotate_left
  focus (intro w hSw; (try dsimp only at hSw); go_simp; (try with_reducible rfl))
  try simp only [Act.put, List.setIfInBounds_toArray, List.set_cons_zero, List.set_cons_succ]
  refine wpAnyH_take (i := 10) (oi := { dst := some 91, op := Op.load 9 (Operand.tmp 90), type := 9, pos := "law.go:88", after := #[{ on := 9, ground := Ground.data }], guard := none }) (v := ?_) rfl (by kernel_rfl) (by kernel_rfl) (by kernel_rfl) (fun _ _ _ h => h) (Or.inl ⟨by rfl, ?_⟩) (by assumption) ?_
  rotate_left
  focus (intro w hSw; (try dsimp only at hSw); go_simp; (try with_reducible rfl))
  try simp only [Act.put, List.setIfInBounds_toArray, List.set_cons_zero, List.set_cons_succ]
  refine wpAnyH_take (i := 11) (oi := { dst := some 92, op := Op.fieldAddr 29 (Operand.tmp 5) 1, type := 0, pos := "law.go:88", after := #[], guard := none }) (v := ?_) rfl (by kernel_rfl) (by kernel_rfl) (by kernel_rfl) (fun _ _ _ h => h) (Or.inl ⟨by rfl, ?_⟩) (by assumption) ?_
  rotate_left
  focus (intro w hSw; (try dsimp only at hSw); go_simp; (try with_reducible rfl))
  try simp only [Act.put, List.setIfInBounds_toArray, List.set_cons_zero, List.set_cons_succ]
  refine wpAnyH_take (i := 12) (oi := { dst := some 93, op := Op.load 3 (Operand.tmp 92), type := 3, pos := "law.go:88", after := #[{ on := 11, ground := Ground.data }], guard := none }) (v := ?_) rfl (by kernel_rfl) (by kernel_rfl) (by kernel_rfl) (fun _ _ _ h => h) (Or.inl ⟨by rfl, ?_⟩) (by assumption) ?_
  rotate_left
  focus (intro w hSw; (try dsimp only at hSw); go_simp; (try with_reducible rfl))
  try simp only [Act.put, List.setIfInBounds_toArray, List.set_cons_zero, List.set_cons_succ]
  refine wpAnyH_take (i := 13) (oi := { dst := some 94, op := Op.fieldAddr 29 (Operand.tmp 5) 2, type := 0, pos := "law.go:88", after := #[], guard := none }) (v := ?_) rfl (by kernel_rfl) (by kernel_rfl) (by kernel_rfl) (fun _ _ _ h => h) (Or.inl ⟨by rfl, ?_⟩) (by assumption) ?_
  rotate_left
  focus (intro w hSw; (try dsimp only at hSw); go_simp; (try with_reducible rfl))
  try simp only [Act.put, List.setIfInBounds_toArray, List.set_cons_zero, List.set_cons_succ]
  refine wpAnyH_take (i := 14) (oi := { dst := some 95, op := Op.load 3 (Operand.tmp 94), type := 3, pos := "law.go:88", after := #[{ on := 13, ground := Ground.data }], guard := none }) (v := ?_) rfl (by kernel_rfl) (by kernel_rfl) (by kernel_rfl) (fun _ _ _ h => h) (Or.inl ⟨by rfl, ?_⟩) (by assumption) ?_
  rotate_left
  focus (intro w hSw; (try dsimp only at hSw); go_simp; (try with_reducible rfl))
  try simp only [Act.put, List.setIfInBounds_toArray, List.set_cons_zero, List.set_cons_succ]
  refine wpAnyH_ready (rs := [7]) (by kernel_rfl) (by simp) ?_
  refine AllReadyH.cons (o := { dst := some 88, op := Op.call { callee := Callee.value (Operand.func 10), args := #[Operand.tmp 81, Operand.tmp 83, Operand.tmp 85, Operand.tmp 87], argTypes := #[ 24, 9, 3, 3 ] }, type := 4, pos := "law.go:88", after := #[{ on := 0, ground := Ground.data }, { on := 2, ground := Ground.data }, { on := 4, ground := Ground.data }, { on := 6, ground := Ground.data }], guard := none }) rfl (fun K hK => ?_) AllReadyH.nil
  go_simp
  rw [← HTX.out]
  obtain ⟨v, S', C', hfine, hP, hR⟩ := two_write (w0 := w0) (Bd := Bd) (Br := Br) HF.out hk s z1 z2 hs
  have HA := Lib.hid (And.intro hfine hR)
  refine (hP _ _ HT.out).mono ?_
  rintro e w5 ⟨rfl, hT5, hk5⟩
  have HT5 := Lib.hid hT5
  have HO5 := Lib.hid (HO.out.kept hk5 HX.out)
  clear hP hfine hR hT5 hk5
  go_wp2_with fail
  refine hK.out _ _ (by exact ⟨HO5.out.c0, HO5.out.c1, HO5.out.c2, HO5.out.c3, HTX.out ▸ HO5.out.c4⟩) (fun hHeld => ?_)
  clear hK K
  try simp only [Act.put, List.setIfInBounds_toArray, List.set_cons_zero, List.set_cons_succ]
  refine wpAnyH_ready (rs := [15]) (by kernel_rfl) (by simp) ?_
  refine AllReadyH.cons (o := { dst := some 96, op := Op.call { callee := Callee.value (Operand.func 23), args := #[Operand.tmp 89, Operand.tmp 91, Operand.tmp 93, Operand.tmp 95], argTypes := #[ 26, 9, 3, 3 ] }, type := 4, pos := "law.go:88", after := #[{ on := 8, ground := Ground.data }, { on := 10, ground := Ground.data }, { on := 12, ground := Ground.data }, { on := 14, ground := Ground.data }, { on := 7, ground := Ground.chain }], guard := none }) rfl (fun K hK => ?_) AllReadyH.nil
  go_simp
  refine (HA.out.2 _ _ HT5.out).mono ?_
  rintro e w6 ⟨rfl, hT6, hk6⟩
  have HT6 := Lib.hid hT6
  have HO6 := Lib.hid (HO5.out.kept hk6 HX.out)
  clear hT6 hk6
  go_wp2_with fail
  refine hK.out _ _ (by exact ⟨HO6.out.c0, HO6.out.c1, HO6.out.c2, HO6.out.c3, HTX.out ▸ HO6.out.c4⟩) (fun hHeld => ?_)
  clear hK K
  try simp only [Act.put, List.setIfInBounds_toArray, List.set_cons_zero, List.set_cons_succ]
  refine wpAnyH_take (i := 16) (oi := { dst := some 97, op := Op.binOp BinOp.eql 4 (Operand.tmp 88) (Operand.tmp 96) 4, type := 4, pos := "law.go:88", after := #[{ on := 7, ground := Ground.data }, { on := 15, ground := Ground.data }], guard := none }) (v := ?_) rfl (by kernel_rfl) (by kernel_rfl) (by kernel_rfl) (fun _ _ _ h => h) (Or.inl ⟨by rfl, ?_⟩) (by assumption) ?_
  rotate_left
  focus (intro w hSw; (try dsimp only at hSw); go_simp; (try with_reducible rfl))
  try simp only [Act.put, List.setIfInBounds_toArray, List.set_cons_zero, List.set_cons_succ]
  refine wpAnyH_take (i := 17) (oi := { dst := some 6, op := Op.assign (Operand.tmp 97), type := 4, pos := "law.go:88", after := #[{ on := 16, ground := Ground.data }, { on := 15, ground := Ground.chain }, { on := 0, ground := Ground.phase }, { on := 1, ground := Ground.phase }, { on := 2, ground := Ground.phase }, { on := 3, ground := Ground.phase }, { on := 4, ground := Ground.phase }, { on := 5, ground := Ground.phase }, { on := 6, ground := Ground.phase }, { on := 7, ground := Ground.phase }, { on := 8, ground := Ground.phase }, { on := 9, ground := Ground.phase }, { on := 10, ground := Ground.phase }, { on := 11, ground := Ground.phase }, { on := 12, ground := Ground.phase }, { on := 13, ground := Ground.phase }, { on := 14, ground := Ground.phase }, { on := 15, ground := Ground.phase }, { on := 16, ground := Ground.phase }], guard := none }) (v := ?_) rfl (by kernel_rfl) (by kernel_rfl) (by kernel_rfl) (fun _ _ _ h => h) (Or.inl ⟨by rfl, ?_⟩) (by assumption) ?_
  rotate_left
  focus (intro w hSw; (try dsimp only at hSw); go_simp; (try with_reducible rfl))
  try simp only [Act.put, List.setIfInBounds_toArray, List.set_cons_zero, List.set_cons_succ]
  refine wpAnyH_done (by kernel_rfl) ?_ _
  exact NoPanic.normal (HQ.out _ _ _ _ _ _ _ _ _ _ _ _ _ _ _ _ _ _ ⟨_, _, HA.out.1, HT6.out.less (fun _ q => q.elim)⟩)
set_option maxHeartbeats 4000000 in
set_option maxRecDepth 100000 in
theorem do_reg4 {w : World} {Bd Br : Nat} {T : Nat} {z0 z1 z2 z3 : Int} {s : List UInt8} {Q : Exit → Act → World → Prop} {u2 u3 u4 u6 u7 u8 u9 u10 u11 u12 u13 u14 u15 u16 u17 u18 u19 u20 u21 u22 u23 u24 u25 u26 u27 u28 u29 u30 u31 u32 u33 u34 u35 u36 u37 u38 u39 u40 u41 u42 u43 u44 u45 u46 u47 u48 u49 u50 u51 u52 u53 u54 u55 u56 u57 u58 u59 u60 u61 u62 u63 u64 u65 u66 u67 u68 u69 u70 u71 u72 u73 u74 u75 u76 u77 u78 u79 u80 u81 u82 u83 u84 u85 u86 u87 u88 u89 u90 u91 u92 u93 u94 u95 u96 u97 u98 u99 u100 u101 u102 u103 u104 u105 u106 u107 u108 u109 u110 u111 u112 u113 u114 : Value} (ho : OpAt w T z0 z1 z2 z3 s)
    (hQ : ∀ (va y20 y21 y22 y23 : Value) (w' : World), Below w.heap.size w w' → AttrsP (fun b => T ≤ b ∧ b < w'.heap.size) w' va [([120], s)] → Q .normal { tmps := #[.pointer (some ⟨Bd, 0, none⟩), .pointer (some ⟨Br, 0, none⟩), u2, u3, u4, .pointer (some ⟨T, 0, none⟩), u6, u7, va, u9, u10, u11, u12, u13, u14, u15, u16, u17, u18, u19, y20, y21, y22, y23, u24, u25, u26, u27, u28, u29, u30, u31, u32, u33, u34, u35, u36, u37, u38, u39, u40, u41, u42, u43, u44, u45, u46, u47, u48, u49, u50, u51, u52, u53, u54, u55, u56, u57, u58, u59, u60, u61, u62, u63, u64, u65, u66, u67, u68, u69, u70, u71, u72, u73, u74, u75, u76, u77, u78, u79, u80, u81, u82, u83, u84, u85, u86, u87, u88, u89, u90, u91, u92, u93, u94, u95, u96, u97, u98, u99, u100, u101, u102, u103, u104, u105, u106, u107, u108, u109, u110, u111, u112, u113, u114], defers := [] } w') :
    (Code.region 4 #[{ dst := some 20, op := Op.fieldAddr 29 (Operand.tmp 5) 4, type := 0, pos := "law.go:79", after := #[], guard := none }, { dst := some 21, op := Op.load 9 (Operand.tmp 20), type := 9, pos := "law.go:79", after := #[{ on := 0, ground := Ground.data }], guard := none }, { dst := some 22, op := Op.build 53 #[(0, Operand.const (Value.string { data := #[120] })), (1, Operand.tmp 21)], type := 53, pos := "law.go:79", after := #[{ on := 1, ground := Ground.data }], guard := none }, { dst := some 23, op := Op.buildSlice 41 1 #[(0, Operand.tmp 22)], type := 41, pos := "law.go:79", after := #[{ on := 2, ground := Ground.data }], guard := none }, { dst := some 8, op := Op.assign (Operand.tmp 23), type := 41, pos := "law.go:79", after := #[{ on := 3, ground := Ground.data }, { on := 0, ground := Ground.phase }, { on := 1, ground := Ground.phase }, { on := 2, ground := Ground.phase }, { on := 3, ground := Ground.phase }], guard := none }] false).wp Try.prog Q { tmps := #[.pointer (some ⟨Bd, 0, none⟩), .pointer (some ⟨Br, 0, none⟩), u2, u3, u4, .pointer (some ⟨T, 0, none⟩), u6, u7, u8, u9, u10, u11, u12, u13, u14, u15, u16, u17, u18, u19, u20, u21, u22, u23, u24, u25, u26, u27, u28, u29, u30, u31, u32, u33, u34, u35, u36, u37, u38, u39, u40, u41, u42, u43, u44, u45, u46, u47, u48, u49, u50, u51, u52, u53, u54, u55, u56, u57, u58, u59, u60, u61, u62, u63, u64, u65, u66, u67, u68, u69, u70, u71, u72, u73, u74, u75, u76, u77, u78, u79, u80, u81, u82, u83, u84, u85, u86, u87, u88, u89, u90, u91, u92, u93, u94, u95, u96, u97, u98, u99, u100, u101, u102, u103, u104, u105, u106, u107, u108, u109, u110, u111, u112, u113, u114], defers := [] } w := by
  have HQ := Lib.hid hQ
  have c4 := ho.c4
  have hT := ho.lt
  clear hQ ho
  go_wp2_with fail
  refine HQ.out _ _ _ _ _ _ ((Below.refl _ w).alloc (Nat.le_refl _) _) ⟨_, _, rfl, fun _ => ⟨w.heap.size, 0, rfl, ⟨by omega, by simp⟩, by simp, fun j hj => ?_⟩⟩
  obtain rfl : j = 0 := by simp only [List.length_cons, List.length_nil] at hj; omega
  exact ⟨(World.cell?_alloc_mark w #[.string ⟨#[120]⟩, .string ⟨s.toArray⟩] 53 (0, 0) 0).trans rfl, (World.cell?_alloc_mark w #[.string ⟨#[120]⟩, .string ⟨s.toArray⟩] 53 (0, 0) 1).trans rfl⟩
set_option maxHeartbeats 4000000 in
set_option maxRecDepth 100000 in
theorem do_reg5 {w0 w : World} {Bd Br k : Nat} {S : List PN} {C : List Cl} {T : Nat} {z0 z1 z2 z3 : Int} {s : List UInt8} {nm : List UInt8} {va : Value} {Q : Exit → Act → World → Prop} {u2 u3 u4 u6 u9 u10 u11 u12 u13 u14 u15 u16 u17 u18 u19 u20 u21 u22 u23 u24 u25 u26 u27 u28 u29 u30 u31 u32 u33 u34 u35 u36 u37 u38 u39 u40 u41 u42 u43 u44 u45 u46 u47 u48 u49 u50 u51 u52 u53 u54 u55 u56 u57 u58 u59 u60 u61 u62 u63 u64 u65 u66 u67 u68 u69 u70 u71 u72 u73 u74 u75 u76 u77 u78 u79 u80 u81 u82 u83 u84 u85 u86 u87 u88 u89 u90 u91 u92 u93 u94 u95 u96 u97 u98 u99 u100 u101 u102 u103 u104 u105 u106 u107 u108 u109 u110 u111 u112 u113 u114 : Value} (ho : OpAt w T z0 z1 z2 z3 s) (hz : Int64 z1) (F : Fine S C k) (hk : k ≤ 1000) (h : Two (fun b => T ≤ b ∧ b < w.heap.size) w0 w Bd Br S C) (ha : AttrsP (fun b => T ≤ b ∧ b < w.heap.size) w va [([120], s)])
    (hQ : ∀ (y24 y25 y26 y27 y28 y29 y30 y31 y32 y33 y34 y35 y36 y37 y38 y39 y40 : Value) (w' : World), DoLeft w0 Bd Br k w' → Q .normal { tmps := #[.pointer (some ⟨Bd, 0, none⟩), .pointer (some ⟨Br, 0, none⟩), u2, u3, u4, .pointer (some ⟨T, 0, none⟩), .bool true, .string ⟨nm.toArray⟩, va, u9, u10, u11, u12, u13, u14, u15, u16, u17, u18, u19, u20, u21, u22, u23, y24, y25, y26, y27, y28, y29, y30, y31, y32, y33, y34, y35, y36, y37, y38, y39, y40, u41, u42, u43, u44, u45, u46, u47, u48, u49, u50, u51, u52, u53, u54, u55, u56, u57, u58, u59, u60, u61, u62, u63, u64, u65, u66, u67, u68, u69, u70, u71, u72, u73, u74, u75, u76, u77, u78, u79, u80, u81, u82, u83, u84, u85, u86, u87, u88, u89, u90, u91, u92, u93, u94, u95, u96, u97, u98, u99, u100, u101, u102, u103, u104, u105, u106, u107, u108, u109, u110, u111, u112, u113, u114], defers := [] } w') :
    (Code.region 5 #[{ dst := some 24, op := Op.move (Operand.tmp 0), type := 24, pos := "law.go:80", after := #[], guard := none }, { dst := some 25, op := Op.fieldAddr 29 (Operand.tmp 5) 1, type := 0, pos := "law.go:80", after := #[], guard := none }, { dst := some 26, op := Op.load 3 (Operand.tmp 25), type := 3, pos := "law.go:80", after := #[{ on := 1, ground := Ground.data }], guard := none }, { dst := some 27, op := Op.call { callee := Callee.value (Operand.func 15), args := #[Operand.tmp 26, Operand.const (Value.int IntKind.i64 3)], argTypes := #[ 3, 3 ] }, type := 3, pos := "law.go:80", after := #[{ on := 2, ground := Ground.data }], guard := none }, { dst := some 28, op := Op.binOp BinOp.add 3 (Operand.const (Value.int IntKind.i64 1)) (Operand.tmp 27) 3, type := 3, pos := "law.go:80", after := #[{ on := 3, ground := Ground.data }], guard := none }, { dst := some 29, op := Op.move (Operand.tmp 7), type := 9, pos := "law.go:80", after := #[], guard := none }, { dst := some 30, op := Op.move (Operand.tmp 8), type := 41, pos := "law.go:80", after := #[], guard := none }, { dst := some 31, op := Op.call { callee := Callee.value (Operand.func 14), args := #[Operand.tmp 24, Operand.tmp 28, Operand.tmp 29, Operand.tmp 30], argTypes := #[ 24, 3, 9, 41 ] }, type := 3, pos := "law.go:80", after := #[{ on := 0, ground := Ground.data }, { on := 4, ground := Ground.data }, { on := 5, ground := Ground.data }, { on := 6, ground := Ground.data }, { on := 3, ground := Ground.chain }], guard := none }, { dst := some 32, op := Op.move (Operand.tmp 1), type := 26, pos := "law.go:80", after := #[], guard := none }, { dst := some 33, op := Op.fieldAddr 29 (Operand.tmp 5) 1, type := 0, pos := "law.go:80", after := #[], guard := none }, { dst := some 34, op := Op.load 3 (Operand.tmp 33), type := 3, pos := "law.go:80", after := #[{ on := 9, ground := Ground.data }], guard := none }, { dst := some 35, op := Op.call { callee := Callee.value (Operand.func 15), args := #[Operand.tmp 34, Operand.const (Value.int IntKind.i64 3)], argTypes := #[ 3, 3 ] }, type := 3, pos := "law.go:80", after := #[{ on := 10, ground := Ground.data }, { on := 7, ground := Ground.chain }], guard := none }, { dst := some 36, op := Op.binOp BinOp.add 3 (Operand.const (Value.int IntKind.i64 1)) (Operand.tmp 35) 3, type := 3, pos := "law.go:80", after := #[{ on := 11, ground := Ground.data }], guard := none }, { dst := some 37, op := Op.move (Operand.tmp 7), type := 9, pos := "law.go:80", after := #[], guard := none }, { dst := some 38, op := Op.move (Operand.tmp 8), type := 41, pos := "law.go:80", after := #[], guard := none }, { dst := some 39, op := Op.call { callee := Callee.value (Operand.func 16), args := #[Operand.tmp 32, Operand.tmp 36, Operand.tmp 37, Operand.tmp 38], argTypes := #[ 26, 3, 9, 41 ] }, type := 3, pos := "law.go:80", after := #[{ on := 8, ground := Ground.data }, { on := 12, ground := Ground.data }, { on := 13, ground := Ground.data }, { on := 14, ground := Ground.data }, { on := 11, ground := Ground.chain }], guard := none }, { dst := some 40, op := Op.binOp BinOp.eql 3 (Operand.tmp 31) (Operand.tmp 39) 3, type := 4, pos := "law.go:80", after := #[{ on := 7, ground := Ground.data }, { on := 15, ground := Ground.data }], guard := none }, { dst := some 6, op := Op.assign (Operand.tmp 40), type := 4, pos := "law.go:80", after := #[{ on := 16, ground := Ground.data }, { on := 15, ground := Ground.chain }, { on := 0, ground := Ground.phase }, { on := 1, ground := Ground.phase }, { on := 2, ground := Ground.phase }, { on := 3, ground := Ground.phase }, { on := 4, ground := Ground.phase }, { on := 5, ground := Ground.phase }, { on := 6, ground := Ground.phase }, { on := 7, ground := Ground.phase }, { on := 8, ground := Ground.phase }, { on := 9, ground := Ground.phase }, { on := 10, ground := Ground.phase }, { on := 11, ground := Ground.phase }, { on := 12, ground := Ground.phase }, { on := 13, ground := Ground.phase }, { on := 14, ground := Ground.phase }, { on := 15, ground := Ground.phase }, { on := 16, ground := Ground.phase }], guard := none }] true).wp Try.prog Q { tmps := #[.pointer (some ⟨Bd, 0, none⟩), .pointer (some ⟨Br, 0, none⟩), u2, u3, u4, .pointer (some ⟨T, 0, none⟩), u6, .string ⟨nm.toArray⟩, va, u9, u10, u11, u12, u13, u14, u15, u16, u17, u18, u19, u20, u21, u22, u23, u24, u25, u26, u27, u28, u29, u30, u31, u32, u33, u34, u35, u36, u37, u38, u39, u40, u41, u42, u43, u44, u45, u46, u47, u48, u49, u50, u51, u52, u53, u54, u55, u56, u57, u58, u59, u60, u61, u62, u63, u64, u65, u66, u67, u68, u69, u70, u71, u72, u73, u74, u75, u76, u77, u78, u79, u80, u81, u82, u83, u84, u85, u86, u87, u88, u89, u90, u91, u92, u93, u94, u95, u96, u97, u98, u99, u100, u101, u102, u103, u104, u105, u106, u107, u108, u109, u110, u111, u112, u113, u114], defers := [] } w := by
  refine wp_region_noPanic ?_
  have HQ := Lib.hid hQ
  have HZ := Lib.hid hz
  have HWI : Hid (∀ W, Calls Try.prog 15 #[.int .i64 z1, .int .i64 3] W (Gives (.int .i64 ((Within z1 3 : Nat) : Int)) W)) := Lib.hid fun W => within6 z1 3 W hz.1 hz.2 (by omega) (by omega)
  have hj := (within_lt z1 3 (by omega)).1
  have HWR : Hid (IntKind.i64.wrap (1 + ((Within z1 3 : Nat) : Int)) = 1 + ((Within z1 3 : Nat) : Int)) := Lib.hid (wrap_fit _ (by omega) (by omega))
  generalize Within z1 3 = j at *
  have HF := Lib.hid F
  have HO := Lib.hid (ho.on (Below.refl _ w).drew)
  have HT := Lib.hid (h.on (Below.refl _ w).drew)
  have HAT := Lib.hid (ha.kept (.of_below (Below.refl _ w).drew))
  have hTl := ho.lt
  have HX : Hid ((fun b => T ≤ b ∧ b < w.heap.size) T) := Lib.hid ⟨Nat.le_refl _, ho.lt⟩
  clear hQ h ho F ha hz
  refine wp_region_held_drew (S := (fun W => W.cell? ⟨T, 1, none⟩ = some (.int .i64 z1))) (by kernel_rfl) (by exact HO.out.c1) (fun hHeld => ?_)
  generalize w.drew = W0 at *
  refine wpAnyH_take (i := 0) (oi := { dst := some 24, op := Op.move (Operand.tmp 0), type := 24, pos := "law.go:80", after := #[], guard := none }) (v := ?_) rfl (by kernel_rfl) (by kernel_rfl) (by kernel_rfl) (fun _ _ _ h => h) (Or.inl ⟨by rfl, ?_⟩) (by assumption) ?_
  rotate_left
  focus (intro w hSw; (try dsimp only at hSw); go_simp; (try with_reducible rfl))
  try simp only [Act.put, List.setIfInBounds_toArray, List.set_cons_zero, List.set_cons_succ]
  refine wpAnyH_take (i := 1) (oi := { dst := some 25, op := Op.fieldAddr 29 (Operand.tmp 5) 1, type := 0, pos := "law.go:80", after := #[], guard := none }) (v := ?_) rfl (by kernel_rfl) (by kernel_rfl) (by kernel_rfl) (fun _ _ _ h => h) (Or.inl ⟨by rfl, ?_⟩) (by assumption) ?_
  rotate_left
  focus (intro w hSw; (try dsimp only at hSw); go_simp; (try with_reducible rfl))
  try simp only [Act.put, List.setIfInBounds_toArray, List.set_cons_zero, List.set_cons_succ]
  refine wpAnyH_take (i := 2) (oi := { dst := some 26, op := Op.load 3 (Operand.tmp 25), type := 3, pos := "law.go:80", after := #[{ on := 1, ground := Ground.data }], guard := none }) (v := ?_) rfl (by kernel_rfl) (by kernel_rfl) (by kernel_rfl) (fun _ _ _ h => h) (Or.inl ⟨by rfl, ?_⟩) (by assumption) ?_
  rotate_left
  focus (intro w hSw; (try dsimp only at hSw); go_simp; (try with_reducible rfl))
  try simp only [Act.put, List.setIfInBounds_toArray, List.set_cons_zero, List.set_cons_succ]
  refine wpAnyH_take (i := 5) (oi := { dst := some 29, op := Op.move (Operand.tmp 7), type := 9, pos := "law.go:80", after := #[], guard := none }) (v := ?_) rfl (by kernel_rfl) (by kernel_rfl) (by kernel_rfl) (fun _ _ _ h => h) (Or.inl ⟨by rfl, ?_⟩) (by assumption) ?_
  rotate_left
  focus (intro w hSw; (try dsimp only at hSw); go_simp; (try with_reducible rfl))
  try simp only [Act.put, List.setIfInBounds_toArray, List.set_cons_zero, List.set_cons_succ]
  refine wpAnyH_take (i := 6) (oi := { dst := some 30, op := Op.move (Operand.tmp 8), type := 41, pos := "law.go:80", after := #[], guard := none }) (v := ?_) rfl (by kernel_rfl) (by kernel_rfl) (by kernel_rfl) (fun _ _ _ h => h) (Or.inl ⟨by rfl, ?_⟩) (by assumption) ?_
  rotate_left
  focus (intro w hSw; (try dsimp only at hSw); go_simp; (try with_reducible rfl))
  try simp only [Act.put, List.setIfInBounds_toArray, List.set_cons_zero, List.set_cons_succ]
  refine wpAnyH_take (i := 8) (oi := { dst := some 32, op := Op.move (Operand.tmp 1), type := 26, pos := "law.go:80", after := #[], guard := none }) (v := ?_) rfl (by kernel_rfl) (by kernel_rfl) (by kernel_rfl) (fun _ _ _ h => h) (Or.inl ⟨by rfl, ?_⟩) (by assumption) ?_
  rotate_left
  focus (intro w hSw; (try dsimp only at hSw); go_simp; (try with_reducible rfl))
  try simp only [Act.put, List.setIfInBounds_toArray, List.set_cons_zero, List.set_cons_succ]
  refine wpAnyH_take (i := 9) (oi := { dst := some 33, op := Op.fieldAddr 29 (Operand.tmp 5) 1, type := 0, pos := "law.go:80", after := #[], guard := none }) (v := ?_) rfl (by kernel_rfl) (by kernel_rfl) (by kernel_rfl) (fun _ _ _ h => h) (Or.inl ⟨by rfl, ?_⟩) (by assumption) ?_
  rotate_left
  focus (intro w hSw; (try dsimp only at hSw); go_simp; (try with_reducible rfl))
  try simp only [Act.put, List.setIfInBounds_toArray, List.set_cons_zero, List.set_cons_succ]
  refine wpAnyH_take (i := 10) (oi := { dst := some 34, op := Op.load 3 (Operand.tmp 33), type := 3, pos := "law.go:80", after := #[{ on := 9, ground := Ground.data }], guard := none }) (v := ?_) rfl (by kernel_rfl) (by kernel_rfl) (by kernel_rfl) (fun _ _ _ h => h) (Or.inl ⟨by rfl, ?_⟩) (by assumption) ?_
  rotate_left
  focus (intro w hSw; (try dsimp only at hSw); go_simp; (try with_reducible rfl))
  try simp only [Act.put, List.setIfInBounds_toArray, List.set_cons_zero, List.set_cons_succ]
  refine wpAnyH_take (i := 13) (oi := { dst := some 37, op := Op.move (Operand.tmp 7), type := 9, pos := "law.go:80", after := #[], guard := none }) (v := ?_) rfl (by kernel_rfl) (by kernel_rfl) (by kernel_rfl) (fun _ _ _ h => h) (Or.inl ⟨by rfl, ?_⟩) (by assumption) ?_
  rotate_left
  focus (intro w hSw; (try dsimp only at hSw); go_simp; (try with_reducible rfl))
  try simp only [Act.put, List.setIfInBounds_toArray, List.set_cons_zero, List.set_cons_succ]
  refine wpAnyH_take (i := 14) (oi := { dst := some 38, op := Op.move (Operand.tmp 8), type := 41, pos := "law.go:80", after := #[], guard := none }) (v := ?_) rfl (by kernel_rfl) (by kernel_rfl) (by kernel_rfl) (fun _ _ _ h => h) (Or.inl ⟨by rfl, ?_⟩) (by assumption) ?_
  rotate_left
  focus (intro w hSw; (try dsimp only at hSw); go_simp; (try with_reducible rfl))
  try simp only [Act.put, List.setIfInBounds_toArray, List.set_cons_zero, List.set_cons_succ]
  refine wpAnyH_ready (rs := [3]) (by kernel_rfl) (by simp) ?_
  refine AllReadyH.cons (o := { dst := some 27, op := Op.call { callee := Callee.value (Operand.func 15), args := #[Operand.tmp 26, Operand.const (Value.int IntKind.i64 3)], argTypes := #[ 3, 3 ] }, type := 3, pos := "law.go:80", after := #[{ on := 2, ground := Ground.data }], guard := none }) rfl (fun K hK => ?_) AllReadyH.nil
  go_simp
  refine HWI.out _ |>.mono ?_
  rintro e w4 ⟨rfl, rfl⟩
  go_wp2_with fail
  refine hK.out _ _ (by exact HO.out.c1) (fun hHeld => ?_)
  clear hK K
  try simp only [Act.put, List.setIfInBounds_toArray, List.set_cons_zero, List.set_cons_succ]
  refine wpAnyH_take (i := 4) (oi := { dst := some 28, op := Op.binOp BinOp.add 3 (Operand.const (Value.int IntKind.i64 1)) (Operand.tmp 27) 3, type := 3, pos := "law.go:80", after := #[{ on := 3, ground := Ground.data }], guard := none }) (v := ?_) rfl (by kernel_rfl) (by kernel_rfl) (by kernel_rfl) (fun _ _ _ h => h) (Or.inl ⟨by rfl, ?_⟩) (by assumption) ?_
  rotate_left
  focus (intro w hSw; (try dsimp only at hSw); go_simp; (try with_reducible rfl))
  try simp only [Act.put, List.setIfInBounds_toArray, List.set_cons_zero, List.set_cons_succ]
  refine wpAnyH_ready (rs := [7]) (by kernel_rfl) (by simp) ?_
  refine AllReadyH.cons (o := { dst := some 31, op := Op.call { callee := Callee.value (Operand.func 14), args := #[Operand.tmp 24, Operand.tmp 28, Operand.tmp 29, Operand.tmp 30], argTypes := #[ 24, 3, 9, 41 ] }, type := 3, pos := "law.go:80", after := #[{ on := 0, ground := Ground.data }, { on := 4, ground := Ground.data }, { on := 5, ground := Ground.data }, { on := 6, ground := Ground.data }, { on := 3, ground := Ground.chain }], guard := none }) rfl (fun K hK => ?_) AllReadyH.nil
  go_simp
  rw [HWR.out]
  obtain ⟨v, S', C', hfine, hP, hR⟩ := two_elem (w0 := w0) (Bd := Bd) (Br := Br) HF.out hk (1 + (j : Int)) nm [([120], s)] va rfl
  have HA := Lib.hid (And.intro hfine hR)
  refine (hP _ _ HT.out (HAT.out.mono fun _ _ _ => trivial)).mono ?_
  rintro e w5 ⟨rfl, hT5, hk5⟩
  have HT5 := Lib.hid hT5
  have HO5 := Lib.hid (HO.out.kept hk5 HX.out)
  have HAT5 := Lib.hid (HAT.out.kept hk5)
  clear hP hfine hR hT5 hk5
  go_wp2_with fail
  refine hK.out _ _ (by exact HO5.out.c1) (fun hHeld => ?_)
  clear hK K
  try simp only [Act.put, List.setIfInBounds_toArray, List.set_cons_zero, List.set_cons_succ]
  refine wpAnyH_ready (rs := [11]) (by kernel_rfl) (by simp) ?_
  refine AllReadyH.cons (o := { dst := some 35, op := Op.call { callee := Callee.value (Operand.func 15), args := #[Operand.tmp 34, Operand.const (Value.int IntKind.i64 3)], argTypes := #[ 3, 3 ] }, type := 3, pos := "law.go:80", after := #[{ on := 10, ground := Ground.data }, { on := 7, ground := Ground.chain }], guard := none }) rfl (fun K hK => ?_) AllReadyH.nil
  go_simp
  refine HWI.out _ |>.mono ?_
  rintro e w4 ⟨rfl, rfl⟩
  go_wp2_with fail
  refine hK.out _ _ (by exact HO5.out.c1) (fun hHeld => ?_)
  clear hK K
  try simp only [Act.put, List.setIfInBounds_toArray, List.set_cons_zero, List.set_cons_succ]
  refine wpAnyH_take (i := 12) (oi := { dst := some 36, op := Op.binOp BinOp.add 3 (Operand.const (Value.int IntKind.i64 1)) (Operand.tmp 35) 3, type := 3, pos := "law.go:80", after := #[{ on := 11, ground := Ground.data }], guard := none }) (v := ?_) rfl (by kernel_rfl) (by kernel_rfl) (by kernel_rfl) (fun _ _ _ h => h) (Or.inl ⟨by rfl, ?_⟩) (by assumption) ?_
  rotate_left
  focus (intro w hSw; (try dsimp only at hSw); go_simp; (try with_reducible rfl))
  try simp only [Act.put, List.setIfInBounds_toArray, List.set_cons_zero, List.set_cons_succ]
  refine wpAnyH_ready (rs := [15]) (by kernel_rfl) (by simp) ?_
  refine AllReadyH.cons (o := { dst := some 39, op := Op.call { callee := Callee.value (Operand.func 16), args := #[Operand.tmp 32, Operand.tmp 36, Operand.tmp 37, Operand.tmp 38], argTypes := #[ 26, 3, 9, 41 ] }, type := 3, pos := "law.go:80", after := #[{ on := 8, ground := Ground.data }, { on := 12, ground := Ground.data }, { on := 13, ground := Ground.data }, { on := 14, ground := Ground.data }, { on := 11, ground := Ground.chain }], guard := none }) rfl (fun K hK => ?_) AllReadyH.nil
  go_simp
  rw [HWR.out]
  refine (HA.out.2 _ _ HT5.out (HAT5.out.mono fun _ _ _ => trivial)).mono ?_
  rintro e w6 ⟨rfl, hT6, hk6⟩
  have HT6 := Lib.hid hT6
  have HO6 := Lib.hid (HO5.out.kept hk6 HX.out)
  clear hT6 hk6
  go_wp2_with fail
  refine hK.out _ _ (by exact HO6.out.c1) (fun hHeld => ?_)
  clear hK K
  try simp only [Act.put, List.setIfInBounds_toArray, List.set_cons_zero, List.set_cons_succ]
  refine wpAnyH_take (i := 16) (oi := { dst := some 40, op := Op.binOp BinOp.eql 3 (Operand.tmp 31) (Operand.tmp 39) 3, type := 4, pos := "law.go:80", after := #[{ on := 7, ground := Ground.data }, { on := 15, ground := Ground.data }], guard := none }) (v := ?_) rfl (by kernel_rfl) (by kernel_rfl) (by kernel_rfl) (fun _ _ _ h => h) (Or.inl ⟨by rfl, ?_⟩) (by assumption) ?_
  rotate_left
  focus (intro w hSw; (try dsimp only at hSw); go_simp; (try with_reducible rfl))
  try simp only [Act.put, List.setIfInBounds_toArray, List.set_cons_zero, List.set_cons_succ]
  refine wpAnyH_take (i := 17) (oi := { dst := some 6, op := Op.assign (Operand.tmp 40), type := 4, pos := "law.go:80", after := #[{ on := 16, ground := Ground.data }, { on := 15, ground := Ground.chain }, { on := 0, ground := Ground.phase }, { on := 1, ground := Ground.phase }, { on := 2, ground := Ground.phase }, { on := 3, ground := Ground.phase }, { on := 4, ground := Ground.phase }, { on := 5, ground := Ground.phase }, { on := 6, ground := Ground.phase }, { on := 7, ground := Ground.phase }, { on := 8, ground := Ground.phase }, { on := 9, ground := Ground.phase }, { on := 10, ground := Ground.phase }, { on := 11, ground := Ground.phase }, { on := 12, ground := Ground.phase }, { on := 13, ground := Ground.phase }, { on := 14, ground := Ground.phase }, { on := 15, ground := Ground.phase }, { on := 16, ground := Ground.phase }], guard := none }) (v := ?_) rfl (by kernel_rfl) (by kernel_rfl) (by kernel_rfl) (fun _ _ _ h => h) (Or.inl ⟨by rfl, ?_⟩) (by assumption) ?_
  rotate_left
  focus (intro w hSw; (try dsimp only at hSw); go_simp; (try with_reducible rfl))
  try simp only [Act.put, List.setIfInBounds_toArray, List.set_cons_zero, List.set_cons_succ]
  refine wpAnyH_done (by kernel_rfl) ?_ _
  exact NoPanic.normal (HQ.out _ _ _ _ _ _ _ _ _ _ _ _ _ _ _ _ _ _ ⟨_, _, HA.out.1, HT6.out.less (fun _ q => q.elim)⟩)
end Go.Proofs.Ytkoijkdhmfnlbaa
