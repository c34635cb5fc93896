/-
  Two drawn regions of the laws' made: an attribute more.
-/
import Derived.Test.YtbadckkcjjfnoaaDMade1
import Derived.Test.YtbadckkcjjfnoaaDHeld
import Derived.Deep.RegionHeld3
namespace Go.Proofs.Ytbadckkcjjfnoaa
open Go.RowKit

def cells8 : Array Value := #[.string ⟨#[111, 110, 101]⟩, .string ⟨#[32]⟩, .string ⟨#[116, 119, 111, 44, 32, 116, 104, 114, 101, 101]⟩, .string ⟨#[10]⟩, .string ⟨#[228, 184, 150]⟩, .string ⟨#[102, 111, 117, 114, 46]⟩, .string ⟨#[97, 32, 108, 111, 110, 103, 32, 116, 101, 120, 116, 44, 32, 119, 105, 116, 104, 32, 99, 111, 109, 109, 97, 115, 44, 32, 97, 110, 100, 32, 109, 111, 114, 101, 32, 111, 102, 32, 105, 116]⟩, .string ⟨#[120]⟩]
def cells2 : Array Value := #[.string ⟨#[]⟩, .string ⟨#[110, 111, 116, 101]⟩]
def cells5 : Array Value := #[.string ⟨#[109, 97, 105, 110]⟩, .string ⟨#[102, 111, 111, 116, 101, 114]⟩, .string ⟨#[115, 112, 111, 110, 115, 111, 114]⟩, .string ⟨#[101, 110, 116, 114, 121]⟩, .string ⟨#[120]⟩]
def cells4 : Array Value := #[.string ⟨#[104, 116, 116, 112, 58, 47, 47, 97, 47, 98]⟩, .string ⟨#[99]⟩, .string ⟨#[109, 97, 105, 108, 116, 111, 58, 120]⟩, .string ⟨#[106, 97, 118, 97, 115, 99, 114, 105, 112, 116, 58, 49]⟩]
theorem cells_8 : cells8 = (val8.map fun s => Value.string ⟨s.toArray⟩).toArray := rfl
theorem cells_2 : cells2 = (val2.map fun s => Value.string ⟨s.toArray⟩).toArray := rfl
theorem cells_5 : cells5 = (val5.map fun s => Value.string ⟨s.toArray⟩).toArray := rfl
theorem cells_4 : cells4 = (val4.map fun s => Value.string ⟨s.toArray⟩).toArray := rfl
set_option maxHeartbeats 4000000 in
set_option maxRecDepth 100000 in
theorem made_reg12 {w0 : World} {v : Value} {zs : List Int} {B H E a : Nat} {d : Nd} {va : Value} {w : World} (Q : Exit → Act → World → Prop) (u1 u2 u3 u4 u5 u6 u7 u8 u9 u11 u12 u13 u14 u15 u16 u17 u18 u19 u20 u21 u22 u23 u24 u25 u26 u27 u28 u29 u30 u31 u32 u33 u34 u35 u36 u37 u38 u39 u40 u41 u42 u43 u44 u45 u46 u47 u48 u49 u50 u51 u52 u53 u54 u55 u56 u57 u58 u59 u60 u61 u62 u63 u64 u65 u66 u67 u68 u69 u70 u71 u72 u73 u74 u75 u76 u77 u78 u79 u80 u81 u82 u83 u84 u85 u86 u87 u88 u89 u90 u91 u92 u93 u94 u95 u96 u97 u98 u99 u100 u101 u102 u103 u104 u105 u106 u107 u108 u109 u110 u111 u112 u113 u114 u115 u116 u117 u118 u119 : Value) (he : ElemZ H E d va w) (ht : TapeZ w0 v zs B a w) (hB : B < H) (hH : H ≤ w.heap.size) (hl : d.attrs.length ≤ 4)
    (hQ : ∀ (x44 x45 x46 x47 x48 x49 x50 x51 x52 x53 x54 va' : Value) (w' : World), ElemZ H E { d with attrs := d.attrs ++ [(sClass, val5.getD (nextZ zs a 5).1 [])] } va' w' → TapeZ w0 v zs B (nextZ zs a 5).2 w' → Turns (Mk B H) w w' → Q .normal { tmps := #[.pointer (some ⟨B, 0, none⟩), u1, u2, u3, u4, u5, u6, u7, u8, u9, .pointer (some ⟨E, 0, none⟩), u11, u12, u13, u14, u15, u16, u17, u18, u19, u20, u21, u22, u23, u24, u25, u26, u27, u28, u29, u30, u31, u32, u33, u34, u35, u36, u37, u38, u39, u40, u41, u42, u43, x44, x45, x46, x47, x48, x49, x50, x51, x52, x53, x54, u55, u56, u57, u58, u59, u60, u61, u62, u63, u64, u65, u66, u67, u68, u69, u70, u71, u72, u73, u74, u75, u76, u77, u78, u79, u80, u81, u82, u83, u84, u85, u86, u87, u88, u89, u90, u91, u92, u93, u94, u95, u96, u97, u98, u99, u100, u101, u102, u103, u104, u105, u106, u107, u108, u109, u110, u111, u112, u113, u114, u115, u116, u117, u118, u119], defers := [] } w') :
    (Code.region 12 #[{ dst := some 44, op := Op.fieldAddr 48 (Operand.tmp 10) 3, type := 0, pos := "more.go:34", after := #[], guard := none }, { dst := some 45, op := Op.load 41 (Operand.tmp 44), type := 41, pos := "more.go:34", after := #[{ on := 0, ground := Ground.data }], guard := none }, { dst := some 46, op := Op.buildSlice 84 5 #[(0, Operand.const (Value.string { data := #[109, 97, 105, 110] })), (1, Operand.const (Value.string { data := #[102, 111, 111, 116, 101, 114] })), (2, Operand.const (Value.string { data := #[115, 112, 111, 110, 115, 111, 114] })), (3, Operand.const (Value.string { data := #[101, 110, 116, 114, 121] })), (4, Operand.const (Value.string { data := #[120] }))], type := 84, pos := "more.go:34", after := #[], guard := none }, { dst := some 47, op := Op.move (Operand.tmp 0), type := 76, pos := "more.go:34", after := #[], guard := none }, { dst := some 48, op := Op.call { callee := Callee.value (Operand.func 47), args := #[Operand.tmp 47, Operand.const (Value.int IntKind.i64 5)], argTypes := #[ 76, 3 ] }, type := 3, pos := "more.go:34", after := #[{ on := 3, ground := Ground.data }], guard := none }, { dst := some 49, op := Op.indexAddr 84 (Operand.tmp 46) (Operand.tmp 48), type := 0, pos := "more.go:34", after := #[{ on := 2, ground := Ground.data }, { on := 4, ground := Ground.data }], guard := none }, { dst := some 50, op := Op.load 9 (Operand.tmp 49), type := 9, pos := "more.go:34", after := #[{ on := 5, ground := Ground.data }], guard := none }, { dst := some 51, op := Op.build 40 #[(0, Operand.const (Value.string { data := #[99, 108, 97, 115, 115] })), (1, Operand.tmp 50)], type := 40, pos := "more.go:34", after := #[{ on := 6, ground := Ground.data }], guard := none }, { dst := some 52, op := Op.buildSlice 41 1 #[(0, Operand.tmp 51)], type := 41, pos := "more.go:34", after := #[{ on := 7, ground := Ground.data }], guard := none }, { dst := some 53, op := Op.call { callee := Callee.builtin Builtin.append, args := #[Operand.tmp 45, Operand.tmp 52], argTypes := #[ 41, 41 ] }, type := 41, pos := "more.go:34", after := #[{ on := 1, ground := Ground.data }, { on := 8, ground := Ground.data }, { on := 4, ground := Ground.chain }], guard := none }, { dst := some 54, op := Op.fieldAddr 48 (Operand.tmp 10) 3, type := 0, pos := "more.go:34", after := #[{ on := 0, ground := Ground.phase }, { on := 1, ground := Ground.phase }, { on := 2, ground := Ground.phase }, { on := 3, ground := Ground.phase }, { on := 4, ground := Ground.phase }, { on := 5, ground := Ground.phase }, { on := 6, ground := Ground.phase }, { on := 7, ground := Ground.phase }, { on := 8, ground := Ground.phase }, { on := 9, ground := Ground.phase }], guard := none }, { dst := none, op := Op.store 41 (Operand.tmp 54) (Operand.tmp 53), type := 0, pos := "more.go:34", after := #[{ on := 10, ground := Ground.data }, { on := 9, ground := Ground.data }, { on := 9, ground := Ground.chain }, { on := 0, ground := Ground.phase }, { on := 1, ground := Ground.phase }, { on := 2, ground := Ground.phase }, { on := 3, ground := Ground.phase }, { on := 4, ground := Ground.phase }, { on := 5, ground := Ground.phase }, { on := 6, ground := Ground.phase }, { on := 7, ground := Ground.phase }, { on := 8, ground := Ground.phase }, { on := 9, ground := Ground.phase }], guard := none }] true).wp Try.prog Q { tmps := #[.pointer (some ⟨B, 0, none⟩), u1, u2, u3, u4, u5, u6, u7, u8, u9, .pointer (some ⟨E, 0, none⟩), u11, u12, u13, u14, u15, u16, u17, u18, u19, u20, u21, u22, u23, u24, u25, u26, u27, u28, u29, u30, u31, u32, u33, u34, u35, u36, u37, u38, u39, u40, u41, u42, u43, u44, u45, u46, u47, u48, u49, u50, u51, u52, u53, u54, u55, u56, u57, u58, u59, u60, u61, u62, u63, u64, u65, u66, u67, u68, u69, u70, u71, u72, u73, u74, u75, u76, u77, u78, u79, u80, u81, u82, u83, u84, u85, u86, u87, u88, u89, u90, u91, u92, u93, u94, u95, u96, u97, u98, u99, u100, u101, u102, u103, u104, u105, u106, u107, u108, u109, u110, u111, u112, u113, u114, u115, u116, u117, u118, u119], defers := [] } w := by
  refine wp_region_noPanic ?_
  obtain ⟨i0, hi, hy0, hy1, hy2⟩ := info_at
  have hr := nextZ_lt zs a 5 (by omega)
  have he1 := he.on ((Below.refl _ w).drew)
  have ht1 := ht.on ((Below.refl _ w).drew)
  have hT1 : Turns (Mk B H) w w.drew := .of_below ((Below.refl _ w).drew)
  have hH1 : H ≤ w.drew.heap.size := hH
  refine wp_region_heldS_drew (s := 11) (S := fun W => W.cell? ⟨E, 3, none⟩ = some va) (by kernel_rfl) he1.cells.c3 (fun hHeld => ?_)
  generalize w.drew = w1 at *
  have hN : ∀ W, TapeZ w0 v zs B a W → Calls Try.prog 47 #[.pointer (some ⟨B, 0, none⟩), .int .i64 ((5 : Nat) : Int)] W (fun e W' => e = .returned (.int .i64 (((nextZ zs a 5).1 : Nat) : Int)) ∧ Stepped B W W' ∧ TapeZ w0 v zs B (nextZ zs a 5).2 W') := fun W h => tape_nextZ w0 v zs B a 5 W h (by omega) (by omega)
  generalize (nextZ zs a 5).2 = a9 at *
  generalize (nextZ zs a 5).1 = r at *
  have HQ := Lib.hid hQ
  have HN := Lib.hid hN
  clear hQ hN he ht
  refine wpAnyS_take (i := 0) (oi := { dst := some 44, op := Op.fieldAddr 48 (Operand.tmp 10) 3, type := 0, pos := "more.go:34", after := #[], guard := none }) (v := ?_) rfl (by kernel_rfl) (by kernel_rfl) (by kernel_rfl) (by kernel_rfl) (fun _ _ _ h => h) (Or.inl ⟨by rfl, ?_⟩) (by assumption) ?_
  rotate_left
  focus (intro w hSw; (try dsimp only at hSw); go_simp; (try with_reducible rfl))
  try simp only [Act.put, List.setIfInBounds_toArray, List.set_cons_zero, List.set_cons_succ]
  refine wpAnyS_take (i := 1) (oi := { dst := some 45, op := Op.load 41 (Operand.tmp 44), type := 41, pos := "more.go:34", after := #[{ on := 0, ground := Ground.data }], guard := none }) (v := ?_) rfl (by kernel_rfl) (by kernel_rfl) (by kernel_rfl) (by kernel_rfl) (fun _ _ _ h => h) (Or.inl ⟨by rfl, ?_⟩) (by assumption) ?_
  rotate_left
  focus (intro w hSw; (try dsimp only at hSw); go_simp; (try with_reducible rfl))
  try simp only [Act.put, List.setIfInBounds_toArray, List.set_cons_zero, List.set_cons_succ]
  refine wpAnyS_take (i := 3) (oi := { dst := some 47, op := Op.move (Operand.tmp 0), type := 76, pos := "more.go:34", after := #[], guard := none }) (v := ?_) rfl (by kernel_rfl) (by kernel_rfl) (by kernel_rfl) (by kernel_rfl) (fun _ _ _ h => h) (Or.inl ⟨by rfl, ?_⟩) (by assumption) ?_
  rotate_left
  focus (intro w hSw; (try dsimp only at hSw); go_simp; (try with_reducible rfl))
  try simp only [Act.put, List.setIfInBounds_toArray, List.set_cons_zero, List.set_cons_succ]
  refine wpAnyS_ready (rs := [2, 4]) (by kernel_rfl) (by simp) ?_
  refine AllReadyS.cons (o := { dst := some 46, op := Op.buildSlice 84 5 #[(0, Operand.const (Value.string { data := #[109, 97, 105, 110] })), (1, Operand.const (Value.string { data := #[102, 111, 111, 116, 101, 114] })), (2, Operand.const (Value.string { data := #[115, 112, 111, 110, 115, 111, 114] })), (3, Operand.const (Value.string { data := #[101, 110, 116, 114, 121] })), (4, Operand.const (Value.string { data := #[120] }))], type := 84, pos := "more.go:34", after := #[], guard := none }) rfl (fun K hK => ?_) (AllReadyS.cons (o := { dst := some 48, op := Op.call { callee := Callee.value (Operand.func 47), args := #[Operand.tmp 47, Operand.const (Value.int IntKind.i64 5)], argTypes := #[ 76, 3 ] }, type := 3, pos := "more.go:34", after := #[{ on := 3, ground := Ground.data }], guard := none }) rfl (fun K hK => ?_) AllReadyS.nil)
  · go_simp
    have b2 : Below w1.heap.size w1 (w1.alloc (.cells cells5 9)) := (Below.refl _ w1).alloc (Nat.le_refl _) _
    have hn2 := news_strs w1 val5 cells5 9 cells_5 r hr
    have he2 := he1.on b2
    have ht2 := ht1.on b2
    have hT2 := hT1.nextB b2
    refine hK.out _ _ he2.cells.c3 (fun hHeld => ?_)
    clear hK K
    try simp only [Act.put, List.setIfInBounds_toArray, List.set_cons_zero, List.set_cons_succ]
    change wpAnyS _ _ _ _ _ _ _ _ _ (w1.alloc (.cells cells5 9))
    have hz2 : w1.heap.size < (w1.alloc (.cells cells5 9)).heap.size := by simp
    generalize (w1.alloc (.cells cells5 9)) = w2 at *
    refine wpAnyS_ready (rs := [4]) (by kernel_rfl) (by simp) ?_
    refine AllReadyS.cons (o := { dst := some 48, op := Op.call { callee := Callee.value (Operand.func 47), args := #[Operand.tmp 47, Operand.const (Value.int IntKind.i64 5)], argTypes := #[ 76, 3 ] }, type := 3, pos := "more.go:34", after := #[{ on := 3, ground := Ground.data }], guard := none }) rfl (fun K hK => ?_) AllReadyS.nil
    go_simp
    refine (HN.out w2 ht2).mono ?_
    rintro e w3 ⟨rfl, hs3, ht3⟩
    have he3 := he2.step hs3 hB
    have hT3 := hT2.step hs3
    have hx := (hs3.cell w1.heap.size r (.inl (by have := ht1.lt; omega))).trans hn2
    have hz3 : H ≤ w3.heap.size := by rw [hs3.size]; omega
    go_wp2_with fail
    refine hK.out _ _ he3.cells.c3 (fun hHeld => ?_)
    clear hK K
    try simp only [Act.put, List.setIfInBounds_toArray, List.set_cons_zero, List.set_cons_succ]
    generalize w1.heap.size = gs at *
    generalize val5.getD r [] = tx at *
    obtain ⟨TX, hTX⟩ : ∃ TX : ByteArray, (⟨tx.toArray⟩ : ByteArray) = TX := ⟨_, rfl⟩
    rw [hTX] at hx
    have HTX := Lib.hid hTX
    clear hTX
    have r0 : (0 : Int) ≤ (r : Int) := by omega
    have r1 : (r : Int) < 5 := by omega
    refine wpAnyS_take (i := 5) (oi := { dst := some 49, op := Op.indexAddr 84 (Operand.tmp 46) (Operand.tmp 48), type := 0, pos := "more.go:34", after := #[{ on := 2, ground := Ground.data }, { on := 4, ground := Ground.data }], guard := none }) (v := ?_) rfl (by kernel_rfl) (by kernel_rfl) (by kernel_rfl) (by kernel_rfl) (fun _ _ _ h => h) (Or.inl ⟨by rfl, ?_⟩) (by assumption) ?_
    rotate_left
    focus (intro w hSw; (try dsimp only at hSw); go_simp; (try with_reducible rfl))
    try simp only [Act.put, List.setIfInBounds_toArray, List.set_cons_zero, List.set_cons_succ]
    refine wpAnyS_ready (rs := [6]) (by kernel_rfl) (by simp) ?_
    refine AllReadyS.cons (o := { dst := some 50, op := Op.load 9 (Operand.tmp 49), type := 9, pos := "more.go:34", after := #[{ on := 5, ground := Ground.data }], guard := none }) rfl (fun K hK => ?_) AllReadyS.nil
    go_simp
    refine hK.out _ _ hHeld (fun hHeld => ?_)
    clear hK K
    try simp only [Act.put, List.setIfInBounds_toArray, List.set_cons_zero, List.set_cons_succ]
    refine wpAnyS_take (i := 7) (oi := { dst := some 51, op := Op.build 40 #[(0, Operand.const (Value.string { data := #[99, 108, 97, 115, 115] })), (1, Operand.tmp 50)], type := 40, pos := "more.go:34", after := #[{ on := 6, ground := Ground.data }], guard := none }) (v := ?_) rfl (by kernel_rfl) (by kernel_rfl) (by kernel_rfl) (by kernel_rfl) (fun _ _ _ h => h) (Or.inl ⟨by rfl, ?_⟩) (by assumption) ?_
    rotate_left
    focus (intro w hSw; (try dsimp only at hSw); go_simp; (try with_reducible rfl))
    try simp only [Act.put, List.setIfInBounds_toArray, List.set_cons_zero, List.set_cons_succ]
    refine wpAnyS_ready (rs := [8]) (by kernel_rfl) (by simp) ?_
    refine AllReadyS.cons (o := { dst := some 52, op := Op.buildSlice 41 1 #[(0, Operand.tmp 51)], type := 41, pos := "more.go:34", after := #[{ on := 7, ground := Ground.data }], guard := none }) rfl (fun K hK => ?_) AllReadyS.nil
    go_simp
    have he5 := he3.on ((Below.refl _ w3).alloc (Nat.le_refl _) (.cells #[.string ⟨#[99, 108, 97, 115, 115]⟩, .string TX] 40))
    have ht5 := ht3.on ((Below.refl _ w3).alloc (Nat.le_refl _) (.cells #[.string ⟨#[99, 108, 97, 115, 115]⟩, .string TX] 40))
    have hT5 := hT3.nextB ((Below.refl _ w3).alloc (Nat.le_refl _) (.cells #[.string ⟨#[99, 108, 97, 115, 115]⟩, .string TX] 40))
    have hN5 : (w3.alloc (.cells #[.string ⟨#[99, 108, 97, 115, 115]⟩, .string TX] 40)).heap[w3.heap.size]? = some (.cells #[.string ⟨#[99, 108, 97, 115, 115]⟩, .string TX] 40) := heap_alloc_new w3 _
    have hs5 : (w3.alloc (.cells #[.string ⟨#[99, 108, 97, 115, 115]⟩, .string TX] 40)).heap.size = w3.heap.size + 1 := by simp
    refine hK.out _ _ he5.cells.c3 (fun hHeld => ?_)
    clear hK K
    try simp only [Act.put, List.setIfInBounds_toArray, List.set_cons_zero, List.set_cons_succ]
    generalize w3.alloc (.cells #[.string ⟨#[99, 108, 97, 115, 115]⟩, .string TX] 40) = w5 at *
    refine wpAnyS_ready (rs := [9]) (by kernel_rfl) (by simp) ?_
    refine AllReadyS.cons (o := { dst := some 53, op := Op.call { callee := Callee.builtin Builtin.append, args := #[Operand.tmp 45, Operand.tmp 52], argTypes := #[ 41, 41 ] }, type := 41, pos := "more.go:34", after := #[{ on := 1, ground := Ground.data }, { on := 8, ground := Ground.data }, { on := 4, ground := Ground.chain }], guard := none }) rfl (fun K hK => ?_) AllReadyS.nil
    refine step_append_lies _ (by rfl) _ _ 41 (by rfl) H 40 i0 (.agg #[.string ByteArray.empty, .string ByteArray.empty]) 2 32 Try.underlying41 hi hy0 hy1 hy2 rfl (by omega) va d.attrs.length (atCells d.attrs) (by rfl) he5.row ⟨w3.heap.size, 0, none⟩ 1 1 [.string ⟨#[99, 108, 97, 115, 115]⟩, .string TX] (by rfl) (by rfl) (World.news_of_block (cs := #[.string ⟨#[99, 108, 97, 115, 115]⟩, .string TX]) (t := 40) (fr := (0, 0)) hN5) (by simp [Value.oneCell']) (by omega) (by unfold maxLen; omega) (by omega) (by omega) w5.heap.size rfl ?_
    intro ga capa w6 hr6 hg6 hor6 hlt6
    have he6 := he5.attr (x := (sClass, tx)) hg6 (by rw [← HTX.out] at hr6; exact hr6) (fun g e => by injection e with e; subst e; exact hor6.imp id (fun k => by show _ ≤ ga; omega))
    have hT6a : Turns (fun b => H ≤ b) w5 w6 := .of_grown hg6 (fun k e => (he5.row.lt k e).1)
    have hT6 : Turns (Mk B H) w5 (w6.setCell ⟨E, 3, none⟩ (.slice (some ⟨ga, 0, none⟩) (d.attrs.length + 1) capa)) := (hT6a.mono (L := Mk B H) (fun _ _ k => .inr k)).setCell (.inl (.inr he5.lo)) 3 _
    have ht6 := ht5.turns (M := fun b => H ≤ b) (hT6a.setCell (.inl he5.lo) 3 (.slice (some ⟨ga, 0, none⟩) (d.attrs.length + 1) capa)) (by omega) (fun b k => by have := ht5.new; omega)
    have c3 : w6.cell? ⟨E, 3, none⟩ = some va := (World.cell?_of_block (w := w5) (hg6.block E he5.lt he5.off.symm)).trans he5.cells.c3
    have f3 : w6.frozen? ⟨E, 3, none⟩ = false := (World.frozen?_of_block (w := w5) (hg6.block E he5.lt he5.off.symm)).trans (he5.free 3)
    refine hK.out _ _ c3 (fun hHeld => ?_)
    clear hK K
    try simp only [Act.put, List.setIfInBounds_toArray, List.set_cons_zero, List.set_cons_succ]
    refine wpAnyS_take (i := 10) (oi := { dst := some 54, op := Op.fieldAddr 48 (Operand.tmp 10) 3, type := 0, pos := "more.go:34", after := #[{ on := 0, ground := Ground.phase }, { on := 1, ground := Ground.phase }, { on := 2, ground := Ground.phase }, { on := 3, ground := Ground.phase }, { on := 4, ground := Ground.phase }, { on := 5, ground := Ground.phase }, { on := 6, ground := Ground.phase }, { on := 7, ground := Ground.phase }, { on := 8, ground := Ground.phase }, { on := 9, ground := Ground.phase }], guard := none }) (v := ?_) rfl (by kernel_rfl) (by kernel_rfl) (by kernel_rfl) (by kernel_rfl) (fun _ _ _ h => h) (Or.inl ⟨by rfl, ?_⟩) (by assumption) ?_
    rotate_left
    focus (intro w hSw; (try dsimp only at hSw); go_simp; (try with_reducible rfl))
    try simp only [Act.put, List.setIfInBounds_toArray, List.set_cons_zero, List.set_cons_succ]
    refine wpAnyS_ready (rs := [11]) (by kernel_rfl) (by simp) ?_
    refine AllReadyS.last (o := { dst := none, op := Op.store 41 (Operand.tmp 54) (Operand.tmp 53), type := 0, pos := "more.go:34", after := #[{ on := 10, ground := Ground.data }, { on := 9, ground := Ground.data }, { on := 9, ground := Ground.chain }, { on := 0, ground := Ground.phase }, { on := 1, ground := Ground.phase }, { on := 2, ground := Ground.phase }, { on := 3, ground := Ground.phase }, { on := 4, ground := Ground.phase }, { on := 5, ground := Ground.phase }, { on := 6, ground := Ground.phase }, { on := 7, ground := Ground.phase }, { on := 8, ground := Ground.phase }, { on := 9, ground := Ground.phase }], guard := none }) rfl (fun K hK => ?_)
    go_simp
    refine hK.out _ _ ?_
    refine wpAnyS_done (by kernel_rfl) ?_ _
    try simp only [Act.put, List.setIfInBounds_toArray, List.set_cons_zero, List.set_cons_succ]
    exact NoPanic.normal (HQ.out _ _ _ _ _ _ _ _ _ _ _ _ _ he6 ht6 (hT5.next hT6))
  · go_simp
    refine (HN.out w1 ht1).mono ?_
    rintro e w2 ⟨rfl, hs2, ht2⟩
    have he2 := he1.step hs2 hB
    have hT2 := hT1.step hs2
    go_wp2_with fail
    refine hK.out _ _ he2.cells.c3 (fun hHeld => ?_)
    clear hK K
    try simp only [Act.put, List.setIfInBounds_toArray, List.set_cons_zero, List.set_cons_succ]
    refine wpAnyS_ready (rs := [2]) (by kernel_rfl) (by simp) ?_
    refine AllReadyS.cons (o := { dst := some 46, op := Op.buildSlice 84 5 #[(0, Operand.const (Value.string { data := #[109, 97, 105, 110] })), (1, Operand.const (Value.string { data := #[102, 111, 111, 116, 101, 114] })), (2, Operand.const (Value.string { data := #[115, 112, 111, 110, 115, 111, 114] })), (3, Operand.const (Value.string { data := #[101, 110, 116, 114, 121] })), (4, Operand.const (Value.string { data := #[120] }))], type := 84, pos := "more.go:34", after := #[], guard := none }) rfl (fun K hK => ?_) AllReadyS.nil
    go_simp
    have b3 : Below w2.heap.size w2 (w2.alloc (.cells cells5 9)) := (Below.refl _ w2).alloc (Nat.le_refl _) _
    have hx := news_strs w2 val5 cells5 9 cells_5 r hr
    have he3 := he2.on b3
    have ht3 := ht2.on b3
    have hT3 := hT2.nextB b3
    have hz3 : H ≤ (w2.alloc (.cells cells5 9)).heap.size := by have := hs2.size; simp; omega
    refine hK.out _ _ he3.cells.c3 (fun hHeld => ?_)
    clear hK K
    try simp only [Act.put, List.setIfInBounds_toArray, List.set_cons_zero, List.set_cons_succ]
    change wpAnyS _ _ _ _ _ _ _ _ _ (w2.alloc (.cells cells5 9))
    generalize (w2.alloc (.cells cells5 9)) = w3 at *
    generalize w2.heap.size = gs at *
    clear hHeld
    have hHeld := he3.cells.c3
    generalize val5.getD r [] = tx at *
    obtain ⟨TX, hTX⟩ : ∃ TX : ByteArray, (⟨tx.toArray⟩ : ByteArray) = TX := ⟨_, rfl⟩
    rw [hTX] at hx
    have HTX := Lib.hid hTX
    clear hTX
    have r0 : (0 : Int) ≤ (r : Int) := by omega
    have r1 : (r : Int) < 5 := by omega
    refine wpAnyS_take (i := 5) (oi := { dst := some 49, op := Op.indexAddr 84 (Operand.tmp 46) (Operand.tmp 48), type := 0, pos := "more.go:34", after := #[{ on := 2, ground := Ground.data }, { on := 4, ground := Ground.data }], guard := none }) (v := ?_) rfl (by kernel_rfl) (by kernel_rfl) (by kernel_rfl) (by kernel_rfl) (fun _ _ _ h => h) (Or.inl ⟨by rfl, ?_⟩) (by assumption) ?_
    rotate_left
    focus (intro w hSw; (try dsimp only at hSw); go_simp; (try with_reducible rfl))
    try simp only [Act.put, List.setIfInBounds_toArray, List.set_cons_zero, List.set_cons_succ]
    refine wpAnyS_ready (rs := [6]) (by kernel_rfl) (by simp) ?_
    refine AllReadyS.cons (o := { dst := some 50, op := Op.load 9 (Operand.tmp 49), type := 9, pos := "more.go:34", after := #[{ on := 5, ground := Ground.data }], guard := none }) rfl (fun K hK => ?_) AllReadyS.nil
    go_simp
    refine hK.out _ _ hHeld (fun hHeld => ?_)
    clear hK K
    try simp only [Act.put, List.setIfInBounds_toArray, List.set_cons_zero, List.set_cons_succ]
    refine wpAnyS_take (i := 7) (oi := { dst := some 51, op := Op.build 40 #[(0, Operand.const (Value.string { data := #[99, 108, 97, 115, 115] })), (1, Operand.tmp 50)], type := 40, pos := "more.go:34", after := #[{ on := 6, ground := Ground.data }], guard := none }) (v := ?_) rfl (by kernel_rfl) (by kernel_rfl) (by kernel_rfl) (by kernel_rfl) (fun _ _ _ h => h) (Or.inl ⟨by rfl, ?_⟩) (by assumption) ?_
    rotate_left
    focus (intro w hSw; (try dsimp only at hSw); go_simp; (try with_reducible rfl))
    try simp only [Act.put, List.setIfInBounds_toArray, List.set_cons_zero, List.set_cons_succ]
    refine wpAnyS_ready (rs := [8]) (by kernel_rfl) (by simp) ?_
    refine AllReadyS.cons (o := { dst := some 52, op := Op.buildSlice 41 1 #[(0, Operand.tmp 51)], type := 41, pos := "more.go:34", after := #[{ on := 7, ground := Ground.data }], guard := none }) rfl (fun K hK => ?_) AllReadyS.nil
    go_simp
    have he5 := he3.on ((Below.refl _ w3).alloc (Nat.le_refl _) (.cells #[.string ⟨#[99, 108, 97, 115, 115]⟩, .string TX] 40))
    have ht5 := ht3.on ((Below.refl _ w3).alloc (Nat.le_refl _) (.cells #[.string ⟨#[99, 108, 97, 115, 115]⟩, .string TX] 40))
    have hT5 := hT3.nextB ((Below.refl _ w3).alloc (Nat.le_refl _) (.cells #[.string ⟨#[99, 108, 97, 115, 115]⟩, .string TX] 40))
    have hN5 : (w3.alloc (.cells #[.string ⟨#[99, 108, 97, 115, 115]⟩, .string TX] 40)).heap[w3.heap.size]? = some (.cells #[.string ⟨#[99, 108, 97, 115, 115]⟩, .string TX] 40) := heap_alloc_new w3 _
    have hs5 : (w3.alloc (.cells #[.string ⟨#[99, 108, 97, 115, 115]⟩, .string TX] 40)).heap.size = w3.heap.size + 1 := by simp
    refine hK.out _ _ he5.cells.c3 (fun hHeld => ?_)
    clear hK K
    try simp only [Act.put, List.setIfInBounds_toArray, List.set_cons_zero, List.set_cons_succ]
    generalize w3.alloc (.cells #[.string ⟨#[99, 108, 97, 115, 115]⟩, .string TX] 40) = w5 at *
    refine wpAnyS_ready (rs := [9]) (by kernel_rfl) (by simp) ?_
    refine AllReadyS.cons (o := { dst := some 53, op := Op.call { callee := Callee.builtin Builtin.append, args := #[Operand.tmp 45, Operand.tmp 52], argTypes := #[ 41, 41 ] }, type := 41, pos := "more.go:34", after := #[{ on := 1, ground := Ground.data }, { on := 8, ground := Ground.data }, { on := 4, ground := Ground.chain }], guard := none }) rfl (fun K hK => ?_) AllReadyS.nil
    refine step_append_lies _ (by rfl) _ _ 41 (by rfl) H 40 i0 (.agg #[.string ByteArray.empty, .string ByteArray.empty]) 2 32 Try.underlying41 hi hy0 hy1 hy2 rfl (by omega) va d.attrs.length (atCells d.attrs) (by rfl) he5.row ⟨w3.heap.size, 0, none⟩ 1 1 [.string ⟨#[99, 108, 97, 115, 115]⟩, .string TX] (by rfl) (by rfl) (World.news_of_block (cs := #[.string ⟨#[99, 108, 97, 115, 115]⟩, .string TX]) (t := 40) (fr := (0, 0)) hN5) (by simp [Value.oneCell']) (by omega) (by unfold maxLen; omega) (by omega) (by omega) w5.heap.size rfl ?_
    intro ga capa w6 hr6 hg6 hor6 hlt6
    have he6 := he5.attr (x := (sClass, tx)) hg6 (by rw [← HTX.out] at hr6; exact hr6) (fun g e => by injection e with e; subst e; exact hor6.imp id (fun k => by show _ ≤ ga; omega))
    have hT6a : Turns (fun b => H ≤ b) w5 w6 := .of_grown hg6 (fun k e => (he5.row.lt k e).1)
    have hT6 : Turns (Mk B H) w5 (w6.setCell ⟨E, 3, none⟩ (.slice (some ⟨ga, 0, none⟩) (d.attrs.length + 1) capa)) := (hT6a.mono (L := Mk B H) (fun _ _ k => .inr k)).setCell (.inl (.inr he5.lo)) 3 _
    have ht6 := ht5.turns (M := fun b => H ≤ b) (hT6a.setCell (.inl he5.lo) 3 (.slice (some ⟨ga, 0, none⟩) (d.attrs.length + 1) capa)) (by omega) (fun b k => by have := ht5.new; omega)
    have c3 : w6.cell? ⟨E, 3, none⟩ = some va := (World.cell?_of_block (w := w5) (hg6.block E he5.lt he5.off.symm)).trans he5.cells.c3
    have f3 : w6.frozen? ⟨E, 3, none⟩ = false := (World.frozen?_of_block (w := w5) (hg6.block E he5.lt he5.off.symm)).trans (he5.free 3)
    refine hK.out _ _ c3 (fun hHeld => ?_)
    clear hK K
    try simp only [Act.put, List.setIfInBounds_toArray, List.set_cons_zero, List.set_cons_succ]
    refine wpAnyS_take (i := 10) (oi := { dst := some 54, op := Op.fieldAddr 48 (Operand.tmp 10) 3, type := 0, pos := "more.go:34", after := #[{ on := 0, ground := Ground.phase }, { on := 1, ground := Ground.phase }, { on := 2, ground := Ground.phase }, { on := 3, ground := Ground.phase }, { on := 4, ground := Ground.phase }, { on := 5, ground := Ground.phase }, { on := 6, ground := Ground.phase }, { on := 7, ground := Ground.phase }, { on := 8, ground := Ground.phase }, { on := 9, ground := Ground.phase }], guard := none }) (v := ?_) rfl (by kernel_rfl) (by kernel_rfl) (by kernel_rfl) (by kernel_rfl) (fun _ _ _ h => h) (Or.inl ⟨by rfl, ?_⟩) (by assumption) ?_
    rotate_left
    focus (intro w hSw; (try dsimp only at hSw); go_simp; (try with_reducible rfl))
    try simp only [Act.put, List.setIfInBounds_toArray, List.set_cons_zero, List.set_cons_succ]
    refine wpAnyS_ready (rs := [11]) (by kernel_rfl) (by simp) ?_
    refine AllReadyS.last (o := { dst := none, op := Op.store 41 (Operand.tmp 54) (Operand.tmp 53), type := 0, pos := "more.go:34", after := #[{ on := 10, ground := Ground.data }, { on := 9, ground := Ground.data }, { on := 9, ground := Ground.chain }, { on := 0, ground := Ground.phase }, { on := 1, ground := Ground.phase }, { on := 2, ground := Ground.phase }, { on := 3, ground := Ground.phase }, { on := 4, ground := Ground.phase }, { on := 5, ground := Ground.phase }, { on := 6, ground := Ground.phase }, { on := 7, ground := Ground.phase }, { on := 8, ground := Ground.phase }, { on := 9, ground := Ground.phase }], guard := none }) rfl (fun K hK => ?_)
    go_simp
    refine hK.out _ _ ?_
    refine wpAnyS_done (by kernel_rfl) ?_ _
    try simp only [Act.put, List.setIfInBounds_toArray, List.set_cons_zero, List.set_cons_succ]
    exact NoPanic.normal (HQ.out _ _ _ _ _ _ _ _ _ _ _ _ _ he6 ht6 (hT5.next hT6))
set_option maxHeartbeats 4000000 in
set_option maxRecDepth 100000 in
theorem made_reg14 {w0 : World} {v : Value} {zs : List Int} {B H E a : Nat} {d : Nd} {va : Value} {w : World} (Q : Exit → Act → World → Prop) (u1 u2 u3 u4 u5 u6 u7 u8 u9 u11 u12 u13 u14 u15 u16 u17 u18 u19 u20 u21 u22 u23 u24 u25 u26 u27 u28 u29 u30 u31 u32 u33 u34 u35 u36 u37 u38 u39 u40 u41 u42 u43 u44 u45 u46 u47 u48 u49 u50 u51 u52 u53 u54 u55 u56 u57 u58 u59 u60 u61 u62 u63 u64 u65 u66 u67 u68 u69 u70 u71 u72 u73 u74 u75 u76 u77 u78 u79 u80 u81 u82 u83 u84 u85 u86 u87 u88 u89 u90 u91 u92 u93 u94 u95 u96 u97 u98 u99 u100 u101 u102 u103 u104 u105 u106 u107 u108 u109 u110 u111 u112 u113 u114 u115 u116 u117 u118 u119 : Value) (he : ElemZ H E d va w) (ht : TapeZ w0 v zs B a w) (hB : B < H) (hH : H ≤ w.heap.size) (hl : d.attrs.length ≤ 4)
    (hQ : ∀ (x58 x59 x60 x61 x62 x63 x64 x65 x66 x67 x68 va' : Value) (w' : World), ElemZ H E { d with attrs := d.attrs ++ [(sHref, val4.getD (nextZ zs a 4).1 [])] } va' w' → TapeZ w0 v zs B (nextZ zs a 4).2 w' → Turns (Mk B H) w w' → Q .normal { tmps := #[.pointer (some ⟨B, 0, none⟩), u1, u2, u3, u4, u5, u6, u7, u8, u9, .pointer (some ⟨E, 0, none⟩), u11, u12, u13, u14, u15, u16, u17, u18, u19, u20, u21, u22, u23, u24, u25, u26, u27, u28, u29, u30, u31, u32, u33, u34, u35, u36, u37, u38, u39, u40, u41, u42, u43, u44, u45, u46, u47, u48, u49, u50, u51, u52, u53, u54, u55, u56, u57, x58, x59, x60, x61, x62, x63, x64, x65, x66, x67, x68, u69, u70, u71, u72, u73, u74, u75, u76, u77, u78, u79, u80, u81, u82, u83, u84, u85, u86, u87, u88, u89, u90, u91, u92, u93, u94, u95, u96, u97, u98, u99, u100, u101, u102, u103, u104, u105, u106, u107, u108, u109, u110, u111, u112, u113, u114, u115, u116, u117, u118, u119], defers := [] } w') :
    (Code.region 14 #[{ dst := some 58, op := Op.fieldAddr 48 (Operand.tmp 10) 3, type := 0, pos := "more.go:37", after := #[], guard := none }, { dst := some 59, op := Op.load 41 (Operand.tmp 58), type := 41, pos := "more.go:37", after := #[{ on := 0, ground := Ground.data }], guard := none }, { dst := some 60, op := Op.buildSlice 84 4 #[(0, Operand.const (Value.string { data := #[104, 116, 116, 112, 58, 47, 47, 97, 47, 98] })), (1, Operand.const (Value.string { data := #[99] })), (2, Operand.const (Value.string { data := #[109, 97, 105, 108, 116, 111, 58, 120] })), (3, Operand.const (Value.string { data := #[106, 97, 118, 97, 115, 99, 114, 105, 112, 116, 58, 49] }))], type := 84, pos := "more.go:37", after := #[], guard := none }, { dst := some 61, op := Op.move (Operand.tmp 0), type := 76, pos := "more.go:37", after := #[], guard := none }, { dst := some 62, op := Op.call { callee := Callee.value (Operand.func 47), args := #[Operand.tmp 61, Operand.const (Value.int IntKind.i64 4)], argTypes := #[ 76, 3 ] }, type := 3, pos := "more.go:37", after := #[{ on := 3, ground := Ground.data }], guard := none }, { dst := some 63, op := Op.indexAddr 84 (Operand.tmp 60) (Operand.tmp 62), type := 0, pos := "more.go:37", after := #[{ on := 2, ground := Ground.data }, { on := 4, ground := Ground.data }], guard := none }, { dst := some 64, op := Op.load 9 (Operand.tmp 63), type := 9, pos := "more.go:37", after := #[{ on := 5, ground := Ground.data }], guard := none }, { dst := some 65, op := Op.build 40 #[(0, Operand.const (Value.string { data := #[104, 114, 101, 102] })), (1, Operand.tmp 64)], type := 40, pos := "more.go:37", after := #[{ on := 6, ground := Ground.data }], guard := none }, { dst := some 66, op := Op.buildSlice 41 1 #[(0, Operand.tmp 65)], type := 41, pos := "more.go:37", after := #[{ on := 7, ground := Ground.data }], guard := none }, { dst := some 67, op := Op.call { callee := Callee.builtin Builtin.append, args := #[Operand.tmp 59, Operand.tmp 66], argTypes := #[ 41, 41 ] }, type := 41, pos := "more.go:37", after := #[{ on := 1, ground := Ground.data }, { on := 8, ground := Ground.data }, { on := 4, ground := Ground.chain }], guard := none }, { dst := some 68, op := Op.fieldAddr 48 (Operand.tmp 10) 3, type := 0, pos := "more.go:37", after := #[{ on := 0, ground := Ground.phase }, { on := 1, ground := Ground.phase }, { on := 2, ground := Ground.phase }, { on := 3, ground := Ground.phase }, { on := 4, ground := Ground.phase }, { on := 5, ground := Ground.phase }, { on := 6, ground := Ground.phase }, { on := 7, ground := Ground.phase }, { on := 8, ground := Ground.phase }, { on := 9, ground := Ground.phase }], guard := none }, { dst := none, op := Op.store 41 (Operand.tmp 68) (Operand.tmp 67), type := 0, pos := "more.go:37", after := #[{ on := 10, ground := Ground.data }, { on := 9, ground := Ground.data }, { on := 9, ground := Ground.chain }, { on := 0, ground := Ground.phase }, { on := 1, ground := Ground.phase }, { on := 2, ground := Ground.phase }, { on := 3, ground := Ground.phase }, { on := 4, ground := Ground.phase }, { on := 5, ground := Ground.phase }, { on := 6, ground := Ground.phase }, { on := 7, ground := Ground.phase }, { on := 8, ground := Ground.phase }, { on := 9, ground := Ground.phase }], guard := none }] true).wp Try.prog Q { tmps := #[.pointer (some ⟨B, 0, none⟩), u1, u2, u3, u4, u5, u6, u7, u8, u9, .pointer (some ⟨E, 0, none⟩), u11, u12, u13, u14, u15, u16, u17, u18, u19, u20, u21, u22, u23, u24, u25, u26, u27, u28, u29, u30, u31, u32, u33, u34, u35, u36, u37, u38, u39, u40, u41, u42, u43, u44, u45, u46, u47, u48, u49, u50, u51, u52, u53, u54, u55, u56, u57, u58, u59, u60, u61, u62, u63, u64, u65, u66, u67, u68, u69, u70, u71, u72, u73, u74, u75, u76, u77, u78, u79, u80, u81, u82, u83, u84, u85, u86, u87, u88, u89, u90, u91, u92, u93, u94, u95, u96, u97, u98, u99, u100, u101, u102, u103, u104, u105, u106, u107, u108, u109, u110, u111, u112, u113, u114, u115, u116, u117, u118, u119], defers := [] } w := by
  refine wp_region_noPanic ?_
  obtain ⟨i0, hi, hy0, hy1, hy2⟩ := info_at
  have hr := nextZ_lt zs a 4 (by omega)
  have he1 := he.on ((Below.refl _ w).drew)
  have ht1 := ht.on ((Below.refl _ w).drew)
  have hT1 : Turns (Mk B H) w w.drew := .of_below ((Below.refl _ w).drew)
  have hH1 : H ≤ w.drew.heap.size := hH
  refine wp_region_heldS_drew (s := 11) (S := fun W => W.cell? ⟨E, 3, none⟩ = some va) (by kernel_rfl) he1.cells.c3 (fun hHeld => ?_)
  generalize w.drew = w1 at *
  have hN : ∀ W, TapeZ w0 v zs B a W → Calls Try.prog 47 #[.pointer (some ⟨B, 0, none⟩), .int .i64 ((4 : Nat) : Int)] W (fun e W' => e = .returned (.int .i64 (((nextZ zs a 4).1 : Nat) : Int)) ∧ Stepped B W W' ∧ TapeZ w0 v zs B (nextZ zs a 4).2 W') := fun W h => tape_nextZ w0 v zs B a 4 W h (by omega) (by omega)
  generalize (nextZ zs a 4).2 = a9 at *
  generalize (nextZ zs a 4).1 = r at *
  have HQ := Lib.hid hQ
  have HN := Lib.hid hN
  clear hQ hN he ht
  refine wpAnyS_take (i := 0) (oi := { dst := some 58, op := Op.fieldAddr 48 (Operand.tmp 10) 3, type := 0, pos := "more.go:37", after := #[], guard := none }) (v := ?_) rfl (by kernel_rfl) (by kernel_rfl) (by kernel_rfl) (by kernel_rfl) (fun _ _ _ h => h) (Or.inl ⟨by rfl, ?_⟩) (by assumption) ?_
  rotate_left
  focus (intro w hSw; (try dsimp only at hSw); go_simp; (try with_reducible rfl))
  try simp only [Act.put, List.setIfInBounds_toArray, List.set_cons_zero, List.set_cons_succ]
  refine wpAnyS_take (i := 1) (oi := { dst := some 59, op := Op.load 41 (Operand.tmp 58), type := 41, pos := "more.go:37", after := #[{ on := 0, ground := Ground.data }], guard := none }) (v := ?_) rfl (by kernel_rfl) (by kernel_rfl) (by kernel_rfl) (by kernel_rfl) (fun _ _ _ h => h) (Or.inl ⟨by rfl, ?_⟩) (by assumption) ?_
  rotate_left
  focus (intro w hSw; (try dsimp only at hSw); go_simp; (try with_reducible rfl))
  try simp only [Act.put, List.setIfInBounds_toArray, List.set_cons_zero, List.set_cons_succ]
  refine wpAnyS_take (i := 3) (oi := { dst := some 61, op := Op.move (Operand.tmp 0), type := 76, pos := "more.go:37", after := #[], guard := none }) (v := ?_) rfl (by kernel_rfl) (by kernel_rfl) (by kernel_rfl) (by kernel_rfl) (fun _ _ _ h => h) (Or.inl ⟨by rfl, ?_⟩) (by assumption) ?_
  rotate_left
  focus (intro w hSw; (try dsimp only at hSw); go_simp; (try with_reducible rfl))
  try simp only [Act.put, List.setIfInBounds_toArray, List.set_cons_zero, List.set_cons_succ]
  refine wpAnyS_ready (rs := [2, 4]) (by kernel_rfl) (by simp) ?_
  refine AllReadyS.cons (o := { dst := some 60, op := Op.buildSlice 84 4 #[(0, Operand.const (Value.string { data := #[104, 116, 116, 112, 58, 47, 47, 97, 47, 98] })), (1, Operand.const (Value.string { data := #[99] })), (2, Operand.const (Value.string { data := #[109, 97, 105, 108, 116, 111, 58, 120] })), (3, Operand.const (Value.string { data := #[106, 97, 118, 97, 115, 99, 114, 105, 112, 116, 58, 49] }))], type := 84, pos := "more.go:37", after := #[], guard := none }) rfl (fun K hK => ?_) (AllReadyS.cons (o := { dst := some 62, op := Op.call { callee := Callee.value (Operand.func 47), args := #[Operand.tmp 61, Operand.const (Value.int IntKind.i64 4)], argTypes := #[ 76, 3 ] }, type := 3, pos := "more.go:37", after := #[{ on := 3, ground := Ground.data }], guard := none }) rfl (fun K hK => ?_) AllReadyS.nil)
  · go_simp
    have b2 : Below w1.heap.size w1 (w1.alloc (.cells cells4 9)) := (Below.refl _ w1).alloc (Nat.le_refl _) _
    have hn2 := news_strs w1 val4 cells4 9 cells_4 r hr
    have he2 := he1.on b2
    have ht2 := ht1.on b2
    have hT2 := hT1.nextB b2
    refine hK.out _ _ he2.cells.c3 (fun hHeld => ?_)
    clear hK K
    try simp only [Act.put, List.setIfInBounds_toArray, List.set_cons_zero, List.set_cons_succ]
    change wpAnyS _ _ _ _ _ _ _ _ _ (w1.alloc (.cells cells4 9))
    have hz2 : w1.heap.size < (w1.alloc (.cells cells4 9)).heap.size := by simp
    generalize (w1.alloc (.cells cells4 9)) = w2 at *
    refine wpAnyS_ready (rs := [4]) (by kernel_rfl) (by simp) ?_
    refine AllReadyS.cons (o := { dst := some 62, op := Op.call { callee := Callee.value (Operand.func 47), args := #[Operand.tmp 61, Operand.const (Value.int IntKind.i64 4)], argTypes := #[ 76, 3 ] }, type := 3, pos := "more.go:37", after := #[{ on := 3, ground := Ground.data }], guard := none }) rfl (fun K hK => ?_) AllReadyS.nil
    go_simp
    refine (HN.out w2 ht2).mono ?_
    rintro e w3 ⟨rfl, hs3, ht3⟩
    have he3 := he2.step hs3 hB
    have hT3 := hT2.step hs3
    have hx := (hs3.cell w1.heap.size r (.inl (by have := ht1.lt; omega))).trans hn2
    have hz3 : H ≤ w3.heap.size := by rw [hs3.size]; omega
    go_wp2_with fail
    refine hK.out _ _ he3.cells.c3 (fun hHeld => ?_)
    clear hK K
    try simp only [Act.put, List.setIfInBounds_toArray, List.set_cons_zero, List.set_cons_succ]
    generalize w1.heap.size = gs at *
    generalize val4.getD r [] = tx at *
    obtain ⟨TX, hTX⟩ : ∃ TX : ByteArray, (⟨tx.toArray⟩ : ByteArray) = TX := ⟨_, rfl⟩
    rw [hTX] at hx
    have HTX := Lib.hid hTX
    clear hTX
    have r0 : (0 : Int) ≤ (r : Int) := by omega
    have r1 : (r : Int) < 4 := by omega
    refine wpAnyS_take (i := 5) (oi := { dst := some 63, op := Op.indexAddr 84 (Operand.tmp 60) (Operand.tmp 62), type := 0, pos := "more.go:37", after := #[{ on := 2, ground := Ground.data }, { on := 4, ground := Ground.data }], guard := none }) (v := ?_) rfl (by kernel_rfl) (by kernel_rfl) (by kernel_rfl) (by kernel_rfl) (fun _ _ _ h => h) (Or.inl ⟨by rfl, ?_⟩) (by assumption) ?_
    rotate_left
    focus (intro w hSw; (try dsimp only at hSw); go_simp; (try with_reducible rfl))
    try simp only [Act.put, List.setIfInBounds_toArray, List.set_cons_zero, List.set_cons_succ]
    refine wpAnyS_ready (rs := [6]) (by kernel_rfl) (by simp) ?_
    refine AllReadyS.cons (o := { dst := some 64, op := Op.load 9 (Operand.tmp 63), type := 9, pos := "more.go:37", after := #[{ on := 5, ground := Ground.data }], guard := none }) rfl (fun K hK => ?_) AllReadyS.nil
    go_simp
    refine hK.out _ _ hHeld (fun hHeld => ?_)
    clear hK K
    try simp only [Act.put, List.setIfInBounds_toArray, List.set_cons_zero, List.set_cons_succ]
    refine wpAnyS_take (i := 7) (oi := { dst := some 65, op := Op.build 40 #[(0, Operand.const (Value.string { data := #[104, 114, 101, 102] })), (1, Operand.tmp 64)], type := 40, pos := "more.go:37", after := #[{ on := 6, ground := Ground.data }], guard := none }) (v := ?_) rfl (by kernel_rfl) (by kernel_rfl) (by kernel_rfl) (by kernel_rfl) (fun _ _ _ h => h) (Or.inl ⟨by rfl, ?_⟩) (by assumption) ?_
    rotate_left
    focus (intro w hSw; (try dsimp only at hSw); go_simp; (try with_reducible rfl))
    try simp only [Act.put, List.setIfInBounds_toArray, List.set_cons_zero, List.set_cons_succ]
    refine wpAnyS_ready (rs := [8]) (by kernel_rfl) (by simp) ?_
    refine AllReadyS.cons (o := { dst := some 66, op := Op.buildSlice 41 1 #[(0, Operand.tmp 65)], type := 41, pos := "more.go:37", after := #[{ on := 7, ground := Ground.data }], guard := none }) rfl (fun K hK => ?_) AllReadyS.nil
    go_simp
    have he5 := he3.on ((Below.refl _ w3).alloc (Nat.le_refl _) (.cells #[.string ⟨#[104, 114, 101, 102]⟩, .string TX] 40))
    have ht5 := ht3.on ((Below.refl _ w3).alloc (Nat.le_refl _) (.cells #[.string ⟨#[104, 114, 101, 102]⟩, .string TX] 40))
    have hT5 := hT3.nextB ((Below.refl _ w3).alloc (Nat.le_refl _) (.cells #[.string ⟨#[104, 114, 101, 102]⟩, .string TX] 40))
    have hN5 : (w3.alloc (.cells #[.string ⟨#[104, 114, 101, 102]⟩, .string TX] 40)).heap[w3.heap.size]? = some (.cells #[.string ⟨#[104, 114, 101, 102]⟩, .string TX] 40) := heap_alloc_new w3 _
    have hs5 : (w3.alloc (.cells #[.string ⟨#[104, 114, 101, 102]⟩, .string TX] 40)).heap.size = w3.heap.size + 1 := by simp
    refine hK.out _ _ he5.cells.c3 (fun hHeld => ?_)
    clear hK K
    try simp only [Act.put, List.setIfInBounds_toArray, List.set_cons_zero, List.set_cons_succ]
    generalize w3.alloc (.cells #[.string ⟨#[104, 114, 101, 102]⟩, .string TX] 40) = w5 at *
    refine wpAnyS_ready (rs := [9]) (by kernel_rfl) (by simp) ?_
    refine AllReadyS.cons (o := { dst := some 67, op := Op.call { callee := Callee.builtin Builtin.append, args := #[Operand.tmp 59, Operand.tmp 66], argTypes := #[ 41, 41 ] }, type := 41, pos := "more.go:37", after := #[{ on := 1, ground := Ground.data }, { on := 8, ground := Ground.data }, { on := 4, ground := Ground.chain }], guard := none }) rfl (fun K hK => ?_) AllReadyS.nil
    refine step_append_lies _ (by rfl) _ _ 41 (by rfl) H 40 i0 (.agg #[.string ByteArray.empty, .string ByteArray.empty]) 2 32 Try.underlying41 hi hy0 hy1 hy2 rfl (by omega) va d.attrs.length (atCells d.attrs) (by rfl) he5.row ⟨w3.heap.size, 0, none⟩ 1 1 [.string ⟨#[104, 114, 101, 102]⟩, .string TX] (by rfl) (by rfl) (World.news_of_block (cs := #[.string ⟨#[104, 114, 101, 102]⟩, .string TX]) (t := 40) (fr := (0, 0)) hN5) (by simp [Value.oneCell']) (by omega) (by unfold maxLen; omega) (by omega) (by omega) w5.heap.size rfl ?_
    intro ga capa w6 hr6 hg6 hor6 hlt6
    have he6 := he5.attr (x := (sHref, tx)) hg6 (by rw [← HTX.out] at hr6; exact hr6) (fun g e => by injection e with e; subst e; exact hor6.imp id (fun k => by show _ ≤ ga; omega))
    have hT6a : Turns (fun b => H ≤ b) w5 w6 := .of_grown hg6 (fun k e => (he5.row.lt k e).1)
    have hT6 : Turns (Mk B H) w5 (w6.setCell ⟨E, 3, none⟩ (.slice (some ⟨ga, 0, none⟩) (d.attrs.length + 1) capa)) := (hT6a.mono (L := Mk B H) (fun _ _ k => .inr k)).setCell (.inl (.inr he5.lo)) 3 _
    have ht6 := ht5.turns (M := fun b => H ≤ b) (hT6a.setCell (.inl he5.lo) 3 (.slice (some ⟨ga, 0, none⟩) (d.attrs.length + 1) capa)) (by omega) (fun b k => by have := ht5.new; omega)
    have c3 : w6.cell? ⟨E, 3, none⟩ = some va := (World.cell?_of_block (w := w5) (hg6.block E he5.lt he5.off.symm)).trans he5.cells.c3
    have f3 : w6.frozen? ⟨E, 3, none⟩ = false := (World.frozen?_of_block (w := w5) (hg6.block E he5.lt he5.off.symm)).trans (he5.free 3)
    refine hK.out _ _ c3 (fun hHeld => ?_)
    clear hK K
    try simp only [Act.put, List.setIfInBounds_toArray, List.set_cons_zero, List.set_cons_succ]
    refine wpAnyS_take (i := 10) (oi := { dst := some 68, op := Op.fieldAddr 48 (Operand.tmp 10) 3, type := 0, pos := "more.go:37", after := #[{ on := 0, ground := Ground.phase }, { on := 1, ground := Ground.phase }, { on := 2, ground := Ground.phase }, { on := 3, ground := Ground.phase }, { on := 4, ground := Ground.phase }, { on := 5, ground := Ground.phase }, { on := 6, ground := Ground.phase }, { on := 7, ground := Ground.phase }, { on := 8, ground := Ground.phase }, { on := 9, ground := Ground.phase }], guard := none }) (v := ?_) rfl (by kernel_rfl) (by kernel_rfl) (by kernel_rfl) (by kernel_rfl) (fun _ _ _ h => h) (Or.inl ⟨by rfl, ?_⟩) (by assumption) ?_
    rotate_left
    focus (intro w hSw; (try dsimp only at hSw); go_simp; (try with_reducible rfl))
    try simp only [Act.put, List.setIfInBounds_toArray, List.set_cons_zero, List.set_cons_succ]
    refine wpAnyS_ready (rs := [11]) (by kernel_rfl) (by simp) ?_
    refine AllReadyS.last (o := { dst := none, op := Op.store 41 (Operand.tmp 68) (Operand.tmp 67), type := 0, pos := "more.go:37", after := #[{ on := 10, ground := Ground.data }, { on := 9, ground := Ground.data }, { on := 9, ground := Ground.chain }, { on := 0, ground := Ground.phase }, { on := 1, ground := Ground.phase }, { on := 2, ground := Ground.phase }, { on := 3, ground := Ground.phase }, { on := 4, ground := Ground.phase }, { on := 5, ground := Ground.phase }, { on := 6, ground := Ground.phase }, { on := 7, ground := Ground.phase }, { on := 8, ground := Ground.phase }, { on := 9, ground := Ground.phase }], guard := none }) rfl (fun K hK => ?_)
    go_simp
    refine hK.out _ _ ?_
    refine wpAnyS_done (by kernel_rfl) ?_ _
    try simp only [Act.put, List.setIfInBounds_toArray, List.set_cons_zero, List.set_cons_succ]
    exact NoPanic.normal (HQ.out _ _ _ _ _ _ _ _ _ _ _ _ _ he6 ht6 (hT5.next hT6))
  · go_simp
    refine (HN.out w1 ht1).mono ?_
    rintro e w2 ⟨rfl, hs2, ht2⟩
    have he2 := he1.step hs2 hB
    have hT2 := hT1.step hs2
    go_wp2_with fail
    refine hK.out _ _ he2.cells.c3 (fun hHeld => ?_)
    clear hK K
    try simp only [Act.put, List.setIfInBounds_toArray, List.set_cons_zero, List.set_cons_succ]
    refine wpAnyS_ready (rs := [2]) (by kernel_rfl) (by simp) ?_
    refine AllReadyS.cons (o := { dst := some 60, op := Op.buildSlice 84 4 #[(0, Operand.const (Value.string { data := #[104, 116, 116, 112, 58, 47, 47, 97, 47, 98] })), (1, Operand.const (Value.string { data := #[99] })), (2, Operand.const (Value.string { data := #[109, 97, 105, 108, 116, 111, 58, 120] })), (3, Operand.const (Value.string { data := #[106, 97, 118, 97, 115, 99, 114, 105, 112, 116, 58, 49] }))], type := 84, pos := "more.go:37", after := #[], guard := none }) rfl (fun K hK => ?_) AllReadyS.nil
    go_simp
    have b3 : Below w2.heap.size w2 (w2.alloc (.cells cells4 9)) := (Below.refl _ w2).alloc (Nat.le_refl _) _
    have hx := news_strs w2 val4 cells4 9 cells_4 r hr
    have he3 := he2.on b3
    have ht3 := ht2.on b3
    have hT3 := hT2.nextB b3
    have hz3 : H ≤ (w2.alloc (.cells cells4 9)).heap.size := by have := hs2.size; simp; omega
    refine hK.out _ _ he3.cells.c3 (fun hHeld => ?_)
    clear hK K
    try simp only [Act.put, List.setIfInBounds_toArray, List.set_cons_zero, List.set_cons_succ]
    change wpAnyS _ _ _ _ _ _ _ _ _ (w2.alloc (.cells cells4 9))
    generalize (w2.alloc (.cells cells4 9)) = w3 at *
    generalize w2.heap.size = gs at *
    clear hHeld
    have hHeld := he3.cells.c3
    generalize val4.getD r [] = tx at *
    obtain ⟨TX, hTX⟩ : ∃ TX : ByteArray, (⟨tx.toArray⟩ : ByteArray) = TX := ⟨_, rfl⟩
    rw [hTX] at hx
    have HTX := Lib.hid hTX
    clear hTX
    have r0 : (0 : Int) ≤ (r : Int) := by omega
    have r1 : (r : Int) < 4 := by omega
    refine wpAnyS_take (i := 5) (oi := { dst := some 63, op := Op.indexAddr 84 (Operand.tmp 60) (Operand.tmp 62), type := 0, pos := "more.go:37", after := #[{ on := 2, ground := Ground.data }, { on := 4, ground := Ground.data }], guard := none }) (v := ?_) rfl (by kernel_rfl) (by kernel_rfl) (by kernel_rfl) (by kernel_rfl) (fun _ _ _ h => h) (Or.inl ⟨by rfl, ?_⟩) (by assumption) ?_
    rotate_left
    focus (intro w hSw; (try dsimp only at hSw); go_simp; (try with_reducible rfl))
    try simp only [Act.put, List.setIfInBounds_toArray, List.set_cons_zero, List.set_cons_succ]
    refine wpAnyS_ready (rs := [6]) (by kernel_rfl) (by simp) ?_
    refine AllReadyS.cons (o := { dst := some 64, op := Op.load 9 (Operand.tmp 63), type := 9, pos := "more.go:37", after := #[{ on := 5, ground := Ground.data }], guard := none }) rfl (fun K hK => ?_) AllReadyS.nil
    go_simp
    refine hK.out _ _ hHeld (fun hHeld => ?_)
    clear hK K
    try simp only [Act.put, List.setIfInBounds_toArray, List.set_cons_zero, List.set_cons_succ]
    refine wpAnyS_take (i := 7) (oi := { dst := some 65, op := Op.build 40 #[(0, Operand.const (Value.string { data := #[104, 114, 101, 102] })), (1, Operand.tmp 64)], type := 40, pos := "more.go:37", after := #[{ on := 6, ground := Ground.data }], guard := none }) (v := ?_) rfl (by kernel_rfl) (by kernel_rfl) (by kernel_rfl) (by kernel_rfl) (fun _ _ _ h => h) (Or.inl ⟨by rfl, ?_⟩) (by assumption) ?_
    rotate_left
    focus (intro w hSw; (try dsimp only at hSw); go_simp; (try with_reducible rfl))
    try simp only [Act.put, List.setIfInBounds_toArray, List.set_cons_zero, List.set_cons_succ]
    refine wpAnyS_ready (rs := [8]) (by kernel_rfl) (by simp) ?_
    refine AllReadyS.cons (o := { dst := some 66, op := Op.buildSlice 41 1 #[(0, Operand.tmp 65)], type := 41, pos := "more.go:37", after := #[{ on := 7, ground := Ground.data }], guard := none }) rfl (fun K hK => ?_) AllReadyS.nil
    go_simp
    have he5 := he3.on ((Below.refl _ w3).alloc (Nat.le_refl _) (.cells #[.string ⟨#[104, 114, 101, 102]⟩, .string TX] 40))
    have ht5 := ht3.on ((Below.refl _ w3).alloc (Nat.le_refl _) (.cells #[.string ⟨#[104, 114, 101, 102]⟩, .string TX] 40))
    have hT5 := hT3.nextB ((Below.refl _ w3).alloc (Nat.le_refl _) (.cells #[.string ⟨#[104, 114, 101, 102]⟩, .string TX] 40))
    have hN5 : (w3.alloc (.cells #[.string ⟨#[104, 114, 101, 102]⟩, .string TX] 40)).heap[w3.heap.size]? = some (.cells #[.string ⟨#[104, 114, 101, 102]⟩, .string TX] 40) := heap_alloc_new w3 _
    have hs5 : (w3.alloc (.cells #[.string ⟨#[104, 114, 101, 102]⟩, .string TX] 40)).heap.size = w3.heap.size + 1 := by simp
    refine hK.out _ _ he5.cells.c3 (fun hHeld => ?_)
    clear hK K
    try simp only [Act.put, List.setIfInBounds_toArray, List.set_cons_zero, List.set_cons_succ]
    generalize w3.alloc (.cells #[.string ⟨#[104, 114, 101, 102]⟩, .string TX] 40) = w5 at *
    refine wpAnyS_ready (rs := [9]) (by kernel_rfl) (by simp) ?_
    refine AllReadyS.cons (o := { dst := some 67, op := Op.call { callee := Callee.builtin Builtin.append, args := #[Operand.tmp 59, Operand.tmp 66], argTypes := #[ 41, 41 ] }, type := 41, pos := "more.go:37", after := #[{ on := 1, ground := Ground.data }, { on := 8, ground := Ground.data }, { on := 4, ground := Ground.chain }], guard := none }) rfl (fun K hK => ?_) AllReadyS.nil
    refine step_append_lies _ (by rfl) _ _ 41 (by rfl) H 40 i0 (.agg #[.string ByteArray.empty, .string ByteArray.empty]) 2 32 Try.underlying41 hi hy0 hy1 hy2 rfl (by omega) va d.attrs.length (atCells d.attrs) (by rfl) he5.row ⟨w3.heap.size, 0, none⟩ 1 1 [.string ⟨#[104, 114, 101, 102]⟩, .string TX] (by rfl) (by rfl) (World.news_of_block (cs := #[.string ⟨#[104, 114, 101, 102]⟩, .string TX]) (t := 40) (fr := (0, 0)) hN5) (by simp [Value.oneCell']) (by omega) (by unfold maxLen; omega) (by omega) (by omega) w5.heap.size rfl ?_
    intro ga capa w6 hr6 hg6 hor6 hlt6
    have he6 := he5.attr (x := (sHref, tx)) hg6 (by rw [← HTX.out] at hr6; exact hr6) (fun g e => by injection e with e; subst e; exact hor6.imp id (fun k => by show _ ≤ ga; omega))
    have hT6a : Turns (fun b => H ≤ b) w5 w6 := .of_grown hg6 (fun k e => (he5.row.lt k e).1)
    have hT6 : Turns (Mk B H) w5 (w6.setCell ⟨E, 3, none⟩ (.slice (some ⟨ga, 0, none⟩) (d.attrs.length + 1) capa)) := (hT6a.mono (L := Mk B H) (fun _ _ k => .inr k)).setCell (.inl (.inr he5.lo)) 3 _
    have ht6 := ht5.turns (M := fun b => H ≤ b) (hT6a.setCell (.inl he5.lo) 3 (.slice (some ⟨ga, 0, none⟩) (d.attrs.length + 1) capa)) (by omega) (fun b k => by have := ht5.new; omega)
    have c3 : w6.cell? ⟨E, 3, none⟩ = some va := (World.cell?_of_block (w := w5) (hg6.block E he5.lt he5.off.symm)).trans he5.cells.c3
    have f3 : w6.frozen? ⟨E, 3, none⟩ = false := (World.frozen?_of_block (w := w5) (hg6.block E he5.lt he5.off.symm)).trans (he5.free 3)
    refine hK.out _ _ c3 (fun hHeld => ?_)
    clear hK K
    try simp only [Act.put, List.setIfInBounds_toArray, List.set_cons_zero, List.set_cons_succ]
    refine wpAnyS_take (i := 10) (oi := { dst := some 68, op := Op.fieldAddr 48 (Operand.tmp 10) 3, type := 0, pos := "more.go:37", after := #[{ on := 0, ground := Ground.phase }, { on := 1, ground := Ground.phase }, { on := 2, ground := Ground.phase }, { on := 3, ground := Ground.phase }, { on := 4, ground := Ground.phase }, { on := 5, ground := Ground.phase }, { on := 6, ground := Ground.phase }, { on := 7, ground := Ground.phase }, { on := 8, ground := Ground.phase }, { on := 9, ground := Ground.phase }], guard := none }) (v := ?_) rfl (by kernel_rfl) (by kernel_rfl) (by kernel_rfl) (by kernel_rfl) (fun _ _ _ h => h) (Or.inl ⟨by rfl, ?_⟩) (by assumption) ?_
    rotate_left
    focus (intro w hSw; (try dsimp only at hSw); go_simp; (try with_reducible rfl))
    try simp only [Act.put, List.setIfInBounds_toArray, List.set_cons_zero, List.set_cons_succ]
    refine wpAnyS_ready (rs := [11]) (by kernel_rfl) (by simp) ?_
    refine AllReadyS.last (o := { dst := none, op := Op.store 41 (Operand.tmp 68) (Operand.tmp 67), type := 0, pos := "more.go:37", after := #[{ on := 10, ground := Ground.data }, { on := 9, ground := Ground.data }, { on := 9, ground := Ground.chain }, { on := 0, ground := Ground.phase }, { on := 1, ground := Ground.phase }, { on := 2, ground := Ground.phase }, { on := 3, ground := Ground.phase }, { on := 4, ground := Ground.phase }, { on := 5, ground := Ground.phase }, { on := 6, ground := Ground.phase }, { on := 7, ground := Ground.phase }, { on := 8, ground := Ground.phase }, { on := 9, ground := Ground.phase }], guard := none }) rfl (fun K hK => ?_)
    go_simp
    refine hK.out _ _ ?_
    refine wpAnyS_done (by kernel_rfl) ?_ _
    try simp only [Act.put, List.setIfInBounds_toArray, List.set_cons_zero, List.set_cons_succ]
    exact NoPanic.normal (HQ.out _ _ _ _ _ _ _ _ _ _ _ _ _ he6 ht6 (hT5.next hT6))
end Go.Proofs.Ytbadckkcjjfnoaa
