/-
  Pieces of the laws' made: an element's head.
-/
import Derived.Test.YtbadckkcjjfnoaaDMReg
import Derived.Deep.CutBlock
import Derived.Deep.DeepCutAuto
namespace Go.Proofs.Ytbadckkcjjfnoaa
open Go.RowKit

theorem block_cellZ {w : World} {g : Nat} {cs : Array Value} {t : TypeId} (h : w.heap[g]? = some (.cells cs t (0, 0))) (i : Nat) : w.cell? ⟨g, i, none⟩ = cs[i]? ∧ w.frozen? ⟨g, i, none⟩ = false := by
  constructor
  · simp [World.cell?, h]
  · simp [World.frozen?, h]
set_option maxHeartbeats 4000000 in
set_option maxRecDepth 100000 in
theorem made_reg8 {w0 : World} {v : Value} {zs : List Int} {B a g cn : Nat} {w : World} {Q : Exit → Act → World → Prop} {u1 u2 u3 u4 u6 u7 u8 u9 u10 u11 u12 u13 u14 u15 u16 u17 u18 u19 u20 u21 u22 u23 u24 u25 u26 u27 u28 u29 u30 u31 u32 u33 u34 u35 u36 u37 u38 u39 u40 u41 u42 u43 u44 u45 u46 u47 u48 u49 u50 u51 u52 u53 u54 u55 u56 u57 u58 u59 u60 u61 u62 u63 u64 u65 u66 u67 u68 u69 u70 u71 u72 u73 u74 u75 u76 u77 u78 u79 u80 u81 u82 u83 u84 u85 u86 u87 u88 u89 u90 u91 u92 u93 u94 u95 u96 u97 u98 u99 u100 u101 u102 u103 u104 u105 u106 u107 u108 u109 u110 u111 u112 u113 u114 u115 u116 u117 u118 u119 : Value} (ht : TapeZ w0 v zs B a w) (hn : NamesZ g w) (hg : g ≠ B)
    (hQ : ∀ (x26 x27 x28 x29 x30 x31 x32 x33 : Value) (E : Nat) (w' : World), ElemZ w.heap.size E ⟨1, 1, namesM.getD (nextZ zs a 24).1 [], [], [], 0⟩ (.slice none 0 0) w' → TapeZ w0 v zs B (nextZ zs a 24).2 w' → Turns (Mk B w.heap.size) w w' → Q .normal { tmps := #[.pointer (some ⟨B, 0, none⟩), u1, u2, u3, u4, .slice (some ⟨g, 0, none⟩) 24 cn, u6, u7, u8, u9, .pointer (some ⟨E, 0, none⟩), u11, u12, u13, u14, u15, u16, u17, u18, u19, u20, u21, u22, u23, u24, u25, x26, x27, x28, x29, x30, x31, x32, x33, u34, u35, u36, u37, u38, u39, u40, u41, u42, u43, u44, u45, u46, u47, u48, u49, u50, u51, u52, u53, u54, u55, u56, u57, u58, u59, u60, u61, u62, u63, u64, u65, u66, u67, u68, u69, u70, u71, u72, u73, u74, u75, u76, u77, u78, u79, u80, u81, u82, u83, u84, u85, u86, u87, u88, u89, u90, u91, u92, u93, u94, u95, u96, u97, u98, u99, u100, u101, u102, u103, u104, u105, u106, u107, u108, u109, u110, u111, u112, u113, u114, u115, u116, u117, u118, u119], defers := [] } w') :
    (Code.region 8 #[{ dst := some 26, op := Op.move (Operand.tmp 5), type := 84, pos := "more.go:29", after := #[], guard := none }, { dst := some 27, op := Op.move (Operand.tmp 0), type := 76, pos := "more.go:29", after := #[], guard := none }, { dst := some 28, op := Op.move (Operand.tmp 5), type := 84, pos := "more.go:29", after := #[], guard := none }, { dst := some 29, op := Op.call { callee := Callee.builtin Builtin.len, args := #[Operand.tmp 28], argTypes := #[ 84 ] }, type := 3, pos := "more.go:29", after := #[{ on := 2, ground := Ground.data }], guard := none }, { dst := some 30, op := Op.call { callee := Callee.value (Operand.func 47), args := #[Operand.tmp 27, Operand.tmp 29], argTypes := #[ 76, 3 ] }, type := 3, pos := "more.go:29", after := #[{ on := 1, ground := Ground.data }, { on := 3, ground := Ground.data }], guard := none }, { dst := some 31, op := Op.indexAddr 84 (Operand.tmp 26) (Operand.tmp 30), type := 0, pos := "more.go:29", after := #[{ on := 0, ground := Ground.data }, { on := 4, ground := Ground.data }], guard := none }, { dst := some 32, op := Op.load 9 (Operand.tmp 31), type := 9, pos := "more.go:29", after := #[{ on := 5, ground := Ground.data }], guard := none }, { dst := some 33, op := Op.build 48 #[(0, Operand.const (Value.int IntKind.i64 1)), (1, Operand.const (Value.int IntKind.i64 1)), (2, Operand.tmp 32)], type := 48, pos := "more.go:29", after := #[{ on := 6, ground := Ground.data }], guard := none }, { dst := some 10, op := Op.alloc 48, type := 0, pos := "more.go:29", after := #[], guard := none }, { dst := none, op := Op.store 48 (Operand.tmp 10) (Operand.tmp 33), type := 0, pos := "more.go:29", after := #[{ on := 8, ground := Ground.data }, { on := 7, ground := Ground.data }, { on := 4, ground := Ground.chain }, { on := 0, ground := Ground.phase }, { on := 1, ground := Ground.phase }, { on := 2, ground := Ground.phase }, { on := 3, ground := Ground.phase }, { on := 4, ground := Ground.phase }, { on := 5, ground := Ground.phase }, { on := 6, ground := Ground.phase }, { on := 7, ground := Ground.phase }, { on := 8, ground := Ground.phase }], guard := none }] false).wp Try.prog Q { tmps := #[.pointer (some ⟨B, 0, none⟩), u1, u2, u3, u4, .slice (some ⟨g, 0, none⟩) 24 cn, u6, u7, u8, u9, u10, u11, u12, u13, u14, u15, u16, u17, u18, u19, u20, u21, u22, u23, u24, u25, u26, u27, u28, u29, u30, u31, u32, u33, u34, u35, u36, u37, u38, u39, u40, u41, u42, u43, u44, u45, u46, u47, u48, u49, u50, u51, u52, u53, u54, u55, u56, u57, u58, u59, u60, u61, u62, u63, u64, u65, u66, u67, u68, u69, u70, u71, u72, u73, u74, u75, u76, u77, u78, u79, u80, u81, u82, u83, u84, u85, u86, u87, u88, u89, u90, u91, u92, u93, u94, u95, u96, u97, u98, u99, u100, u101, u102, u103, u104, u105, u106, u107, u108, u109, u110, u111, u112, u113, u114, u115, u116, u117, u118, u119], defers := [] } w := by
  have HN : Hid (∀ W, TapeZ w0 v zs B a W → Calls Try.prog 47 #[.pointer (some ⟨B, 0, none⟩), .int .i64 ((24 : Nat) : Int)] W (fun e W' => e = .returned (.int .i64 (((nextZ zs a 24).1 : Nat) : Int)) ∧ Stepped B W W' ∧ TapeZ w0 v zs B (nextZ zs a 24).2 W')) := Lib.hid fun W h => tape_nextZ w0 v zs B a 24 W h (by omega) (by omega)
  have HQ := Lib.hid hQ
  have hr := nextZ_lt zs a 24 (by omega)
  clear hQ
  go_wp2_with fail
  refine (HN.out w ht).mono ?_
  rintro e w6 ⟨rfl, hs6, ht6⟩
  have hx := (hn.turns hs6.turns hg).2 _ hr
  have HZ := Lib.hid hs6.size
  have HT6 := Lib.hid ht6
  have HS6 := Lib.hid hs6
  clear ht6 ht hn hs6
  generalize (nextZ zs a 24).1 = r at *
  generalize (nextZ zs a 24).2 = a9 at *
  generalize namesM.getD r [] = nm at *
  obtain ⟨NM, hNM⟩ : ∃ NM : ByteArray, (⟨nm.toArray⟩ : ByteArray) = NM := ⟨_, rfl⟩
  rw [hNM] at hx
  have HNM := Lib.hid hNM
  clear hNM
  have r0 : (0 : Int) ≤ (r : Int) := by omega
  have r1 : (r : Int) < 24 := by omega
  go_wp2_with fail
  obtain ⟨w7, hw7⟩ : ∃ w7, w7 = w6.alloc (.cells #[.int .i64 1, .int .i64 1, .string NM, .slice none 0 0, .string ⟨#[]⟩, .int .i64 0, .slice none 0 0] 48) := ⟨_, rfl⟩
  have b7 : Below w6.heap.size w6 w7 := by rw [hw7]; exact (Below.refl _ w6).alloc (Nat.le_refl _) _
  have hN7 : w7.heap[w6.heap.size]? = some (.cells #[.int .i64 1, .int .i64 1, .string NM, .slice none 0 0, .string ⟨#[]⟩, .int .i64 0, .slice none 0 0] 48) := by rw [hw7]; exact heap_alloc_new w6 _
  rw [← hw7]
  have hc := fun i => block_cellZ hN7 i
  refine HQ.out _ _ _ _ _ _ _ _ w6.heap.size w7 ⟨⟨(hc 0).1, (hc 1).1, ?_, (hc 3).1, (hc 4).1, (hc 5).1, (hc 6).1⟩, fun i => (hc i).2, by have := HZ.out; omega, by have := b7.size; rw [hw7]; simp, ⟨rfl, .inl ⟨rfl, rfl⟩⟩, by intro e; cases e⟩ (HT6.out.on b7) ((Turns.of_below (M := Mk B w.heap.size) (Below.refl _ w)).step HS6.out |>.nextB b7)
  rw [HNM.out]
  exact (hc 2).1

set_option maxHeartbeats 4000000 in
set_option maxRecDepth 100000 in
theorem made_st9 {w0 : World} {v : Value} {zs : List Int} {B H E a : Nat} {d : Nd} {va : Value} {w : World} {Q : Exit → Act → World → Prop} {u1 u2 u3 u4 u5 u6 u7 u8 u9 u11 u12 u13 u14 u15 u16 u17 u18 u19 u20 u21 u22 u23 u24 u25 u26 u27 u28 u29 u30 u31 u32 u33 u34 u35 u36 u37 u38 u39 u40 u41 u42 u43 u44 u45 u46 u47 u48 u49 u50 u51 u52 u53 u54 u55 u56 u57 u58 u59 u60 u61 u62 u63 u64 u65 u66 u67 u68 u69 u70 u71 u72 u73 u74 u75 u76 u77 u78 u79 u80 u81 u82 u83 u84 u85 u86 u87 u88 u89 u90 u91 u92 u93 u94 u95 u96 u97 u98 u99 u100 u101 u102 u103 u104 u105 u106 u107 u108 u109 u110 u111 u112 u113 u114 u115 u116 u117 u118 u119 : Value} (he : ElemZ H E d va w) (ht : TapeZ w0 v zs B a w) (hB : B < H) (hd : d.space = 1)
    (hQ : ∀ (x34 x35 x36 x37 x38 x39 x40 : Value) (w' : World), ElemZ H E { d with space := (spaceM zs a).1 } va w' → TapeZ w0 v zs B (spaceM zs a).2 w' → Turns (Mk B H) w w' → Q .normal { tmps := #[.pointer (some ⟨B, 0, none⟩), u1, u2, u3, u4, u5, u6, u7, u8, u9, .pointer (some ⟨E, 0, none⟩), u11, u12, u13, u14, u15, u16, u17, u18, u19, u20, u21, u22, u23, u24, u25, u26, u27, u28, u29, u30, u31, u32, u33, x34, x35, x36, x37, x38, x39, x40, u41, u42, u43, u44, u45, u46, u47, u48, u49, u50, u51, u52, u53, u54, u55, u56, u57, u58, u59, u60, u61, u62, u63, u64, u65, u66, u67, u68, u69, u70, u71, u72, u73, u74, u75, u76, u77, u78, u79, u80, u81, u82, u83, u84, u85, u86, u87, u88, u89, u90, u91, u92, u93, u94, u95, u96, u97, u98, u99, u100, u101, u102, u103, u104, u105, u106, u107, u108, u109, u110, u111, u112, u113, u114, u115, u116, u117, u118, u119], defers := [] } w') :
    ((Code.region 9 #[{ dst := some 34, op := Op.move (Operand.tmp 0), type := 76, pos := "more.go:30", after := #[], guard := none }, { dst := some 35, op := Op.call { callee := Callee.value (Operand.func 47), args := #[Operand.tmp 34, Operand.const (Value.int IntKind.i64 6)], argTypes := #[ 76, 3 ] }, type := 3, pos := "more.go:30", after := #[{ on := 0, ground := Ground.data }], guard := none }, { dst := some 36, op := Op.binOp BinOp.eql 3 (Operand.tmp 35) (Operand.const (Value.int IntKind.i64 0)) 3, type := 4, pos := "more.go:30", after := #[{ on := 1, ground := Ground.data }], guard := none }] false).seq (Code.cond (Operand.tmp 36) (Code.region 10 #[{ dst := some 37, op := Op.move (Operand.tmp 0), type := 76, pos := "more.go:31", after := #[], guard := none }, { dst := some 38, op := Op.call { callee := Callee.value (Operand.func 47), args := #[Operand.tmp 37, Operand.const (Value.int IntKind.i64 3)], argTypes := #[ 76, 3 ] }, type := 3, pos := "more.go:31", after := #[{ on := 0, ground := Ground.data }], guard := none }, { dst := some 39, op := Op.binOp BinOp.add 3 (Operand.const (Value.int IntKind.i64 1)) (Operand.tmp 38) 3, type := 3, pos := "more.go:31", after := #[{ on := 1, ground := Ground.data }], guard := none }, { dst := some 40, op := Op.fieldAddr 48 (Operand.tmp 10) 1, type := 0, pos := "more.go:31", after := #[{ on := 0, ground := Ground.phase }, { on := 1, ground := Ground.phase }, { on := 2, ground := Ground.phase }], guard := none }, { dst := none, op := Op.store 3 (Operand.tmp 40) (Operand.tmp 39), type := 0, pos := "more.go:31", after := #[{ on := 3, ground := Ground.data }, { on := 2, ground := Ground.data }, { on := 1, ground := Ground.chain }, { on := 0, ground := Ground.phase }, { on := 1, ground := Ground.phase }, { on := 2, ground := Ground.phase }], guard := none }] false) Code.skip)).wp Try.prog Q { tmps := #[.pointer (some ⟨B, 0, none⟩), u1, u2, u3, u4, u5, u6, u7, u8, u9, .pointer (some ⟨E, 0, none⟩), u11, u12, u13, u14, u15, u16, u17, u18, u19, u20, u21, u22, u23, u24, u25, u26, u27, u28, u29, u30, u31, u32, u33, u34, u35, u36, u37, u38, u39, u40, u41, u42, u43, u44, u45, u46, u47, u48, u49, u50, u51, u52, u53, u54, u55, u56, u57, u58, u59, u60, u61, u62, u63, u64, u65, u66, u67, u68, u69, u70, u71, u72, u73, u74, u75, u76, u77, u78, u79, u80, u81, u82, u83, u84, u85, u86, u87, u88, u89, u90, u91, u92, u93, u94, u95, u96, u97, u98, u99, u100, u101, u102, u103, u104, u105, u106, u107, u108, u109, u110, u111, u112, u113, u114, u115, u116, u117, u118, u119], defers := [] } w := by
  have HN : Hid (∀ W, TapeZ w0 v zs B a W → Calls Try.prog 47 #[.pointer (some ⟨B, 0, none⟩), .int .i64 ((6 : Nat) : Int)] W (fun e W' => e = .returned (.int .i64 (((nextZ zs a 6).1 : Nat) : Int)) ∧ Stepped B W W' ∧ TapeZ w0 v zs B (nextZ zs a 6).2 W')) := Lib.hid fun W h => tape_nextZ w0 v zs B a 6 W h (by omega) (by omega)
  have HQ := Lib.hid hQ
  have hr := nextZ_lt zs a 6 (by omega)
  have hr3 := nextZ_lt zs (nextZ zs a 6).2 3 (by omega)
  have HS : Hid (spaceM zs a = if (nextZ zs a 6).1 = 0 then (1 + ((nextZ zs (nextZ zs a 6).2 3).1 : Int), (nextZ zs (nextZ zs a 6).2 3).2) else (1, (nextZ zs a 6).2)) := Lib.hid rfl
  have HN3 : Hid (∀ W, TapeZ w0 v zs B (nextZ zs a 6).2 W → Calls Try.prog 47 #[.pointer (some ⟨B, 0, none⟩), .int .i64 ((3 : Nat) : Int)] W (fun e W' => e = .returned (.int .i64 (((nextZ zs (nextZ zs a 6).2 3).1 : Nat) : Int)) ∧ Stepped B W W' ∧ TapeZ w0 v zs B (nextZ zs (nextZ zs a 6).2 3).2 W')) := Lib.hid fun W h => tape_nextZ w0 v zs B _ 3 W h (by omega) (by omega)
  clear hQ
  generalize spaceM zs a = SP at *
  generalize (nextZ zs (nextZ zs a 6).2 3).1 = r3 at *
  generalize (nextZ zs (nextZ zs a 6).2 3).2 = a10 at *
  generalize (nextZ zs a 6).1 = r at *
  generalize (nextZ zs a 6).2 = a9 at *
  go_wp2_with fail
  refine (HN.out w ht).mono ?_
  rintro e w6 ⟨rfl, hs6, ht6⟩
  have he6 := he.step hs6 hB
  have hT6 := (Turns.refl (Mk B H) w).step hs6
  have HT6 := Lib.hid ht6
  have HE6 := Lib.hid he6
  have HU6 := Lib.hid hT6
  clear he ht hs6 ht6 he6 hT6 HN
  by_cases h0 : r = 0
  · have q0 : ((r : Int) == 0) = true := by simp [h0]
    have HS2 := Lib.hid (show SP = (1 + (r3 : Int), a10) by rw [HS.out, if_pos h0])
    clear HS h0
    go_wp2_with fail
    refine (HN3.out w6 HT6.out).mono ?_
    rintro e w7 ⟨rfl, hs7, ht7⟩
    have he7 := HE6.out.step hs7 hB
    have hT7 := HU6.out.step hs7
    have c1 := he7.cells.c1
    have f1 := he7.free 1
    rw [Nat.zero_add] at c1
    have HT7 := Lib.hid ht7
    have HE7 := Lib.hid he7
    have HU7 := Lib.hid hT7
    clear hs7 ht7 he7 hT7 HE6 HT6 HU6 HN3
    go_wp2_with fail
    have hz : Turns (fun b => H ≤ b) w7 (w7.setCell ⟨E, 1, none⟩ (.int .i64 (1 + (r3 : Int)))) := (Turns.refl (fun b => H ≤ b) w7).setCell (.inl HE7.out.lo) 1 _
    refine HQ.out _ _ _ _ _ _ _ _ ?_ ?_ (HU7.out.next (hz.mono fun _ _ k => .inr k))
    · rw [HS2.out]
      exact HE7.out.space _
    · rw [HS2.out]
      exact HT7.out.turns hz (by omega) (fun b k => by have := HT7.out.new; omega)
  · have q0 : ((r : Int) == 0) = false := beq_eq_false_iff_ne.2 (by omega)
    have HS2 := Lib.hid (show SP = (1, a9) by rw [HS.out, if_neg h0])
    clear HS h0
    go_wp2_with fail
    refine HQ.out _ _ _ _ _ _ _ _ ?_ ?_ HU6.out
    · rw [HS2.out]
      have e : ({ d with space := 1 } : Nd) = d := by rw [← hd]
      rw [e]
      exact HE6.out
    · rw [HS2.out]
      exact HT6.out

set_option maxHeartbeats 4000000 in
set_option maxRecDepth 100000 in
theorem made_st11 {w0 : World} {v : Value} {zs : List Int} {B H E a : Nat} {d : Nd} {va : Value} {w : World} {Q : Exit → Act → World → Prop} {u1 u2 u3 u4 u5 u6 u7 u8 u9 u11 u12 u13 u14 u15 u16 u17 u18 u19 u20 u21 u22 u23 u24 u25 u26 u27 u28 u29 u30 u31 u32 u33 u34 u35 u36 u37 u38 u39 u40 u41 u42 u43 u44 u45 u46 u47 u48 u49 u50 u51 u52 u53 u54 u55 u56 u57 u58 u59 u60 u61 u62 u63 u64 u65 u66 u67 u68 u69 u70 u71 u72 u73 u74 u75 u76 u77 u78 u79 u80 u81 u82 u83 u84 u85 u86 u87 u88 u89 u90 u91 u92 u93 u94 u95 u96 u97 u98 u99 u100 u101 u102 u103 u104 u105 u106 u107 u108 u109 u110 u111 u112 u113 u114 u115 u116 u117 u118 u119 : Value} (he : ElemZ H E d va w) (ht : TapeZ w0 v zs B a w) (hB : B < H) (hH : H ≤ w.heap.size) (hl : d.attrs.length ≤ 4)
    (hQ : ∀ (x41 x42 x43 x44 x45 x46 x47 x48 x49 x50 x51 x52 x53 x54 va' : Value) (w' : World), ElemZ H E { d with attrs := (attrM zs 3 sClass val5 5 d.attrs a).1 } va' w' → TapeZ w0 v zs B (attrM zs 3 sClass val5 5 d.attrs a).2 w' → Turns (Mk B H) w w' → Q .normal { tmps := #[.pointer (some ⟨B, 0, none⟩), u1, u2, u3, u4, u5, u6, u7, u8, u9, .pointer (some ⟨E, 0, none⟩), u11, u12, u13, u14, u15, u16, u17, u18, u19, u20, u21, u22, u23, u24, u25, u26, u27, u28, u29, u30, u31, u32, u33, u34, u35, u36, u37, u38, u39, u40, x41, x42, x43, x44, x45, x46, x47, x48, x49, x50, x51, x52, x53, x54, u55, u56, u57, u58, u59, u60, u61, u62, u63, u64, u65, u66, u67, u68, u69, u70, u71, u72, u73, u74, u75, u76, u77, u78, u79, u80, u81, u82, u83, u84, u85, u86, u87, u88, u89, u90, u91, u92, u93, u94, u95, u96, u97, u98, u99, u100, u101, u102, u103, u104, u105, u106, u107, u108, u109, u110, u111, u112, u113, u114, u115, u116, u117, u118, u119], defers := [] } w') :
    ((Code.region 11 #[{ dst := some 41, op := Op.move (Operand.tmp 0), type := 76, pos := "more.go:33", after := #[], guard := none }, { dst := some 42, op := Op.call { callee := Callee.value (Operand.func 47), args := #[Operand.tmp 41, Operand.const (Value.int IntKind.i64 3)], argTypes := #[ 76, 3 ] }, type := 3, pos := "more.go:33", after := #[{ on := 0, ground := Ground.data }], guard := none }, { dst := some 43, op := Op.binOp BinOp.eql 3 (Operand.tmp 42) (Operand.const (Value.int IntKind.i64 0)) 3, type := 4, pos := "more.go:33", after := #[{ on := 1, ground := Ground.data }], guard := none }] false).seq (Code.cond (Operand.tmp 43) (Code.region 12 #[{ dst := some 44, op := Op.fieldAddr 48 (Operand.tmp 10) 3, type := 0, pos := "more.go:34", after := #[], guard := none }, { dst := some 45, op := Op.load 41 (Operand.tmp 44), type := 41, pos := "more.go:34", after := #[{ on := 0, ground := Ground.data }], guard := none }, { dst := some 46, op := Op.buildSlice 84 5 #[(0, Operand.const (Value.string { data := #[109, 97, 105, 110] })), (1, Operand.const (Value.string { data := #[102, 111, 111, 116, 101, 114] })), (2, Operand.const (Value.string { data := #[115, 112, 111, 110, 115, 111, 114] })), (3, Operand.const (Value.string { data := #[101, 110, 116, 114, 121] })), (4, Operand.const (Value.string { data := #[120] }))], type := 84, pos := "more.go:34", after := #[], guard := none }, { dst := some 47, op := Op.move (Operand.tmp 0), type := 76, pos := "more.go:34", after := #[], guard := none }, { dst := some 48, op := Op.call { callee := Callee.value (Operand.func 47), args := #[Operand.tmp 47, Operand.const (Value.int IntKind.i64 5)], argTypes := #[ 76, 3 ] }, type := 3, pos := "more.go:34", after := #[{ on := 3, ground := Ground.data }], guard := none }, { dst := some 49, op := Op.indexAddr 84 (Operand.tmp 46) (Operand.tmp 48), type := 0, pos := "more.go:34", after := #[{ on := 2, ground := Ground.data }, { on := 4, ground := Ground.data }], guard := none }, { dst := some 50, op := Op.load 9 (Operand.tmp 49), type := 9, pos := "more.go:34", after := #[{ on := 5, ground := Ground.data }], guard := none }, { dst := some 51, op := Op.build 40 #[(0, Operand.const (Value.string { data := #[99, 108, 97, 115, 115] })), (1, Operand.tmp 50)], type := 40, pos := "more.go:34", after := #[{ on := 6, ground := Ground.data }], guard := none }, { dst := some 52, op := Op.buildSlice 41 1 #[(0, Operand.tmp 51)], type := 41, pos := "more.go:34", after := #[{ on := 7, ground := Ground.data }], guard := none }, { dst := some 53, op := Op.call { callee := Callee.builtin Builtin.append, args := #[Operand.tmp 45, Operand.tmp 52], argTypes := #[ 41, 41 ] }, type := 41, pos := "more.go:34", after := #[{ on := 1, ground := Ground.data }, { on := 8, ground := Ground.data }, { on := 4, ground := Ground.chain }], guard := none }, { dst := some 54, op := Op.fieldAddr 48 (Operand.tmp 10) 3, type := 0, pos := "more.go:34", after := #[{ on := 0, ground := Ground.phase }, { on := 1, ground := Ground.phase }, { on := 2, ground := Ground.phase }, { on := 3, ground := Ground.phase }, { on := 4, ground := Ground.phase }, { on := 5, ground := Ground.phase }, { on := 6, ground := Ground.phase }, { on := 7, ground := Ground.phase }, { on := 8, ground := Ground.phase }, { on := 9, ground := Ground.phase }], guard := none }, { dst := none, op := Op.store 41 (Operand.tmp 54) (Operand.tmp 53), type := 0, pos := "more.go:34", after := #[{ on := 10, ground := Ground.data }, { on := 9, ground := Ground.data }, { on := 9, ground := Ground.chain }, { on := 0, ground := Ground.phase }, { on := 1, ground := Ground.phase }, { on := 2, ground := Ground.phase }, { on := 3, ground := Ground.phase }, { on := 4, ground := Ground.phase }, { on := 5, ground := Ground.phase }, { on := 6, ground := Ground.phase }, { on := 7, ground := Ground.phase }, { on := 8, ground := Ground.phase }, { on := 9, ground := Ground.phase }], guard := none }] true) Code.skip)).wp Try.prog Q { tmps := #[.pointer (some ⟨B, 0, none⟩), u1, u2, u3, u4, u5, u6, u7, u8, u9, .pointer (some ⟨E, 0, none⟩), u11, u12, u13, u14, u15, u16, u17, u18, u19, u20, u21, u22, u23, u24, u25, u26, u27, u28, u29, u30, u31, u32, u33, u34, u35, u36, u37, u38, u39, u40, u41, u42, u43, u44, u45, u46, u47, u48, u49, u50, u51, u52, u53, u54, u55, u56, u57, u58, u59, u60, u61, u62, u63, u64, u65, u66, u67, u68, u69, u70, u71, u72, u73, u74, u75, u76, u77, u78, u79, u80, u81, u82, u83, u84, u85, u86, u87, u88, u89, u90, u91, u92, u93, u94, u95, u96, u97, u98, u99, u100, u101, u102, u103, u104, u105, u106, u107, u108, u109, u110, u111, u112, u113, u114, u115, u116, u117, u118, u119], defers := [] } w := by
  have HN : Hid (∀ W, TapeZ w0 v zs B a W → Calls Try.prog 47 #[.pointer (some ⟨B, 0, none⟩), .int .i64 ((3 : Nat) : Int)] W (fun e W' => e = .returned (.int .i64 (((nextZ zs a 3).1 : Nat) : Int)) ∧ Stepped B W W' ∧ TapeZ w0 v zs B (nextZ zs a 3).2 W')) := Lib.hid fun W h => tape_nextZ w0 v zs B a 3 W h (by omega) (by omega)
  have HQ := Lib.hid hQ
  have hr := nextZ_lt zs a 3 (by omega)
  have HS : Hid (attrM zs 3 sClass val5 5 d.attrs a = if (nextZ zs a 3).1 = 0 then (d.attrs ++ [(sClass, val5.getD (nextZ zs (nextZ zs a 3).2 5).1 [])], (nextZ zs (nextZ zs a 3).2 5).2) else (d.attrs, (nextZ zs a 3).2)) := Lib.hid rfl
  clear hQ
  generalize attrM zs 3 sClass val5 5 d.attrs a = SP at *
  generalize (nextZ zs a 3).1 = r at *
  generalize (nextZ zs a 3).2 = a9 at *
  go_wp2_with fail
  refine (HN.out w ht).mono ?_
  rintro e w6 ⟨rfl, hs6, ht6⟩
  have he6 := he.step hs6 hB
  have hT6 := (Turns.refl (Mk B H) w).step hs6
  have hz6 : H ≤ w6.heap.size := by rw [hs6.size]; exact hH
  have HT6 := Lib.hid ht6
  have HE6 := Lib.hid he6
  have HU6 := Lib.hid hT6
  clear he ht hs6 ht6 he6 hT6 HN
  by_cases h0 : r = 0
  · have q0 : ((r : Int) == 0) = true := by simp [h0]
    have HS2 := Lib.hid (show SP = (d.attrs ++ [(sClass, val5.getD (nextZ zs a9 5).1 [])], (nextZ zs a9 5).2) by rw [HS.out, if_pos h0])
    clear HS h0
    go_upto_region 12 with fail
    refine made_reg12 _ _ _ _ _ _ _ _ _ _ _ _ _ _ _ _ _ _ _ _ _ _ _ _ _ _ _ _ _ _ _ _ _ _ _ _ _ _ _ _ _ _ _ _ _ _ _ _ _ _ _ _ _ _ _ _ _ _ _ _ _ _ _ _ _ _ _ _ _ _ _ _ _ _ _ _ _ _ _ _ _ _ _ _ _ _ _ _ _ _ _ _ _ _ _ _ _ _ _ _ _ _ _ _ _ _ _ _ _ _ _ _ _ _ _ _ _ _ _ HE6.out HT6.out hB hz6 hl ?_
    intro x44 x45 x46 x47 x48 x49 x50 x51 x52 x53 x54 va' w' he7 ht7 hT7
    have HT7 := Lib.hid ht7
    have HE7 := Lib.hid he7
    have HU7 := Lib.hid (HU6.out.next hT7)
    clear he7 ht7 hT7 HE6 HT6 HU6
    go_wp2_with fail
    refine HQ.out _ _ _ _ _ _ _ _ _ _ _ _ _ _ va' w' ?_ ?_ HU7.out
    · rw [HS2.out]
      exact HE7.out
    · rw [HS2.out]
      exact HT7.out
  · have q0 : ((r : Int) == 0) = false := beq_eq_false_iff_ne.2 (by omega)
    have HS2 := Lib.hid (show SP = (d.attrs, a9) by rw [HS.out, if_neg h0])
    clear HS h0
    go_wp2_with fail
    refine HQ.out _ _ _ _ _ _ _ _ _ _ _ _ _ _ va w6 ?_ ?_ HU6.out
    · rw [HS2.out]
      exact HE6.out
    · rw [HS2.out]
      exact HT6.out

set_option maxHeartbeats 4000000 in
set_option maxRecDepth 100000 in
theorem made_st13 {w0 : World} {v : Value} {zs : List Int} {B H E a : Nat} {d : Nd} {va : Value} {w : World} {Q : Exit → Act → World → Prop} {u1 u2 u3 u4 u5 u6 u7 u8 u9 u11 u12 u13 u14 u15 u16 u17 u18 u19 u20 u21 u22 u23 u24 u25 u26 u27 u28 u29 u30 u31 u32 u33 u34 u35 u36 u37 u38 u39 u40 u41 u42 u43 u44 u45 u46 u47 u48 u49 u50 u51 u52 u53 u54 u55 u56 u57 u58 u59 u60 u61 u62 u63 u64 u65 u66 u67 u68 u69 u70 u71 u72 u73 u74 u75 u76 u77 u78 u79 u80 u81 u82 u83 u84 u85 u86 u87 u88 u89 u90 u91 u92 u93 u94 u95 u96 u97 u98 u99 u100 u101 u102 u103 u104 u105 u106 u107 u108 u109 u110 u111 u112 u113 u114 u115 u116 u117 u118 u119 : Value} (he : ElemZ H E d va w) (ht : TapeZ w0 v zs B a w) (hB : B < H) (hH : H ≤ w.heap.size) (hl : d.attrs.length ≤ 4)
    (hQ : ∀ (x55 x56 x57 x58 x59 x60 x61 x62 x63 x64 x65 x66 x67 x68 va' : Value) (w' : World), ElemZ H E { d with attrs := (attrM zs 4 sHref val4 4 d.attrs a).1 } va' w' → TapeZ w0 v zs B (attrM zs 4 sHref val4 4 d.attrs a).2 w' → Turns (Mk B H) w w' → Q .normal { tmps := #[.pointer (some ⟨B, 0, none⟩), u1, u2, u3, u4, u5, u6, u7, u8, u9, .pointer (some ⟨E, 0, none⟩), u11, u12, u13, u14, u15, u16, u17, u18, u19, u20, u21, u22, u23, u24, u25, u26, u27, u28, u29, u30, u31, u32, u33, u34, u35, u36, u37, u38, u39, u40, u41, u42, u43, u44, u45, u46, u47, u48, u49, u50, u51, u52, u53, u54, x55, x56, x57, x58, x59, x60, x61, x62, x63, x64, x65, x66, x67, x68, u69, u70, u71, u72, u73, u74, u75, u76, u77, u78, u79, u80, u81, u82, u83, u84, u85, u86, u87, u88, u89, u90, u91, u92, u93, u94, u95, u96, u97, u98, u99, u100, u101, u102, u103, u104, u105, u106, u107, u108, u109, u110, u111, u112, u113, u114, u115, u116, u117, u118, u119], defers := [] } w') :
    ((Code.region 13 #[{ dst := some 55, op := Op.move (Operand.tmp 0), type := 76, pos := "more.go:36", after := #[], guard := none }, { dst := some 56, op := Op.call { callee := Callee.value (Operand.func 47), args := #[Operand.tmp 55, Operand.const (Value.int IntKind.i64 4)], argTypes := #[ 76, 3 ] }, type := 3, pos := "more.go:36", after := #[{ on := 0, ground := Ground.data }], guard := none }, { dst := some 57, op := Op.binOp BinOp.eql 3 (Operand.tmp 56) (Operand.const (Value.int IntKind.i64 0)) 3, type := 4, pos := "more.go:36", after := #[{ on := 1, ground := Ground.data }], guard := none }] false).seq (Code.cond (Operand.tmp 57) (Code.region 14 #[{ dst := some 58, op := Op.fieldAddr 48 (Operand.tmp 10) 3, type := 0, pos := "more.go:37", after := #[], guard := none }, { dst := some 59, op := Op.load 41 (Operand.tmp 58), type := 41, pos := "more.go:37", after := #[{ on := 0, ground := Ground.data }], guard := none }, { dst := some 60, op := Op.buildSlice 84 4 #[(0, Operand.const (Value.string { data := #[104, 116, 116, 112, 58, 47, 47, 97, 47, 98] })), (1, Operand.const (Value.string { data := #[99] })), (2, Operand.const (Value.string { data := #[109, 97, 105, 108, 116, 111, 58, 120] })), (3, Operand.const (Value.string { data := #[106, 97, 118, 97, 115, 99, 114, 105, 112, 116, 58, 49] }))], type := 84, pos := "more.go:37", after := #[], guard := none }, { dst := some 61, op := Op.move (Operand.tmp 0), type := 76, pos := "more.go:37", after := #[], guard := none }, { dst := some 62, op := Op.call { callee := Callee.value (Operand.func 47), args := #[Operand.tmp 61, Operand.const (Value.int IntKind.i64 4)], argTypes := #[ 76, 3 ] }, type := 3, pos := "more.go:37", after := #[{ on := 3, ground := Ground.data }], guard := none }, { dst := some 63, op := Op.indexAddr 84 (Operand.tmp 60) (Operand.tmp 62), type := 0, pos := "more.go:37", after := #[{ on := 2, ground := Ground.data }, { on := 4, ground := Ground.data }], guard := none }, { dst := some 64, op := Op.load 9 (Operand.tmp 63), type := 9, pos := "more.go:37", after := #[{ on := 5, ground := Ground.data }], guard := none }, { dst := some 65, op := Op.build 40 #[(0, Operand.const (Value.string { data := #[104, 114, 101, 102] })), (1, Operand.tmp 64)], type := 40, pos := "more.go:37", after := #[{ on := 6, ground := Ground.data }], guard := none }, { dst := some 66, op := Op.buildSlice 41 1 #[(0, Operand.tmp 65)], type := 41, pos := "more.go:37", after := #[{ on := 7, ground := Ground.data }], guard := none }, { dst := some 67, op := Op.call { callee := Callee.builtin Builtin.append, args := #[Operand.tmp 59, Operand.tmp 66], argTypes := #[ 41, 41 ] }, type := 41, pos := "more.go:37", after := #[{ on := 1, ground := Ground.data }, { on := 8, ground := Ground.data }, { on := 4, ground := Ground.chain }], guard := none }, { dst := some 68, op := Op.fieldAddr 48 (Operand.tmp 10) 3, type := 0, pos := "more.go:37", after := #[{ on := 0, ground := Ground.phase }, { on := 1, ground := Ground.phase }, { on := 2, ground := Ground.phase }, { on := 3, ground := Ground.phase }, { on := 4, ground := Ground.phase }, { on := 5, ground := Ground.phase }, { on := 6, ground := Ground.phase }, { on := 7, ground := Ground.phase }, { on := 8, ground := Ground.phase }, { on := 9, ground := Ground.phase }], guard := none }, { dst := none, op := Op.store 41 (Operand.tmp 68) (Operand.tmp 67), type := 0, pos := "more.go:37", after := #[{ on := 10, ground := Ground.data }, { on := 9, ground := Ground.data }, { on := 9, ground := Ground.chain }, { on := 0, ground := Ground.phase }, { on := 1, ground := Ground.phase }, { on := 2, ground := Ground.phase }, { on := 3, ground := Ground.phase }, { on := 4, ground := Ground.phase }, { on := 5, ground := Ground.phase }, { on := 6, ground := Ground.phase }, { on := 7, ground := Ground.phase }, { on := 8, ground := Ground.phase }, { on := 9, ground := Ground.phase }], guard := none }] true) Code.skip)).wp Try.prog Q { tmps := #[.pointer (some ⟨B, 0, none⟩), u1, u2, u3, u4, u5, u6, u7, u8, u9, .pointer (some ⟨E, 0, none⟩), u11, u12, u13, u14, u15, u16, u17, u18, u19, u20, u21, u22, u23, u24, u25, u26, u27, u28, u29, u30, u31, u32, u33, u34, u35, u36, u37, u38, u39, u40, u41, u42, u43, u44, u45, u46, u47, u48, u49, u50, u51, u52, u53, u54, u55, u56, u57, u58, u59, u60, u61, u62, u63, u64, u65, u66, u67, u68, u69, u70, u71, u72, u73, u74, u75, u76, u77, u78, u79, u80, u81, u82, u83, u84, u85, u86, u87, u88, u89, u90, u91, u92, u93, u94, u95, u96, u97, u98, u99, u100, u101, u102, u103, u104, u105, u106, u107, u108, u109, u110, u111, u112, u113, u114, u115, u116, u117, u118, u119], defers := [] } w := by
  have HN : Hid (∀ W, TapeZ w0 v zs B a W → Calls Try.prog 47 #[.pointer (some ⟨B, 0, none⟩), .int .i64 ((4 : Nat) : Int)] W (fun e W' => e = .returned (.int .i64 (((nextZ zs a 4).1 : Nat) : Int)) ∧ Stepped B W W' ∧ TapeZ w0 v zs B (nextZ zs a 4).2 W')) := Lib.hid fun W h => tape_nextZ w0 v zs B a 4 W h (by omega) (by omega)
  have HQ := Lib.hid hQ
  have hr := nextZ_lt zs a 4 (by omega)
  have HS : Hid (attrM zs 4 sHref val4 4 d.attrs a = if (nextZ zs a 4).1 = 0 then (d.attrs ++ [(sHref, val4.getD (nextZ zs (nextZ zs a 4).2 4).1 [])], (nextZ zs (nextZ zs a 4).2 4).2) else (d.attrs, (nextZ zs a 4).2)) := Lib.hid rfl
  clear hQ
  generalize attrM zs 4 sHref val4 4 d.attrs a = SP at *
  generalize (nextZ zs a 4).1 = r at *
  generalize (nextZ zs a 4).2 = a9 at *
  go_wp2_with fail
  refine (HN.out w ht).mono ?_
  rintro e w6 ⟨rfl, hs6, ht6⟩
  have he6 := he.step hs6 hB
  have hT6 := (Turns.refl (Mk B H) w).step hs6
  have hz6 : H ≤ w6.heap.size := by rw [hs6.size]; exact hH
  have HT6 := Lib.hid ht6
  have HE6 := Lib.hid he6
  have HU6 := Lib.hid hT6
  clear he ht hs6 ht6 he6 hT6 HN
  by_cases h0 : r = 0
  · have q0 : ((r : Int) == 0) = true := by simp [h0]
    have HS2 := Lib.hid (show SP = (d.attrs ++ [(sHref, val4.getD (nextZ zs a9 4).1 [])], (nextZ zs a9 4).2) by rw [HS.out, if_pos h0])
    clear HS h0
    go_upto_region 14 with fail
    refine made_reg14 _ _ _ _ _ _ _ _ _ _ _ _ _ _ _ _ _ _ _ _ _ _ _ _ _ _ _ _ _ _ _ _ _ _ _ _ _ _ _ _ _ _ _ _ _ _ _ _ _ _ _ _ _ _ _ _ _ _ _ _ _ _ _ _ _ _ _ _ _ _ _ _ _ _ _ _ _ _ _ _ _ _ _ _ _ _ _ _ _ _ _ _ _ _ _ _ _ _ _ _ _ _ _ _ _ _ _ _ _ _ _ _ _ _ _ _ _ _ _ HE6.out HT6.out hB hz6 hl ?_
    intro x58 x59 x60 x61 x62 x63 x64 x65 x66 x67 x68 va' w' he7 ht7 hT7
    have HT7 := Lib.hid ht7
    have HE7 := Lib.hid he7
    have HU7 := Lib.hid (HU6.out.next hT7)
    clear he7 ht7 hT7 HE6 HT6 HU6
    go_wp2_with fail
    refine HQ.out _ _ _ _ _ _ _ _ _ _ _ _ _ _ va' w' ?_ ?_ HU7.out
    · rw [HS2.out]
      exact HE7.out
    · rw [HS2.out]
      exact HT7.out
  · have q0 : ((r : Int) == 0) = false := beq_eq_false_iff_ne.2 (by omega)
    have HS2 := Lib.hid (show SP = (d.attrs, a9) by rw [HS.out, if_neg h0])
    clear HS h0
    go_wp2_with fail
    refine HQ.out _ _ _ _ _ _ _ _ _ _ _ _ _ _ va w6 ?_ ?_ HU6.out
    · rw [HS2.out]
      exact HE6.out
    · rw [HS2.out]
      exact HT6.out
end Go.Proofs.Ytbadckkcjjfnoaa
