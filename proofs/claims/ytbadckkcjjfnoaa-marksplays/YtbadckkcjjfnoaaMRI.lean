/-
  The pieces of the law MarksPlays, over opaque posts: its arms, one by one.
-/
import Derived.Test.YtbadckkcjjfnoaaMRH
namespace Go.Proofs.Ytbadckkcjjfnoaa
open Go.RowKit

theorem Turns.cellAt {M : Nat → Prop} {w w' : World} (ht : Turns M w w') {b o : Nat} {v : Value} (hb : b < w.heap.size) (hM : ¬ M b) (h : w.cell? ⟨b, o, none⟩ = some v) : w'.cell? ⟨b, o, none⟩ = some v := by
  rw [World.cell?_of_block (w := w) (ht.block b hb hM)]
  exact h
/-- What stands where the arms begin. -/
structure PlaysX (w1 w : World) (M P : Nat → Prop) (B R T X : Nat) (S : List MK) (x : MK) (z0 z1 : Int) (pa : Option Addr) (ca : Nat) : Prop where
  pair : Pair7 w1 w M P B R S S
  t0 : w.cell? ⟨T, 0, none⟩ = some (.int .i64 z0)
  t1 : w.cell? ⟨T, 1, none⟩ = some (.int .i64 z1)
  x0 : w.cell? ⟨X, 0, none⟩ = some (.int .i64 x.node)
  x1 : w.cell? ⟨X, 1, none⟩ = some (.string ⟨x.name.toArray⟩)
  x2 : w.cell? ⟨X, 2, none⟩ = some (.slice pa x.attrs.length ca)
  tl : T < w.heap.size
  xl : X < w.heap.size
  tM : ¬ M T
  xM : ¬ M X
  tR : T ≠ R
  xR : X ≠ R
  row : AttrsP P w (.slice pa x.attrs.length ca) x.attrs
  len : S.length ≤ 100
  sg : Sign S
  nd : 0 ≤ x.node
  fits : x.fits
theorem PlaysX.on {w1 w w' : World} {M P : Nat → Prop} {B R T X : Nat} {S : List MK} {x : MK} {z0 z1 : Int} {pa : Option Addr} {ca : Nat} (h : PlaysX w1 w M P B R T X S x z0 z1 pa ca) (hb : Below w.heap.size w w') : PlaysX w1 w' M P B R T X S x z0 z1 pa ca :=
  ⟨h.pair.on hb, (hb.cell (p := ⟨T, 0, none⟩) h.tl).trans h.t0, (hb.cell (p := ⟨T, 1, none⟩) h.tl).trans h.t1, (hb.cell (p := ⟨X, 0, none⟩) h.xl).trans h.x0, (hb.cell (p := ⟨X, 1, none⟩) h.xl).trans h.x1, (hb.cell (p := ⟨X, 2, none⟩) h.xl).trans h.x2, Nat.lt_of_lt_of_le h.tl hb.size, Nat.lt_of_lt_of_le h.xl hb.size, h.tM, h.xM, h.tR, h.xR, h.row.kept (.of_below hb), h.len, h.sg, h.nd, h.fits⟩
/-- Behind an arm: both are alike again. -/
def PlaysO (w1 : World) (B R k : Nat) (w' : World) : Prop := ∃ (M P : Nat → Prop) (S : List MK), Pair7 w1 w' M P B R S S ∧ S.length ≤ k ∧ Sign S
theorem qT_set {w1 W : World} {M P : Nat → Prop} {B R : Nat} {S Z : List MK} (h : Pair7 w1 W M P B R S Z) (hs : Z.length ≤ 1000) (i : Int) (x : MK) (pa : Option Addr) (ca : Nat) (ha : AttrsP P W (.slice pa x.attrs.length ca) x.attrs) : Calls Try.prog 35 #[.pointer (some ⟨R, 0, none⟩), .int .i64 i, markV x (.slice pa x.attrs.length ca)] W (fun e w' => e = .returned (.bool (mHas Z i)) ∧ Pair7 w1 w' M (NewP P W w') B R S (mSetS Z i x) ∧ Turns (fun b => b = R) W w') :=
  (rsetP Z R P W i x pa ca h.r (by omega) ha).mono fun _ _ k => ⟨k.1, h.right k.2, k.2.2⟩
theorem qT_put {w1 W : World} {M P : Nat → Prop} {B R : Nat} {S Z : List MK} (h : Pair7 w1 W M P B R S Z) (hs : Z.length ≤ 1000) (i : Int) (x : MK) (pa : Option Addr) (ca : Nat) (ha : AttrsP P W (.slice pa x.attrs.length ca) x.attrs) : Calls Try.prog 37 #[.pointer (some ⟨R, 0, none⟩), .int .i64 i, markV x (.slice pa x.attrs.length ca)] W (fun e w' => e = .returned (.bool (mPutB Z i)) ∧ Pair7 w1 w' M (NewP P W w') B R S (mPutS Z i x) ∧ Turns (fun b => b = R) W w') :=
  (rputP Z R P W i x pa ca h.r (by omega) ha).mono fun _ _ k => ⟨k.1, h.right k.2, k.2.2⟩
theorem qT_drop {w1 W : World} {M P : Nat → Prop} {B R : Nat} {S Z : List MK} (h : Pair7 w1 W M P B R S Z) (hs : Z.length ≤ 1000) (i : Int) : Calls Try.prog 33 #[.pointer (some ⟨R, 0, none⟩), .int .i64 i] W (fun e w' => e = .returned (.bool (mHas Z i)) ∧ Pair7 w1 w' M (NewP P W w') B R S (mDropS Z i) ∧ Turns (fun b => b = R) W w') :=
  (rdropP Z R P W i h.r (by omega)).mono fun _ _ k => ⟨k.1, h.right k.2, k.2.2⟩
set_option maxHeartbeats 4000000 in
set_option maxRecDepth 100000 in
theorem plays_wall2 {w1 w : World} {M P : Nat → Prop} {B R T X : Nat} {S : List MK} {x : MK} {z0 z1 p : Int} {pa : Option Addr} {ca : Nat} {Q : Exit → Act → World → Prop} {u0 u1 u2 u11 u12 u13 u14 u15 u16 u17 u18 u19 u20 u21 u22 u23 u24 u25 u26 u27 u28 u29 u30 u31 u32 u33 u34 u35 u36 u37 u38 u39 u40 u41 u42 u43 u44 u45 u46 u47 u48 u49 u50 u51 u52 u53 u54 u55 u56 u57 u58 u59 u60 u61 u62 u63 u64 u65 u66 u67 u68 u69 u70 u71 u72 u73 u74 u75 u76 u77 u78 u79 u80 u81 u82 u83 u84 u85 u86 u87 u88 u89 u90 u91 u92 u93 u94 u95 u96 u97 u98 u99 u100 u101 u102 u103 u104 u105 u106 u107 u108 u109 u110 u111 u112 u113 u114 u115 u116 u117 u118 u119 u120 u121 u122 u123 u124 u125 u126 u127 u128 u129 u130 u131 u132 u133 : Value} (h : PlaysX w1 w M P B R T X S x z0 z1 pa ca)
    (hQ : ∀ (x57 x58 x59 x60 : Value) (w' : World), PlaysO w1 B R (S.length + 1) w' → Q .normal { tmps := #[u0, u1, u2, .pointer (some ⟨B, 0, none⟩), .pointer (some ⟨R, 0, none⟩), .int .i64 x.node, .pointer (some ⟨T, 0, none⟩), .pointer (some ⟨X, 0, none⟩), .int .i64 p, .bool true, .bool true, u11, u12, u13, u14, u15, u16, u17, u18, u19, u20, u21, u22, u23, u24, u25, u26, u27, u28, u29, u30, u31, u32, u33, u34, u35, u36, u37, u38, u39, u40, u41, u42, u43, u44, u45, u46, u47, u48, u49, u50, u51, u52, u53, u54, u55, u56, x57, x58, x59, x60, u61, u62, u63, u64, u65, u66, u67, u68, u69, u70, u71, u72, u73, u74, u75, u76, u77, u78, u79, u80, u81, u82, u83, u84, u85, u86, u87, u88, u89, u90, u91, u92, u93, u94, u95, u96, u97, u98, u99, u100, u101, u102, u103, u104, u105, u106, u107, u108, u109, u110, u111, u112, u113, u114, u115, u116, u117, u118, u119, u120, u121, u122, u123, u124, u125, u126, u127, u128, u129, u130, u131, u132, u133], defers := [] } w') :
    ((Code.region 17 #[{ dst := some 57, op := Op.move (Operand.tmp 3), type := 54, pos := "law.go:95", after := #[], guard := none }, { dst := some 58, op := Op.call { callee := Callee.value (Operand.func 28), args := #[Operand.tmp 57], argTypes := #[ 54 ] }, type := 0, pos := "law.go:95", after := #[{ on := 0, ground := Ground.data }], guard := none }] false).seq (Code.region 18 #[{ dst := some 59, op := Op.move (Operand.tmp 4), type := 56, pos := "law.go:96", after := #[], guard := none }, { dst := some 60, op := Op.call { callee := Callee.value (Operand.func 29), args := #[Operand.tmp 59], argTypes := #[ 56 ] }, type := 0, pos := "law.go:96", after := #[{ on := 0, ground := Ground.data }], guard := none }] false)).wp Try.prog Q { tmps := #[u0, u1, u2, .pointer (some ⟨B, 0, none⟩), .pointer (some ⟨R, 0, none⟩), .int .i64 x.node, .pointer (some ⟨T, 0, none⟩), .pointer (some ⟨X, 0, none⟩), .int .i64 p, .bool true, .bool true, u11, u12, u13, u14, u15, u16, u17, u18, u19, u20, u21, u22, u23, u24, u25, u26, u27, u28, u29, u30, u31, u32, u33, u34, u35, u36, u37, u38, u39, u40, u41, u42, u43, u44, u45, u46, u47, u48, u49, u50, u51, u52, u53, u54, u55, u56, u57, u58, u59, u60, u61, u62, u63, u64, u65, u66, u67, u68, u69, u70, u71, u72, u73, u74, u75, u76, u77, u78, u79, u80, u81, u82, u83, u84, u85, u86, u87, u88, u89, u90, u91, u92, u93, u94, u95, u96, u97, u98, u99, u100, u101, u102, u103, u104, u105, u106, u107, u108, u109, u110, u111, u112, u113, u114, u115, u116, u117, u118, u119, u120, u121, u122, u123, u124, u125, u126, u127, u128, u129, u130, u131, u132, u133], defers := [] } w := by
  have HQ := Lib.hid hQ
  have HX := Lib.hid h
  have hx0 := h.x0
  have hx1 := h.x1
  have hx2 := h.x2
  have hln := h.len
  clear hQ h
  go_wp2_with fail
  refine (p7_wall HX.out.pair (by omega)).mono ?_
  rintro e w4 ⟨rfl, M4, hp4, hm4, ht4⟩
  have y0 := ht4.cellAt HX.out.xl HX.out.xM hx0
  have y1 := ht4.cellAt HX.out.xl HX.out.xM hx1
  have y2 := ht4.cellAt HX.out.xl HX.out.xM hx2
  have HP4 := Lib.hid hp4
  have HA4 := Lib.hid (HX.out.pair.still HX.out.row ht4)
  clear hp4 hm4 ht4 hx0 hx1 hx2
  go_wp2_with fail
  refine (q7_wall HP4.out (by omega)).mono ?_
  rintro e w5 ⟨rfl, hp5⟩
  have HP5 := Lib.hid hp5
  clear hp5
  go_wp2_with fail
  exact HQ.out _ _ _ _ _ ⟨_, _, S ++ [mWall], HP5.out, by simp, plays_wall HX.out.sg⟩
set_option maxHeartbeats 4000000 in
set_option maxRecDepth 100000 in
theorem plays_clear2 {w1 w : World} {M P : Nat → Prop} {B R T X : Nat} {S : List MK} {x : MK} {z0 z1 p : Int} {pa : Option Addr} {ca : Nat} {Q : Exit → Act → World → Prop} {u0 u1 u2 u11 u12 u13 u14 u15 u16 u17 u18 u19 u20 u21 u22 u23 u24 u25 u26 u27 u28 u29 u30 u31 u32 u33 u34 u35 u36 u37 u38 u39 u40 u41 u42 u43 u44 u45 u46 u47 u48 u49 u50 u51 u52 u53 u54 u55 u56 u57 u58 u59 u60 u61 u62 u63 u64 u65 u66 u67 u68 u69 u70 u71 u72 u73 u74 u75 u76 u77 u78 u79 u80 u81 u82 u83 u84 u85 u86 u87 u88 u89 u90 u91 u92 u93 u94 u95 u96 u97 u98 u99 u100 u101 u102 u103 u104 u105 u106 u107 u108 u109 u110 u111 u112 u113 u114 u115 u116 u117 u118 u119 u120 u121 u122 u123 u124 u125 u126 u127 u128 u129 u130 u131 u132 u133 : Value} (h : PlaysX w1 w M P B R T X S x z0 z1 pa ca)
    (hQ : ∀ (x63 x64 x65 x66 : Value) (w' : World), PlaysO w1 B R (S.length + 1) w' → Q .normal { tmps := #[u0, u1, u2, .pointer (some ⟨B, 0, none⟩), .pointer (some ⟨R, 0, none⟩), .int .i64 x.node, .pointer (some ⟨T, 0, none⟩), .pointer (some ⟨X, 0, none⟩), .int .i64 p, .bool true, .bool true, u11, u12, u13, u14, u15, u16, u17, u18, u19, u20, u21, u22, u23, u24, u25, u26, u27, u28, u29, u30, u31, u32, u33, u34, u35, u36, u37, u38, u39, u40, u41, u42, u43, u44, u45, u46, u47, u48, u49, u50, u51, u52, u53, u54, u55, u56, u57, u58, u59, u60, u61, u62, x63, x64, x65, x66, u67, u68, u69, u70, u71, u72, u73, u74, u75, u76, u77, u78, u79, u80, u81, u82, u83, u84, u85, u86, u87, u88, u89, u90, u91, u92, u93, u94, u95, u96, u97, u98, u99, u100, u101, u102, u103, u104, u105, u106, u107, u108, u109, u110, u111, u112, u113, u114, u115, u116, u117, u118, u119, u120, u121, u122, u123, u124, u125, u126, u127, u128, u129, u130, u131, u132, u133], defers := [] } w') :
    ((Code.region 20 #[{ dst := some 63, op := Op.move (Operand.tmp 3), type := 54, pos := "law.go:98", after := #[], guard := none }, { dst := some 64, op := Op.call { callee := Callee.value (Operand.func 30), args := #[Operand.tmp 63], argTypes := #[ 54 ] }, type := 0, pos := "law.go:98", after := #[{ on := 0, ground := Ground.data }], guard := none }] false).seq (Code.region 21 #[{ dst := some 65, op := Op.move (Operand.tmp 4), type := 56, pos := "law.go:99", after := #[], guard := none }, { dst := some 66, op := Op.call { callee := Callee.value (Operand.func 31), args := #[Operand.tmp 65], argTypes := #[ 56 ] }, type := 0, pos := "law.go:99", after := #[{ on := 0, ground := Ground.data }], guard := none }] false)).wp Try.prog Q { tmps := #[u0, u1, u2, .pointer (some ⟨B, 0, none⟩), .pointer (some ⟨R, 0, none⟩), .int .i64 x.node, .pointer (some ⟨T, 0, none⟩), .pointer (some ⟨X, 0, none⟩), .int .i64 p, .bool true, .bool true, u11, u12, u13, u14, u15, u16, u17, u18, u19, u20, u21, u22, u23, u24, u25, u26, u27, u28, u29, u30, u31, u32, u33, u34, u35, u36, u37, u38, u39, u40, u41, u42, u43, u44, u45, u46, u47, u48, u49, u50, u51, u52, u53, u54, u55, u56, u57, u58, u59, u60, u61, u62, u63, u64, u65, u66, u67, u68, u69, u70, u71, u72, u73, u74, u75, u76, u77, u78, u79, u80, u81, u82, u83, u84, u85, u86, u87, u88, u89, u90, u91, u92, u93, u94, u95, u96, u97, u98, u99, u100, u101, u102, u103, u104, u105, u106, u107, u108, u109, u110, u111, u112, u113, u114, u115, u116, u117, u118, u119, u120, u121, u122, u123, u124, u125, u126, u127, u128, u129, u130, u131, u132, u133], defers := [] } w := by
  have HQ := Lib.hid hQ
  have HX := Lib.hid h
  have hx0 := h.x0
  have hx1 := h.x1
  have hx2 := h.x2
  have hln := h.len
  clear hQ h
  go_wp2_with fail
  refine (p7_clear HX.out.pair (by omega)).mono ?_
  rintro e w4 ⟨rfl, M4, hp4, hm4, ht4⟩
  have y0 := ht4.cellAt HX.out.xl HX.out.xM hx0
  have y1 := ht4.cellAt HX.out.xl HX.out.xM hx1
  have y2 := ht4.cellAt HX.out.xl HX.out.xM hx2
  have HP4 := Lib.hid hp4
  have HA4 := Lib.hid (HX.out.pair.still HX.out.row ht4)
  clear hp4 hm4 ht4 hx0 hx1 hx2
  go_wp2_with fail
  refine (q7_clear HP4.out (by omega) HX.out.sg).mono ?_
  rintro e w5 ⟨rfl, hp5⟩
  have HP5 := Lib.hid hp5
  clear hp5
  go_wp2_with fail
  exact HQ.out _ _ _ _ _ ⟨_, _, mClear S, HP5.out, Nat.le_succ_of_le (plays_clear HX.out.sg).2, (plays_clear HX.out.sg).1⟩
set_option maxHeartbeats 4000000 in
set_option maxRecDepth 100000 in
theorem plays_push2 {w1 w : World} {M P : Nat → Prop} {B R T X : Nat} {S : List MK} {x : MK} {z0 z1 p : Int} {pa : Option Addr} {ca : Nat} {Q : Exit → Act → World → Prop} {u0 u1 u2 u11 u12 u13 u14 u15 u16 u17 u18 u19 u20 u21 u22 u23 u24 u25 u26 u27 u28 u29 u30 u31 u32 u33 u34 u35 u36 u37 u38 u39 u40 u41 u42 u43 u44 u45 u46 u47 u48 u49 u50 u51 u52 u53 u54 u55 u56 u57 u58 u59 u60 u61 u62 u63 u64 u65 u66 u67 u68 u69 u70 u71 u72 u73 u74 u75 u76 u77 u78 u79 u80 u81 u82 u83 u84 u85 u86 u87 u88 u89 u90 u91 u92 u93 u94 u95 u96 u97 u98 u99 u100 u101 u102 u103 u104 u105 u106 u107 u108 u109 u110 u111 u112 u113 u114 u115 u116 u117 u118 u119 u120 u121 u122 u123 u124 u125 u126 u127 u128 u129 u130 u131 u132 u133 : Value} (h : PlaysX w1 w M P B R T X S x z0 z1 pa ca)
    (hQ : ∀ (x49 x50 x51 x52 x53 x54 : Value) (w' : World), PlaysO w1 B R (S.length + 1) w' → Q .normal { tmps := #[u0, u1, u2, .pointer (some ⟨B, 0, none⟩), .pointer (some ⟨R, 0, none⟩), .int .i64 x.node, .pointer (some ⟨T, 0, none⟩), .pointer (some ⟨X, 0, none⟩), .int .i64 p, .bool true, .bool true, u11, u12, u13, u14, u15, u16, u17, u18, u19, u20, u21, u22, u23, u24, u25, u26, u27, u28, u29, u30, u31, u32, u33, u34, u35, u36, u37, u38, u39, u40, u41, u42, u43, u44, u45, u46, u47, u48, x49, x50, x51, x52, x53, x54, u55, u56, u57, u58, u59, u60, u61, u62, u63, u64, u65, u66, u67, u68, u69, u70, u71, u72, u73, u74, u75, u76, u77, u78, u79, u80, u81, u82, u83, u84, u85, u86, u87, u88, u89, u90, u91, u92, u93, u94, u95, u96, u97, u98, u99, u100, u101, u102, u103, u104, u105, u106, u107, u108, u109, u110, u111, u112, u113, u114, u115, u116, u117, u118, u119, u120, u121, u122, u123, u124, u125, u126, u127, u128, u129, u130, u131, u132, u133], defers := [] } w') :
    ((Code.region 14 #[{ dst := some 49, op := Op.move (Operand.tmp 3), type := 54, pos := "law.go:109", after := #[], guard := none }, { dst := some 50, op := Op.load 63 (Operand.tmp 7), type := 63, pos := "law.go:109", after := #[], guard := none }, { dst := some 51, op := Op.call { callee := Callee.value (Operand.func 38), args := #[Operand.tmp 49, Operand.tmp 50], argTypes := #[ 54, 63 ] }, type := 0, pos := "law.go:109", after := #[{ on := 0, ground := Ground.data }, { on := 1, ground := Ground.data }], guard := none }] false).seq (Code.region 15 #[{ dst := some 52, op := Op.move (Operand.tmp 4), type := 56, pos := "law.go:110", after := #[], guard := none }, { dst := some 53, op := Op.load 63 (Operand.tmp 7), type := 63, pos := "law.go:110", after := #[], guard := none }, { dst := some 54, op := Op.call { callee := Callee.value (Operand.func 39), args := #[Operand.tmp 52, Operand.tmp 53], argTypes := #[ 56, 63 ] }, type := 0, pos := "law.go:110", after := #[{ on := 0, ground := Ground.data }, { on := 1, ground := Ground.data }], guard := none }] false)).wp Try.prog Q { tmps := #[u0, u1, u2, .pointer (some ⟨B, 0, none⟩), .pointer (some ⟨R, 0, none⟩), .int .i64 x.node, .pointer (some ⟨T, 0, none⟩), .pointer (some ⟨X, 0, none⟩), .int .i64 p, .bool true, .bool true, u11, u12, u13, u14, u15, u16, u17, u18, u19, u20, u21, u22, u23, u24, u25, u26, u27, u28, u29, u30, u31, u32, u33, u34, u35, u36, u37, u38, u39, u40, u41, u42, u43, u44, u45, u46, u47, u48, u49, u50, u51, u52, u53, u54, u55, u56, u57, u58, u59, u60, u61, u62, u63, u64, u65, u66, u67, u68, u69, u70, u71, u72, u73, u74, u75, u76, u77, u78, u79, u80, u81, u82, u83, u84, u85, u86, u87, u88, u89, u90, u91, u92, u93, u94, u95, u96, u97, u98, u99, u100, u101, u102, u103, u104, u105, u106, u107, u108, u109, u110, u111, u112, u113, u114, u115, u116, u117, u118, u119, u120, u121, u122, u123, u124, u125, u126, u127, u128, u129, u130, u131, u132, u133], defers := [] } w := by
  have HQ := Lib.hid hQ
  have HX := Lib.hid h
  have hx0 := h.x0
  have hx1 := h.x1
  have hx2 := h.x2
  have hln := h.len
  clear hQ h
  go_wp2_with fail
  refine (p7_push HX.out.pair (by omega) x pa ca HX.out.row HX.out.fits).mono ?_
  rintro e w4 ⟨rfl, M4, hp4, hm4, ht4⟩
  have y0 := ht4.cellAt HX.out.xl HX.out.xM hx0
  have y1 := ht4.cellAt HX.out.xl HX.out.xM hx1
  have y2 := ht4.cellAt HX.out.xl HX.out.xM hx2
  have HP4 := Lib.hid hp4
  have HA4 := Lib.hid (HX.out.pair.still HX.out.row ht4)
  clear hp4 hm4 ht4 hx0 hx1 hx2
  go_wp2_with fail
  refine (q7_push HP4.out (by omega) x pa ca HA4.out HX.out.sg HX.out.pair.m.fit HX.out.fits).mono ?_
  rintro e w5 ⟨rfl, hp5⟩
  have HP5 := Lib.hid hp5
  clear hp5
  go_wp2_with fail
  exact HQ.out _ _ _ _ _ _ _ ⟨_, _, mPush S x, HP5.out, mPush_len S x, plays_push HX.out.sg HX.out.nd⟩
set_option maxHeartbeats 4000000 in
set_option maxRecDepth 100000 in
theorem plays_drop2 {w1 w : World} {M P : Nat → Prop} {B R T X : Nat} {S : List MK} {x : MK} {z0 z1 p : Int} {pa : Option Addr} {ca : Nat} {Q : Exit → Act → World → Prop} {u0 u1 u2 u11 u12 u13 u14 u15 u16 u17 u18 u19 u20 u21 u22 u23 u24 u25 u26 u27 u28 u29 u30 u31 u32 u33 u34 u35 u36 u37 u38 u39 u40 u41 u42 u43 u44 u45 u46 u47 u48 u49 u50 u51 u52 u53 u54 u55 u56 u57 u58 u59 u60 u61 u62 u63 u64 u65 u66 u67 u68 u69 u70 u71 u72 u73 u74 u75 u76 u77 u78 u79 u80 u81 u82 u83 u84 u85 u86 u87 u88 u89 u90 u91 u92 u93 u94 u95 u96 u97 u98 u99 u100 u101 u102 u103 u104 u105 u106 u107 u108 u109 u110 u111 u112 u113 u114 u115 u116 u117 u118 u119 u120 u121 u122 u123 u124 u125 u126 u127 u128 u129 u130 u131 u132 u133 : Value} (h : PlaysX w1 w M P B R T X S x z0 z1 pa ca)
    (hQ : ∀ (b : Bool) (x69 x70 x71 x72 x73 x74 : Value) (w' : World), PlaysO w1 B R (S.length + 1) w' → Q .normal { tmps := #[u0, u1, u2, .pointer (some ⟨B, 0, none⟩), .pointer (some ⟨R, 0, none⟩), .int .i64 x.node, .pointer (some ⟨T, 0, none⟩), .pointer (some ⟨X, 0, none⟩), .int .i64 p, .bool b, .bool b, u11, u12, u13, u14, u15, u16, u17, u18, u19, u20, u21, u22, u23, u24, u25, u26, u27, u28, u29, u30, u31, u32, u33, u34, u35, u36, u37, u38, u39, u40, u41, u42, u43, u44, u45, u46, u47, u48, u49, u50, u51, u52, u53, u54, u55, u56, u57, u58, u59, u60, u61, u62, u63, u64, u65, u66, u67, u68, x69, x70, x71, x72, x73, x74, u75, u76, u77, u78, u79, u80, u81, u82, u83, u84, u85, u86, u87, u88, u89, u90, u91, u92, u93, u94, u95, u96, u97, u98, u99, u100, u101, u102, u103, u104, u105, u106, u107, u108, u109, u110, u111, u112, u113, u114, u115, u116, u117, u118, u119, u120, u121, u122, u123, u124, u125, u126, u127, u128, u129, u130, u131, u132, u133], defers := [] } w') :
    (Code.region 23 #[{ dst := some 69, op := Op.move (Operand.tmp 3), type := 54, pos := "law.go:101", after := #[], guard := none }, { dst := some 70, op := Op.move (Operand.tmp 8), type := 3, pos := "law.go:101", after := #[], guard := none }, { dst := some 71, op := Op.call { callee := Callee.value (Operand.func 32), args := #[Operand.tmp 69, Operand.tmp 70], argTypes := #[ 54, 3 ] }, type := 4, pos := "law.go:101", after := #[{ on := 0, ground := Ground.data }, { on := 1, ground := Ground.data }], guard := none }, { dst := some 72, op := Op.move (Operand.tmp 4), type := 56, pos := "law.go:101", after := #[], guard := none }, { dst := some 73, op := Op.move (Operand.tmp 8), type := 3, pos := "law.go:101", after := #[], guard := none }, { dst := some 74, op := Op.call { callee := Callee.value (Operand.func 33), args := #[Operand.tmp 72, Operand.tmp 73], argTypes := #[ 56, 3 ] }, type := 4, pos := "law.go:101", after := #[{ on := 3, ground := Ground.data }, { on := 4, ground := Ground.data }, { on := 2, ground := Ground.chain }], guard := none }, { dst := some 9, op := Op.assign (Operand.tmp 71), type := 4, pos := "law.go:101", after := #[{ on := 2, ground := Ground.data }, { on := 5, ground := Ground.chain }, { on := 0, ground := Ground.phase }, { on := 1, ground := Ground.phase }, { on := 2, ground := Ground.phase }, { on := 3, ground := Ground.textOnly Departure.lateStores }, { on := 4, ground := Ground.textOnly Departure.lateStores }, { on := 5, ground := Ground.textOnly Departure.lateStoresUnsure }], guard := none }, { dst := some 10, op := Op.assign (Operand.tmp 74), type := 4, pos := "law.go:101", after := #[{ on := 5, ground := Ground.data }, { on := 6, ground := Ground.chain }, { on := 0, ground := Ground.phase }, { on := 1, ground := Ground.phase }, { on := 2, ground := Ground.phase }, { on := 3, ground := Ground.phase }, { on := 4, ground := Ground.phase }, { on := 5, ground := Ground.phase }, { on := 6, ground := Ground.phase }], guard := none }] false).wp Try.prog Q { tmps := #[u0, u1, u2, .pointer (some ⟨B, 0, none⟩), .pointer (some ⟨R, 0, none⟩), .int .i64 x.node, .pointer (some ⟨T, 0, none⟩), .pointer (some ⟨X, 0, none⟩), .int .i64 p, .bool true, .bool true, u11, u12, u13, u14, u15, u16, u17, u18, u19, u20, u21, u22, u23, u24, u25, u26, u27, u28, u29, u30, u31, u32, u33, u34, u35, u36, u37, u38, u39, u40, u41, u42, u43, u44, u45, u46, u47, u48, u49, u50, u51, u52, u53, u54, u55, u56, u57, u58, u59, u60, u61, u62, u63, u64, u65, u66, u67, u68, u69, u70, u71, u72, u73, u74, u75, u76, u77, u78, u79, u80, u81, u82, u83, u84, u85, u86, u87, u88, u89, u90, u91, u92, u93, u94, u95, u96, u97, u98, u99, u100, u101, u102, u103, u104, u105, u106, u107, u108, u109, u110, u111, u112, u113, u114, u115, u116, u117, u118, u119, u120, u121, u122, u123, u124, u125, u126, u127, u128, u129, u130, u131, u132, u133], defers := [] } w := by
  have HQ := Lib.hid hQ
  have HX := Lib.hid h
  have hln := h.len
  clear hQ h
  go_wp2_with fail
  refine (p7_drop HX.out.pair (by omega) p).mono ?_
  rintro e w4 ⟨rfl, M4, hp4, hm4, ht4⟩
  have HP4 := Lib.hid hp4
  clear hp4 hm4 ht4
  go_wp2_with fail
  refine (q7_drop HP4.out (by omega) p).mono ?_
  rintro e w5 ⟨rfl, hp5⟩
  have HP5 := Lib.hid hp5
  clear hp5
  go_wp2_with fail
  exact HQ.out _ _ _ _ _ _ _ _ ⟨_, _, mDropS S p, HP5.out, Nat.le_succ_of_le (plays_drop HX.out.sg p).2, (plays_drop HX.out.sg p).1⟩
set_option maxHeartbeats 4000000 in
set_option maxRecDepth 100000 in
theorem plays_set2 {w1 w : World} {M P : Nat → Prop} {B R T X : Nat} {S : List MK} {x : MK} {z0 z1 p : Int} {pa : Option Addr} {ca : Nat} {Q : Exit → Act → World → Prop} {u0 u1 u2 u11 u12 u13 u14 u15 u16 u17 u18 u19 u20 u21 u22 u23 u24 u25 u26 u27 u28 u29 u30 u31 u32 u33 u34 u35 u36 u37 u38 u39 u40 u41 u42 u43 u44 u45 u46 u47 u48 u49 u50 u51 u52 u53 u54 u55 u56 u57 u58 u59 u60 u61 u62 u63 u64 u65 u66 u67 u68 u69 u70 u71 u72 u73 u74 u75 u76 u77 u78 u79 u80 u81 u82 u83 u84 u85 u86 u87 u88 u89 u90 u91 u92 u93 u94 u95 u96 u97 u98 u99 u100 u101 u102 u103 u104 u105 u106 u107 u108 u109 u110 u111 u112 u113 u114 u115 u116 u117 u118 u119 u120 u121 u122 u123 u124 u125 u126 u127 u128 u129 u130 u131 u132 u133 : Value} (h : PlaysX w1 w M P B R T X S x z0 z1 pa ca)
    (hQ : ∀ (b : Bool) (x77 x78 x79 x80 x81 x82 x83 x84 : Value) (w' : World), PlaysO w1 B R (S.length + 1) w' → Q .normal { tmps := #[u0, u1, u2, .pointer (some ⟨B, 0, none⟩), .pointer (some ⟨R, 0, none⟩), .int .i64 x.node, .pointer (some ⟨T, 0, none⟩), .pointer (some ⟨X, 0, none⟩), .int .i64 p, .bool b, .bool b, u11, u12, u13, u14, u15, u16, u17, u18, u19, u20, u21, u22, u23, u24, u25, u26, u27, u28, u29, u30, u31, u32, u33, u34, u35, u36, u37, u38, u39, u40, u41, u42, u43, u44, u45, u46, u47, u48, u49, u50, u51, u52, u53, u54, u55, u56, u57, u58, u59, u60, u61, u62, u63, u64, u65, u66, u67, u68, u69, u70, u71, u72, u73, u74, u75, u76, x77, x78, x79, x80, x81, x82, x83, x84, u85, u86, u87, u88, u89, u90, u91, u92, u93, u94, u95, u96, u97, u98, u99, u100, u101, u102, u103, u104, u105, u106, u107, u108, u109, u110, u111, u112, u113, u114, u115, u116, u117, u118, u119, u120, u121, u122, u123, u124, u125, u126, u127, u128, u129, u130, u131, u132, u133], defers := [] } w') :
    (Code.region 25 #[{ dst := some 77, op := Op.move (Operand.tmp 3), type := 54, pos := "law.go:103", after := #[], guard := none }, { dst := some 78, op := Op.move (Operand.tmp 8), type := 3, pos := "law.go:103", after := #[], guard := none }, { dst := some 79, op := Op.load 63 (Operand.tmp 7), type := 63, pos := "law.go:103", after := #[], guard := none }, { dst := some 80, op := Op.call { callee := Callee.value (Operand.func 34), args := #[Operand.tmp 77, Operand.tmp 78, Operand.tmp 79], argTypes := #[ 54, 3, 63 ] }, type := 4, pos := "law.go:103", after := #[{ on := 0, ground := Ground.data }, { on := 1, ground := Ground.data }, { on := 2, ground := Ground.data }], guard := none }, { dst := some 81, op := Op.move (Operand.tmp 4), type := 56, pos := "law.go:103", after := #[], guard := none }, { dst := some 82, op := Op.move (Operand.tmp 8), type := 3, pos := "law.go:103", after := #[], guard := none }, { dst := some 83, op := Op.load 63 (Operand.tmp 7), type := 63, pos := "law.go:103", after := #[], guard := none }, { dst := some 84, op := Op.call { callee := Callee.value (Operand.func 35), args := #[Operand.tmp 81, Operand.tmp 82, Operand.tmp 83], argTypes := #[ 56, 3, 63 ] }, type := 4, pos := "law.go:103", after := #[{ on := 4, ground := Ground.data }, { on := 5, ground := Ground.data }, { on := 6, ground := Ground.data }, { on := 3, ground := Ground.chain }], guard := none }, { dst := some 9, op := Op.assign (Operand.tmp 80), type := 4, pos := "law.go:103", after := #[{ on := 3, ground := Ground.data }, { on := 7, ground := Ground.chain }, { on := 0, ground := Ground.phase }, { on := 1, ground := Ground.phase }, { on := 2, ground := Ground.phase }, { on := 3, ground := Ground.phase }, { on := 4, ground := Ground.textOnly Departure.lateStores }, { on := 5, ground := Ground.textOnly Departure.lateStores }, { on := 6, ground := Ground.textOnly Departure.lateStores }, { on := 7, ground := Ground.textOnly Departure.lateStoresUnsure }], guard := none }, { dst := some 10, op := Op.assign (Operand.tmp 84), type := 4, pos := "law.go:103", after := #[{ on := 7, ground := Ground.data }, { on := 8, ground := Ground.chain }, { on := 0, ground := Ground.phase }, { on := 1, ground := Ground.phase }, { on := 2, ground := Ground.phase }, { on := 3, ground := Ground.phase }, { on := 4, ground := Ground.phase }, { on := 5, ground := Ground.phase }, { on := 6, ground := Ground.phase }, { on := 7, ground := Ground.phase }, { on := 8, ground := Ground.phase }], guard := none }] true).wp Try.prog Q { tmps := #[u0, u1, u2, .pointer (some ⟨B, 0, none⟩), .pointer (some ⟨R, 0, none⟩), .int .i64 x.node, .pointer (some ⟨T, 0, none⟩), .pointer (some ⟨X, 0, none⟩), .int .i64 p, .bool true, .bool true, u11, u12, u13, u14, u15, u16, u17, u18, u19, u20, u21, u22, u23, u24, u25, u26, u27, u28, u29, u30, u31, u32, u33, u34, u35, u36, u37, u38, u39, u40, u41, u42, u43, u44, u45, u46, u47, u48, u49, u50, u51, u52, u53, u54, u55, u56, u57, u58, u59, u60, u61, u62, u63, u64, u65, u66, u67, u68, u69, u70, u71, u72, u73, u74, u75, u76, u77, u78, u79, u80, u81, u82, u83, u84, u85, u86, u87, u88, u89, u90, u91, u92, u93, u94, u95, u96, u97, u98, u99, u100, u101, u102, u103, u104, u105, u106, u107, u108, u109, u110, u111, u112, u113, u114, u115, u116, u117, u118, u119, u120, u121, u122, u123, u124, u125, u126, u127, u128, u129, u130, u131, u132, u133], defers := [] } w := by
  refine wp_region_noPanic ?_
  have HQ := Lib.hid hQ
  have HX := Lib.hid (h.on (Below.refl _ w).drew)
  have hln := h.len
  clear hQ h
  refine wp_region_held_drew (S := (fun W => W.cell? ⟨X, 0, none⟩ = some (.int .i64 x.node) ∧ W.cell? ⟨X, 1, none⟩ = some (.string ⟨x.name.toArray⟩) ∧ W.cell? ⟨X, 2, none⟩ = some (.slice pa x.attrs.length ca))) (by kernel_rfl) (by exact ⟨HX.out.x0, HX.out.x1, HX.out.x2⟩) (fun hHeld => ?_)
  generalize w.drew = W0 at *
  refine wpAnyH_take (i := 0) (oi := { dst := some 77, op := Op.move (Operand.tmp 3), type := 54, pos := "law.go:103", after := #[], guard := none }) (v := ?_) rfl (by kernel_rfl) (by kernel_rfl) (by kernel_rfl) (fun _ _ _ h => h) (Or.inl ⟨by rfl, ?_⟩) (by assumption) ?_
  rotate_left
  focus (intro w hSw; (try dsimp only at hSw); go_simp; (try with_reducible rfl))
  try simp only [Act.put, List.setIfInBounds_toArray, List.set_cons_zero, List.set_cons_succ]
  refine wpAnyH_take (i := 1) (oi := { dst := some 78, op := Op.move (Operand.tmp 8), type := 3, pos := "law.go:103", after := #[], guard := none }) (v := ?_) rfl (by kernel_rfl) (by kernel_rfl) (by kernel_rfl) (fun _ _ _ h => h) (Or.inl ⟨by rfl, ?_⟩) (by assumption) ?_
  rotate_left
  focus (intro w hSw; (try dsimp only at hSw); go_simp; (try with_reducible rfl))
  try simp only [Act.put, List.setIfInBounds_toArray, List.set_cons_zero, List.set_cons_succ]
  refine wpAnyH_take (i := 2) (oi := { dst := some 79, op := Op.load 63 (Operand.tmp 7), type := 63, pos := "law.go:103", after := #[], guard := none }) (v := ?_) rfl (by kernel_rfl) (by kernel_rfl) (by kernel_rfl) (fun _ _ _ h => h) (Or.inl ⟨by rfl, ?_⟩) (by assumption) ?_
  rotate_left
  focus (intro w hSw; (try dsimp only at hSw); go_simp; (try with_reducible rfl))
  try simp only [Act.put, List.setIfInBounds_toArray, List.set_cons_zero, List.set_cons_succ]
  refine wpAnyH_take (i := 4) (oi := { dst := some 81, op := Op.move (Operand.tmp 4), type := 56, pos := "law.go:103", after := #[], guard := none }) (v := ?_) rfl (by kernel_rfl) (by kernel_rfl) (by kernel_rfl) (fun _ _ _ h => h) (Or.inl ⟨by rfl, ?_⟩) (by assumption) ?_
  rotate_left
  focus (intro w hSw; (try dsimp only at hSw); go_simp; (try with_reducible rfl))
  try simp only [Act.put, List.setIfInBounds_toArray, List.set_cons_zero, List.set_cons_succ]
  refine wpAnyH_take (i := 5) (oi := { dst := some 82, op := Op.move (Operand.tmp 8), type := 3, pos := "law.go:103", after := #[], guard := none }) (v := ?_) rfl (by kernel_rfl) (by kernel_rfl) (by kernel_rfl) (fun _ _ _ h => h) (Or.inl ⟨by rfl, ?_⟩) (by assumption) ?_
  rotate_left
  focus (intro w hSw; (try dsimp only at hSw); go_simp; (try with_reducible rfl))
  try simp only [Act.put, List.setIfInBounds_toArray, List.set_cons_zero, List.set_cons_succ]
  refine wpAnyH_take (i := 6) (oi := { dst := some 83, op := Op.load 63 (Operand.tmp 7), type := 63, pos := "law.go:103", after := #[], guard := none }) (v := ?_) rfl (by kernel_rfl) (by kernel_rfl) (by kernel_rfl) (fun _ _ _ h => h) (Or.inl ⟨by rfl, ?_⟩) (by assumption) ?_
  rotate_left
  focus (intro w hSw; (try dsimp only at hSw); go_simp; (try with_reducible rfl))
  try simp only [Act.put, List.setIfInBounds_toArray, List.set_cons_zero, List.set_cons_succ]
  refine wpAnyH_ready (rs := [3]) (by kernel_rfl) (by simp) ?_
  refine AllReadyH.cons (o := { dst := some 80, op := Op.call { callee := Callee.value (Operand.func 34), args := #[Operand.tmp 77, Operand.tmp 78, Operand.tmp 79], argTypes := #[ 54, 3, 63 ] }, type := 4, pos := "law.go:103", after := #[{ on := 0, ground := Ground.data }, { on := 1, ground := Ground.data }, { on := 2, ground := Ground.data }], guard := none }) rfl (fun K hK => ?_) AllReadyH.nil
  go_simp
  refine (p7_set HX.out.pair (by omega) p x pa ca HX.out.row HX.out.fits).mono ?_
  rintro e w4 ⟨rfl, M4, hp4, hm4, ht4⟩
  have HP4 := Lib.hid hp4
  have HA4 := Lib.hid (HX.out.pair.still HX.out.row ht4)
  go_wp2_with fail
  refine hK.out _ _ (by exact ⟨ht4.cellAt HX.out.xl HX.out.xM HX.out.x0, ht4.cellAt HX.out.xl HX.out.xM HX.out.x1, ht4.cellAt HX.out.xl HX.out.xM HX.out.x2⟩) (fun hHeld => ?_)
  clear hK K
  try simp only [Act.put, List.setIfInBounds_toArray, List.set_cons_zero, List.set_cons_succ]
  refine wpAnyH_ready (rs := [7]) (by kernel_rfl) (by simp) ?_
  refine AllReadyH.cons (o := { dst := some 84, op := Op.call { callee := Callee.value (Operand.func 35), args := #[Operand.tmp 81, Operand.tmp 82, Operand.tmp 83], argTypes := #[ 56, 3, 63 ] }, type := 4, pos := "law.go:103", after := #[{ on := 4, ground := Ground.data }, { on := 5, ground := Ground.data }, { on := 6, ground := Ground.data }, { on := 3, ground := Ground.chain }], guard := none }) rfl (fun K hK => ?_) AllReadyH.nil
  go_simp
  refine (qT_set HP4.out (by omega) p x pa ca HA4.out).mono ?_
  rintro e w5 ⟨rfl, hp5, ht5⟩
  have HP5 := Lib.hid hp5
  go_wp2_with fail
  refine hK.out _ _ (by exact ⟨ht5.cellAt (Nat.lt_of_lt_of_le HX.out.xl ht4.size) HX.out.xR hHeld.1, ht5.cellAt (Nat.lt_of_lt_of_le HX.out.xl ht4.size) HX.out.xR hHeld.2.1, ht5.cellAt (Nat.lt_of_lt_of_le HX.out.xl ht4.size) HX.out.xR hHeld.2.2⟩) (fun hHeld => ?_)
  clear hK K
  try simp only [Act.put, List.setIfInBounds_toArray, List.set_cons_zero, List.set_cons_succ]
  refine wpAnyH_take (i := 8) (oi := { dst := some 9, op := Op.assign (Operand.tmp 80), type := 4, pos := "law.go:103", after := #[{ on := 3, ground := Ground.data }, { on := 7, ground := Ground.chain }, { on := 0, ground := Ground.phase }, { on := 1, ground := Ground.phase }, { on := 2, ground := Ground.phase }, { on := 3, ground := Ground.phase }, { on := 4, ground := Ground.textOnly Departure.lateStores }, { on := 5, ground := Ground.textOnly Departure.lateStores }, { on := 6, ground := Ground.textOnly Departure.lateStores }, { on := 7, ground := Ground.textOnly Departure.lateStoresUnsure }], guard := none }) (v := ?_) rfl (by kernel_rfl) (by kernel_rfl) (by kernel_rfl) (fun _ _ _ h => h) (Or.inl ⟨by rfl, ?_⟩) (by assumption) ?_
  rotate_left
  focus (intro w hSw; (try dsimp only at hSw); go_simp; (try with_reducible rfl))
  try simp only [Act.put, List.setIfInBounds_toArray, List.set_cons_zero, List.set_cons_succ]
  refine wpAnyH_take (i := 9) (oi := { dst := some 10, op := Op.assign (Operand.tmp 84), type := 4, pos := "law.go:103", after := #[{ on := 7, ground := Ground.data }, { on := 8, ground := Ground.chain }, { on := 0, ground := Ground.phase }, { on := 1, ground := Ground.phase }, { on := 2, ground := Ground.phase }, { on := 3, ground := Ground.phase }, { on := 4, ground := Ground.phase }, { on := 5, ground := Ground.phase }, { on := 6, ground := Ground.phase }, { on := 7, ground := Ground.phase }, { on := 8, ground := Ground.phase }], guard := none }) (v := ?_) rfl (by kernel_rfl) (by kernel_rfl) (by kernel_rfl) (fun _ _ _ h => h) (Or.inl ⟨by rfl, ?_⟩) (by assumption) ?_
  rotate_left
  focus (intro w hSw; (try dsimp only at hSw); go_simp; (try with_reducible rfl))
  try simp only [Act.put, List.setIfInBounds_toArray, List.set_cons_zero, List.set_cons_succ]
  refine wpAnyH_done (by kernel_rfl) ?_ _
  exact NoPanic.normal (HQ.out _ _ _ _ _ _ _ _ _ _ ⟨_, _, mSetS S p x, HP5.out, Nat.le_succ_of_le (plays_set HX.out.sg HX.out.nd p).2, (plays_set HX.out.sg HX.out.nd p).1⟩)
set_option maxHeartbeats 4000000 in
set_option maxRecDepth 100000 in
theorem plays_put2 {w1 w : World} {M P : Nat → Prop} {B R T X : Nat} {S : List MK} {x : MK} {z0 z1 p : Int} {pa : Option Addr} {ca : Nat} {Q : Exit → Act → World → Prop} {u0 u1 u2 u11 u12 u13 u14 u15 u16 u17 u18 u19 u20 u21 u22 u23 u24 u25 u26 u27 u28 u29 u30 u31 u32 u33 u34 u35 u36 u37 u38 u39 u40 u41 u42 u43 u44 u45 u46 u47 u48 u49 u50 u51 u52 u53 u54 u55 u56 u57 u58 u59 u60 u61 u62 u63 u64 u65 u66 u67 u68 u69 u70 u71 u72 u73 u74 u75 u76 u77 u78 u79 u80 u81 u82 u83 u84 u85 u86 u87 u88 u89 u90 u91 u92 u93 u94 u95 u96 u97 u98 u99 u100 u101 u102 u103 u104 u105 u106 u107 u108 u109 u110 u111 u112 u113 u114 u115 u116 u117 u118 u119 u120 u121 u122 u123 u124 u125 u126 u127 u128 u129 u130 u131 u132 u133 : Value} (h : PlaysX w1 w M P B R T X S x z0 z1 pa ca)
    (hQ : ∀ (b : Bool) (x87 x88 x89 x90 x91 x92 x93 x94 : Value) (w' : World), PlaysO w1 B R (S.length + 1) w' → Q .normal { tmps := #[u0, u1, u2, .pointer (some ⟨B, 0, none⟩), .pointer (some ⟨R, 0, none⟩), .int .i64 x.node, .pointer (some ⟨T, 0, none⟩), .pointer (some ⟨X, 0, none⟩), .int .i64 p, .bool b, .bool b, u11, u12, u13, u14, u15, u16, u17, u18, u19, u20, u21, u22, u23, u24, u25, u26, u27, u28, u29, u30, u31, u32, u33, u34, u35, u36, u37, u38, u39, u40, u41, u42, u43, u44, u45, u46, u47, u48, u49, u50, u51, u52, u53, u54, u55, u56, u57, u58, u59, u60, u61, u62, u63, u64, u65, u66, u67, u68, u69, u70, u71, u72, u73, u74, u75, u76, u77, u78, u79, u80, u81, u82, u83, u84, u85, u86, x87, x88, x89, x90, x91, x92, x93, x94, u95, u96, u97, u98, u99, u100, u101, u102, u103, u104, u105, u106, u107, u108, u109, u110, u111, u112, u113, u114, u115, u116, u117, u118, u119, u120, u121, u122, u123, u124, u125, u126, u127, u128, u129, u130, u131, u132, u133], defers := [] } w') :
    (Code.region 27 #[{ dst := some 87, op := Op.move (Operand.tmp 3), type := 54, pos := "law.go:105", after := #[], guard := none }, { dst := some 88, op := Op.move (Operand.tmp 8), type := 3, pos := "law.go:105", after := #[], guard := none }, { dst := some 89, op := Op.load 63 (Operand.tmp 7), type := 63, pos := "law.go:105", after := #[], guard := none }, { dst := some 90, op := Op.call { callee := Callee.value (Operand.func 36), args := #[Operand.tmp 87, Operand.tmp 88, Operand.tmp 89], argTypes := #[ 54, 3, 63 ] }, type := 4, pos := "law.go:105", after := #[{ on := 0, ground := Ground.data }, { on := 1, ground := Ground.data }, { on := 2, ground := Ground.data }], guard := none }, { dst := some 91, op := Op.move (Operand.tmp 4), type := 56, pos := "law.go:105", after := #[], guard := none }, { dst := some 92, op := Op.move (Operand.tmp 8), type := 3, pos := "law.go:105", after := #[], guard := none }, { dst := some 93, op := Op.load 63 (Operand.tmp 7), type := 63, pos := "law.go:105", after := #[], guard := none }, { dst := some 94, op := Op.call { callee := Callee.value (Operand.func 37), args := #[Operand.tmp 91, Operand.tmp 92, Operand.tmp 93], argTypes := #[ 56, 3, 63 ] }, type := 4, pos := "law.go:105", after := #[{ on := 4, ground := Ground.data }, { on := 5, ground := Ground.data }, { on := 6, ground := Ground.data }, { on := 3, ground := Ground.chain }], guard := none }, { dst := some 9, op := Op.assign (Operand.tmp 90), type := 4, pos := "law.go:105", after := #[{ on := 3, ground := Ground.data }, { on := 7, ground := Ground.chain }, { on := 0, ground := Ground.phase }, { on := 1, ground := Ground.phase }, { on := 2, ground := Ground.phase }, { on := 3, ground := Ground.phase }, { on := 4, ground := Ground.textOnly Departure.lateStores }, { on := 5, ground := Ground.textOnly Departure.lateStores }, { on := 6, ground := Ground.textOnly Departure.lateStores }, { on := 7, ground := Ground.textOnly Departure.lateStoresUnsure }], guard := none }, { dst := some 10, op := Op.assign (Operand.tmp 94), type := 4, pos := "law.go:105", after := #[{ on := 7, ground := Ground.data }, { on := 8, ground := Ground.chain }, { on := 0, ground := Ground.phase }, { on := 1, ground := Ground.phase }, { on := 2, ground := Ground.phase }, { on := 3, ground := Ground.phase }, { on := 4, ground := Ground.phase }, { on := 5, ground := Ground.phase }, { on := 6, ground := Ground.phase }, { on := 7, ground := Ground.phase }, { on := 8, ground := Ground.phase }], guard := none }] true).wp Try.prog Q { tmps := #[u0, u1, u2, .pointer (some ⟨B, 0, none⟩), .pointer (some ⟨R, 0, none⟩), .int .i64 x.node, .pointer (some ⟨T, 0, none⟩), .pointer (some ⟨X, 0, none⟩), .int .i64 p, .bool true, .bool true, u11, u12, u13, u14, u15, u16, u17, u18, u19, u20, u21, u22, u23, u24, u25, u26, u27, u28, u29, u30, u31, u32, u33, u34, u35, u36, u37, u38, u39, u40, u41, u42, u43, u44, u45, u46, u47, u48, u49, u50, u51, u52, u53, u54, u55, u56, u57, u58, u59, u60, u61, u62, u63, u64, u65, u66, u67, u68, u69, u70, u71, u72, u73, u74, u75, u76, u77, u78, u79, u80, u81, u82, u83, u84, u85, u86, u87, u88, u89, u90, u91, u92, u93, u94, u95, u96, u97, u98, u99, u100, u101, u102, u103, u104, u105, u106, u107, u108, u109, u110, u111, u112, u113, u114, u115, u116, u117, u118, u119, u120, u121, u122, u123, u124, u125, u126, u127, u128, u129, u130, u131, u132, u133], defers := [] } w := by
  refine wp_region_noPanic ?_
  have HQ := Lib.hid hQ
  have HX := Lib.hid (h.on (Below.refl _ w).drew)
  have hln := h.len
  clear hQ h
  refine wp_region_held_drew (S := (fun W => W.cell? ⟨X, 0, none⟩ = some (.int .i64 x.node) ∧ W.cell? ⟨X, 1, none⟩ = some (.string ⟨x.name.toArray⟩) ∧ W.cell? ⟨X, 2, none⟩ = some (.slice pa x.attrs.length ca))) (by kernel_rfl) (by exact ⟨HX.out.x0, HX.out.x1, HX.out.x2⟩) (fun hHeld => ?_)
  generalize w.drew = W0 at *
  refine wpAnyH_take (i := 0) (oi := { dst := some 87, op := Op.move (Operand.tmp 3), type := 54, pos := "law.go:105", after := #[], guard := none }) (v := ?_) rfl (by kernel_rfl) (by kernel_rfl) (by kernel_rfl) (fun _ _ _ h => h) (Or.inl ⟨by rfl, ?_⟩) (by assumption) ?_
  rotate_left
  focus (intro w hSw; (try dsimp only at hSw); go_simp; (try with_reducible rfl))
  try simp only [Act.put, List.setIfInBounds_toArray, List.set_cons_zero, List.set_cons_succ]
  refine wpAnyH_take (i := 1) (oi := { dst := some 88, op := Op.move (Operand.tmp 8), type := 3, pos := "law.go:105", after := #[], guard := none }) (v := ?_) rfl (by kernel_rfl) (by kernel_rfl) (by kernel_rfl) (fun _ _ _ h => h) (Or.inl ⟨by rfl, ?_⟩) (by assumption) ?_
  rotate_left
  focus (intro w hSw; (try dsimp only at hSw); go_simp; (try with_reducible rfl))
  try simp only [Act.put, List.setIfInBounds_toArray, List.set_cons_zero, List.set_cons_succ]
  refine wpAnyH_take (i := 2) (oi := { dst := some 89, op := Op.load 63 (Operand.tmp 7), type := 63, pos := "law.go:105", after := #[], guard := none }) (v := ?_) rfl (by kernel_rfl) (by kernel_rfl) (by kernel_rfl) (fun _ _ _ h => h) (Or.inl ⟨by rfl, ?_⟩) (by assumption) ?_
  rotate_left
  focus (intro w hSw; (try dsimp only at hSw); go_simp; (try with_reducible rfl))
  try simp only [Act.put, List.setIfInBounds_toArray, List.set_cons_zero, List.set_cons_succ]
  refine wpAnyH_take (i := 4) (oi := { dst := some 91, op := Op.move (Operand.tmp 4), type := 56, pos := "law.go:105", after := #[], guard := none }) (v := ?_) rfl (by kernel_rfl) (by kernel_rfl) (by kernel_rfl) (fun _ _ _ h => h) (Or.inl ⟨by rfl, ?_⟩) (by assumption) ?_
  rotate_left
  focus (intro w hSw; (try dsimp only at hSw); go_simp; (try with_reducible rfl))
  try simp only [Act.put, List.setIfInBounds_toArray, List.set_cons_zero, List.set_cons_succ]
  refine wpAnyH_take (i := 5) (oi := { dst := some 92, op := Op.move (Operand.tmp 8), type := 3, pos := "law.go:105", after := #[], guard := none }) (v := ?_) rfl (by kernel_rfl) (by kernel_rfl) (by kernel_rfl) (fun _ _ _ h => h) (Or.inl ⟨by rfl, ?_⟩) (by assumption) ?_
  rotate_left
  focus (intro w hSw; (try dsimp only at hSw); go_simp; (try with_reducible rfl))
  try simp only [Act.put, List.setIfInBounds_toArray, List.set_cons_zero, List.set_cons_succ]
  refine wpAnyH_take (i := 6) (oi := { dst := some 93, op := Op.load 63 (Operand.tmp 7), type := 63, pos := "law.go:105", after := #[], guard := none }) (v := ?_) rfl (by kernel_rfl) (by kernel_rfl) (by kernel_rfl) (fun _ _ _ h => h) (Or.inl ⟨by rfl, ?_⟩) (by assumption) ?_
  rotate_left
  focus (intro w hSw; (try dsimp only at hSw); go_simp; (try with_reducible rfl))
  try simp only [Act.put, List.setIfInBounds_toArray, List.set_cons_zero, List.set_cons_succ]
  refine wpAnyH_ready (rs := [3]) (by kernel_rfl) (by simp) ?_
  refine AllReadyH.cons (o := { dst := some 90, op := Op.call { callee := Callee.value (Operand.func 36), args := #[Operand.tmp 87, Operand.tmp 88, Operand.tmp 89], argTypes := #[ 54, 3, 63 ] }, type := 4, pos := "law.go:105", after := #[{ on := 0, ground := Ground.data }, { on := 1, ground := Ground.data }, { on := 2, ground := Ground.data }], guard := none }) rfl (fun K hK => ?_) AllReadyH.nil
  go_simp
  refine (p7_put HX.out.pair (by omega) p x pa ca HX.out.row HX.out.fits).mono ?_
  rintro e w4 ⟨rfl, M4, hp4, hm4, ht4⟩
  have HP4 := Lib.hid hp4
  have HA4 := Lib.hid (HX.out.pair.still HX.out.row ht4)
  go_wp2_with fail
  refine hK.out _ _ (by exact ⟨ht4.cellAt HX.out.xl HX.out.xM HX.out.x0, ht4.cellAt HX.out.xl HX.out.xM HX.out.x1, ht4.cellAt HX.out.xl HX.out.xM HX.out.x2⟩) (fun hHeld => ?_)
  clear hK K
  try simp only [Act.put, List.setIfInBounds_toArray, List.set_cons_zero, List.set_cons_succ]
  refine wpAnyH_ready (rs := [7]) (by kernel_rfl) (by simp) ?_
  refine AllReadyH.cons (o := { dst := some 94, op := Op.call { callee := Callee.value (Operand.func 37), args := #[Operand.tmp 91, Operand.tmp 92, Operand.tmp 93], argTypes := #[ 56, 3, 63 ] }, type := 4, pos := "law.go:105", after := #[{ on := 4, ground := Ground.data }, { on := 5, ground := Ground.data }, { on := 6, ground := Ground.data }, { on := 3, ground := Ground.chain }], guard := none }) rfl (fun K hK => ?_) AllReadyH.nil
  go_simp
  refine (qT_put HP4.out (by omega) p x pa ca HA4.out).mono ?_
  rintro e w5 ⟨rfl, hp5, ht5⟩
  have HP5 := Lib.hid hp5
  go_wp2_with fail
  refine hK.out _ _ (by exact ⟨ht5.cellAt (Nat.lt_of_lt_of_le HX.out.xl ht4.size) HX.out.xR hHeld.1, ht5.cellAt (Nat.lt_of_lt_of_le HX.out.xl ht4.size) HX.out.xR hHeld.2.1, ht5.cellAt (Nat.lt_of_lt_of_le HX.out.xl ht4.size) HX.out.xR hHeld.2.2⟩) (fun hHeld => ?_)
  clear hK K
  try simp only [Act.put, List.setIfInBounds_toArray, List.set_cons_zero, List.set_cons_succ]
  refine wpAnyH_take (i := 8) (oi := { dst := some 9, op := Op.assign (Operand.tmp 90), type := 4, pos := "law.go:105", after := #[{ on := 3, ground := Ground.data }, { on := 7, ground := Ground.chain }, { on := 0, ground := Ground.phase }, { on := 1, ground := Ground.phase }, { on := 2, ground := Ground.phase }, { on := 3, ground := Ground.phase }, { on := 4, ground := Ground.textOnly Departure.lateStores }, { on := 5, ground := Ground.textOnly Departure.lateStores }, { on := 6, ground := Ground.textOnly Departure.lateStores }, { on := 7, ground := Ground.textOnly Departure.lateStoresUnsure }], guard := none }) (v := ?_) rfl (by kernel_rfl) (by kernel_rfl) (by kernel_rfl) (fun _ _ _ h => h) (Or.inl ⟨by rfl, ?_⟩) (by assumption) ?_
  rotate_left
  focus (intro w hSw; (try dsimp only at hSw); go_simp; (try with_reducible rfl))
  try simp only [Act.put, List.setIfInBounds_toArray, List.set_cons_zero, List.set_cons_succ]
  refine wpAnyH_take (i := 9) (oi := { dst := some 10, op := Op.assign (Operand.tmp 94), type := 4, pos := "law.go:105", after := #[{ on := 7, ground := Ground.data }, { on := 8, ground := Ground.chain }, { on := 0, ground := Ground.phase }, { on := 1, ground := Ground.phase }, { on := 2, ground := Ground.phase }, { on := 3, ground := Ground.phase }, { on := 4, ground := Ground.phase }, { on := 5, ground := Ground.phase }, { on := 6, ground := Ground.phase }, { on := 7, ground := Ground.phase }, { on := 8, ground := Ground.phase }], guard := none }) (v := ?_) rfl (by kernel_rfl) (by kernel_rfl) (by kernel_rfl) (fun _ _ _ h => h) (Or.inl ⟨by rfl, ?_⟩) (by assumption) ?_
  rotate_left
  focus (intro w hSw; (try dsimp only at hSw); go_simp; (try with_reducible rfl))
  try simp only [Act.put, List.setIfInBounds_toArray, List.set_cons_zero, List.set_cons_succ]
  refine wpAnyH_done (by kernel_rfl) ?_ _
  exact NoPanic.normal (HQ.out _ _ _ _ _ _ _ _ _ _ ⟨_, _, mPutS S p x, HP5.out, (plays_put HX.out.sg HX.out.nd p).2, (plays_put HX.out.sg HX.out.nd p).1⟩)
set_option maxHeartbeats 4000000 in
set_option maxRecDepth 100000 in
theorem plays_drop3 {w1 w : World} {M P : Nat → Prop} {B R T X : Nat} {S : List MK} {x : MK} {z0 z1 p : Int} {pa : Option Addr} {ca : Nat} {Q : Exit → Act → World → Prop} {u0 u1 u2 u11 u12 u13 u14 u15 u16 u17 u18 u19 u20 u21 u22 u23 u24 u25 u26 u27 u28 u29 u30 u31 u32 u33 u34 u35 u36 u37 u38 u39 u40 u41 u42 u43 u44 u45 u46 u47 u48 u49 u50 u51 u52 u53 u54 u55 u56 u57 u58 u59 u60 u61 u62 u63 u64 u65 u66 u67 u68 u69 u70 u71 u72 u73 u74 u75 u76 u77 u78 u79 u80 u81 u82 u83 u84 u85 u86 u87 u88 u89 u90 u91 u92 u93 u94 u95 u96 u97 u98 u99 u100 u101 u102 u103 u104 u105 u106 u107 u108 u109 u110 u111 u112 u113 u114 u115 u116 u117 u118 u119 u120 u121 u122 u123 u124 u125 u126 u127 u128 u129 u130 u131 u132 u133 : Value} (h : PlaysX w1 w M P B R T X S x z0 z1 pa ca)
    (hQ : ∀ (b : Bool) (x97 x98 x99 x100 x101 x102 x103 x104 : Value) (w' : World), PlaysO w1 B R (S.length + 1) w' → Q .normal { tmps := #[u0, u1, u2, .pointer (some ⟨B, 0, none⟩), .pointer (some ⟨R, 0, none⟩), .int .i64 x.node, .pointer (some ⟨T, 0, none⟩), .pointer (some ⟨X, 0, none⟩), .int .i64 p, .bool b, .bool b, u11, u12, u13, u14, u15, u16, u17, u18, u19, u20, u21, u22, u23, u24, u25, u26, u27, u28, u29, u30, u31, u32, u33, u34, u35, u36, u37, u38, u39, u40, u41, u42, u43, u44, u45, u46, u47, u48, u49, u50, u51, u52, u53, u54, u55, u56, u57, u58, u59, u60, u61, u62, u63, u64, u65, u66, u67, u68, u69, u70, u71, u72, u73, u74, u75, u76, u77, u78, u79, u80, u81, u82, u83, u84, u85, u86, u87, u88, u89, u90, u91, u92, u93, u94, u95, u96, x97, x98, x99, x100, x101, x102, x103, x104, u105, u106, u107, u108, u109, u110, u111, u112, u113, u114, u115, u116, u117, u118, u119, u120, u121, u122, u123, u124, u125, u126, u127, u128, u129, u130, u131, u132, u133], defers := [] } w') :
    (Code.region 29 #[{ dst := some 97, op := Op.move (Operand.tmp 3), type := 54, pos := "law.go:107", after := #[], guard := none }, { dst := some 98, op := Op.fieldAddr 59 (Operand.tmp 6) 1, type := 0, pos := "law.go:107", after := #[], guard := none }, { dst := some 99, op := Op.load 3 (Operand.tmp 98), type := 3, pos := "law.go:107", after := #[{ on := 1, ground := Ground.data }], guard := none }, { dst := some 100, op := Op.call { callee := Callee.value (Operand.func 32), args := #[Operand.tmp 97, Operand.tmp 99], argTypes := #[ 54, 3 ] }, type := 4, pos := "law.go:107", after := #[{ on := 0, ground := Ground.data }, { on := 2, ground := Ground.data }], guard := none }, { dst := some 101, op := Op.move (Operand.tmp 4), type := 56, pos := "law.go:107", after := #[], guard := none }, { dst := some 102, op := Op.fieldAddr 59 (Operand.tmp 6) 1, type := 0, pos := "law.go:107", after := #[], guard := none }, { dst := some 103, op := Op.load 3 (Operand.tmp 102), type := 3, pos := "law.go:107", after := #[{ on := 5, ground := Ground.data }], guard := none }, { dst := some 104, op := Op.call { callee := Callee.value (Operand.func 33), args := #[Operand.tmp 101, Operand.tmp 103], argTypes := #[ 56, 3 ] }, type := 4, pos := "law.go:107", after := #[{ on := 4, ground := Ground.data }, { on := 6, ground := Ground.data }, { on := 3, ground := Ground.chain }], guard := none }, { dst := some 9, op := Op.assign (Operand.tmp 100), type := 4, pos := "law.go:107", after := #[{ on := 3, ground := Ground.data }, { on := 7, ground := Ground.chain }, { on := 0, ground := Ground.phase }, { on := 1, ground := Ground.phase }, { on := 2, ground := Ground.phase }, { on := 3, ground := Ground.phase }, { on := 4, ground := Ground.textOnly Departure.lateStores }, { on := 5, ground := Ground.textOnly Departure.lateStores }, { on := 6, ground := Ground.textOnly Departure.lateStores }, { on := 7, ground := Ground.textOnly Departure.lateStoresUnsure }], guard := none }, { dst := some 10, op := Op.assign (Operand.tmp 104), type := 4, pos := "law.go:107", after := #[{ on := 7, ground := Ground.data }, { on := 8, ground := Ground.chain }, { on := 0, ground := Ground.phase }, { on := 1, ground := Ground.phase }, { on := 2, ground := Ground.phase }, { on := 3, ground := Ground.phase }, { on := 4, ground := Ground.phase }, { on := 5, ground := Ground.phase }, { on := 6, ground := Ground.phase }, { on := 7, ground := Ground.phase }, { on := 8, ground := Ground.phase }], guard := none }] true).wp Try.prog Q { tmps := #[u0, u1, u2, .pointer (some ⟨B, 0, none⟩), .pointer (some ⟨R, 0, none⟩), .int .i64 x.node, .pointer (some ⟨T, 0, none⟩), .pointer (some ⟨X, 0, none⟩), .int .i64 p, .bool true, .bool true, u11, u12, u13, u14, u15, u16, u17, u18, u19, u20, u21, u22, u23, u24, u25, u26, u27, u28, u29, u30, u31, u32, u33, u34, u35, u36, u37, u38, u39, u40, u41, u42, u43, u44, u45, u46, u47, u48, u49, u50, u51, u52, u53, u54, u55, u56, u57, u58, u59, u60, u61, u62, u63, u64, u65, u66, u67, u68, u69, u70, u71, u72, u73, u74, u75, u76, u77, u78, u79, u80, u81, u82, u83, u84, u85, u86, u87, u88, u89, u90, u91, u92, u93, u94, u95, u96, u97, u98, u99, u100, u101, u102, u103, u104, u105, u106, u107, u108, u109, u110, u111, u112, u113, u114, u115, u116, u117, u118, u119, u120, u121, u122, u123, u124, u125, u126, u127, u128, u129, u130, u131, u132, u133], defers := [] } w := by
  refine wp_region_noPanic ?_
  have HQ := Lib.hid hQ
  have HX := Lib.hid (h.on (Below.refl _ w).drew)
  have hln := h.len
  clear hQ h
  refine wp_region_held_drew (S := (fun W => W.cell? ⟨T, 1, none⟩ = some (.int .i64 z1))) (by kernel_rfl) (by exact HX.out.t1) (fun hHeld => ?_)
  generalize w.drew = W0 at *
  refine wpAnyH_take (i := 0) (oi := { dst := some 97, op := Op.move (Operand.tmp 3), type := 54, pos := "law.go:107", after := #[], guard := none }) (v := ?_) rfl (by kernel_rfl) (by kernel_rfl) (by kernel_rfl) (fun _ _ _ h => h) (Or.inl ⟨by rfl, ?_⟩) (by assumption) ?_
  rotate_left
  focus (intro w hSw; (try dsimp only at hSw); go_simp; (try with_reducible rfl))
  try simp only [Act.put, List.setIfInBounds_toArray, List.set_cons_zero, List.set_cons_succ]
  refine wpAnyH_take (i := 1) (oi := { dst := some 98, op := Op.fieldAddr 59 (Operand.tmp 6) 1, type := 0, pos := "law.go:107", after := #[], guard := none }) (v := ?_) rfl (by kernel_rfl) (by kernel_rfl) (by kernel_rfl) (fun _ _ _ h => h) (Or.inl ⟨by rfl, ?_⟩) (by assumption) ?_
  rotate_left
  focus (intro w hSw; (try dsimp only at hSw); go_simp; (try with_reducible rfl))
  try simp only [Act.put, List.setIfInBounds_toArray, List.set_cons_zero, List.set_cons_succ]
  refine wpAnyH_take (i := 2) (oi := { dst := some 99, op := Op.load 3 (Operand.tmp 98), type := 3, pos := "law.go:107", after := #[{ on := 1, ground := Ground.data }], guard := none }) (v := ?_) rfl (by kernel_rfl) (by kernel_rfl) (by kernel_rfl) (fun _ _ _ h => h) (Or.inl ⟨by rfl, ?_⟩) (by assumption) ?_
  rotate_left
  focus (intro w hSw; (try dsimp only at hSw); go_simp; (try with_reducible rfl))
  try simp only [Act.put, List.setIfInBounds_toArray, List.set_cons_zero, List.set_cons_succ]
  refine wpAnyH_take (i := 4) (oi := { dst := some 101, op := Op.move (Operand.tmp 4), type := 56, pos := "law.go:107", after := #[], guard := none }) (v := ?_) rfl (by kernel_rfl) (by kernel_rfl) (by kernel_rfl) (fun _ _ _ h => h) (Or.inl ⟨by rfl, ?_⟩) (by assumption) ?_
  rotate_left
  focus (intro w hSw; (try dsimp only at hSw); go_simp; (try with_reducible rfl))
  try simp only [Act.put, List.setIfInBounds_toArray, List.set_cons_zero, List.set_cons_succ]
  refine wpAnyH_take (i := 5) (oi := { dst := some 102, op := Op.fieldAddr 59 (Operand.tmp 6) 1, type := 0, pos := "law.go:107", after := #[], guard := none }) (v := ?_) rfl (by kernel_rfl) (by kernel_rfl) (by kernel_rfl) (fun _ _ _ h => h) (Or.inl ⟨by rfl, ?_⟩) (by assumption) ?_
  rotate_left
  focus (intro w hSw; (try dsimp only at hSw); go_simp; (try with_reducible rfl))
  try simp only [Act.put, List.setIfInBounds_toArray, List.set_cons_zero, List.set_cons_succ]
  refine wpAnyH_take (i := 6) (oi := { dst := some 103, op := Op.load 3 (Operand.tmp 102), type := 3, pos := "law.go:107", after := #[{ on := 5, ground := Ground.data }], guard := none }) (v := ?_) rfl (by kernel_rfl) (by kernel_rfl) (by kernel_rfl) (fun _ _ _ h => h) (Or.inl ⟨by rfl, ?_⟩) (by assumption) ?_
  rotate_left
  focus (intro w hSw; (try dsimp only at hSw); go_simp; (try with_reducible rfl))
  try simp only [Act.put, List.setIfInBounds_toArray, List.set_cons_zero, List.set_cons_succ]
  refine wpAnyH_ready (rs := [3]) (by kernel_rfl) (by simp) ?_
  refine AllReadyH.cons (o := { dst := some 100, op := Op.call { callee := Callee.value (Operand.func 32), args := #[Operand.tmp 97, Operand.tmp 99], argTypes := #[ 54, 3 ] }, type := 4, pos := "law.go:107", after := #[{ on := 0, ground := Ground.data }, { on := 2, ground := Ground.data }], guard := none }) rfl (fun K hK => ?_) AllReadyH.nil
  go_simp
  refine (p7_drop HX.out.pair (by omega) z1).mono ?_
  rintro e w4 ⟨rfl, M4, hp4, hm4, ht4⟩
  have HP4 := Lib.hid hp4
  have HA4 := Lib.hid (HX.out.pair.still HX.out.row ht4)
  go_wp2_with fail
  refine hK.out _ _ (by exact ht4.cellAt HX.out.tl HX.out.tM HX.out.t1) (fun hHeld => ?_)
  clear hK K
  try simp only [Act.put, List.setIfInBounds_toArray, List.set_cons_zero, List.set_cons_succ]
  refine wpAnyH_ready (rs := [7]) (by kernel_rfl) (by simp) ?_
  refine AllReadyH.cons (o := { dst := some 104, op := Op.call { callee := Callee.value (Operand.func 33), args := #[Operand.tmp 101, Operand.tmp 103], argTypes := #[ 56, 3 ] }, type := 4, pos := "law.go:107", after := #[{ on := 4, ground := Ground.data }, { on := 6, ground := Ground.data }, { on := 3, ground := Ground.chain }], guard := none }) rfl (fun K hK => ?_) AllReadyH.nil
  go_simp
  refine (qT_drop HP4.out (by omega) z1).mono ?_
  rintro e w5 ⟨rfl, hp5, ht5⟩
  have HP5 := Lib.hid hp5
  go_wp2_with fail
  refine hK.out _ _ (by exact ht5.cellAt (Nat.lt_of_lt_of_le HX.out.tl ht4.size) HX.out.tR hHeld) (fun hHeld => ?_)
  clear hK K
  try simp only [Act.put, List.setIfInBounds_toArray, List.set_cons_zero, List.set_cons_succ]
  refine wpAnyH_take (i := 8) (oi := { dst := some 9, op := Op.assign (Operand.tmp 100), type := 4, pos := "law.go:107", after := #[{ on := 3, ground := Ground.data }, { on := 7, ground := Ground.chain }, { on := 0, ground := Ground.phase }, { on := 1, ground := Ground.phase }, { on := 2, ground := Ground.phase }, { on := 3, ground := Ground.phase }, { on := 4, ground := Ground.textOnly Departure.lateStores }, { on := 5, ground := Ground.textOnly Departure.lateStores }, { on := 6, ground := Ground.textOnly Departure.lateStores }, { on := 7, ground := Ground.textOnly Departure.lateStoresUnsure }], guard := none }) (v := ?_) rfl (by kernel_rfl) (by kernel_rfl) (by kernel_rfl) (fun _ _ _ h => h) (Or.inl ⟨by rfl, ?_⟩) (by assumption) ?_
  rotate_left
  focus (intro w hSw; (try dsimp only at hSw); go_simp; (try with_reducible rfl))
  try simp only [Act.put, List.setIfInBounds_toArray, List.set_cons_zero, List.set_cons_succ]
  refine wpAnyH_take (i := 9) (oi := { dst := some 10, op := Op.assign (Operand.tmp 104), type := 4, pos := "law.go:107", after := #[{ on := 7, ground := Ground.data }, { on := 8, ground := Ground.chain }, { on := 0, ground := Ground.phase }, { on := 1, ground := Ground.phase }, { on := 2, ground := Ground.phase }, { on := 3, ground := Ground.phase }, { on := 4, ground := Ground.phase }, { on := 5, ground := Ground.phase }, { on := 6, ground := Ground.phase }, { on := 7, ground := Ground.phase }, { on := 8, ground := Ground.phase }], guard := none }) (v := ?_) rfl (by kernel_rfl) (by kernel_rfl) (by kernel_rfl) (fun _ _ _ h => h) (Or.inl ⟨by rfl, ?_⟩) (by assumption) ?_
  rotate_left
  focus (intro w hSw; (try dsimp only at hSw); go_simp; (try with_reducible rfl))
  try simp only [Act.put, List.setIfInBounds_toArray, List.set_cons_zero, List.set_cons_succ]
  refine wpAnyH_done (by kernel_rfl) ?_ _
  exact NoPanic.normal (HQ.out _ _ _ _ _ _ _ _ _ _ ⟨_, _, mDropS S z1, HP5.out, Nat.le_succ_of_le (plays_drop HX.out.sg z1).2, (plays_drop HX.out.sg z1).1⟩)
end Go.Proofs.Ytbadckkcjjfnoaa
