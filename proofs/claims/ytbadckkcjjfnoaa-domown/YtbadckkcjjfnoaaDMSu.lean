/-
  Pieces of the laws' made: an element's kids; the append; texts and notes.
-/
import Derived.Test.YtbadckkcjjfnoaaDMSt
import Derived.Deep.CutBlock
import Derived.Deep.DeepCutAuto
namespace Go.Proofs.Ytbadckkcjjfnoaa
open Go.RowKit

/-- What made tells: new memory that holds its nodes; the tape stands behind what was read. -/
def MadeZ (kid : Nat → Fo × Nat) (w0 : World) (v : Value) (zs : List Int) (B a : Nat) (W : World) (e : Ending) (W' : World) : Prop :=
  ∃ u, e = .returned u ∧ NodesP (fun b => W.heap.size ≤ b) W' u (rowM kid zs a).1 ∧ Turns (fun b => b = B) W W' ∧ TapeZ w0 v zs B (rowM kid zs a).2 W'

set_option maxHeartbeats 4000000 in
set_option maxRecDepth 100000 in
theorem made_st15 {w0 : World} {v : Value} {zs : List Int} {B H E a : Nat} {d : Nd} {va : Value} {w : World} {Q : Exit → Act → World → Prop} {j lv : Nat} {kid : Nat → Fo × Nat} {u2 u3 u4 u5 u6 u7 u8 u9 u11 u12 u13 u14 u15 u16 u17 u18 u19 u20 u21 u22 u23 u24 u25 u26 u27 u28 u29 u30 u31 u32 u33 u34 u35 u36 u37 u38 u39 u40 u41 u42 u43 u44 u45 u46 u47 u48 u49 u50 u51 u52 u53 u54 u55 u56 u57 u58 u59 u60 u61 u62 u63 u64 u65 u66 u67 u68 u69 u70 u71 u72 u73 u74 u75 u76 u77 u78 u79 u80 u81 u82 u83 u84 u85 u86 u87 u88 u89 u90 u91 u92 u93 u94 u95 u96 u97 u98 u99 u100 u101 u102 u103 u104 u105 u106 u107 u108 u109 u110 u111 u112 u113 u114 u115 u116 u117 u118 u119 : Value} (hj : lv + j = 6) (hkid : kid = kidsM zs j)
    (IH : ∀ j', j = j' + 1 → ∀ (a : Nat) (W : World), TapeZ w0 v zs B a W → Calls Try.prog 81 #[.pointer (some ⟨B, 0, none⟩), .int .i64 ((lv : Int) + 1)] W (MadeZ (kidsM zs j') w0 v zs B a W))
    (he : ElemZ H E d va w) (ht : TapeZ w0 v zs B a w) (hB : B < H) (hH : H ≤ w.heap.size)
    (hQ : ∀ (x69 x70 x71 x72 x73 x74 x75 vk : Value) (w' : World), Cells7 w' E 0 d va vk → AttrsP (fun b => H ≤ b) w' va d.attrs → NodesP (fun b => H ≤ b) w' vk (kid a).1 → TapeZ w0 v zs B (kid a).2 w' → Turns (Mk B H) w w' → Q .normal { tmps := #[.pointer (some ⟨B, 0, none⟩), .int .i64 (lv : Int), u2, u3, u4, u5, u6, u7, u8, u9, .pointer (some ⟨E, 0, none⟩), u11, u12, u13, u14, u15, u16, u17, u18, u19, u20, u21, u22, u23, u24, u25, u26, u27, u28, u29, u30, u31, u32, u33, u34, u35, u36, u37, u38, u39, u40, u41, u42, u43, u44, u45, u46, u47, u48, u49, u50, u51, u52, u53, u54, u55, u56, u57, u58, u59, u60, u61, u62, u63, u64, u65, u66, u67, u68, x69, x70, x71, x72, x73, x74, x75, u76, u77, u78, u79, u80, u81, u82, u83, u84, u85, u86, u87, u88, u89, u90, u91, u92, u93, u94, u95, u96, u97, u98, u99, u100, u101, u102, u103, u104, u105, u106, u107, u108, u109, u110, u111, u112, u113, u114, u115, u116, u117, u118, u119], defers := [] } w') :
    ((Code.region 15 #[{ dst := some 69, op := Op.move (Operand.tmp 1), type := 3, pos := "more.go:39", after := #[], guard := none }, { dst := some 70, op := Op.binOp BinOp.lss 3 (Operand.tmp 69) (Operand.const (Value.int IntKind.i64 6)) 3, type := 4, pos := "more.go:39", after := #[{ on := 0, ground := Ground.data }], guard := none }] false).seq (Code.cond (Operand.tmp 70) (Code.region 16 #[{ dst := some 71, op := Op.move (Operand.tmp 0), type := 76, pos := "more.go:40", after := #[], guard := none }, { dst := some 72, op := Op.move (Operand.tmp 1), type := 3, pos := "more.go:40", after := #[], guard := none }, { dst := some 73, op := Op.binOp BinOp.add 3 (Operand.tmp 72) (Operand.const (Value.int IntKind.i64 1)) 3, type := 3, pos := "more.go:40", after := #[{ on := 1, ground := Ground.data }], guard := none }, { dst := some 74, op := Op.call { callee := Callee.value (Operand.func 81), args := #[Operand.tmp 71, Operand.tmp 73], argTypes := #[ 76, 3 ] }, type := 31, pos := "more.go:40", after := #[{ on := 0, ground := Ground.data }, { on := 2, ground := Ground.data }], guard := none }, { dst := some 75, op := Op.fieldAddr 48 (Operand.tmp 10) 6, type := 0, pos := "more.go:40", after := #[{ on := 0, ground := Ground.phase }, { on := 1, ground := Ground.phase }, { on := 2, ground := Ground.phase }, { on := 3, ground := Ground.phase }], guard := none }, { dst := none, op := Op.store 31 (Operand.tmp 75) (Operand.tmp 74), type := 0, pos := "more.go:40", after := #[{ on := 4, ground := Ground.data }, { on := 3, ground := Ground.data }, { on := 3, ground := Ground.chain }, { on := 0, ground := Ground.phase }, { on := 1, ground := Ground.phase }, { on := 2, ground := Ground.phase }, { on := 3, ground := Ground.phase }], guard := none }] false) Code.skip)).wp Try.prog Q { tmps := #[.pointer (some ⟨B, 0, none⟩), .int .i64 (lv : Int), u2, u3, u4, u5, u6, u7, u8, u9, .pointer (some ⟨E, 0, none⟩), u11, u12, u13, u14, u15, u16, u17, u18, u19, u20, u21, u22, u23, u24, u25, u26, u27, u28, u29, u30, u31, u32, u33, u34, u35, u36, u37, u38, u39, u40, u41, u42, u43, u44, u45, u46, u47, u48, u49, u50, u51, u52, u53, u54, u55, u56, u57, u58, u59, u60, u61, u62, u63, u64, u65, u66, u67, u68, u69, u70, u71, u72, u73, u74, u75, u76, u77, u78, u79, u80, u81, u82, u83, u84, u85, u86, u87, u88, u89, u90, u91, u92, u93, u94, u95, u96, u97, u98, u99, u100, u101, u102, u103, u104, u105, u106, u107, u108, u109, u110, u111, u112, u113, u114, u115, u116, u117, u118, u119], defers := [] } w := by
  have HQ := Lib.hid hQ
  have he_lt := he.lt
  have HI := Lib.hid IH
  clear hQ IH
  by_cases h0 : lv < 6
  · have q0 : (lv : Int) < 6 := by omega
    obtain ⟨j', rfl⟩ : ∃ j', j = j' + 1 := ⟨j - 1, by omega⟩
    have HK : Hid (kid a = rowM (kidsM zs j') zs a) := Lib.hid (by rw [hkid]; rfl)
    have HC := Lib.hid (HI.out j' rfl a w ht)
    clear HI hkid ht hj
    go_wp2_with fail
    refine HC.out.mono ?_
    rintro e w7 ⟨uk, rfl, hn7, hT7, ht7⟩
    rw [← HK.out] at hn7 ht7
    have he7 := he.turns hT7 (fun b hb _ k => by omega)
    have hz7 := hT7.size
    have c6 := he7.cells.c6
    have f6 := he7.free 6
    rw [Nat.zero_add] at c6
    have HE7 := Lib.hid he7
    have HT7 := Lib.hid ht7
    have HU7 := Lib.hid hT7
    obtain ⟨pk, ck, rfl, htl⟩ := hn7
    have HN7 : Hid (NodesP (fun b => w.heap.size ≤ b) w7 (.slice pk (kid a).1.len ck) (kid a).1) := Lib.hid ⟨_, _, rfl, htl⟩
    clear he htl hT7 ht7 he7 HC HK
    go_wp2_with fail
    have hs : Turns (fun b => b = E) w7 (w7.setCell ⟨E, 6, none⟩ (.slice pk (kid a).1.len ck)) := (Turns.refl (fun b => b = E) w7).setCell (.inl rfl) 6 _
    have hlo := HE7.out.lo
    have hlt := HE7.out.lt
    obtain ⟨c0, c1, c2, c3, c4, c5, _⟩ := HE7.out.cells
    refine HQ.out _ _ _ _ _ _ _ (.slice pk (kid a).1.len ck) _ ⟨cell_set c0, cell_set c1, cell_set c2, cell_set c3, cell_set c4, cell_set c5, World.cell?_setCell_same _ _ (u := .slice none 0 0) _ c6⟩ ?_ ?_ ?_ ?_
    · exact AttrsP.of_row (ownsRow_kept HE7.out.row hs (fun g e k => HE7.out.off (by rw [e, k])))
    · refine (HN7.out.kept (hs.kept fun b _ k e => ?_)).mono fun b k _ => Nat.le_trans hH k
      have : w.heap.size ≤ b := k
      have := he_lt
      omega
    · exact HT7.out.turns hs (fun k => by omega) (fun b k => by have := HT7.out.new; omega)
    · exact ((HU7.out.mono (L := Mk B H) fun _ _ k => .inl k).next (hs.mono fun b _ k => .inr (by omega)))
  · have q0 : ¬ (lv : Int) < 6 := by omega
    obtain rfl : j = 0 := by omega
    have HK : Hid (kid a = (.nil, a)) := Lib.hid (by rw [hkid]; rfl)
    clear HI hkid hj
    go_wp2_with fail
    refine HQ.out _ _ _ _ _ _ _ (.slice none 0 0) w he.cells (AttrsP.of_row he.row) ?_ ?_ (Turns.refl _ _)
    · rw [HK.out]
      exact NodesP.nil _ _ _ _
    · rw [HK.out]
      exact ht

/-- What stands behind the append to the row. -/
theorem app_step {w0 W W7 w8 : World} {v0 v : Value} {zs : List Int} {B a g base : Nat} {qs : List ((Nd × Value × Value) × Fo)} (row : RowM base v qs W7) (hg : W7.grownBy w8 v.ownBlock) (tape : TapeZ w0 v0 zs B a W7) (turns : Turns (Mk B base) W W7) (names : NamesZ g W7) (hB : B < base) (hgb : g < base) :
    TapeZ w0 v0 zs B a w8 ∧ Turns (Mk B base) W w8 ∧ NamesZ g w8 := by
  have hl := fun k e => (row.row.lt k e).1
  have hT : Turns (fun b => base ≤ b) W7 w8 := .of_grown hg hl
  refine ⟨tape.turns hT (by omega) (fun b k => by have := tape.new; omega), turns.next (hT.mono fun _ _ k => .inr k), names.turns hT (by omega)⟩

set_option maxHeartbeats 4000000 in
set_option maxRecDepth 100000 in
theorem made_reg17 {w0 W : World} {v : Value} {zs : List Int} {B H E a g base : Nat} {d : Nd} {va vk : Value} {ks : Fo} {w : World} {Q : Exit → Act → World → Prop} {pl : Option Addr} {cl : Nat} {qs : List ((Nd × Value × Value) × Fo)} {u0 u1 u2 u3 u4 u5 u7 u8 u9 u11 u12 u13 u14 u15 u16 u17 u18 u19 u20 u21 u22 u23 u24 u25 u26 u27 u28 u29 u30 u31 u32 u33 u34 u35 u36 u37 u38 u39 u40 u41 u42 u43 u44 u45 u46 u47 u48 u49 u50 u51 u52 u53 u54 u55 u56 u57 u58 u59 u60 u61 u62 u63 u64 u65 u66 u67 u68 u69 u70 u71 u72 u73 u74 u75 u76 u77 u78 u79 u80 u81 u82 u83 u84 u85 u86 u87 u88 u89 u90 u91 u92 u93 u94 u95 u96 u97 u98 u99 u100 u101 u102 u103 u104 u105 u106 u107 u108 u109 u110 u111 u112 u113 u114 u115 u116 u117 u118 u119 : Value}
    (hc : Cells7 w E 0 d va vk) (ha : AttrsP (fun b => H ≤ b) w va d.attrs) (hk : NodesP (fun b => H ≤ b) w vk ks) (row : RowM base (.slice pl qs.length cl) qs w) (tape : TapeZ w0 v zs B a w) (turns : Turns (Mk B base) W w) (names : NamesZ g w)
    (hB : B < base) (hgb : g < base) (hq : qs.length ≤ 8) (hbH : base ≤ H) (hbw : base ≤ w.heap.size) (hown : ∀ b, (Value.slice pl qs.length cl).ownBlock = some b → b < H)
    (hQ : ∀ (x76 x77 x78 x79 l' : Value) (w' : World), (∃ p cap, l' = .slice p (qs.length + 1) cap) → RowM base l' (qs ++ [((d, va, vk), ks)]) w' → TapeZ w0 v zs B a w' → Turns (Mk B base) W w' → NamesZ g w' → Q .normal { tmps := #[u0, u1, u2, u3, u4, u5, l', u7, u8, u9, .pointer (some ⟨E, 0, none⟩), u11, u12, u13, u14, u15, u16, u17, u18, u19, u20, u21, u22, u23, u24, u25, u26, u27, u28, u29, u30, u31, u32, u33, u34, u35, u36, u37, u38, u39, u40, u41, u42, u43, u44, u45, u46, u47, u48, u49, u50, u51, u52, u53, u54, u55, u56, u57, u58, u59, u60, u61, u62, u63, u64, u65, u66, u67, u68, u69, u70, u71, u72, u73, u74, u75, x76, x77, x78, x79, u80, u81, u82, u83, u84, u85, u86, u87, u88, u89, u90, u91, u92, u93, u94, u95, u96, u97, u98, u99, u100, u101, u102, u103, u104, u105, u106, u107, u108, u109, u110, u111, u112, u113, u114, u115, u116, u117, u118, u119], defers := [] } w') :
    (Code.region 17 #[{ dst := some 76, op := Op.move (Operand.tmp 6), type := 31, pos := "more.go:42", after := #[], guard := none }, { dst := some 77, op := Op.load 48 (Operand.tmp 10), type := 48, pos := "more.go:42", after := #[], guard := none }, { dst := some 78, op := Op.buildSlice 31 1 #[(0, Operand.tmp 77)], type := 31, pos := "more.go:42", after := #[{ on := 1, ground := Ground.data }], guard := none }, { dst := some 79, op := Op.call { callee := Callee.builtin Builtin.append, args := #[Operand.tmp 76, Operand.tmp 78], argTypes := #[ 31, 31 ] }, type := 31, pos := "more.go:42", after := #[{ on := 0, ground := Ground.data }, { on := 2, ground := Ground.data }], guard := none }, { dst := some 6, op := Op.assign (Operand.tmp 79), type := 31, pos := "more.go:42", after := #[{ on := 3, ground := Ground.data }, { on := 3, ground := Ground.chain }, { on := 0, ground := Ground.phase }, { on := 1, ground := Ground.phase }, { on := 2, ground := Ground.phase }, { on := 3, ground := Ground.phase }], guard := none }] false).wp Try.prog Q { tmps := #[u0, u1, u2, u3, u4, u5, .slice pl qs.length cl, u7, u8, u9, .pointer (some ⟨E, 0, none⟩), u11, u12, u13, u14, u15, u16, u17, u18, u19, u20, u21, u22, u23, u24, u25, u26, u27, u28, u29, u30, u31, u32, u33, u34, u35, u36, u37, u38, u39, u40, u41, u42, u43, u44, u45, u46, u47, u48, u49, u50, u51, u52, u53, u54, u55, u56, u57, u58, u59, u60, u61, u62, u63, u64, u65, u66, u67, u68, u69, u70, u71, u72, u73, u74, u75, u76, u77, u78, u79, u80, u81, u82, u83, u84, u85, u86, u87, u88, u89, u90, u91, u92, u93, u94, u95, u96, u97, u98, u99, u100, u101, u102, u103, u104, u105, u106, u107, u108, u109, u110, u111, u112, u113, u114, u115, u116, u117, u118, u119], defers := [] } w := by
  have HQ := Lib.hid hQ
  clear hQ
  obtain ⟨i0, hi, hy0, hy1, hy2⟩ := info_node
  have HI := Lib.hid (And.intro hi (And.intro hy0 (And.intro hy1 hy2)))
  clear hi hy0 hy1 hy2
  obtain ⟨pk, ck, rfl, htl⟩ := hk
  obtain ⟨pa, ca, rfl, hat⟩ := ha
  obtain ⟨c0, c1, c2, c3, c4, c5, c6⟩ := hc
  rw [Nat.zero_add] at c1 c2 c3 c4 c5 c6
  have HA : Hid (AttrsP (fun b => H ≤ b) w (.slice pa d.attrs.length ca) d.attrs) := Lib.hid ⟨_, _, rfl, hat⟩
  have HK : Hid (NodesP (fun b => H ≤ b) w (.slice pk ks.len ck) ks) := Lib.hid ⟨_, _, rfl, htl⟩
  clear hat htl
  have HR := Lib.hid row
  have HT := Lib.hid tape
  have HU := Lib.hid turns
  have HNZ := Lib.hid names
  have HO := Lib.hid hown
  clear row tape turns names hown
  obtain ⟨W7, hW7⟩ : ∃ W7, W7 = w.alloc (.cells #[.int .i64 d.kind, .int .i64 d.space, .string ⟨d.name.toArray⟩, .slice pa d.attrs.length ca, .string ⟨d.text.toArray⟩, .int .i64 d.frm, .slice pk ks.len ck] 48) := ⟨_, rfl⟩
  have hb7 : Below w.heap.size w W7 := by rw [hW7]; exact (Below.refl _ w).alloc (Nat.le_refl _) _
  have HNEW : Hid (W7.heap[w.heap.size]? = some (.cells #[.int .i64 d.kind, .int .i64 d.space, .string ⟨d.name.toArray⟩, .slice pa d.attrs.length ca, .string ⟨d.text.toArray⟩, .int .i64 d.frm, .slice pk ks.len ck] 48)) := Lib.hid (by rw [hW7]; exact heap_alloc_new w _)
  have HB7 := Lib.hid hb7
  have HR7 : Hid (RowM base (.slice pl qs.length cl) qs W7) := Lib.hid (HR.out.turns (.of_below hb7 : Turns (Mk B w.heap.size) w W7) rfl hB)
  have HT7 := Lib.hid (HT.out.on hb7)
  have HU7 := Lib.hid (HU.out.nextB hb7)
  have HNZ7 : Hid (NamesZ g W7) := Lib.hid (HNZ.out.turns (.of_below hb7 : Turns (fun _ => False) w W7) id)
  have hsz : base ≤ W7.heap.size := by have := hb7.size; omega
  have HS7 : Hid (W7.heap.size = w.heap.size + 1) := Lib.hid (by rw [hW7]; simp)
  clear hb7
  go_wp2_with (first
    | (at_builtin; rw [← hW7]; refine wpList_append_lies _ rfl _ _ 31 rfl base 48 i0 (.agg #[.int .i64 0, .int .i64 0, .string ByteArray.empty, .slice none 0 0, .string ByteArray.empty, .int .i64 0, .slice none 0 0]) 7 104 Try.underlying31 HI.out.1 HI.out.2.1 HI.out.2.2.1 HI.out.2.2.2 rfl (by omega) (.slice pl qs.length cl) qs.length (nodeCells (qs.map (·.1))) rfl HR7.out.row ⟨w.heap.size, 0, none⟩ 1 1 [.int .i64 d.kind, .int .i64 d.space, .string ⟨d.name.toArray⟩, .slice pa d.attrs.length ca, .string ⟨d.text.toArray⟩, .int .i64 d.frm, .slice pk ks.len ck] rfl rfl (World.news_of_block (cs := #[.int .i64 d.kind, .int .i64 d.space, .string ⟨d.name.toArray⟩, .slice pa d.attrs.length ca, .string ⟨d.text.toArray⟩, .int .i64 d.frm, .slice pk ks.len ck]) HNEW.out) (by simp [Value.oneCell']) (by omega) (by unfold maxLen; omega) (by omega) hsz _ rfl ?_)
    | go_in)
  intro g8 cap8 w8 hr8 hg8 hor8 hlt8
  rw [← hW7] at hg8
  have hMa : AttrsP (fun b => base ≤ b ∧ some b ≠ (Value.slice pl qs.length cl).ownBlock) W7 (.slice pa d.attrs.length ca) d.attrs := (HA.out.kept (.of_below HB7.out)).mono fun b k _ => ⟨by omega, fun e => by have := HO.out b e.symm; omega⟩
  have hMk : NodesP (fun b => base ≤ b ∧ some b ≠ (Value.slice pl qs.length cl).ownBlock) W7 (.slice pk ks.len ck) ks := (HK.out.kept (.of_below HB7.out)).mono fun b k _ => ⟨by omega, fun e => by have := HO.out b e.symm; omega⟩
  have HM := Lib.hid (HR7.out.more (q := ((d, .slice pa d.attrs.length ca, .slice pk ks.len ck), ks)) hMa hMk hg8 hr8 (by rw [HS7.out]; exact hor8))
  have HAP := Lib.hid (app_step HR7.out hg8 HT7.out HU7.out HNZ7.out hB hgb)
  clear hr8 hg8 hor8 hlt8 hMa hMk
  go_wp2_with fail
  exact HQ.out _ _ _ _ _ _ ⟨_, _, rfl⟩ HM.out HAP.out.1 HAP.out.2.1 HAP.out.2.2

set_option maxHeartbeats 4000000 in
set_option maxRecDepth 100000 in
theorem made_reg19 {w0 W : World} {v : Value} {zs : List Int} {B a g base : Nat} {w : World} {Q : Exit → Act → World → Prop} {pl : Option Addr} {cl : Nat} {qs : List ((Nd × Value × Value) × Fo)} {u1 u2 u3 u4 u5 u7 u8 u9 u10 u11 u12 u13 u14 u15 u16 u17 u18 u19 u20 u21 u22 u23 u24 u25 u26 u27 u28 u29 u30 u31 u32 u33 u34 u35 u36 u37 u38 u39 u40 u41 u42 u43 u44 u45 u46 u47 u48 u49 u50 u51 u52 u53 u54 u55 u56 u57 u58 u59 u60 u61 u62 u63 u64 u65 u66 u67 u68 u69 u70 u71 u72 u73 u74 u75 u76 u77 u78 u79 u80 u81 u82 u83 u84 u85 u86 u87 u88 u89 u90 u91 u92 u93 u94 u95 u96 u97 u98 u99 u100 u101 u102 u103 u104 u105 u106 u107 u108 u109 u110 u111 u112 u113 u114 u115 u116 u117 u118 u119 : Value}
    (row : RowM base (.slice pl qs.length cl) qs w) (tape : TapeZ w0 v zs B a w) (turns : Turns (Mk B base) W w) (names : NamesZ g w)
    (hB : B < base) (hgb : g < base) (hgB : g ≠ B) (hq : qs.length ≤ 8) (hbw : base ≤ w.heap.size)
    (hQ : ∀ (x98 x99 x100 x101 x102 x103 x104 x105 x106 l' : Value) (w' : World), (∃ p cap, l' = .slice p (qs.length + 1) cap) → RowM base l' (qs ++ [(((textM zs a).1.1, .slice none 0 0, .slice none 0 0), .nil)]) w' → TapeZ w0 v zs B (textM zs a).2 w' → Turns (Mk B base) W w' → NamesZ g w' → Q .normal { tmps := #[.pointer (some ⟨B, 0, none⟩), u1, u2, u3, u4, u5, l', u7, u8, u9, u10, u11, u12, u13, u14, u15, u16, u17, u18, u19, u20, u21, u22, u23, u24, u25, u26, u27, u28, u29, u30, u31, u32, u33, u34, u35, u36, u37, u38, u39, u40, u41, u42, u43, u44, u45, u46, u47, u48, u49, u50, u51, u52, u53, u54, u55, u56, u57, u58, u59, u60, u61, u62, u63, u64, u65, u66, u67, u68, u69, u70, u71, u72, u73, u74, u75, u76, u77, u78, u79, u80, u81, u82, u83, u84, u85, u86, u87, u88, u89, u90, u91, u92, u93, u94, u95, u96, u97, x98, x99, x100, x101, x102, x103, x104, x105, x106, u107, u108, u109, u110, u111, u112, u113, u114, u115, u116, u117, u118, u119], defers := [] } w') :
    (Code.region 19 #[{ dst := some 98, op := Op.move (Operand.tmp 6), type := 31, pos := "more.go:25", after := #[], guard := none }, { dst := some 99, op := Op.buildSlice 84 8 #[(0, Operand.const (Value.string { data := #[111, 110, 101] })), (1, Operand.const (Value.string { data := #[32] })), (2, Operand.const (Value.string { data := #[116, 119, 111, 44, 32, 116, 104, 114, 101, 101] })), (3, Operand.const (Value.string { data := #[10] })), (4, Operand.const (Value.string { data := #[228, 184, 150] })), (5, Operand.const (Value.string { data := #[102, 111, 117, 114, 46] })), (6, Operand.const (Value.string { data := #[97, 32, 108, 111, 110, 103, 32, 116, 101, 120, 116, 44, 32, 119, 105, 116, 104, 32, 99, 111, 109, 109, 97, 115, 44, 32, 97, 110, 100, 32, 109, 111, 114, 101, 32, 111, 102, 32, 105, 116] })), (7, Operand.const (Value.string { data := #[120] }))], type := 84, pos := "more.go:25", after := #[], guard := none }, { dst := some 100, op := Op.move (Operand.tmp 0), type := 76, pos := "more.go:25", after := #[], guard := none }, { dst := some 101, op := Op.call { callee := Callee.value (Operand.func 47), args := #[Operand.tmp 100, Operand.const (Value.int IntKind.i64 8)], argTypes := #[ 76, 3 ] }, type := 3, pos := "more.go:25", after := #[{ on := 2, ground := Ground.data }], guard := none }, { dst := some 102, op := Op.indexAddr 84 (Operand.tmp 99) (Operand.tmp 101), type := 0, pos := "more.go:25", after := #[{ on := 1, ground := Ground.data }, { on := 3, ground := Ground.data }], guard := none }, { dst := some 103, op := Op.load 9 (Operand.tmp 102), type := 9, pos := "more.go:25", after := #[{ on := 4, ground := Ground.data }], guard := none }, { dst := some 104, op := Op.build 48 #[(0, Operand.const (Value.int IntKind.i64 2)), (4, Operand.tmp 103)], type := 48, pos := "more.go:25", after := #[{ on := 5, ground := Ground.data }], guard := none }, { dst := some 105, op := Op.buildSlice 31 1 #[(0, Operand.tmp 104)], type := 31, pos := "more.go:25", after := #[{ on := 6, ground := Ground.data }], guard := none }, { dst := some 106, op := Op.call { callee := Callee.builtin Builtin.append, args := #[Operand.tmp 98, Operand.tmp 105], argTypes := #[ 31, 31 ] }, type := 31, pos := "more.go:25", after := #[{ on := 0, ground := Ground.data }, { on := 7, ground := Ground.data }, { on := 3, ground := Ground.chain }], guard := none }, { dst := some 6, op := Op.assign (Operand.tmp 106), type := 31, pos := "more.go:25", after := #[{ on := 8, ground := Ground.data }, { on := 8, ground := Ground.chain }, { on := 0, ground := Ground.phase }, { on := 1, ground := Ground.phase }, { on := 2, ground := Ground.phase }, { on := 3, ground := Ground.phase }, { on := 4, ground := Ground.phase }, { on := 5, ground := Ground.phase }, { on := 6, ground := Ground.phase }, { on := 7, ground := Ground.phase }, { on := 8, ground := Ground.phase }], guard := none }] false).wp Try.prog Q { tmps := #[.pointer (some ⟨B, 0, none⟩), u1, u2, u3, u4, u5, .slice pl qs.length cl, u7, u8, u9, u10, u11, u12, u13, u14, u15, u16, u17, u18, u19, u20, u21, u22, u23, u24, u25, u26, u27, u28, u29, u30, u31, u32, u33, u34, u35, u36, u37, u38, u39, u40, u41, u42, u43, u44, u45, u46, u47, u48, u49, u50, u51, u52, u53, u54, u55, u56, u57, u58, u59, u60, u61, u62, u63, u64, u65, u66, u67, u68, u69, u70, u71, u72, u73, u74, u75, u76, u77, u78, u79, u80, u81, u82, u83, u84, u85, u86, u87, u88, u89, u90, u91, u92, u93, u94, u95, u96, u97, u98, u99, u100, u101, u102, u103, u104, u105, u106, u107, u108, u109, u110, u111, u112, u113, u114, u115, u116, u117, u118, u119], defers := [] } w := by
  have HQ := Lib.hid hQ
  clear hQ
  obtain ⟨i0, hi, hy0, hy1, hy2⟩ := info_node
  have HI := Lib.hid (And.intro hi (And.intro hy0 (And.intro hy1 hy2)))
  clear hi hy0 hy1 hy2
  have HN : Hid (∀ W, TapeZ w0 v zs B a W → Calls Try.prog 47 #[.pointer (some ⟨B, 0, none⟩), .int .i64 ((8 : Nat) : Int)] W (fun e W' => e = .returned (.int .i64 (((nextZ zs a 8).1 : Nat) : Int)) ∧ Stepped B W W' ∧ TapeZ w0 v zs B (nextZ zs a 8).2 W')) := Lib.hid fun W h => tape_nextZ w0 v zs B a 8 W h (by omega) (by omega)
  have hb5 : Below w.heap.size w (w.alloc (.cells cells8 9)) := (Below.refl _ w).alloc (Nat.le_refl _) _
  have HB5 := Lib.hid hb5
  have HT5 := Lib.hid (tape.on hb5)
  have hr := nextZ_lt zs a 8 (by omega)
  have hc5 := news_strs w val8 cells8 9 cells_8 _ hr
  have hBw := tape.lt
  have HR := Lib.hid row
  have HU := Lib.hid turns
  have HNZ := Lib.hid names
  have HND : Hid (textM zs a = ((⟨2, 0, [], [], val8.getD (nextZ zs a 8).1 [], 0⟩, .nil), (nextZ zs a 8).2)) := Lib.hid rfl
  have HC5 := Lib.hid hc5
  clear row tape turns names hb5 hc5
  generalize textM zs a = ND at *
  generalize (nextZ zs a 8).1 = r at *
  generalize (nextZ zs a 8).2 = a9 at *
  generalize val8.getD r [] = tx at *
  obtain ⟨TX, hTX⟩ : ∃ TX : ByteArray, (⟨tx.toArray⟩ : ByteArray) = TX := ⟨_, rfl⟩
  rw [hTX] at HC5
  have HTX := Lib.hid hTX
  clear hTX
  have r0 : (0 : Int) ≤ (r : Int) := by omega
  have r1 : (r : Int) < 8 := by omega
  go_wp2_with fail
  refine (HN.out (w.alloc (.cells cells8 9)) HT5.out).mono ?_
  rintro e w6 ⟨rfl, hs6, ht6⟩
  have hx := (hs6.cell w.heap.size r (.inl (by omega))).trans HC5.out
  have hTn6 : Turns (fun b => b = B) w w6 := (Turns.of_below HB5.out).trans (hs6.turns.mono fun _ _ e => .inl e)
  have HT6 := Lib.hid ht6
  have HTN6 := Lib.hid hTn6
  have HS6 : Hid (base ≤ w6.heap.size) := Lib.hid (by have := hTn6.size; omega)
  clear hs6 ht6 hTn6 HC5 HT5 HB5
  obtain ⟨W7, hW7⟩ : ∃ W7, W7 = w6.alloc (.cells #[.int .i64 2, .int .i64 0, .string ⟨#[]⟩, .slice none 0 0, .string TX, .int .i64 0, .slice none 0 0] 48) := ⟨_, rfl⟩
  have hb7 : Below w6.heap.size w6 W7 := by rw [hW7]; exact (Below.refl _ w6).alloc (Nat.le_refl _) _
  have HNEW : Hid (W7.heap[w6.heap.size]? = some (.cells #[.int .i64 2, .int .i64 0, .string ⟨#[]⟩, .slice none 0 0, .string TX, .int .i64 0, .slice none 0 0] 48)) := Lib.hid (by rw [hW7]; exact heap_alloc_new w6 _)
  have hTN7 : Turns (fun b => b = B) w W7 := HTN6.out.trans (.of_below hb7)
  have HR7 : Hid (RowM base (.slice pl qs.length cl) qs W7) := Lib.hid (HR.out.turns (hTN7.mono (L := Mk B w.heap.size) fun _ _ e => .inl e) rfl hB)
  have HT7 := Lib.hid (HT6.out.on hb7)
  have HU7 : Hid (Turns (Mk B base) W W7) := Lib.hid (HU.out.next (hTN7.mono fun _ _ e => .inl e))
  have HNZ7 : Hid (NamesZ g W7) := Lib.hid (HNZ.out.turns hTN7 hgB)
  have hsz : base ≤ W7.heap.size := by have := hb7.size; have := HS6.out; omega
  have HS7 : Hid (W7.heap.size = w6.heap.size + 1) := Lib.hid (by rw [hW7]; simp)
  clear hb7 hTN7 HR HU HNZ HT6 HTN6
  go_wp2_with (first
    | (at_builtin; rw [← hW7]; refine wpList_append_lies _ rfl _ _ 31 rfl base 48 i0 (.agg #[.int .i64 0, .int .i64 0, .string ByteArray.empty, .slice none 0 0, .string ByteArray.empty, .int .i64 0, .slice none 0 0]) 7 104 Try.underlying31 HI.out.1 HI.out.2.1 HI.out.2.2.1 HI.out.2.2.2 rfl (by omega) (.slice pl qs.length cl) qs.length (nodeCells (qs.map (·.1))) rfl HR7.out.row ⟨w6.heap.size, 0, none⟩ 1 1 [.int .i64 2, .int .i64 0, .string ⟨#[]⟩, .slice none 0 0, .string TX, .int .i64 0, .slice none 0 0] rfl rfl (World.news_of_block (cs := #[.int .i64 2, .int .i64 0, .string ⟨#[]⟩, .slice none 0 0, .string TX, .int .i64 0, .slice none 0 0]) HNEW.out) (by simp [Value.oneCell']) (by omega) (by unfold maxLen; omega) (by omega) hsz _ rfl ?_)
    | go_in)
  intro g8 cap8 w8 hr8 hg8 hor8 hlt8
  rw [← hW7] at hg8
  have HM := Lib.hid (HR7.out.more (q := ((⟨2, 0, [], [], tx, 0⟩, .slice none 0 0, .slice none 0 0), .nil)) (AttrsP.nil _ _ _ _) (NodesP.nil _ _ _ _) hg8 (by rw [← HTX.out] at hr8; exact hr8) (by rw [HS7.out]; exact hor8))
  have HAP := Lib.hid (app_step HR7.out hg8 HT7.out HU7.out HNZ7.out hB hgb)
  clear hr8 hg8 hor8 hlt8
  go_wp2_with fail
  refine HQ.out _ _ _ _ _ _ _ _ _ _ _ ⟨_, _, rfl⟩ ?_ ?_ HAP.out.2.1 HAP.out.2.2
  · rw [HND.out]
    exact HM.out
  · rw [HND.out]
    exact HAP.out.1

set_option maxHeartbeats 4000000 in
set_option maxRecDepth 100000 in
theorem made_reg21 {w0 W : World} {v : Value} {zs : List Int} {B a g base : Nat} {w : World} {Q : Exit → Act → World → Prop} {pl : Option Addr} {cl : Nat} {qs : List ((Nd × Value × Value) × Fo)} {u1 u2 u3 u4 u5 u7 u8 u9 u10 u11 u12 u13 u14 u15 u16 u17 u18 u19 u20 u21 u22 u23 u24 u25 u26 u27 u28 u29 u30 u31 u32 u33 u34 u35 u36 u37 u38 u39 u40 u41 u42 u43 u44 u45 u46 u47 u48 u49 u50 u51 u52 u53 u54 u55 u56 u57 u58 u59 u60 u61 u62 u63 u64 u65 u66 u67 u68 u69 u70 u71 u72 u73 u74 u75 u76 u77 u78 u79 u80 u81 u82 u83 u84 u85 u86 u87 u88 u89 u90 u91 u92 u93 u94 u95 u96 u97 u98 u99 u100 u101 u102 u103 u104 u105 u106 u107 u108 u109 u110 u111 u112 u113 u114 u115 u116 u117 u118 u119 : Value}
    (row : RowM base (.slice pl qs.length cl) qs w) (tape : TapeZ w0 v zs B a w) (turns : Turns (Mk B base) W w) (names : NamesZ g w)
    (hB : B < base) (hgb : g < base) (hgB : g ≠ B) (hq : qs.length ≤ 8) (hbw : base ≤ w.heap.size)
    (hQ : ∀ (x110 x111 x112 x113 x114 x115 x116 x117 x118 l' : Value) (w' : World), (∃ p cap, l' = .slice p (qs.length + 1) cap) → RowM base l' (qs ++ [(((noteM zs a).1.1, .slice none 0 0, .slice none 0 0), .nil)]) w' → TapeZ w0 v zs B (noteM zs a).2 w' → Turns (Mk B base) W w' → NamesZ g w' → Q .normal { tmps := #[.pointer (some ⟨B, 0, none⟩), u1, u2, u3, u4, u5, l', u7, u8, u9, u10, u11, u12, u13, u14, u15, u16, u17, u18, u19, u20, u21, u22, u23, u24, u25, u26, u27, u28, u29, u30, u31, u32, u33, u34, u35, u36, u37, u38, u39, u40, u41, u42, u43, u44, u45, u46, u47, u48, u49, u50, u51, u52, u53, u54, u55, u56, u57, u58, u59, u60, u61, u62, u63, u64, u65, u66, u67, u68, u69, u70, u71, u72, u73, u74, u75, u76, u77, u78, u79, u80, u81, u82, u83, u84, u85, u86, u87, u88, u89, u90, u91, u92, u93, u94, u95, u96, u97, u98, u99, u100, u101, u102, u103, u104, u105, u106, u107, u108, u109, x110, x111, x112, x113, x114, x115, x116, x117, x118, u119], defers := [] } w') :
    (Code.region 21 #[{ dst := some 110, op := Op.move (Operand.tmp 6), type := 31, pos := "more.go:27", after := #[], guard := none }, { dst := some 111, op := Op.buildSlice 84 2 #[(0, Operand.const (Value.string { data := #[] })), (1, Operand.const (Value.string { data := #[110, 111, 116, 101] }))], type := 84, pos := "more.go:27", after := #[], guard := none }, { dst := some 112, op := Op.move (Operand.tmp 0), type := 76, pos := "more.go:27", after := #[], guard := none }, { dst := some 113, op := Op.call { callee := Callee.value (Operand.func 47), args := #[Operand.tmp 112, Operand.const (Value.int IntKind.i64 2)], argTypes := #[ 76, 3 ] }, type := 3, pos := "more.go:27", after := #[{ on := 2, ground := Ground.data }], guard := none }, { dst := some 114, op := Op.indexAddr 84 (Operand.tmp 111) (Operand.tmp 113), type := 0, pos := "more.go:27", after := #[{ on := 1, ground := Ground.data }, { on := 3, ground := Ground.data }], guard := none }, { dst := some 115, op := Op.load 9 (Operand.tmp 114), type := 9, pos := "more.go:27", after := #[{ on := 4, ground := Ground.data }], guard := none }, { dst := some 116, op := Op.build 48 #[(0, Operand.const (Value.int IntKind.i64 3)), (4, Operand.tmp 115)], type := 48, pos := "more.go:27", after := #[{ on := 5, ground := Ground.data }], guard := none }, { dst := some 117, op := Op.buildSlice 31 1 #[(0, Operand.tmp 116)], type := 31, pos := "more.go:27", after := #[{ on := 6, ground := Ground.data }], guard := none }, { dst := some 118, op := Op.call { callee := Callee.builtin Builtin.append, args := #[Operand.tmp 110, Operand.tmp 117], argTypes := #[ 31, 31 ] }, type := 31, pos := "more.go:27", after := #[{ on := 0, ground := Ground.data }, { on := 7, ground := Ground.data }, { on := 3, ground := Ground.chain }], guard := none }, { dst := some 6, op := Op.assign (Operand.tmp 118), type := 31, pos := "more.go:27", after := #[{ on := 8, ground := Ground.data }, { on := 8, ground := Ground.chain }, { on := 0, ground := Ground.phase }, { on := 1, ground := Ground.phase }, { on := 2, ground := Ground.phase }, { on := 3, ground := Ground.phase }, { on := 4, ground := Ground.phase }, { on := 5, ground := Ground.phase }, { on := 6, ground := Ground.phase }, { on := 7, ground := Ground.phase }, { on := 8, ground := Ground.phase }], guard := none }] false).wp Try.prog Q { tmps := #[.pointer (some ⟨B, 0, none⟩), u1, u2, u3, u4, u5, .slice pl qs.length cl, u7, u8, u9, u10, u11, u12, u13, u14, u15, u16, u17, u18, u19, u20, u21, u22, u23, u24, u25, u26, u27, u28, u29, u30, u31, u32, u33, u34, u35, u36, u37, u38, u39, u40, u41, u42, u43, u44, u45, u46, u47, u48, u49, u50, u51, u52, u53, u54, u55, u56, u57, u58, u59, u60, u61, u62, u63, u64, u65, u66, u67, u68, u69, u70, u71, u72, u73, u74, u75, u76, u77, u78, u79, u80, u81, u82, u83, u84, u85, u86, u87, u88, u89, u90, u91, u92, u93, u94, u95, u96, u97, u98, u99, u100, u101, u102, u103, u104, u105, u106, u107, u108, u109, u110, u111, u112, u113, u114, u115, u116, u117, u118, u119], defers := [] } w := by
  have HQ := Lib.hid hQ
  clear hQ
  obtain ⟨i0, hi, hy0, hy1, hy2⟩ := info_node
  have HI := Lib.hid (And.intro hi (And.intro hy0 (And.intro hy1 hy2)))
  clear hi hy0 hy1 hy2
  have HN : Hid (∀ W, TapeZ w0 v zs B a W → Calls Try.prog 47 #[.pointer (some ⟨B, 0, none⟩), .int .i64 ((2 : Nat) : Int)] W (fun e W' => e = .returned (.int .i64 (((nextZ zs a 2).1 : Nat) : Int)) ∧ Stepped B W W' ∧ TapeZ w0 v zs B (nextZ zs a 2).2 W')) := Lib.hid fun W h => tape_nextZ w0 v zs B a 2 W h (by omega) (by omega)
  have hb5 : Below w.heap.size w (w.alloc (.cells cells2 9)) := (Below.refl _ w).alloc (Nat.le_refl _) _
  have HB5 := Lib.hid hb5
  have HT5 := Lib.hid (tape.on hb5)
  have hr := nextZ_lt zs a 2 (by omega)
  have hc5 := news_strs w val2 cells2 9 cells_2 _ hr
  have hBw := tape.lt
  have HR := Lib.hid row
  have HU := Lib.hid turns
  have HNZ := Lib.hid names
  have HND : Hid (noteM zs a = ((⟨3, 0, [], [], val2.getD (nextZ zs a 2).1 [], 0⟩, .nil), (nextZ zs a 2).2)) := Lib.hid rfl
  have HC5 := Lib.hid hc5
  clear row tape turns names hb5 hc5
  generalize noteM zs a = ND at *
  generalize (nextZ zs a 2).1 = r at *
  generalize (nextZ zs a 2).2 = a9 at *
  generalize val2.getD r [] = tx at *
  obtain ⟨TX, hTX⟩ : ∃ TX : ByteArray, (⟨tx.toArray⟩ : ByteArray) = TX := ⟨_, rfl⟩
  rw [hTX] at HC5
  have HTX := Lib.hid hTX
  clear hTX
  have r0 : (0 : Int) ≤ (r : Int) := by omega
  have r1 : (r : Int) < 2 := by omega
  go_wp2_with fail
  refine (HN.out (w.alloc (.cells cells2 9)) HT5.out).mono ?_
  rintro e w6 ⟨rfl, hs6, ht6⟩
  have hx := (hs6.cell w.heap.size r (.inl (by omega))).trans HC5.out
  have hTn6 : Turns (fun b => b = B) w w6 := (Turns.of_below HB5.out).trans (hs6.turns.mono fun _ _ e => .inl e)
  have HT6 := Lib.hid ht6
  have HTN6 := Lib.hid hTn6
  have HS6 : Hid (base ≤ w6.heap.size) := Lib.hid (by have := hTn6.size; omega)
  clear hs6 ht6 hTn6 HC5 HT5 HB5
  obtain ⟨W7, hW7⟩ : ∃ W7, W7 = w6.alloc (.cells #[.int .i64 3, .int .i64 0, .string ⟨#[]⟩, .slice none 0 0, .string TX, .int .i64 0, .slice none 0 0] 48) := ⟨_, rfl⟩
  have hb7 : Below w6.heap.size w6 W7 := by rw [hW7]; exact (Below.refl _ w6).alloc (Nat.le_refl _) _
  have HNEW : Hid (W7.heap[w6.heap.size]? = some (.cells #[.int .i64 3, .int .i64 0, .string ⟨#[]⟩, .slice none 0 0, .string TX, .int .i64 0, .slice none 0 0] 48)) := Lib.hid (by rw [hW7]; exact heap_alloc_new w6 _)
  have hTN7 : Turns (fun b => b = B) w W7 := HTN6.out.trans (.of_below hb7)
  have HR7 : Hid (RowM base (.slice pl qs.length cl) qs W7) := Lib.hid (HR.out.turns (hTN7.mono (L := Mk B w.heap.size) fun _ _ e => .inl e) rfl hB)
  have HT7 := Lib.hid (HT6.out.on hb7)
  have HU7 : Hid (Turns (Mk B base) W W7) := Lib.hid (HU.out.next (hTN7.mono fun _ _ e => .inl e))
  have HNZ7 : Hid (NamesZ g W7) := Lib.hid (HNZ.out.turns hTN7 hgB)
  have hsz : base ≤ W7.heap.size := by have := hb7.size; have := HS6.out; omega
  have HS7 : Hid (W7.heap.size = w6.heap.size + 1) := Lib.hid (by rw [hW7]; simp)
  clear hb7 hTN7 HR HU HNZ HT6 HTN6
  go_wp2_with (first
    | (at_builtin; rw [← hW7]; refine wpList_append_lies _ rfl _ _ 31 rfl base 48 i0 (.agg #[.int .i64 0, .int .i64 0, .string ByteArray.empty, .slice none 0 0, .string ByteArray.empty, .int .i64 0, .slice none 0 0]) 7 104 Try.underlying31 HI.out.1 HI.out.2.1 HI.out.2.2.1 HI.out.2.2.2 rfl (by omega) (.slice pl qs.length cl) qs.length (nodeCells (qs.map (·.1))) rfl HR7.out.row ⟨w6.heap.size, 0, none⟩ 1 1 [.int .i64 3, .int .i64 0, .string ⟨#[]⟩, .slice none 0 0, .string TX, .int .i64 0, .slice none 0 0] rfl rfl (World.news_of_block (cs := #[.int .i64 3, .int .i64 0, .string ⟨#[]⟩, .slice none 0 0, .string TX, .int .i64 0, .slice none 0 0]) HNEW.out) (by simp [Value.oneCell']) (by omega) (by unfold maxLen; omega) (by omega) hsz _ rfl ?_)
    | go_in)
  intro g8 cap8 w8 hr8 hg8 hor8 hlt8
  rw [← hW7] at hg8
  have HM := Lib.hid (HR7.out.more (q := ((⟨3, 0, [], [], tx, 0⟩, .slice none 0 0, .slice none 0 0), .nil)) (AttrsP.nil _ _ _ _) (NodesP.nil _ _ _ _) hg8 (by rw [← HTX.out] at hr8; exact hr8) (by rw [HS7.out]; exact hor8))
  have HAP := Lib.hid (app_step HR7.out hg8 HT7.out HU7.out HNZ7.out hB hgb)
  clear hr8 hg8 hor8 hlt8
  go_wp2_with fail
  refine HQ.out _ _ _ _ _ _ _ _ _ _ _ ⟨_, _, rfl⟩ ?_ ?_ HAP.out.2.1 HAP.out.2.2
  · rw [HND.out]
    exact HM.out
  · rw [HND.out]
    exact HAP.out.1
end Go.Proofs.Ytbadckkcjjfnoaa
