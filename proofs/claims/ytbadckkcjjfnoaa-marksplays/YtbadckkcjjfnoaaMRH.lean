/-
  The drawn region of the law MarksPlays where a mark is made, over an opaque post.
-/
import Derived.Test.YtbadckkcjjfnoaaMRG
import Derived.Test.YtbadckkcjjfnoaaDHeld
namespace Go.Proofs.Ytbadckkcjjfnoaa
open Go.RowKit

theorem cell_set7 {W : World} {E i j : Nat} {v u : Value} (h : W.cell? ⟨E, j, none⟩ = some u) : (W.setCell ⟨E, i, none⟩ v).cell? ⟨E, j, none⟩ = some (if i = j then v else u) := by
  by_cases e : i = j
  · subst e
    rw [if_pos rfl]
    exact World.cell?_setCell_same _ _ (u := u) _ h
  · rw [if_neg e, World.cell?_setCell_other _ _ _ _ (by intro k; injection k with _ k; exact e k)]
    exact h
theorem plays_fin {w W : World} {X : Nat} {v0 v1 v2 va : Value} {T : TypeId} {l : List (List UInt8 × List UInt8)} (a b c : Value) (hX : W.heap[X]? = some (.cells #[v0, v1, v2] T (0, 0))) (hx : w.heap.size ≤ X) (hb : Below w.heap.size w W) (ha : AttrsP (fun b => w.heap.size ≤ b ∧ b ≠ X) W va l) :
    (((W.setCell ⟨X, 0, none⟩ a).setCell ⟨X, 1, none⟩ b).setCell ⟨X, 2, none⟩ c).cell? ⟨X, 0, none⟩ = some a ∧ (((W.setCell ⟨X, 0, none⟩ a).setCell ⟨X, 1, none⟩ b).setCell ⟨X, 2, none⟩ c).cell? ⟨X, 1, none⟩ = some b ∧ (((W.setCell ⟨X, 0, none⟩ a).setCell ⟨X, 1, none⟩ b).setCell ⟨X, 2, none⟩ c).cell? ⟨X, 2, none⟩ = some c ∧ X < (((W.setCell ⟨X, 0, none⟩ a).setCell ⟨X, 1, none⟩ b).setCell ⟨X, 2, none⟩ c).heap.size ∧ AttrsP (fun b => w.heap.size ≤ b) (((W.setCell ⟨X, 0, none⟩ a).setCell ⟨X, 1, none⟩ b).setCell ⟨X, 2, none⟩ c) va l ∧ Below w.heap.size w (((W.setCell ⟨X, 0, none⟩ a).setCell ⟨X, 1, none⟩ b).setCell ⟨X, 2, none⟩ c) := by
  have c0 := (block_cell hX 0).1
  have c1 := (block_cell hX 1).1
  have c2 := (block_cell hX 2).1
  simp at c0 c1 c2
  have ht : Turns (fun b => b = X) W (((W.setCell ⟨X, 0, none⟩ a).setCell ⟨X, 1, none⟩ b).setCell ⟨X, 2, none⟩ c) := (((Turns.refl (fun b => b = X) W).setCell (B := X) (.inl rfl) 0 a).setCell (B := X) (.inl rfl) 1 b).setCell (B := X) (.inl rfl) 2 c
  have xl := heap_lt hX
  refine ⟨?_, ?_, ?_, Nat.lt_of_lt_of_le xl ht.size, (ha.kept (ht.kept fun b _ k => k.2)).mono fun b k _ => k.1, hb.trans (ht.below hb.size fun b hb k => by omega)⟩
  · exact (cell_set7 (cell_set7 (cell_set7 c0))).trans (by simp)
  · exact (cell_set7 (cell_set7 (cell_set7 c1))).trans (by simp)
  · exact (cell_set7 (cell_set7 (cell_set7 c2))).trans (by simp)
set_option maxHeartbeats 8000000 in
set_option maxRecDepth 100000 in
theorem plays_reg10 {w : World} {T i : Nat} {z2 z3 : Int} {nm : List UInt8} {at_ : List (List UInt8 × List UInt8)} {Q : Exit → Act → World → Prop} {u0 u1 u2 u3 u4 u7 u8 u9 u10 u11 u12 u13 u14 u15 u16 u17 u18 u19 u20 u21 u22 u23 u24 u25 u26 u27 u28 u29 u30 u31 u32 u33 u34 u35 u36 u37 u38 u39 u40 u41 u42 u43 u44 u45 u46 u47 u48 u49 u50 u51 u52 u53 u54 u55 u56 u57 u58 u59 u60 u61 u62 u63 u64 u65 u66 u67 u68 u69 u70 u71 u72 u73 u74 u75 u76 u77 u78 u79 u80 u81 u82 u83 u84 u85 u86 u87 u88 u89 u90 u91 u92 u93 u94 u95 u96 u97 u98 u99 u100 u101 u102 u103 u104 u105 u106 u107 u108 u109 u110 u111 u112 u113 u114 u115 u116 u117 u118 u119 u120 u121 u122 u123 u124 u125 u126 u127 u128 u129 u130 u131 u132 u133 : Value} (hT : T < w.heap.size) (hz2 : w.cell? ⟨T, 2, none⟩ = some (.int .i64 z2)) (hz3 : w.cell? ⟨T, 3, none⟩ = some (.int .i64 z3))
    (hN : ∀ W, Calls Try.prog 24 #[.int .i64 z2] W (TellsN nm W)) (hAT : ∀ W, Calls Try.prog 25 #[.int .i64 z3] W (AttrsOut at_ W))
    (hQ : ∀ (x31 x32 x33 x34 x35 x36 x37 x38 : Value) (X : Nat) (pa : Option Addr) (ca : Nat) (w' : World), w'.cell? ⟨X, 0, none⟩ = some (.int .i64 (i : Int)) → w'.cell? ⟨X, 1, none⟩ = some (.string ⟨nm.toArray⟩) → w'.cell? ⟨X, 2, none⟩ = some (.slice pa at_.length ca) → w.heap.size ≤ X → X < w'.heap.size → AttrsP (fun b => w.heap.size ≤ b) w' (.slice pa at_.length ca) at_ → Below w.heap.size w w' → Q .normal { tmps := #[u0, u1, u2, u3, u4, .int .i64 (i : Int), .pointer (some ⟨T, 0, none⟩), .pointer (some ⟨X, 0, none⟩), u8, u9, u10, u11, u12, u13, u14, u15, u16, u17, u18, u19, u20, u21, u22, u23, u24, u25, u26, u27, u28, u29, u30, x31, x32, x33, x34, x35, x36, x37, x38, u39, u40, u41, u42, u43, u44, u45, u46, u47, u48, u49, u50, u51, u52, u53, u54, u55, u56, u57, u58, u59, u60, u61, u62, u63, u64, u65, u66, u67, u68, u69, u70, u71, u72, u73, u74, u75, u76, u77, u78, u79, u80, u81, u82, u83, u84, u85, u86, u87, u88, u89, u90, u91, u92, u93, u94, u95, u96, u97, u98, u99, u100, u101, u102, u103, u104, u105, u106, u107, u108, u109, u110, u111, u112, u113, u114, u115, u116, u117, u118, u119, u120, u121, u122, u123, u124, u125, u126, u127, u128, u129, u130, u131, u132, u133], defers := [] } w') :
    (Code.region 10 #[{ dst := some 31, op := Op.move (Operand.tmp 5), type := 3, pos := "law.go:90", after := #[], guard := none }, { dst := some 32, op := Op.fieldAddr 59 (Operand.tmp 6) 2, type := 0, pos := "law.go:90", after := #[], guard := none }, { dst := some 33, op := Op.load 3 (Operand.tmp 32), type := 3, pos := "law.go:90", after := #[{ on := 1, ground := Ground.data }], guard := none }, { dst := some 34, op := Op.call { callee := Callee.value (Operand.func 24), args := #[Operand.tmp 33], argTypes := #[ 3 ] }, type := 9, pos := "law.go:90", after := #[{ on := 2, ground := Ground.data }], guard := none }, { dst := some 35, op := Op.fieldAddr 59 (Operand.tmp 6) 3, type := 0, pos := "law.go:90", after := #[], guard := none }, { dst := some 36, op := Op.load 3 (Operand.tmp 35), type := 3, pos := "law.go:90", after := #[{ on := 4, ground := Ground.data }], guard := none }, { dst := some 37, op := Op.call { callee := Callee.value (Operand.func 25), args := #[Operand.tmp 36], argTypes := #[ 3 ] }, type := 41, pos := "law.go:90", after := #[{ on := 5, ground := Ground.data }, { on := 3, ground := Ground.chain }], guard := none }, { dst := some 38, op := Op.build 63 #[(0, Operand.tmp 31), (1, Operand.tmp 34), (2, Operand.tmp 37)], type := 63, pos := "law.go:90", after := #[{ on := 0, ground := Ground.data }, { on := 3, ground := Ground.data }, { on := 6, ground := Ground.data }], guard := none }, { dst := some 7, op := Op.alloc 63, type := 0, pos := "law.go:90", after := #[], guard := none }, { dst := none, op := Op.store 63 (Operand.tmp 7) (Operand.tmp 38), type := 0, pos := "law.go:90", after := #[{ on := 8, ground := Ground.data }, { on := 7, ground := Ground.data }, { on := 6, ground := Ground.chain }, { on := 0, ground := Ground.phase }, { on := 1, ground := Ground.phase }, { on := 2, ground := Ground.phase }, { on := 3, ground := Ground.phase }, { on := 4, ground := Ground.phase }, { on := 5, ground := Ground.phase }, { on := 6, ground := Ground.phase }, { on := 7, ground := Ground.phase }, { on := 8, ground := Ground.phase }], guard := none }] true).wp Try.prog Q { tmps := #[u0, u1, u2, u3, u4, .int .i64 (i : Int), .pointer (some ⟨T, 0, none⟩), u7, u8, u9, u10, u11, u12, u13, u14, u15, u16, u17, u18, u19, u20, u21, u22, u23, u24, u25, u26, u27, u28, u29, u30, u31, u32, u33, u34, u35, u36, u37, u38, u39, u40, u41, u42, u43, u44, u45, u46, u47, u48, u49, u50, u51, u52, u53, u54, u55, u56, u57, u58, u59, u60, u61, u62, u63, u64, u65, u66, u67, u68, u69, u70, u71, u72, u73, u74, u75, u76, u77, u78, u79, u80, u81, u82, u83, u84, u85, u86, u87, u88, u89, u90, u91, u92, u93, u94, u95, u96, u97, u98, u99, u100, u101, u102, u103, u104, u105, u106, u107, u108, u109, u110, u111, u112, u113, u114, u115, u116, u117, u118, u119, u120, u121, u122, u123, u124, u125, u126, u127, u128, u129, u130, u131, u132, u133], defers := [] } w := by
  refine wp_region_noPanic ?_
  have HQ := Lib.hid hQ
  have HN := Lib.hid hN
  have HAT := Lib.hid hAT
  have HSB : Hid (∀ W, Below w.heap.size w W → W.cell? ⟨T, 2, none⟩ = some (.int .i64 z2) ∧ W.cell? ⟨T, 3, none⟩ = some (.int .i64 z3) ∧ Below w.heap.size w W) := Lib.hid fun W hb => ⟨(hb.cell (p := ⟨T, 2, none⟩) hT).trans hz2, (hb.cell (p := ⟨T, 3, none⟩) hT).trans hz3, hb⟩
  have hbd : Below w.heap.size w w.drew := (Below.refl _ w).drew
  clear hQ hN hAT
  refine wp_region_heldS_drew (s := 9) (S := fun W => W.cell? ⟨T, 2, none⟩ = some (.int .i64 z2) ∧ W.cell? ⟨T, 3, none⟩ = some (.int .i64 z3) ∧ Below w.heap.size w W) (by kernel_rfl) (HSB.out _ hbd) (fun hHeld => ?_)
  generalize w.drew = W0 at *
  refine wpAnyS_take (i := 0) (oi := { dst := some 31, op := Op.move (Operand.tmp 5), type := 3, pos := "law.go:90", after := #[], guard := none }) (v := ?_) rfl (by kernel_rfl) (by kernel_rfl) (by kernel_rfl) (by kernel_rfl) (fun _ _ _ h => h) (Or.inl ⟨by rfl, ?_⟩) (by assumption) ?_
  rotate_left
  focus (intro w hSw; (try dsimp only at hSw); go_simp; (try with_reducible rfl))
  try simp only [Act.put, List.setIfInBounds_toArray, List.set_cons_zero, List.set_cons_succ]
  refine wpAnyS_take (i := 1) (oi := { dst := some 32, op := Op.fieldAddr 59 (Operand.tmp 6) 2, type := 0, pos := "law.go:90", after := #[], guard := none }) (v := ?_) rfl (by kernel_rfl) (by kernel_rfl) (by kernel_rfl) (by kernel_rfl) (fun _ _ _ h => h) (Or.inl ⟨by rfl, ?_⟩) (by assumption) ?_
  rotate_left
  focus (intro w hSw; (try dsimp only at hSw); go_simp; (try with_reducible rfl))
  try simp only [Act.put, List.setIfInBounds_toArray, List.set_cons_zero, List.set_cons_succ]
  refine wpAnyS_take (i := 2) (oi := { dst := some 33, op := Op.load 3 (Operand.tmp 32), type := 3, pos := "law.go:90", after := #[{ on := 1, ground := Ground.data }], guard := none }) (v := ?_) rfl (by kernel_rfl) (by kernel_rfl) (by kernel_rfl) (by kernel_rfl) (fun _ _ _ h => h) (Or.inl ⟨by rfl, ?_⟩) (by assumption) ?_
  rotate_left
  focus (intro w hSw; (try dsimp only at hSw); go_simp; (try with_reducible rfl))
  try simp only [Act.put, List.setIfInBounds_toArray, List.set_cons_zero, List.set_cons_succ]
  refine wpAnyS_take (i := 4) (oi := { dst := some 35, op := Op.fieldAddr 59 (Operand.tmp 6) 3, type := 0, pos := "law.go:90", after := #[], guard := none }) (v := ?_) rfl (by kernel_rfl) (by kernel_rfl) (by kernel_rfl) (by kernel_rfl) (fun _ _ _ h => h) (Or.inl ⟨by rfl, ?_⟩) (by assumption) ?_
  rotate_left
  focus (intro w hSw; (try dsimp only at hSw); go_simp; (try with_reducible rfl))
  try simp only [Act.put, List.setIfInBounds_toArray, List.set_cons_zero, List.set_cons_succ]
  refine wpAnyS_take (i := 5) (oi := { dst := some 36, op := Op.load 3 (Operand.tmp 35), type := 3, pos := "law.go:90", after := #[{ on := 4, ground := Ground.data }], guard := none }) (v := ?_) rfl (by kernel_rfl) (by kernel_rfl) (by kernel_rfl) (by kernel_rfl) (fun _ _ _ h => h) (Or.inl ⟨by rfl, ?_⟩) (by assumption) ?_
  rotate_left
  focus (intro w hSw; (try dsimp only at hSw); go_simp; (try with_reducible rfl))
  try simp only [Act.put, List.setIfInBounds_toArray, List.set_cons_zero, List.set_cons_succ]
  refine wpAnyS_ready (rs := [3, 8]) (by kernel_rfl) (by simp) ?_
  refine AllReadyS.cons (o := { dst := some 34, op := Op.call { callee := Callee.value (Operand.func 24), args := #[Operand.tmp 33], argTypes := #[ 3 ] }, type := 9, pos := "law.go:90", after := #[{ on := 2, ground := Ground.data }], guard := none }) rfl (fun K hK => ?_) (AllReadyS.cons (o := { dst := some 7, op := Op.alloc 63, type := 0, pos := "law.go:90", after := #[], guard := none }) rfl (fun K hK => ?_) AllReadyS.nil)
  · go_simp
    refine (HN.out _).mono ?_
    rintro e W1 ⟨rfl, q1⟩
    have hb1 := hbd.trans (q1.mono hbd.size)
    go_wp2_with fail
    refine hK.out _ _ (HSB.out _ hb1) (fun hHeld => ?_)
    clear hK K
    try simp only [Act.put, List.setIfInBounds_toArray, List.set_cons_zero, List.set_cons_succ]
    refine wpAnyS_ready (rs := [6, 8]) (by kernel_rfl) (by simp) ?_
    refine AllReadyS.cons (o := { dst := some 37, op := Op.call { callee := Callee.value (Operand.func 25), args := #[Operand.tmp 36], argTypes := #[ 3 ] }, type := 41, pos := "law.go:90", after := #[{ on := 5, ground := Ground.data }, { on := 3, ground := Ground.chain }], guard := none }) rfl (fun K hK => ?_) (AllReadyS.cons (o := { dst := some 7, op := Op.alloc 63, type := 0, pos := "law.go:90", after := #[], guard := none }) rfl (fun K hK => ?_) AllReadyS.nil)
    · go_simp
      refine (HAT.out _).mono ?_
      rintro e W2 ⟨pa2, ca2, rfl, ha2, q2⟩
      have hb2 := hb1.trans (q2.mono hb1.size)
      skip
      have ha2 := ha2.mono (fun b k _ => Nat.le_trans hb1.size k)
      go_wp2_with fail
      refine hK.out _ _ (HSB.out _ hb2) (fun hHeld => ?_)
      clear hK K
      try simp only [Act.put, List.setIfInBounds_toArray, List.set_cons_zero, List.set_cons_succ]
      refine wpAnyS_take (i := 7) (oi := { dst := some 38, op := Op.build 63 #[(0, Operand.tmp 31), (1, Operand.tmp 34), (2, Operand.tmp 37)], type := 63, pos := "law.go:90", after := #[{ on := 0, ground := Ground.data }, { on := 3, ground := Ground.data }, { on := 6, ground := Ground.data }], guard := none }) (v := ?_) rfl (by kernel_rfl) (by kernel_rfl) (by kernel_rfl) (by kernel_rfl) (fun _ _ _ h => h) (Or.inl ⟨by rfl, ?_⟩) (by assumption) ?_
      rotate_left
      focus (intro w hSw; (try dsimp only at hSw); go_simp; (try with_reducible rfl))
      try simp only [Act.put, List.setIfInBounds_toArray, List.set_cons_zero, List.set_cons_succ]
      refine wpAnyS_ready (rs := [8]) (by kernel_rfl) (by simp) ?_
      refine AllReadyS.cons (o := { dst := some 7, op := Op.alloc 63, type := 0, pos := "law.go:90", after := #[], guard := none }) rfl (fun K hK => ?_) AllReadyS.nil
      go_simp
      have q3 : Below W2.heap.size W2 (W2.alloc (.cells #[.int .i64 0, .string ⟨#[]⟩, .slice none 0 0] 63)) := (Below.refl _ _).alloc (Nat.le_refl _) _
      have hb3 := hb2.trans (q3.mono hb2.size)
      have hX3 : (W2.alloc (.cells #[.int .i64 0, .string ⟨#[]⟩, .slice none 0 0] 63)).heap[W2.heap.size]? = some (.cells #[.int .i64 0, .string ⟨#[]⟩, .slice none 0 0] 63 (0, 0)) := heap_alloc_new _ _
      have hx3 : w.heap.size ≤ W2.heap.size := hb2.size
      have ha3 := (AttrsP.mono ha2 (Q := fun b => w.heap.size ≤ b ∧ b ≠ W2.heap.size) (fun b k hb => ⟨k, by omega⟩)).kept (.of_below q3)
      refine hK.out _ _ (HSB.out _ hb3) (fun hHeld => ?_)
      clear hK K
      try simp only [Act.put, List.setIfInBounds_toArray, List.set_cons_zero, List.set_cons_succ]
      change wpAnyS _ _ _ _ _ _ _ _ _ (W2.alloc (.cells #[.int .i64 0, .string ⟨#[]⟩, .slice none 0 0] 63))
      generalize (W2.alloc (.cells #[.int .i64 0, .string ⟨#[]⟩, .slice none 0 0] 63)) = W3 at *
      generalize W2.heap.size = X3 at *
      clear hHeld
      have hHeld := HSB.out _ hb3
      have cB0 := (block_cell hX3 0).1
      have cB1 := (block_cell hX3 1).1
      have cB2 := (block_cell hX3 2).1
      have fB0 := (block_cell hX3 0).2
      have fB1 := (block_cell hX3 1).2
      have fB2 := (block_cell hX3 2).2
      simp at cB0 cB1 cB2
      have xl := heap_lt hX3
      refine wpAnyS_ready (rs := [9]) (by kernel_rfl) (by simp) ?_
      refine AllReadyS.last (o := { dst := none, op := Op.store 63 (Operand.tmp 7) (Operand.tmp 38), type := 0, pos := "law.go:90", after := #[{ on := 8, ground := Ground.data }, { on := 7, ground := Ground.data }, { on := 6, ground := Ground.chain }, { on := 0, ground := Ground.phase }, { on := 1, ground := Ground.phase }, { on := 2, ground := Ground.phase }, { on := 3, ground := Ground.phase }, { on := 4, ground := Ground.phase }, { on := 5, ground := Ground.phase }, { on := 6, ground := Ground.phase }, { on := 7, ground := Ground.phase }, { on := 8, ground := Ground.phase }], guard := none }) rfl (fun K hK => ?_)
      go_simp
      have hfin := plays_fin (.int .i64 (i : Int)) (.string ⟨nm.toArray⟩) (.slice pa2 at_.length ca2) hX3 hx3 hb3 ha3
      refine hK.out _ _ ?_
      refine wpAnyS_done (by kernel_rfl) ?_ _
      try simp only [Act.put, List.setIfInBounds_toArray, List.set_cons_zero, List.set_cons_succ]
      exact NoPanic.normal (HQ.out _ _ _ _ _ _ _ _ _ _ _ _ hfin.1 hfin.2.1 hfin.2.2.1 hx3 hfin.2.2.2.1 hfin.2.2.2.2.1 hfin.2.2.2.2.2)
    · go_simp
      have q4 : Below W1.heap.size W1 (W1.alloc (.cells #[.int .i64 0, .string ⟨#[]⟩, .slice none 0 0] 63)) := (Below.refl _ _).alloc (Nat.le_refl _) _
      have hb4 := hb1.trans (q4.mono hb1.size)
      have hX4 : (W1.alloc (.cells #[.int .i64 0, .string ⟨#[]⟩, .slice none 0 0] 63)).heap[W1.heap.size]? = some (.cells #[.int .i64 0, .string ⟨#[]⟩, .slice none 0 0] 63 (0, 0)) := heap_alloc_new _ _
      have hx4 : w.heap.size ≤ W1.heap.size := hb1.size
      refine hK.out _ _ (HSB.out _ hb4) (fun hHeld => ?_)
      clear hK K
      try simp only [Act.put, List.setIfInBounds_toArray, List.set_cons_zero, List.set_cons_succ]
      change wpAnyS _ _ _ _ _ _ _ _ _ (W1.alloc (.cells #[.int .i64 0, .string ⟨#[]⟩, .slice none 0 0] 63))
      generalize (W1.alloc (.cells #[.int .i64 0, .string ⟨#[]⟩, .slice none 0 0] 63)) = W4 at *
      generalize W1.heap.size = X4 at *
      clear hHeld
      have hHeld := HSB.out _ hb4
      refine wpAnyS_ready (rs := [6]) (by kernel_rfl) (by simp) ?_
      refine AllReadyS.cons (o := { dst := some 37, op := Op.call { callee := Callee.value (Operand.func 25), args := #[Operand.tmp 36], argTypes := #[ 3 ] }, type := 41, pos := "law.go:90", after := #[{ on := 5, ground := Ground.data }, { on := 3, ground := Ground.chain }], guard := none }) rfl (fun K hK => ?_) AllReadyS.nil
      go_simp
      refine (HAT.out _).mono ?_
      rintro e W5 ⟨pa5, ca5, rfl, ha5, q5⟩
      have hb5 := hb4.trans (q5.mono hb4.size)
      have xo5 := heap_lt hX4
      have ha5 := ha5.mono (Q := fun b => w.heap.size ≤ b ∧ b ≠ X4) (fun b k _ => ⟨Nat.le_trans hb4.size k, by omega⟩)
      have hX5 := (q5.block _ (heap_lt hX4)).trans hX4
      go_wp2_with fail
      refine hK.out _ _ (HSB.out _ hb5) (fun hHeld => ?_)
      clear hK K
      try simp only [Act.put, List.setIfInBounds_toArray, List.set_cons_zero, List.set_cons_succ]
      refine wpAnyS_take (i := 7) (oi := { dst := some 38, op := Op.build 63 #[(0, Operand.tmp 31), (1, Operand.tmp 34), (2, Operand.tmp 37)], type := 63, pos := "law.go:90", after := #[{ on := 0, ground := Ground.data }, { on := 3, ground := Ground.data }, { on := 6, ground := Ground.data }], guard := none }) (v := ?_) rfl (by kernel_rfl) (by kernel_rfl) (by kernel_rfl) (by kernel_rfl) (fun _ _ _ h => h) (Or.inl ⟨by rfl, ?_⟩) (by assumption) ?_
      rotate_left
      focus (intro w hSw; (try dsimp only at hSw); go_simp; (try with_reducible rfl))
      try simp only [Act.put, List.setIfInBounds_toArray, List.set_cons_zero, List.set_cons_succ]
      have cB0 := (block_cell hX5 0).1
      have cB1 := (block_cell hX5 1).1
      have cB2 := (block_cell hX5 2).1
      have fB0 := (block_cell hX5 0).2
      have fB1 := (block_cell hX5 1).2
      have fB2 := (block_cell hX5 2).2
      simp at cB0 cB1 cB2
      have xl := heap_lt hX5
      refine wpAnyS_ready (rs := [9]) (by kernel_rfl) (by simp) ?_
      refine AllReadyS.last (o := { dst := none, op := Op.store 63 (Operand.tmp 7) (Operand.tmp 38), type := 0, pos := "law.go:90", after := #[{ on := 8, ground := Ground.data }, { on := 7, ground := Ground.data }, { on := 6, ground := Ground.chain }, { on := 0, ground := Ground.phase }, { on := 1, ground := Ground.phase }, { on := 2, ground := Ground.phase }, { on := 3, ground := Ground.phase }, { on := 4, ground := Ground.phase }, { on := 5, ground := Ground.phase }, { on := 6, ground := Ground.phase }, { on := 7, ground := Ground.phase }, { on := 8, ground := Ground.phase }], guard := none }) rfl (fun K hK => ?_)
      go_simp
      have hfin := plays_fin (.int .i64 (i : Int)) (.string ⟨nm.toArray⟩) (.slice pa5 at_.length ca5) hX5 hx4 hb5 ha5
      refine hK.out _ _ ?_
      refine wpAnyS_done (by kernel_rfl) ?_ _
      try simp only [Act.put, List.setIfInBounds_toArray, List.set_cons_zero, List.set_cons_succ]
      exact NoPanic.normal (HQ.out _ _ _ _ _ _ _ _ _ _ _ _ hfin.1 hfin.2.1 hfin.2.2.1 hx4 hfin.2.2.2.1 hfin.2.2.2.2.1 hfin.2.2.2.2.2)
  · go_simp
    have q6 : Below W0.heap.size W0 (W0.alloc (.cells #[.int .i64 0, .string ⟨#[]⟩, .slice none 0 0] 63)) := (Below.refl _ _).alloc (Nat.le_refl _) _
    have hb6 := hbd.trans (q6.mono hbd.size)
    have hX6 : (W0.alloc (.cells #[.int .i64 0, .string ⟨#[]⟩, .slice none 0 0] 63)).heap[W0.heap.size]? = some (.cells #[.int .i64 0, .string ⟨#[]⟩, .slice none 0 0] 63 (0, 0)) := heap_alloc_new _ _
    have hx6 : w.heap.size ≤ W0.heap.size := hbd.size
    refine hK.out _ _ (HSB.out _ hb6) (fun hHeld => ?_)
    clear hK K
    try simp only [Act.put, List.setIfInBounds_toArray, List.set_cons_zero, List.set_cons_succ]
    change wpAnyS _ _ _ _ _ _ _ _ _ (W0.alloc (.cells #[.int .i64 0, .string ⟨#[]⟩, .slice none 0 0] 63))
    generalize (W0.alloc (.cells #[.int .i64 0, .string ⟨#[]⟩, .slice none 0 0] 63)) = W6 at *
    generalize W0.heap.size = X6 at *
    clear hHeld
    have hHeld := HSB.out _ hb6
    refine wpAnyS_ready (rs := [3]) (by kernel_rfl) (by simp) ?_
    refine AllReadyS.cons (o := { dst := some 34, op := Op.call { callee := Callee.value (Operand.func 24), args := #[Operand.tmp 33], argTypes := #[ 3 ] }, type := 9, pos := "law.go:90", after := #[{ on := 2, ground := Ground.data }], guard := none }) rfl (fun K hK => ?_) AllReadyS.nil
    go_simp
    refine (HN.out _).mono ?_
    rintro e W7 ⟨rfl, q7⟩
    have hb7 := hb6.trans (q7.mono hb6.size)
    have hX7 := (q7.block _ (heap_lt hX6)).trans hX6
    go_wp2_with fail
    refine hK.out _ _ (HSB.out _ hb7) (fun hHeld => ?_)
    clear hK K
    try simp only [Act.put, List.setIfInBounds_toArray, List.set_cons_zero, List.set_cons_succ]
    refine wpAnyS_ready (rs := [6]) (by kernel_rfl) (by simp) ?_
    refine AllReadyS.cons (o := { dst := some 37, op := Op.call { callee := Callee.value (Operand.func 25), args := #[Operand.tmp 36], argTypes := #[ 3 ] }, type := 41, pos := "law.go:90", after := #[{ on := 5, ground := Ground.data }, { on := 3, ground := Ground.chain }], guard := none }) rfl (fun K hK => ?_) AllReadyS.nil
    go_simp
    refine (HAT.out _).mono ?_
    rintro e W8 ⟨pa8, ca8, rfl, ha8, q8⟩
    have hb8 := hb7.trans (q8.mono hb7.size)
    have xo8 := heap_lt hX7
    have ha8 := ha8.mono (Q := fun b => w.heap.size ≤ b ∧ b ≠ X6) (fun b k _ => ⟨Nat.le_trans hb7.size k, by omega⟩)
    have hX8 := (q8.block _ (heap_lt hX7)).trans hX7
    go_wp2_with fail
    refine hK.out _ _ (HSB.out _ hb8) (fun hHeld => ?_)
    clear hK K
    try simp only [Act.put, List.setIfInBounds_toArray, List.set_cons_zero, List.set_cons_succ]
    refine wpAnyS_take (i := 7) (oi := { dst := some 38, op := Op.build 63 #[(0, Operand.tmp 31), (1, Operand.tmp 34), (2, Operand.tmp 37)], type := 63, pos := "law.go:90", after := #[{ on := 0, ground := Ground.data }, { on := 3, ground := Ground.data }, { on := 6, ground := Ground.data }], guard := none }) (v := ?_) rfl (by kernel_rfl) (by kernel_rfl) (by kernel_rfl) (by kernel_rfl) (fun _ _ _ h => h) (Or.inl ⟨by rfl, ?_⟩) (by assumption) ?_
    rotate_left
    focus (intro w hSw; (try dsimp only at hSw); go_simp; (try with_reducible rfl))
    try simp only [Act.put, List.setIfInBounds_toArray, List.set_cons_zero, List.set_cons_succ]
    have cB0 := (block_cell hX8 0).1
    have cB1 := (block_cell hX8 1).1
    have cB2 := (block_cell hX8 2).1
    have fB0 := (block_cell hX8 0).2
    have fB1 := (block_cell hX8 1).2
    have fB2 := (block_cell hX8 2).2
    simp at cB0 cB1 cB2
    have xl := heap_lt hX8
    refine wpAnyS_ready (rs := [9]) (by kernel_rfl) (by simp) ?_
    refine AllReadyS.last (o := { dst := none, op := Op.store 63 (Operand.tmp 7) (Operand.tmp 38), type := 0, pos := "law.go:90", after := #[{ on := 8, ground := Ground.data }, { on := 7, ground := Ground.data }, { on := 6, ground := Ground.chain }, { on := 0, ground := Ground.phase }, { on := 1, ground := Ground.phase }, { on := 2, ground := Ground.phase }, { on := 3, ground := Ground.phase }, { on := 4, ground := Ground.phase }, { on := 5, ground := Ground.phase }, { on := 6, ground := Ground.phase }, { on := 7, ground := Ground.phase }, { on := 8, ground := Ground.phase }], guard := none }) rfl (fun K hK => ?_)
    go_simp
    have hfin := plays_fin (.int .i64 (i : Int)) (.string ⟨nm.toArray⟩) (.slice pa8 at_.length ca8) hX8 hx6 hb8 ha8
    refine hK.out _ _ ?_
    refine wpAnyS_done (by kernel_rfl) ?_ _
    try simp only [Act.put, List.setIfInBounds_toArray, List.set_cons_zero, List.set_cons_succ]
    exact NoPanic.normal (HQ.out _ _ _ _ _ _ _ _ _ _ _ _ hfin.1 hfin.2.1 hfin.2.2.1 hx6 hfin.2.2.2.1 hfin.2.2.2.2.1 hfin.2.2.2.2.2)
end Go.Proofs.Ytbadckkcjjfnoaa
