/-
  The walk of the law DomPlays: true, and nothing old is changed. Any row of calls.
-/
import Derived.Test.YtkoijkdhmfnlbaaDTame
import Derived.Test.YtkoijkdhmfnlbaaDEq2
import Derived.Test.YtkoijkdhmfnlbaaDOpsIn
namespace Go.Proofs.Ytkoijkdhmfnlbaa
open Go.RowKit

set_option maxHeartbeats 4000000 in
set_option maxRecDepth 100000 in
theorem play_reg9 {w : World} {g o n cap i : Nat} {z0 z1 z2 z3 : Int} {s : List UInt8} {Q : Exit → Act → World → Prop} {u1 u2 u3 u4 u5 u6 u8 u9 u10 u11 u12 u13 u14 u15 u16 u17 u18 u19 u20 u21 u22 u23 u24 u25 u26 u27 u28 u29 u30 u31 u32 u33 u34 u35 u36 u37 u38 u39 u40 u41 u42 u43 u44 u45 u46 u47 u48 u49 u50 u51 u52 : Value} (hi : i < n) (h0 : w.cell? ⟨g, o + i * 5, none⟩ = some (.int .i64 z0)) (h1 : w.cell? ⟨g, o + i * 5 + 1, none⟩ = some (.int .i64 z1)) (h2 : w.cell? ⟨g, o + i * 5 + 2, none⟩ = some (.int .i64 z2)) (h3 : w.cell? ⟨g, o + i * 5 + 3, none⟩ = some (.int .i64 z3)) (h4 : w.cell? ⟨g, o + i * 5 + 4, none⟩ = some (.string ⟨s.toArray⟩))
    (hQ : ∀ (y25 y26 y27 y28 : Value) (T : Nat) (w' : World), w.heap.size ≤ T → w'.heap[T]? = some (.cells #[.int .i64 z0, .int .i64 z1, .int .i64 z2, .int .i64 z3, .string ⟨s.toArray⟩] 29 (0, 0)) → Below w.heap.size w w' → Q .normal { tmps := #[.slice (some ⟨g, o, none⟩) n cap, u1, u2, u3, u4, u5, u6, .int .i64 (i : Int), .pointer (some ⟨T, 0, none⟩), u9, u10, u11, u12, u13, u14, u15, u16, u17, u18, u19, u20, u21, u22, u23, u24, y25, y26, y27, y28, u29, u30, u31, u32, u33, u34, u35, u36, u37, u38, u39, u40, u41, u42, u43, u44, u45, u46, u47, u48, u49, u50, u51, u52], defers := [] } w') :
    (Code.region 9 #[{ dst := some 25, op := Op.move (Operand.tmp 0), type := 22, pos := "law.go:112", after := #[], guard := none }, { dst := some 26, op := Op.move (Operand.tmp 7), type := 3, pos := "law.go:112", after := #[], guard := none }, { dst := some 27, op := Op.indexAddr 22 (Operand.tmp 25) (Operand.tmp 26), type := 0, pos := "law.go:112", after := #[{ on := 0, ground := Ground.data }, { on := 1, ground := Ground.data }], guard := none }, { dst := some 28, op := Op.load 29 (Operand.tmp 27), type := 29, pos := "law.go:112", after := #[{ on := 2, ground := Ground.data }], guard := none }, { dst := some 8, op := Op.alloc 29, type := 0, pos := "law.go:112", after := #[], guard := none }, { dst := none, op := Op.store 29 (Operand.tmp 8) (Operand.tmp 28), type := 0, pos := "law.go:112", after := #[{ on := 4, ground := Ground.data }, { on := 3, ground := Ground.data }, { on := 0, ground := Ground.phase }, { on := 1, ground := Ground.phase }, { on := 2, ground := Ground.phase }, { on := 3, ground := Ground.phase }, { on := 4, ground := Ground.phase }], guard := none }] false).wp Try.prog Q { tmps := #[.slice (some ⟨g, o, none⟩) n cap, u1, u2, u3, u4, u5, u6, .int .i64 (i : Int), u8, u9, u10, u11, u12, u13, u14, u15, u16, u17, u18, u19, u20, u21, u22, u23, u24, u25, u26, u27, u28, u29, u30, u31, u32, u33, u34, u35, u36, u37, u38, u39, u40, u41, u42, u43, u44, u45, u46, u47, u48, u49, u50, u51, u52], defers := [] } w := by
  have HQ := Lib.hid hQ
  have k0 : (i : Int) < (n : Int) := by omega
  have k1 : (0 : Int) ≤ (i : Int) := by omega
  clear hQ
  go_wp2_with fail
  exact HQ.out _ _ _ _ _ _ (Nat.le_refl _) (heap_alloc_new w _) ((Below.refl _ _).alloc (Nat.le_refl _) _)
set_option maxHeartbeats 4000000 in
set_option maxRecDepth 100000 in
theorem play_reg13 {v w : World} {T Br g c n : Nat} {z0 z1 z2 z3 : Int} {s : List UInt8} {Q : Exit → Act → World → Prop} {u0 u1 u2 u3 u4 u5 u7 u9 u10 u11 u12 u13 u14 u15 u16 u17 u18 u19 u20 u21 u22 u23 u24 u25 u26 u27 u28 u29 u30 u31 u32 u33 u34 u35 u36 u37 u38 u39 u40 u41 u42 u43 u44 u45 u46 u47 u48 u49 u50 u51 u52 : Value} (hvT : v.heap.size ≤ T) (hv : Below v.heap.size v w) (x : w.heap[T]? = some (.cells #[.int .i64 z0, .int .i64 z1, .int .i64 z2, .int .i64 z3, .string ⟨s.toArray⟩] 29 (0, 0))) (hBr : Br < w.heap.size) (hl : w.cell? ⟨Br, 0, none⟩ = some (.slice (some ⟨g, 0, none⟩) n c)) (hn : n ≤ 100000) (hz : Int64 z0 ∧ Int64 z1 ∧ Int64 z2 ∧ Int64 z3)
    (hQ : ∀ (y35 y36 y37 y38 y39 y40 y41 : Value) (y1 y2 y3 : Int) (w' : World), Int64 y1 → Int64 y2 → Int64 y3 → w'.heap[T]? = some (.cells #[.int .i64 z0, .int .i64 y1, .int .i64 y2, .int .i64 y3, .string ⟨s.toArray⟩] 29 (0, 0)) → Below v.heap.size v w' → Q .normal { tmps := #[u0, u1, u2, u3, u4, u5, .pointer (some ⟨Br, 0, none⟩), u7, .pointer (some ⟨T, 0, none⟩), u9, u10, u11, u12, u13, u14, u15, u16, u17, u18, u19, u20, u21, u22, u23, u24, u25, u26, u27, u28, u29, u30, u31, u32, u33, u34, y35, y36, y37, y38, y39, y40, y41, u42, u43, u44, u45, u46, u47, u48, u49, u50, u51, u52], defers := [] } w') :
    (Code.region 13 #[{ dst := some 35, op := Op.load 29 (Operand.tmp 8), type := 29, pos := "law.go:117", after := #[], guard := none }, { dst := some 36, op := Op.move (Operand.tmp 6), type := 26, pos := "law.go:117", after := #[], guard := none }, { dst := some 37, op := Op.nilCheck (Operand.tmp 36), type := 0, pos := "law.go:117", after := #[{ on := 1, ground := Ground.data }], guard := none }, { dst := some 38, op := Op.fieldAddr 35 (Operand.tmp 37) 0, type := 0, pos := "law.go:117", after := #[{ on := 2, ground := Ground.data }], guard := none }, { dst := some 39, op := Op.load 31 (Operand.tmp 38), type := 31, pos := "law.go:117", after := #[{ on := 3, ground := Ground.data }], guard := none }, { dst := some 40, op := Op.call { callee := Callee.builtin Builtin.len, args := #[Operand.tmp 39], argTypes := #[ 31 ] }, type := 3, pos := "law.go:117", after := #[{ on := 4, ground := Ground.data }], guard := none }, { dst := some 41, op := Op.call { callee := Callee.value (Operand.func 7), args := #[Operand.tmp 35, Operand.tmp 40], argTypes := #[ 29, 3 ] }, type := 29, pos := "law.go:117", after := #[{ on := 0, ground := Ground.data }, { on := 5, ground := Ground.data }], guard := none }, { dst := none, op := Op.store 29 (Operand.tmp 8) (Operand.tmp 41), type := 0, pos := "law.go:117", after := #[{ on := 6, ground := Ground.data }, { on := 6, ground := Ground.chain }, { on := 0, ground := Ground.phase }, { on := 1, ground := Ground.phase }, { on := 2, ground := Ground.phase }, { on := 3, ground := Ground.phase }, { on := 4, ground := Ground.phase }, { on := 5, ground := Ground.phase }, { on := 6, ground := Ground.phase }], guard := none }] true).wp Try.prog Q { tmps := #[u0, u1, u2, u3, u4, u5, .pointer (some ⟨Br, 0, none⟩), u7, .pointer (some ⟨T, 0, none⟩), u9, u10, u11, u12, u13, u14, u15, u16, u17, u18, u19, u20, u21, u22, u23, u24, u25, u26, u27, u28, u29, u30, u31, u32, u33, u34, u35, u36, u37, u38, u39, u40, u41, u42, u43, u44, u45, u46, u47, u48, u49, u50, u51, u52], defers := [] } w := by
  refine wp_region_noPanic ?_
  have HQ := Lib.hid hQ
  have HZ := Lib.hid hz
  clear hQ hz
  generalize hTX : (⟨s.toArray⟩ : ByteArray) = TX at *
  have HTX := Lib.hid hTX
  have HX : Hid (w.drew.heap[T]? = some (.cells #[.int .i64 z0, .int .i64 z1, .int .i64 z2, .int .i64 z3, .string TX] 29 (0, 0))) := Lib.hid x
  have HV : Hid (Below v.heap.size v w.drew) := Lib.hid hv.drew
  have HSB : Hid (∀ W, Below w.drew.heap.size w.drew W → W.cell? ⟨T, 0, none⟩ = some (.int .i64 z0) ∧ W.cell? ⟨T, 1, none⟩ = some (.int .i64 z1) ∧ W.cell? ⟨T, 2, none⟩ = some (.int .i64 z2) ∧ W.cell? ⟨T, 3, none⟩ = some (.int .i64 z3) ∧ W.cell? ⟨T, 4, none⟩ = some (.string TX) ∧ W.cell? ⟨Br, 0, none⟩ = some (.slice (some ⟨g, 0, none⟩) n c)) := Lib.hid fun W hb => by
    have xx := (hb.block T (heap_lt HX.out)).trans HX.out
    obtain ⟨e0, e1, e2, e3, e4⟩ := blk5 xx
    exact ⟨e0, e1, e2, e3, e4, (hb.cell (p := ⟨Br, 0, none⟩) hBr).trans hl⟩
  clear hTX x hv hBr hl
  have h0 := HSB.out _ (Below.refl _ _)
  refine wp_region_heldL_drew (S := fun W => W.cell? ⟨T, 0, none⟩ = some (.int .i64 z0) ∧ W.cell? ⟨T, 1, none⟩ = some (.int .i64 z1) ∧ W.cell? ⟨T, 2, none⟩ = some (.int .i64 z2) ∧ W.cell? ⟨T, 3, none⟩ = some (.int .i64 z3) ∧ W.cell? ⟨T, 4, none⟩ = some (.string TX) ∧ W.cell? ⟨Br, 0, none⟩ = some (.slice (some ⟨g, 0, none⟩) n c)) (late := [7]) (by kernel_rfl) ?_ (fun hHeld => ?_)
  · exact h0
  generalize w.drew = W0 at *
  clear h0
  have HRE : Hid (∀ i ∈ [0, 1, 2, 3, 4, 5], ∀ s ∈ [7], ReachL .any #[{ dst := some 35, op := Op.load 29 (Operand.tmp 8), type := 29, pos := "law.go:117", after := #[], guard := none }, { dst := some 36, op := Op.move (Operand.tmp 6), type := 26, pos := "law.go:117", after := #[], guard := none }, { dst := some 37, op := Op.nilCheck (Operand.tmp 36), type := 0, pos := "law.go:117", after := #[{ on := 1, ground := Ground.data }], guard := none }, { dst := some 38, op := Op.fieldAddr 35 (Operand.tmp 37) 0, type := 0, pos := "law.go:117", after := #[{ on := 2, ground := Ground.data }], guard := none }, { dst := some 39, op := Op.load 31 (Operand.tmp 38), type := 31, pos := "law.go:117", after := #[{ on := 3, ground := Ground.data }], guard := none }, { dst := some 40, op := Op.call { callee := Callee.builtin Builtin.len, args := #[Operand.tmp 39], argTypes := #[ 31 ] }, type := 3, pos := "law.go:117", after := #[{ on := 4, ground := Ground.data }], guard := none }, { dst := some 41, op := Op.call { callee := Callee.value (Operand.func 7), args := #[Operand.tmp 35, Operand.tmp 40], argTypes := #[ 29, 3 ] }, type := 29, pos := "law.go:117", after := #[{ on := 0, ground := Ground.data }, { on := 5, ground := Ground.data }], guard := none }, { dst := none, op := Op.store 29 (Operand.tmp 8) (Operand.tmp 41), type := 0, pos := "law.go:117", after := #[{ on := 6, ground := Ground.data }, { on := 6, ground := Ground.chain }, { on := 0, ground := Ground.phase }, { on := 1, ground := Ground.phase }, { on := 2, ground := Ground.phase }, { on := 3, ground := Ground.phase }, { on := 4, ground := Ground.phase }, { on := 5, ground := Ground.phase }, { on := 6, ground := Ground.phase }], guard := none }] s i) := Lib.hid (lateOk_spec (f := 8) (by kernel_rfl))
  refine wpAnyL_take (i := 0) (oi := { dst := some 35, op := Op.load 29 (Operand.tmp 8), type := 29, pos := "law.go:117", after := #[], guard := none }) (v := ?_) rfl (by kernel_rfl) (by kernel_rfl) (by kernel_rfl) (by kernel_rfl) (HRE.out 0 (by decide)) (fun _ _ _ h => h) (Or.inl ⟨by rfl, ?_⟩) (by assumption) ?_
  rotate_left
  focus (intro w hSw; (try dsimp only at hSw); go_simp; (try with_reducible rfl))
  try simp only [Act.put, List.setIfInBounds_toArray, List.set_cons_zero, List.set_cons_succ]
  refine wpAnyL_take (i := 1) (oi := { dst := some 36, op := Op.move (Operand.tmp 6), type := 26, pos := "law.go:117", after := #[], guard := none }) (v := ?_) rfl (by kernel_rfl) (by kernel_rfl) (by kernel_rfl) (by kernel_rfl) (HRE.out 1 (by decide)) (fun _ _ _ h => h) (Or.inl ⟨by rfl, ?_⟩) (by assumption) ?_
  rotate_left
  focus (intro w hSw; (try dsimp only at hSw); go_simp; (try with_reducible rfl))
  try simp only [Act.put, List.setIfInBounds_toArray, List.set_cons_zero, List.set_cons_succ]
  refine wpAnyL_take (i := 2) (oi := { dst := some 37, op := Op.nilCheck (Operand.tmp 36), type := 0, pos := "law.go:117", after := #[{ on := 1, ground := Ground.data }], guard := none }) (v := ?_) rfl (by kernel_rfl) (by kernel_rfl) (by kernel_rfl) (by kernel_rfl) (HRE.out 2 (by decide)) (fun _ _ _ h => h) (Or.inl ⟨by rfl, ?_⟩) (by assumption) ?_
  rotate_left
  focus (intro w hSw; (try dsimp only at hSw); go_simp; (try with_reducible rfl))
  try simp only [Act.put, List.setIfInBounds_toArray, List.set_cons_zero, List.set_cons_succ]
  refine wpAnyL_take (i := 3) (oi := { dst := some 38, op := Op.fieldAddr 35 (Operand.tmp 37) 0, type := 0, pos := "law.go:117", after := #[{ on := 2, ground := Ground.data }], guard := none }) (v := ?_) rfl (by kernel_rfl) (by kernel_rfl) (by kernel_rfl) (by kernel_rfl) (HRE.out 3 (by decide)) (fun _ _ _ h => h) (Or.inl ⟨by rfl, ?_⟩) (by assumption) ?_
  rotate_left
  focus (intro w hSw; (try dsimp only at hSw); go_simp; (try with_reducible rfl))
  try simp only [Act.put, List.setIfInBounds_toArray, List.set_cons_zero, List.set_cons_succ]
  refine wpAnyL_take (i := 4) (oi := { dst := some 39, op := Op.load 31 (Operand.tmp 38), type := 31, pos := "law.go:117", after := #[{ on := 3, ground := Ground.data }], guard := none }) (v := ?_) rfl (by kernel_rfl) (by kernel_rfl) (by kernel_rfl) (by kernel_rfl) (HRE.out 4 (by decide)) (fun _ _ _ h => h) (Or.inl ⟨by rfl, ?_⟩) (by assumption) ?_
  rotate_left
  focus (intro w hSw; (try dsimp only at hSw); go_simp; (try with_reducible rfl))
  try simp only [Act.put, List.setIfInBounds_toArray, List.set_cons_zero, List.set_cons_succ]
  refine wpAnyL_take (i := 5) (oi := { dst := some 40, op := Op.call { callee := Callee.builtin Builtin.len, args := #[Operand.tmp 39], argTypes := #[ 31 ] }, type := 3, pos := "law.go:117", after := #[{ on := 4, ground := Ground.data }], guard := none }) (v := ?_) rfl (by kernel_rfl) (by kernel_rfl) (by kernel_rfl) (by kernel_rfl) (HRE.out 5 (by decide)) (fun _ _ _ h => h) (Or.inl ⟨by rfl, ?_⟩) (by assumption) ?_
  rotate_left
  focus (intro w hSw; (try dsimp only at hSw); go_simp; (try with_reducible rfl))
  try simp only [Act.put, List.setIfInBounds_toArray, List.set_cons_zero, List.set_cons_succ]
  refine wpAnyL_ready (rs := [6]) (by kernel_rfl) (by simp) ?_
  refine AllReadyL.cons (o := { dst := some 41, op := Op.call { callee := Callee.value (Operand.func 7), args := #[Operand.tmp 35, Operand.tmp 40], argTypes := #[ 29, 3 ] }, type := 29, pos := "law.go:117", after := #[{ on := 0, ground := Ground.data }, { on := 5, ground := Ground.data }], guard := none }) rfl (fun K hK => ?_) AllReadyL.nil
  go_simp
  rw [← HTX.out]
  refine (tameP W0 z0 z1 z2 z3 s n HZ.out.1 HZ.out.2.1 HZ.out.2.2.1 HZ.out.2.2.2 hn).mono ?_
  rintro e w3 ⟨y1, y2, y3, rfl, hy1, hy2, hy3, hb3⟩
  rw [HTX.out]
  have X3 := (hb3.block T (heap_lt HX.out)).trans HX.out
  have HB3 := Lib.hid hb3
  have hS3 := HSB.out w3 hb3
  have HY := Lib.hid (And.intro hy1 (And.intro hy2 hy3))
  clear hb3 hy1 hy2 hy3
  go_wp2_with fail
  refine hK.out _ _ (by exact hS3) (fun hHeld => ?_)
  clear hK K
  try simp only [Act.put, List.setIfInBounds_toArray, List.set_cons_zero, List.set_cons_succ]
  obtain ⟨w4, hw4, hb4, hB4⟩ := set5 v T w3 _ _ _ _ _ _ (.int .i64 z0) (.int .i64 y1) (.int .i64 y2) (.int .i64 y3) (.string TX) hvT X3 (HV.out.trans (HB3.out.mono HV.out.size))
  have k0 := fun i => (block_cell6 X3 i).1
  have k1 := fun i => (block_cell6 X3 i).2
  have HB4 := Lib.hid hB4
  have HX4 := Lib.hid hb4
  clear hS3 hb4 hB4 hHeld
  refine wpAnyL_ready (rs := [7]) (by kernel_rfl) (by simp) ?_
  refine AllReadyL.last (o := { dst := none, op := Op.store 29 (Operand.tmp 8) (Operand.tmp 41), type := 0, pos := "law.go:117", after := #[{ on := 6, ground := Ground.data }, { on := 6, ground := Ground.chain }, { on := 0, ground := Ground.phase }, { on := 1, ground := Ground.phase }, { on := 2, ground := Ground.phase }, { on := 3, ground := Ground.phase }, { on := 4, ground := Ground.phase }, { on := 5, ground := Ground.phase }, { on := 6, ground := Ground.phase }], guard := none }) rfl (by kernel_rfl) (fun K hK => ?_) AllReadyL.nil
  go_simp
  refine hK.out _ _ ?_
  clear hK K
  try simp only [Act.put, List.setIfInBounds_toArray, List.set_cons_zero, List.set_cons_succ]
  refine wpAnyL_done (by kernel_rfl) ?_ _
  refine NoPanic.normal ?_
  exact HQ.out _ _ _ _ _ _ _ _ _ _ _ HY.out.1 HY.out.2.1 HY.out.2.2 HX4.out HB4.out
set_option maxHeartbeats 4000000 in
set_option maxRecDepth 100000 in
theorem play_reg14 {w0 w : World} {Bd Br k T : Nat} {S : List PN} {C : List Cl} {z0 z1 z2 z3 : Int} {s : List UInt8} {Q : Exit → Act → World → Prop} {u0 u1 u2 u3 u4 u7 u9 u10 u11 u12 u13 u14 u15 u16 u17 u18 u19 u20 u21 u22 u23 u24 u25 u26 u27 u28 u29 u30 u31 u32 u33 u34 u35 u36 u37 u38 u39 u40 u41 u42 u43 u44 u45 u46 u47 u48 u49 u50 u51 u52 : Value} (F : Fine S C k) (hk : k < 1000) (h : Two (fun _ => False) w0 w Bd Br S C) (x : w.heap[T]? = some (.cells #[.int .i64 z0, .int .i64 z1, .int .i64 z2, .int .i64 z3, .string ⟨s.toArray⟩] 29 (0, 0))) (h0 : Int64 z0) (h1 : Int64 z1) (h3 : Int64 z3) (hs : s.length ≤ 50)
    (hQ : ∀ (y42 y43 y44 y45 y46 y47 y48 y49 y50 y51 : Value) (w' : World), DoLeft w0 Bd Br k w' → Q .normal { tmps := #[u0, u1, u2, u3, u4, .pointer (some ⟨Bd, 0, none⟩), .pointer (some ⟨Br, 0, none⟩), u7, .pointer (some ⟨T, 0, none⟩), u9, u10, u11, u12, u13, u14, u15, u16, u17, u18, u19, u20, u21, u22, u23, u24, u25, u26, u27, u28, u29, u30, u31, u32, u33, u34, u35, u36, u37, u38, u39, u40, u41, y42, y43, y44, y45, y46, y47, y48, y49, y50, y51, .bool false], defers := [] } w') :
    (Code.region 14 #[{ dst := some 42, op := Op.move (Operand.tmp 5), type := 24, pos := "law.go:119", after := #[], guard := none }, { dst := some 43, op := Op.move (Operand.tmp 6), type := 26, pos := "law.go:119", after := #[], guard := none }, { dst := some 44, op := Op.load 29 (Operand.tmp 8), type := 29, pos := "law.go:119", after := #[], guard := none }, { dst := some 45, op := Op.call { callee := Callee.value (Operand.func 8), args := #[Operand.tmp 42, Operand.tmp 43, Operand.tmp 44], argTypes := #[ 24, 26, 29 ] }, type := 4, pos := "law.go:119", after := #[{ on := 0, ground := Ground.data }, { on := 1, ground := Ground.data }, { on := 2, ground := Ground.data }], guard := none }, { dst := some 46, op := Op.unOp UnOp.not 4 (Operand.tmp 45), type := 4, pos := "law.go:119", after := #[{ on := 3, ground := Ground.data }], guard := none }, { dst := some 47, op := Op.move (Operand.tmp 46), type := 4, pos := "law.go:119", after := #[{ on := 4, ground := Ground.data }, { on := 3, ground := Ground.chain }], guard := none }, { dst := some 48, op := Op.move (Operand.tmp 5), type := 24, pos := "law.go:119", after := #[{ on := 5, ground := Ground.guard }], guard := some (5, false) }, { dst := some 49, op := Op.move (Operand.tmp 6), type := 26, pos := "law.go:119", after := #[{ on := 5, ground := Ground.guard }], guard := some (5, false) }, { dst := some 50, op := Op.call { callee := Callee.value (Operand.func 9), args := #[Operand.tmp 48, Operand.tmp 49], argTypes := #[ 24, 26 ] }, type := 4, pos := "law.go:119", after := #[{ on := 6, ground := Ground.data }, { on := 7, ground := Ground.data }, { on := 5, ground := Ground.chain }, { on := 5, ground := Ground.guard }], guard := some (5, false) }, { dst := some 51, op := Op.unOp UnOp.not 4 (Operand.tmp 50), type := 4, pos := "law.go:119", after := #[{ on := 8, ground := Ground.data }, { on := 5, ground := Ground.guard }], guard := some (5, false) }, { dst := some 52, op := Op.pick (Operand.tmp 47) (Operand.const (Value.bool true)) (Operand.tmp 51), type := 4, pos := "law.go:119", after := #[{ on := 5, ground := Ground.data }, { on := 9, ground := Ground.data }], guard := none }] false).wp Try.prog Q { tmps := #[u0, u1, u2, u3, u4, .pointer (some ⟨Bd, 0, none⟩), .pointer (some ⟨Br, 0, none⟩), u7, .pointer (some ⟨T, 0, none⟩), u9, u10, u11, u12, u13, u14, u15, u16, u17, u18, u19, u20, u21, u22, u23, u24, u25, u26, u27, u28, u29, u30, u31, u32, u33, u34, u35, u36, u37, u38, u39, u40, u41, u42, u43, u44, u45, u46, u47, u48, u49, u50, u51, u52], defers := [] } w := by
  have HQ := Lib.hid hQ
  have HD := Lib.hid (doP F (by omega) h z0 z1 z2 z3 s h0 h1 h3 hs)
  obtain ⟨c0, c1, c2, c3, c4⟩ := blk5 x
  clear hQ h F x h0 h1 h3 hs
  generalize hTX : (⟨s.toArray⟩ : ByteArray) = TX at *
  go_wp2_with fail
  refine HD.out.mono ?_
  rintro e w2 ⟨rfl, S2, C2, F2, T2⟩
  have HF2 := Lib.hid F2
  have HT2 := Lib.hid T2
  clear F2 T2
  go_wp2_with fail
  refine (sameP HF2.out (by omega) HT2.out).mono ?_
  rintro e w3 ⟨rfl, hb3⟩
  have HT3 := Lib.hid (HT2.out.on hb3)
  clear hb3
  go_wp2_with fail
  exact HQ.out _ _ _ _ _ _ _ _ _ _ _ ⟨_, _, HF2.out, HT3.out⟩
theorem two_start {w1 w2 w3 : World} {Bd Br : Nat} {S : List PN} {C : List Cl} (hd : DocB w1 w2 Bd S) (hr : RefD (fun b => w2.heap.size ≤ b ∧ b < w3.heap.size) (fun _ => False) w3 Br C) (hb : Below w2.heap.size w2 w3) : Two (fun _ => False) w1 w3 Bd Br S C := by
  have z1 := hd.below.size
  have z2 := hb.size
  refine ⟨⟨_, _, _, hd.doc.below hb, hr, fun b k => ⟨k.1, by have := k.2; omega⟩, fun b k => ?_, fun b k => k.elim⟩, hd.below.trans (hb.mono z1)⟩
  rcases k with k | k
  · exact ⟨fun q => by have := q.2; omega, by omega⟩
  · exact k.elim
theorem fine_start : Fine [elemPN 1 [] []] [rootCl] 0 := by
  have one : ∀ (j : Nat) (c : Cl), [rootCl][j]? = some c → j = 0 ∧ c = rootCl := by
    intro j c h
    match j, h with
    | 0, h => simp at h; exact ⟨rfl, h.symm⟩
    | j + 1, h => simp at h
  refine ⟨⟨rfl, ?_, ?_, ?_, ?_, ?_⟩, ⟨_, inv_new⟩, Nat.le_refl _, ?_, ?_⟩
  · intro j c h; obtain ⟨rfl, rfl⟩ := one j c h; rfl
  · intro j c h; obtain ⟨rfl, rfl⟩ := one j c h; rfl
  · intro j c h; obtain ⟨rfl, rfl⟩ := one j c h; rfl
  · intro j c h; obtain ⟨rfl, rfl⟩ := one j c h; rfl
  · intro j c i k h hk
    obtain ⟨rfl, rfl⟩ := one j c h
    simp [rootCl] at hk
  · intro c hc; rw [List.mem_singleton.1 hc]; exact Nat.zero_le _
  · intro c hc; rw [List.mem_singleton.1 hc]; exact Nat.zero_le _
set_option maxHeartbeats 4000000 in
set_option maxRecDepth 100000 in
theorem domPlays_walk (a : Option Addr) (n cap : Nat) (raw : Bool) (w : World) (h : OpsIn6 w (.slice a n cap) n) : Calls Try.prog 3 #[.slice a n cap, .bool raw] w (Yes w) := by
  have HI := Lib.hid h
  clear h
  go_enter Try.func3, Try.ntmps3
  go_wp2_with fail
  refine (known6_yes w).mono ?_
  rintro e w1 ⟨rfl, b1⟩
  have B1 := Lib.hid b1
  have hz1 := b1.size
  clear b1
  go_wp2_with fail
  refine (bnew w1).mono ?_
  rintro e w2 ⟨Bd, rfl, h2⟩
  have H2 := Lib.hid h2
  clear h2
  go_wp2_with fail
  refine (rnewP6 w2).mono ?_
  rintro e w3 ⟨Br, rfl, hr3, b3⟩
  have HP := Lib.hid (two_start H2.out hr3 b3)
  clear hr3 b3 H2
  go_wp2_with fail
  go_loopw [7] (fun iv wr => ∃ (i : Nat) (S : List PN) (C : List Cl), i ≤ 40 ∧ i ≤ n ∧ iv = .int .i64 (i : Int) ∧ Two (fun _ => False) w1 wr Bd Br S C ∧ Fine S C i) (fun iv _ => 40 - (intOf iv).toNat)
  case atStart => exact ⟨0, _, _, by omega, by omega, rfl, HP.out, fine_start⟩
  case round =>
    obtain ⟨i, S, C, hi, hin, rfl, hq, hf⟩ := hrel
    have HQ := Lib.hid hq
    have HF := Lib.hid hf
    have HY : Hid (Yes w (.returned (.bool true)) wr) := Lib.hid ⟨rfl, B1.out.trans (hq.below.mono hz1)⟩
    clear hq hf HP
    by_cases hlt : i < n
    · by_cases h40 : i < 40
      · have HO := Lib.hid ((HI.out.below B1.out).below HQ.out.below)
        obtain ⟨p', cap', e', hn, hc⟩ := HO.out
        injection e' with e1 e2 e3
        subst e1 e3
        obtain ⟨g, o, rfl, hg, z0, z1, z2, z3, s, ⟨x0, x1, x2, x3, x4⟩, hz0, hz1', hz2, hz3, _⟩ := hc i hlt
        have HZ := Lib.hid (And.intro hz0 (And.intro hz1' (And.intro hz2 hz3)))
        have k0 : (i : Int) < (n : Int) := by omega
        have k1 : (i : Int) < 40 := by omega
        have k2 : (0 : Int) ≤ (i : Int) := by omega
        clear hc HO e2 hz0 hz1' hz2 hz3
        go_upto_region 9 with fail
        refine play_reg9 hlt x0 x1 x2 x3 x4 ?_
        intro y25 y26 y27 y28 T w4 hT x4' b4
        have HX4 := Lib.hid x4'
        have HB4 := Lib.hid b4
        have t4 := (block_cell6 x4' 4).1
        have HTL := Lib.hid hT
        clear x0 x1 x2 x3 x4 hg b4 x4' hT
        simp at t4
        by_cases hs : s.length ≤ 50
        · have k5 : ¬ ((s.length : Int) > 50) := by omega
          have HFin : Hid (∀ w', DoLeft w1 Bd Br i w' → ∃ S' C', Fine S' C' (i + 1) ∧ Two (fun _ => False) w1 w' Bd Br S' C') := Lib.hid fun w' q => q
          cases raw
          · go_upto_region 13 with fail
            have HT4 := Lib.hid (HQ.out.on HB4.out)
            obtain ⟨hBr, gC, cC, hcell⟩ := two_len HT4.out
            have hcl := HF.out.len
            refine play_reg13 HTL.out HB4.out HX4.out hBr hcell (by omega) HZ.out ?_
            intro y35 y36 y37 y38 y39 y40 y41 q1 q2 q3 w5 hq1 hq2 hq3 x5 b5
            have HT5 := Lib.hid (HQ.out.on b5)
            clear hcell t4
            go_upto_region 14 with fail
            refine play_reg14 HF.out (by omega) HT5.out x5 HZ.out.1 hq1 hq3 hs ?_
            intro y42 y43 y44 y45 y46 y47 y48 y49 y50 y51 w6 ho
            obtain ⟨S6, C6, F6, T6⟩ := ho
            have HF6 := Lib.hid F6
            have HT6 := Lib.hid T6
            clear F6 T6 x5 b5
            go_wp2_with fail
            exact ⟨⟨i + 1, S6, C6, by omega, by omega, by go_num, HT6.out, HF6.out⟩, by simp [intOf]; omega⟩
          · go_upto_region 14 with fail
            have HT5 := Lib.hid (HQ.out.on HB4.out)
            refine play_reg14 HF.out (by omega) HT5.out HX4.out HZ.out.1 HZ.out.2.1 HZ.out.2.2.2 hs ?_
            intro y42 y43 y44 y45 y46 y47 y48 y49 y50 y51 w6 ho
            obtain ⟨S6, C6, F6, T6⟩ := ho
            have HF6 := Lib.hid F6
            have HT6 := Lib.hid T6
            clear F6 T6 t4
            go_wp2_with fail
            exact ⟨⟨i + 1, S6, C6, by omega, by omega, by go_num, HT6.out, HF6.out⟩, by simp [intOf]; omega⟩
        · have k5 : (s.length : Int) > 50 := by omega
          go_wp2_with fail
          go_ret
          exact ⟨rfl, B1.out.trans ((HQ.out.below.trans (HB4.out.mono HQ.out.below.size)).mono hz1)⟩
      · have k0 : (i : Int) < (n : Int) := by omega
        have k1 : ¬ (i : Int) < 40 := by omega
        go_wp2_with fail
        go_ret
        exact HY.out
    · have k0 : ¬ (i : Int) < (n : Int) := by omega
      go_wp2_with fail
      go_ret
      exact HY.out
end Go.Proofs.Ytkoijkdhmfnlbaa
