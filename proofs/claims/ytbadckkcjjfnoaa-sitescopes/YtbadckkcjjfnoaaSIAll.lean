/-
  The reference's Is, of an HTML element; the drawn region of its Has, over an opaque post. Any nodes, not too many.
  The reference's Has, of HTML elements without attributes; its New. Any nodes, not too many.
-/
import Derived.Test.YtbadckkcjjfnoaaSRAll
import Derived.Test.YtbadckkcjjfnoaaKAll
namespace Go.Proofs.Ytbadckkcjjfnoaa
open Go.RowKit

theorem set7X {w W : World} {X : Nat} {T : TypeId} {x0 x1 x2 x3 x4 x5 x6 : Value} (v0 v1 v2 v3 v4 v5 v6 : Value) (h : W.heap[X]? = some (.cells #[x0, x1, x2, x3, x4, x5, x6] T (0, 0))) (hx : w.heap.size ≤ X) (hb : Below w.heap.size w W) :
    let W' := ((((((W.setCell ⟨X, 0, none⟩ v0).setCell ⟨X, 1, none⟩ v1).setCell ⟨X, 2, none⟩ v2).setCell ⟨X, 3, none⟩ v3).setCell ⟨X, 4, none⟩ v4).setCell ⟨X, 5, none⟩ v5).setCell ⟨X, 6, none⟩ v6
    W'.cell? ⟨X, 1, none⟩ = some v1 ∧ W'.cell? ⟨X, 2, none⟩ = some v2 ∧ Below w.heap.size w W' := by
  have stp : ∀ (a : World) (cs : Array Value) (k : Nat) (v : Value), a.heap[X]? = some (.cells cs T (0, 0)) ∧ Below w.heap.size w a → (a.setCell ⟨X, k, none⟩ v).heap[X]? = some (.cells (cs.setIfInBounds k v) T (0, 0)) ∧ Below w.heap.size w (a.setCell ⟨X, k, none⟩ v) := fun a cs k v h => ⟨heap_setCell_same a _ k cs T v h.1, h.2.setCell hx v⟩
  have e := stp _ _ 6 v6 (stp _ _ 5 v5 (stp _ _ 4 v4 (stp _ _ 3 v3 (stp _ _ 2 v2 (stp _ _ 1 v1 (stp W _ 0 v0 ⟨h, hb⟩))))))
  refine ⟨?_, ?_, e.2⟩
  · rw [(block_cell6 e.1 1).1]; simp
  · rw [(block_cell6 e.1 2).1]; simp
set_option maxHeartbeats 1000000 in
set_option maxRecDepth 100000 in
theorem risP8 {M P R : Nat → Prop} {w : World} {Z B : Nat} {S : List Cl} {row : List Nat} (n : Nat) (v : Value) (ws : List (List UInt8)) (h : RSite M P R w Z B S row) (h0 : n ≠ 0) (hS : n < S.length) (hk : S[n].d.kind = 1) (hsp : S[n].d.space = 1) (hv : TextsAt w v ws) (hN : ws.length ≤ 4294967297) :
    Calls Try.prog 116 #[.pointer (some ⟨Z, 0, none⟩), .int .i64 (n : Int), v] w (Brings (.bool (ws.any fun x => x == S[n].d.name)) w) := by
  have HN := Lib.hid (rnodeP6 S B w n h.doc.rdoc hS)
  have z0 := h.ptr.1
  obtain ⟨d, hd⟩ : ∃ d, d = S[n].d := ⟨_, rfl⟩
  rw [← hd] at HN hk hsp ⊢
  obtain ⟨NM, hNM⟩ : ∃ NM : ByteArray, NM = ⟨d.name.toArray⟩ := ⟨_, rfl⟩
  obtain ⟨TX, hTX⟩ : ∃ TX : ByteArray, TX = ⟨d.text.toArray⟩ := ⟨_, rfl⟩
  have HIN : Hid (∀ W, Below w.heap.size w W → Calls Try.prog 142 #[v, .string NM] W (Brings (.bool (ws.any fun x => x == d.name)) W)) := Lib.hid fun W hb => by
    have := rin_any v ws NM W (hv.below hb) hN
    rwa [show NM.data.toList = d.name by rw [hNM]] at this
  unfold NodeOut6 at HN
  rw [hk, hsp, ← hNM, ← hTX] at HN
  obtain ⟨p, cap, rfl, _⟩ := hv.slice
  have n0 : ((n : Int) != 0) = true := by simp [h0]
  clear h hd hNM hTX hk hsp hv
  generalize (ws.any fun x => x == d.name) = res at *
  go_enter Try.func116, Try.ntmps116
  go_wp2_with fail
  refine HN.out.mono ?_
  rintro e w1 ⟨va, rfl, ha, hb⟩
  have HB := Lib.hid hb
  obtain ⟨pv, lv, cv, rfl⟩ : ∃ p l c, va = .slice p l c := by obtain ⟨p, c, e, _⟩ := ha; exact ⟨_, _, _, e⟩
  clear ha hb
  go_upto_region 2 with fail
  obtain ⟨w2, hw2⟩ : ∃ w2, w2 = w1.alloc (.cells #[.int .i64 1, .int .i64 1, .string NM, .slice pv lv cv, .string TX, .int .i64 d.frm, .slice none 0 0] 48) := ⟨_, rfl⟩
  rw [← hw2]
  have hb2 : Below w.heap.size w w2 := by rw [hw2]; exact HB.out.trans (((Below.refl _ _).alloc (Nat.le_refl _) _).mono HB.out.size)
  have hX : w2.heap[w1.heap.size]? = some (.cells #[.int .i64 1, .int .i64 1, .string NM, .slice pv lv cv, .string TX, .int .i64 d.frm, .slice none 0 0] 48 (0, 0)) := by rw [hw2]; exact heap_alloc_new w1 _
  have c0 := (block_cell6 hX 0).1
  have c1 := (block_cell6 hX 1).1
  have c2 := (block_cell6 hX 2).1
  simp at c0 c1 c2
  have HI2 := Lib.hid (HIN.out w2 hb2)
  have HB2 := Lib.hid hb2
  clear hw2 hX hb2 HIN
  go_wp2_with fail
  refine HI2.out.mono ?_
  rintro e w3 ⟨rfl, b3⟩
  have HB3 := Lib.hid (HB2.out.trans (b3.mono HB2.out.size))
  clear b3
  go_wp2_with fail
  go_ret
  exact ⟨rfl, HB3.out⟩
def rhas_ops : Array Oper := #[{ dst := some 29, op := Op.move (Operand.tmp 0), type := 74, pos := "ref.go:86", after := #[], guard := none }, { dst := some 30, op := Op.nilCheck (Operand.tmp 29), type := 0, pos := "ref.go:86", after := #[{ on := 0, ground := Ground.data }], guard := none }, { dst := some 31, op := Op.fieldAddr 127 (Operand.tmp 30) 0, type := 0, pos := "ref.go:86", after := #[{ on := 1, ground := Ground.data }], guard := none }, { dst := some 32, op := Op.load 26 (Operand.tmp 31), type := 26, pos := "ref.go:86", after := #[{ on := 2, ground := Ground.data }], guard := none }, { dst := some 33, op := Op.move (Operand.tmp 0), type := 74, pos := "ref.go:86", after := #[], guard := none }, { dst := some 34, op := Op.nilCheck (Operand.tmp 33), type := 0, pos := "ref.go:86", after := #[{ on := 4, ground := Ground.data }], guard := none }, { dst := some 35, op := Op.fieldAddr 127 (Operand.tmp 34) 2, type := 0, pos := "ref.go:86", after := #[{ on := 5, ground := Ground.data }], guard := none }, { dst := some 36, op := Op.load 32 (Operand.tmp 35), type := 32, pos := "ref.go:86", after := #[{ on := 6, ground := Ground.data }], guard := none }, { dst := some 37, op := Op.move (Operand.tmp 7), type := 3, pos := "ref.go:86", after := #[], guard := none }, { dst := some 38, op := Op.indexAddr 32 (Operand.tmp 36) (Operand.tmp 37), type := 0, pos := "ref.go:86", after := #[{ on := 7, ground := Ground.data }, { on := 8, ground := Ground.data }], guard := none }, { dst := some 39, op := Op.load 3 (Operand.tmp 38), type := 3, pos := "ref.go:86", after := #[{ on := 9, ground := Ground.data }], guard := none }, { dst := some 40, op := Op.call { callee := Callee.value (Operand.func 71), args := #[Operand.tmp 32, Operand.tmp 39], argTypes := #[ 26, 3 ] }, type := 48, pos := "ref.go:86", after := #[{ on := 3, ground := Ground.data }, { on := 10, ground := Ground.data }], guard := none }, { dst := some 8, op := Op.alloc 48, type := 0, pos := "ref.go:86", after := #[], guard := none }, { dst := none, op := Op.store 48 (Operand.tmp 8) (Operand.tmp 40), type := 0, pos := "ref.go:86", after := #[{ on := 12, ground := Ground.data }, { on := 11, ground := Ground.data }, { on := 11, ground := Ground.chain }, { on := 0, ground := Ground.phase }, { on := 1, ground := Ground.phase }, { on := 2, ground := Ground.phase }, { on := 3, ground := Ground.phase }, { on := 4, ground := Ground.phase }, { on := 5, ground := Ground.phase }, { on := 6, ground := Ground.phase }, { on := 7, ground := Ground.phase }, { on := 8, ground := Ground.phase }, { on := 9, ground := Ground.phase }, { on := 10, ground := Ground.phase }, { on := 11, ground := Ground.phase }, { on := 12, ground := Ground.phase }], guard := none }]
set_option maxHeartbeats 4000000 in
set_option maxRecDepth 100000 in
theorem rhas_reg6 {w : World} {Z B g o m cap k x : Nat} {NM TX : ByteArray} {fr : Int} {Q : Exit → Act → World → Prop} {u1 u2 u3 u4 u5 u6 u8 u9 u10 u11 u12 u13 u14 u15 u16 u17 u18 u19 u20 u21 u22 u23 u24 u25 u26 u27 u28 u29 u30 u31 u32 u33 u34 u35 u36 u37 u38 u39 u40 u41 u42 u43 u44 u45 u46 : Value}
    (hZ : Z < w.heap.size) (hg : g < w.heap.size) (h0 : w.cell? ⟨Z, 0, none⟩ = some (.pointer (some ⟨B, 0, none⟩))) (h2 : w.cell? ⟨Z, 2, none⟩ = some (.slice (some ⟨g, o, none⟩) m cap)) (hr : w.cell? ⟨g, o + k, none⟩ = some (.int .i64 (x : Int))) (hk : k < m)
    (hN : ∀ W, Below w.heap.size w W → Calls Try.prog 71 #[.pointer (some ⟨B, 0, none⟩), .int .i64 (x : Int)] W (fun e W' => ∃ va, e = .returned (.agg #[.int .i64 1, .int .i64 1, .string NM, va, .string TX, .int .i64 fr, .slice none 0 0]) ∧ AttrsP (fun _ => True) W' va [] ∧ Below W.heap.size W W'))
    (hQ : ∀ (y29 y30 y31 y32 y33 y34 y35 y36 y37 y38 y39 y40 : Value) (X : Nat) (w' : World), w'.cell? ⟨X, 1, none⟩ = some (.int .i64 1) → w'.cell? ⟨X, 2, none⟩ = some (.string NM) → Below w.heap.size w w' → Q .normal { tmps := #[.pointer (some ⟨Z, 0, none⟩), u1, u2, u3, u4, u5, u6, .int .i64 (k : Int), .pointer (some ⟨X, 0, none⟩), u9, u10, u11, u12, u13, u14, u15, u16, u17, u18, u19, u20, u21, u22, u23, u24, u25, u26, u27, u28, y29, y30, y31, y32, y33, y34, y35, y36, y37, y38, y39, y40, u41, u42, u43, u44, u45, u46], defers := [] } w') :
    (Code.region 6 rhas_ops true).wp Try.prog Q { tmps := #[.pointer (some ⟨Z, 0, none⟩), u1, u2, u3, u4, u5, u6, .int .i64 (k : Int), u8, u9, u10, u11, u12, u13, u14, u15, u16, u17, u18, u19, u20, u21, u22, u23, u24, u25, u26, u27, u28, u29, u30, u31, u32, u33, u34, u35, u36, u37, u38, u39, u40, u41, u42, u43, u44, u45, u46], defers := [] } w := by
  refine wp_region_noPanic ?_
  unfold rhas_ops
  have HQ := Lib.hid hQ
  have HN := Lib.hid hN
  have HRE := Lib.hid (lateOk_spec (md := .any) (ops := rhas_ops) (late := [13]) (is := [0, 1, 2, 3, 4, 5, 6, 7, 8, 9, 10]) (f := 8) (by kernel_rfl))
  have HSB : Hid (∀ W, Below w.heap.size w W → W.cell? ⟨Z, 0, none⟩ = some (.pointer (some ⟨B, 0, none⟩)) ∧ W.cell? ⟨Z, 2, none⟩ = some (.slice (some ⟨g, o, none⟩) m cap) ∧ W.cell? ⟨g, o + k, none⟩ = some (.int .i64 (x : Int))) := Lib.hid fun W hb => ⟨(hb.cell (p := ⟨Z, 0, none⟩) hZ).trans h0, (hb.cell (p := ⟨Z, 2, none⟩) hZ).trans h2, (hb.cell (p := ⟨g, o + k, none⟩) hg).trans hr⟩
  have hbd : Below w.heap.size w w.drew := (Below.refl _ w).drew
  have k0 : (0 : Int) ≤ (k : Int) := by omega
  have k1 : (k : Int) < (m : Int) := by omega
  clear hQ hN h0 h2 hr
  refine wp_region_heldL_drew (late := [13]) (S := fun W => W.cell? ⟨Z, 0, none⟩ = some (.pointer (some ⟨B, 0, none⟩)) ∧ W.cell? ⟨Z, 2, none⟩ = some (.slice (some ⟨g, o, none⟩) m cap) ∧ W.cell? ⟨g, o + k, none⟩ = some (.int .i64 (x : Int))) (by kernel_rfl) (HSB.out _ hbd) (fun hHeld => ?_)
  generalize w.drew = W0 at *
  refine wpAnyL_take (i := 0) (oi := { dst := some 29, op := Op.move (Operand.tmp 0), type := 74, pos := "ref.go:86", after := #[], guard := none }) (v := ?_) rfl (by kernel_rfl) (by kernel_rfl) (by kernel_rfl) (by kernel_rfl) (HRE.out 0 (by decide)) (fun _ _ _ h => h) (Or.inl ⟨by rfl, ?_⟩) (by assumption) ?_
  rotate_left
  focus (intro w hSw; (try dsimp only at hSw); go_simp; (try with_reducible rfl))
  try simp only [Act.put, List.setIfInBounds_toArray, List.set_cons_zero, List.set_cons_succ]
  refine wpAnyL_take (i := 1) (oi := { dst := some 30, op := Op.nilCheck (Operand.tmp 29), type := 0, pos := "ref.go:86", after := #[{ on := 0, ground := Ground.data }], guard := none }) (v := ?_) rfl (by kernel_rfl) (by kernel_rfl) (by kernel_rfl) (by kernel_rfl) (HRE.out 1 (by decide)) (fun _ _ _ h => h) (Or.inl ⟨by rfl, ?_⟩) (by assumption) ?_
  rotate_left
  focus (intro w hSw; (try dsimp only at hSw); go_simp; (try with_reducible rfl))
  try simp only [Act.put, List.setIfInBounds_toArray, List.set_cons_zero, List.set_cons_succ]
  refine wpAnyL_take (i := 2) (oi := { dst := some 31, op := Op.fieldAddr 127 (Operand.tmp 30) 0, type := 0, pos := "ref.go:86", after := #[{ on := 1, ground := Ground.data }], guard := none }) (v := ?_) rfl (by kernel_rfl) (by kernel_rfl) (by kernel_rfl) (by kernel_rfl) (HRE.out 2 (by decide)) (fun _ _ _ h => h) (Or.inl ⟨by rfl, ?_⟩) (by assumption) ?_
  rotate_left
  focus (intro w hSw; (try dsimp only at hSw); go_simp; (try with_reducible rfl))
  try simp only [Act.put, List.setIfInBounds_toArray, List.set_cons_zero, List.set_cons_succ]
  refine wpAnyL_take (i := 3) (oi := { dst := some 32, op := Op.load 26 (Operand.tmp 31), type := 26, pos := "ref.go:86", after := #[{ on := 2, ground := Ground.data }], guard := none }) (v := ?_) rfl (by kernel_rfl) (by kernel_rfl) (by kernel_rfl) (by kernel_rfl) (HRE.out 3 (by decide)) (fun _ _ _ h => h) (Or.inl ⟨by rfl, ?_⟩) (by assumption) ?_
  rotate_left
  focus (intro w hSw; (try dsimp only at hSw); go_simp; (try with_reducible rfl))
  try simp only [Act.put, List.setIfInBounds_toArray, List.set_cons_zero, List.set_cons_succ]
  refine wpAnyL_take (i := 4) (oi := { dst := some 33, op := Op.move (Operand.tmp 0), type := 74, pos := "ref.go:86", after := #[], guard := none }) (v := ?_) rfl (by kernel_rfl) (by kernel_rfl) (by kernel_rfl) (by kernel_rfl) (HRE.out 4 (by decide)) (fun _ _ _ h => h) (Or.inl ⟨by rfl, ?_⟩) (by assumption) ?_
  rotate_left
  focus (intro w hSw; (try dsimp only at hSw); go_simp; (try with_reducible rfl))
  try simp only [Act.put, List.setIfInBounds_toArray, List.set_cons_zero, List.set_cons_succ]
  refine wpAnyL_take (i := 5) (oi := { dst := some 34, op := Op.nilCheck (Operand.tmp 33), type := 0, pos := "ref.go:86", after := #[{ on := 4, ground := Ground.data }], guard := none }) (v := ?_) rfl (by kernel_rfl) (by kernel_rfl) (by kernel_rfl) (by kernel_rfl) (HRE.out 5 (by decide)) (fun _ _ _ h => h) (Or.inl ⟨by rfl, ?_⟩) (by assumption) ?_
  rotate_left
  focus (intro w hSw; (try dsimp only at hSw); go_simp; (try with_reducible rfl))
  try simp only [Act.put, List.setIfInBounds_toArray, List.set_cons_zero, List.set_cons_succ]
  refine wpAnyL_take (i := 6) (oi := { dst := some 35, op := Op.fieldAddr 127 (Operand.tmp 34) 2, type := 0, pos := "ref.go:86", after := #[{ on := 5, ground := Ground.data }], guard := none }) (v := ?_) rfl (by kernel_rfl) (by kernel_rfl) (by kernel_rfl) (by kernel_rfl) (HRE.out 6 (by decide)) (fun _ _ _ h => h) (Or.inl ⟨by rfl, ?_⟩) (by assumption) ?_
  rotate_left
  focus (intro w hSw; (try dsimp only at hSw); go_simp; (try with_reducible rfl))
  try simp only [Act.put, List.setIfInBounds_toArray, List.set_cons_zero, List.set_cons_succ]
  refine wpAnyL_take (i := 7) (oi := { dst := some 36, op := Op.load 32 (Operand.tmp 35), type := 32, pos := "ref.go:86", after := #[{ on := 6, ground := Ground.data }], guard := none }) (v := ?_) rfl (by kernel_rfl) (by kernel_rfl) (by kernel_rfl) (by kernel_rfl) (HRE.out 7 (by decide)) (fun _ _ _ h => h) (Or.inl ⟨by rfl, ?_⟩) (by assumption) ?_
  rotate_left
  focus (intro w hSw; (try dsimp only at hSw); go_simp; (try with_reducible rfl))
  try simp only [Act.put, List.setIfInBounds_toArray, List.set_cons_zero, List.set_cons_succ]
  refine wpAnyL_take (i := 8) (oi := { dst := some 37, op := Op.move (Operand.tmp 7), type := 3, pos := "ref.go:86", after := #[], guard := none }) (v := ?_) rfl (by kernel_rfl) (by kernel_rfl) (by kernel_rfl) (by kernel_rfl) (HRE.out 8 (by decide)) (fun _ _ _ h => h) (Or.inl ⟨by rfl, ?_⟩) (by assumption) ?_
  rotate_left
  focus (intro w hSw; (try dsimp only at hSw); go_simp; (try with_reducible rfl))
  try simp only [Act.put, List.setIfInBounds_toArray, List.set_cons_zero, List.set_cons_succ]
  refine wpAnyL_take (i := 9) (oi := { dst := some 38, op := Op.indexAddr 32 (Operand.tmp 36) (Operand.tmp 37), type := 0, pos := "ref.go:86", after := #[{ on := 7, ground := Ground.data }, { on := 8, ground := Ground.data }], guard := none }) (v := ?_) rfl (by kernel_rfl) (by kernel_rfl) (by kernel_rfl) (by kernel_rfl) (HRE.out 9 (by decide)) (fun _ _ _ h => h) (Or.inl ⟨by rfl, ?_⟩) (by assumption) ?_
  rotate_left
  focus (intro w hSw; (try dsimp only at hSw); go_simp; (try with_reducible rfl))
  try simp only [Act.put, List.setIfInBounds_toArray, List.set_cons_zero, List.set_cons_succ]
  refine wpAnyL_take (i := 10) (oi := { dst := some 39, op := Op.load 3 (Operand.tmp 38), type := 3, pos := "ref.go:86", after := #[{ on := 9, ground := Ground.data }], guard := none }) (v := ?_) rfl (by kernel_rfl) (by kernel_rfl) (by kernel_rfl) (by kernel_rfl) (HRE.out 10 (by decide)) (fun _ _ _ h => h) (Or.inl ⟨by rfl, ?_⟩) (by assumption) ?_
  rotate_left
  focus (intro w hSw; (try dsimp only at hSw); go_simp; (try with_reducible rfl))
  try simp only [Act.put, List.setIfInBounds_toArray, List.set_cons_zero, List.set_cons_succ]
  refine wpAnyL_ready (rs := [11, 12]) (by kernel_rfl) (by simp) ?_
  refine AllReadyL.cons (o := { dst := some 40, op := Op.call { callee := Callee.value (Operand.func 71), args := #[Operand.tmp 32, Operand.tmp 39], argTypes := #[ 26, 3 ] }, type := 48, pos := "ref.go:86", after := #[{ on := 3, ground := Ground.data }, { on := 10, ground := Ground.data }], guard := none }) rfl (fun K hK => ?_) (AllReadyL.cons (o := { dst := some 8, op := Op.alloc 48, type := 0, pos := "ref.go:86", after := #[], guard := none }) rfl (fun K hK => ?_) AllReadyL.nil)
  · go_simp
    refine (HN.out W0 hbd).mono ?_
    rintro e W1 ⟨va, rfl, ha1, q1⟩
    obtain ⟨pv, lv, cv, rfl⟩ : ∃ p l c, va = .slice p l c := by obtain ⟨p, c, e, _⟩ := ha1; exact ⟨_, _, _, e⟩
    clear ha1
    have hb1 := hbd.trans (q1.mono hbd.size)
    go_wp2_with fail
    refine hK.out _ _ (HSB.out _ hb1) (fun hHeld => ?_)
    clear hK K
    try simp only [Act.put, List.setIfInBounds_toArray, List.set_cons_zero, List.set_cons_succ]
    refine wpAnyL_ready (rs := [12]) (by kernel_rfl) (by simp) ?_
    refine AllReadyL.cons (o := { dst := some 8, op := Op.alloc 48, type := 0, pos := "ref.go:86", after := #[], guard := none }) rfl (fun K hK => ?_) AllReadyL.nil
    go_simp
    have q2 : Below W1.heap.size W1 (W1.alloc (.cells #[.int .i64 0, .int .i64 0, .string ⟨#[]⟩, .slice none 0 0, .string ⟨#[]⟩, .int .i64 0, .slice none 0 0] 48)) := (Below.refl _ _).alloc (Nat.le_refl _) _
    have hb2 := hb1.trans (q2.mono hb1.size)
    have hX2 : (W1.alloc (.cells #[.int .i64 0, .int .i64 0, .string ⟨#[]⟩, .slice none 0 0, .string ⟨#[]⟩, .int .i64 0, .slice none 0 0] 48)).heap[W1.heap.size]? = some (.cells #[.int .i64 0, .int .i64 0, .string ⟨#[]⟩, .slice none 0 0, .string ⟨#[]⟩, .int .i64 0, .slice none 0 0] 48 (0, 0)) := heap_alloc_new _ _
    have hx2 : w.heap.size ≤ W1.heap.size := hb1.size
    refine hK.out _ _ (HSB.out _ hb2) (fun hHeld => ?_)
    clear hK K
    try simp only [Act.put, List.setIfInBounds_toArray, List.set_cons_zero, List.set_cons_succ]
    clear hHeld
    have hHeld := HSB.out _ hb2
    change wpAnyL _ _ _ _ _ _ _ _ _ (W1.alloc (.cells #[.int .i64 0, .int .i64 0, .string ⟨#[]⟩, .slice none 0 0, .string ⟨#[]⟩, .int .i64 0, .slice none 0 0] 48))
    generalize (W1.alloc (.cells #[.int .i64 0, .int .i64 0, .string ⟨#[]⟩, .slice none 0 0, .string ⟨#[]⟩, .int .i64 0, .slice none 0 0] 48)) = W2 at *
    generalize W1.heap.size = X2 at *
    have cB0 := (block_cell6 hX2 0).1
    have fB0 := (block_cell6 hX2 0).2
    have cB1 := (block_cell6 hX2 1).1
    have fB1 := (block_cell6 hX2 1).2
    have cB2 := (block_cell6 hX2 2).1
    have fB2 := (block_cell6 hX2 2).2
    have cB3 := (block_cell6 hX2 3).1
    have fB3 := (block_cell6 hX2 3).2
    have cB4 := (block_cell6 hX2 4).1
    have fB4 := (block_cell6 hX2 4).2
    have cB5 := (block_cell6 hX2 5).1
    have fB5 := (block_cell6 hX2 5).2
    have cB6 := (block_cell6 hX2 6).1
    have fB6 := (block_cell6 hX2 6).2
    simp at cB0 cB1 cB2 cB3 cB4 cB5 cB6
    refine wpAnyL_ready (rs := [13]) (by kernel_rfl) (by simp) ?_
    refine AllReadyL.last (o := { dst := none, op := Op.store 48 (Operand.tmp 8) (Operand.tmp 40), type := 0, pos := "ref.go:86", after := #[{ on := 12, ground := Ground.data }, { on := 11, ground := Ground.data }, { on := 11, ground := Ground.chain }, { on := 0, ground := Ground.phase }, { on := 1, ground := Ground.phase }, { on := 2, ground := Ground.phase }, { on := 3, ground := Ground.phase }, { on := 4, ground := Ground.phase }, { on := 5, ground := Ground.phase }, { on := 6, ground := Ground.phase }, { on := 7, ground := Ground.phase }, { on := 8, ground := Ground.phase }, { on := 9, ground := Ground.phase }, { on := 10, ground := Ground.phase }, { on := 11, ground := Ground.phase }, { on := 12, ground := Ground.phase }], guard := none }) rfl (by kernel_rfl) (fun K hK => ?_) AllReadyL.nil
    go_simp
    have hfin := set7X (.int .i64 1) (.int .i64 1) (.string NM) (.slice pv lv cv) (.string TX) (.int .i64 fr) (.slice none 0 0) hX2 hx2 hb2
    refine hK.out _ _ ?_
    refine wpAnyL_done (by kernel_rfl) ?_ _
    try simp only [Act.put, List.setIfInBounds_toArray, List.set_cons_zero, List.set_cons_succ]
    exact NoPanic.normal (HQ.out _ _ _ _ _ _ _ _ _ _ _ _ _ _ hfin.1 hfin.2.1 hfin.2.2)
  · go_simp
    have q3 : Below W0.heap.size W0 (W0.alloc (.cells #[.int .i64 0, .int .i64 0, .string ⟨#[]⟩, .slice none 0 0, .string ⟨#[]⟩, .int .i64 0, .slice none 0 0] 48)) := (Below.refl _ _).alloc (Nat.le_refl _) _
    have hb3 := hbd.trans (q3.mono hbd.size)
    have hX3 : (W0.alloc (.cells #[.int .i64 0, .int .i64 0, .string ⟨#[]⟩, .slice none 0 0, .string ⟨#[]⟩, .int .i64 0, .slice none 0 0] 48)).heap[W0.heap.size]? = some (.cells #[.int .i64 0, .int .i64 0, .string ⟨#[]⟩, .slice none 0 0, .string ⟨#[]⟩, .int .i64 0, .slice none 0 0] 48 (0, 0)) := heap_alloc_new _ _
    have hx3 : w.heap.size ≤ W0.heap.size := hbd.size
    refine hK.out _ _ (HSB.out _ hb3) (fun hHeld => ?_)
    clear hK K
    try simp only [Act.put, List.setIfInBounds_toArray, List.set_cons_zero, List.set_cons_succ]
    clear hHeld
    have hHeld := HSB.out _ hb3
    change wpAnyL _ _ _ _ _ _ _ _ _ (W0.alloc (.cells #[.int .i64 0, .int .i64 0, .string ⟨#[]⟩, .slice none 0 0, .string ⟨#[]⟩, .int .i64 0, .slice none 0 0] 48))
    generalize (W0.alloc (.cells #[.int .i64 0, .int .i64 0, .string ⟨#[]⟩, .slice none 0 0, .string ⟨#[]⟩, .int .i64 0, .slice none 0 0] 48)) = W3 at *
    generalize W0.heap.size = X3 at *
    refine wpAnyL_ready (rs := [11]) (by kernel_rfl) (by simp) ?_
    refine AllReadyL.cons (o := { dst := some 40, op := Op.call { callee := Callee.value (Operand.func 71), args := #[Operand.tmp 32, Operand.tmp 39], argTypes := #[ 26, 3 ] }, type := 48, pos := "ref.go:86", after := #[{ on := 3, ground := Ground.data }, { on := 10, ground := Ground.data }], guard := none }) rfl (fun K hK => ?_) AllReadyL.nil
    go_simp
    refine (HN.out W3 hb3).mono ?_
    rintro e W4 ⟨va, rfl, ha4, q4⟩
    obtain ⟨pv, lv, cv, rfl⟩ : ∃ p l c, va = .slice p l c := by obtain ⟨p, c, e, _⟩ := ha4; exact ⟨_, _, _, e⟩
    clear ha4
    have hb4 := hb3.trans (q4.mono hb3.size)
    have hX4 := (q4.block _ (heap_lt hX3)).trans hX3
    go_wp2_with fail
    refine hK.out _ _ (HSB.out _ hb4) (fun hHeld => ?_)
    clear hK K
    try simp only [Act.put, List.setIfInBounds_toArray, List.set_cons_zero, List.set_cons_succ]
    have cB0 := (block_cell6 hX4 0).1
    have fB0 := (block_cell6 hX4 0).2
    have cB1 := (block_cell6 hX4 1).1
    have fB1 := (block_cell6 hX4 1).2
    have cB2 := (block_cell6 hX4 2).1
    have fB2 := (block_cell6 hX4 2).2
    have cB3 := (block_cell6 hX4 3).1
    have fB3 := (block_cell6 hX4 3).2
    have cB4 := (block_cell6 hX4 4).1
    have fB4 := (block_cell6 hX4 4).2
    have cB5 := (block_cell6 hX4 5).1
    have fB5 := (block_cell6 hX4 5).2
    have cB6 := (block_cell6 hX4 6).1
    have fB6 := (block_cell6 hX4 6).2
    simp at cB0 cB1 cB2 cB3 cB4 cB5 cB6
    refine wpAnyL_ready (rs := [13]) (by kernel_rfl) (by simp) ?_
    refine AllReadyL.last (o := { dst := none, op := Op.store 48 (Operand.tmp 8) (Operand.tmp 40), type := 0, pos := "ref.go:86", after := #[{ on := 12, ground := Ground.data }, { on := 11, ground := Ground.data }, { on := 11, ground := Ground.chain }, { on := 0, ground := Ground.phase }, { on := 1, ground := Ground.phase }, { on := 2, ground := Ground.phase }, { on := 3, ground := Ground.phase }, { on := 4, ground := Ground.phase }, { on := 5, ground := Ground.phase }, { on := 6, ground := Ground.phase }, { on := 7, ground := Ground.phase }, { on := 8, ground := Ground.phase }, { on := 9, ground := Ground.phase }, { on := 10, ground := Ground.phase }, { on := 11, ground := Ground.phase }, { on := 12, ground := Ground.phase }], guard := none }) rfl (by kernel_rfl) (fun K hK => ?_) AllReadyL.nil
    go_simp
    have hfin := set7X (.int .i64 1) (.int .i64 1) (.string NM) (.slice pv lv cv) (.string TX) (.int .i64 fr) (.slice none 0 0) hX4 hx3 hb4
    refine hK.out _ _ ?_
    refine wpAnyL_done (by kernel_rfl) ?_ _
    try simp only [Act.put, List.setIfInBounds_toArray, List.set_cons_zero, List.set_cons_succ]
    exact NoPanic.normal (HQ.out _ _ _ _ _ _ _ _ _ _ _ _ _ _ hfin.1 hfin.2.1 hfin.2.2)
end Go.Proofs.Ytbadckkcjjfnoaa
namespace Go.Proofs.Ytbadckkcjjfnoaa
open Go.RowKit

def nmR (S : List Cl) (n : Nat) : List UInt8 := (ndOf S n).name
def scanR (S : List Cl) (row : List Nat) (c : Int) (ws : List (List UInt8)) : Nat → Bool
  | 0 => false
  | i + 1 => if (ws.any fun x => x == nmR S (row.getD (i + 1) 0)) = true then true else if Plain.isWall c 1 (nmR S (row.getD (i + 1) 0)) = true then false else scanR S row c ws i
/-- All but the first are elements that were added. -/
def OkRow (S : List Cl) (row : List Nat) : Prop := ∀ i (hi : i < row.length), 0 < i → row[i] ≠ 0 ∧ row[i] < S.length ∧ ndOf S row[i] = elemNd 1 (nmR S row[i]) []
set_option maxHeartbeats 2000000 in
set_option maxRecDepth 100000 in
theorem rhasP8 {M P R : Nat → Prop} {w : World} {Z B : Nat} {S : List Cl} {row : List Nat} (c : Int) (v : Value) (ws : List (List UInt8)) (h : RSite M P R w Z B S row) (hok : OkRow S row) (hv : TextsAt w v ws) (hN : ws.length ≤ 4294967297) :
    Calls Try.prog 53 #[.pointer (some ⟨Z, 0, none⟩), .int .i64 c, v] w (Brings (.bool (scanR S row c ws (row.length - 1))) w) := by
  have HS := Lib.hid h
  have HV := Lib.hid hv
  have HOK := Lib.hid hok
  have hpos := h.pos
  have hlen := h.len
  obtain ⟨vm, g, o, cap, hz, _, _, hg, hc⟩ := h.reads
  have c2 := (block_cell6 hz 2).1
  simp at c2
  have hzl : Z < w.heap.size := heap_lt hz
  have c0 := h.ptr.1
  have HC := Lib.hid hc
  obtain ⟨p, pc, rfl, _⟩ := hv.slice
  obtain ⟨r, hr⟩ : ∃ r, r = scanR S row c ws (row.length - 1) := ⟨_, rfl⟩
  rw [← hr]
  have HR := Lib.hid hr
  obtain ⟨m, hm⟩ : ∃ m, row.length = m + 1 := ⟨row.length - 1, by omega⟩
  have e1 : IntKind.i64.wrap ((row.length : Int) - 1) = (m : Int) := by rw [IntWalk.i64_in _ (by omega)]; omega
  have e2 : (row.length : Int) - 1 = (m : Int) := by omega
  have HM := Lib.hid hm
  clear h hok hv hz hc hr hm
  go_enter Try.func53, Try.ntmps53
  go_wp2_with fail
  go_loopw [7] (fun i wr => ∃ k : Nat, k < row.length ∧ i = .int .i64 (k : Int) ∧ r = scanR S row c ws k ∧ Below w.heap.size w wr) (fun i _ => (intOf i).toNat)
  case atStart => exact ⟨m, by have := HM.out; omega, rfl, by rw [HR.out, show row.length - 1 = m by have := HM.out; omega], Below.refl _ _⟩
  case round =>
    obtain ⟨k, hk, rfl, hrk, hb⟩ := hrel
    have HB := Lib.hid hb
    have HRK := Lib.hid hrk
    have d0 := (hb.cell (p := ⟨Z, 0, none⟩) hzl).trans c0
    have d2 := (hb.cell (p := ⟨Z, 2, none⟩) hzl).trans c2
    have dk := (hb.cell (p := ⟨g, o + k, none⟩) hg).trans (HC.out k hk)
    have hzr : Z < wr.heap.size := Nat.lt_of_lt_of_le hzl hb.size
    have hgr : g < wr.heap.size := Nat.lt_of_lt_of_le hg hb.size
    clear hb hrk
    by_cases hk0 : k = 0
    · subst hk0
      have HF : Hid (r = false) := Lib.hid HRK.out
      clear d0 d2 dk
      go_wp2_with fail
      go_ret
      exact ⟨by rw [HF.out]; rfl, HB.out⟩
    · obtain ⟨hx0, hxS, hxd⟩ := HOK.out k hk (by omega)
      have hget : row.getD k 0 = row[k] := by rw [List.getD_eq_getElem?_getD, List.getElem?_eq_getElem hk]; rfl
      have HST : Hid (r = if (ws.any fun x => x == nmR S row[k]) = true then true else if Plain.isWall c 1 (nmR S row[k]) = true then false else scanR S row c ws (k - 1)) := Lib.hid (by
        obtain ⟨k', rfl⟩ : ∃ k', k = k' + 1 := ⟨k - 1, by omega⟩
        rw [HRK.out, scanR, hget, Nat.add_sub_cancel])
      generalize row[k] = x at *
      have hxn : S[x].d = elemNd 1 (nmR S x) [] := by rw [← nd_get hxS]; exact hxd
      have HIS := Lib.hid (risP8 x (.slice p ws.length pc) ws (HS.out.on HB.out) hx0 hxS (by rw [hxn]; rfl) (by rw [hxn]; rfl) (HV.out.below HB.out) hN)
      have HND : Hid (∀ W, Below wr.heap.size wr W → Calls Try.prog 71 #[.pointer (some ⟨B, 0, none⟩), .int .i64 (x : Int)] W (fun e W' => ∃ va, e = .returned (.agg #[.int .i64 1, .int .i64 1, .string ⟨(nmR S x).toArray⟩, va, .string ⟨([] : List UInt8).toArray⟩, .int .i64 0, .slice none 0 0]) ∧ AttrsP (fun _ => True) W' va [] ∧ Below W.heap.size W W')) := Lib.hid fun W hb => by
        have := rnodeP6 S B W x ((HS.out.on HB.out).on hb).doc.rdoc hxS
        unfold NodeOut6 at this
        rw [hxn] at this
        exact this
      rw [hxn] at HIS
      have HNM : Hid ((elemNd 1 (nmR S x) []).name = nmR S x) := Lib.hid rfl
      rw [HNM.out] at HIS
      have HWL : Hid (∀ W, Calls Try.prog 117 #[.int .i64 c, .int .i64 1, .string ⟨(nmR S x).toArray⟩] W (Brings (.bool (Plain.isWall c 1 (nmR S x))) W)) := Lib.hid fun W => rwall5 c 1 ⟨(nmR S x).toArray⟩ W
      obtain ⟨NM, hNM⟩ : ∃ NM : ByteArray, NM = ⟨(nmR S x).toArray⟩ := ⟨_, rfl⟩
      rw [← hNM] at HND HWL
      generalize (ws.any fun y => y == nmR S x) = isx at *
      generalize Plain.isWall c 1 (nmR S x) = wl at *
      have k1 : (k : Int) > 0 := by omega
      have k2 : (0 : Int) ≤ (k : Int) := by omega
      have k3 : (k : Int) < (row.length : Int) := by omega
      have e3 : IntKind.i64.wrap ((k : Int) - 1) = ((k - 1 : Nat) : Int) := by rw [IntWalk.i64_in _ (by omega)]; omega
      clear hxd hxn hNM hget HRK hk0
      go_wp2_with fail
      refine HIS.out.mono ?_
      rintro e w3 ⟨rfl, b3⟩
      have HB3 := Lib.hid b3
      clear HIS b3
      cases isx
      case true =>
        have HF : Hid (r = true) := Lib.hid HST.out
        clear d0 d2 dk
        go_wp2_with fail
        go_ret
        exact ⟨by rw [HF.out]; rfl, HB.out.trans (HB3.out.mono HB.out.size)⟩
      case false =>
        have f0 := (HB3.out.cell (p := ⟨Z, 0, none⟩) hzr).trans d0
        have f2 := (HB3.out.cell (p := ⟨Z, 2, none⟩) hzr).trans d2
        have fk := (HB3.out.cell (p := ⟨g, o + k, none⟩) hgr).trans dk
        have hz3 : Z < w3.heap.size := Nat.lt_of_lt_of_le hzr HB3.out.size
        have hg3 : g < w3.heap.size := Nat.lt_of_lt_of_le hgr HB3.out.size
        clear d0 d2 dk
        go_upto_region 6 with fail
        refine rhas_reg6 hz3 hg3 f0 f2 fk hk (fun W hb => HND.out W (HB3.out.trans (hb.mono HB3.out.size))) ?_
        intro y29 y30 y31 y32 y33 y34 y35 y36 y37 y38 y39 y40 X w4 q1 q2 b4
        have HB4 := Lib.hid (HB.out.trans ((HB3.out.trans (b4.mono HB3.out.size)).mono HB.out.size))
        have HW4 := Lib.hid (HWL.out w4)
        clear b4 f0 f2 fk HND HWL HB3
        go_wp2_with fail
        refine HW4.out.mono ?_
        rintro e w5 ⟨rfl, b5⟩
        have HB5 := Lib.hid (HB4.out.trans (b5.mono HB4.out.size))
        clear b5 HW4 q1 q2
        cases wl
        case true =>
          have HF : Hid (r = false) := Lib.hid HST.out
          go_wp2_with fail
          go_ret
          exact ⟨by rw [HF.out]; rfl, HB5.out⟩
        case false =>
          have HF : Hid (r = scanR S row c ws (k - 1)) := Lib.hid HST.out
          go_wp2_with fail
          exact ⟨⟨k - 1, by omega, by go_num, HF.out, HB5.out⟩, by simp [intOf]; omega⟩
end Go.Proofs.Ytbadckkcjjfnoaa
