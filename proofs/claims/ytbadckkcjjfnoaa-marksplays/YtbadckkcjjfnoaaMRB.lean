/-
  The drawn region of the reference's Set for marks, over an opaque post.
-/
import Derived.Test.YtbadckkcjjfnoaaMR5
import Derived.Test.YtbadckkcjjfnoaaDHeld
import Derived.Deep.RegionHeld3
namespace Go.Proofs.Ytbadckkcjjfnoaa
open Go.RowKit

set_option maxHeartbeats 8000000 in
set_option maxRecDepth 100000 in
theorem rput_regN {P : Nat → Prop} {w : World} {B X k cap : Nat} {S2 : List MK} {rs es fs : List (MK × Value)} {x : MK} {NM : ByteArray} {pa : Option Addr} {ca : Nat}  {Q : Exit → Act → World → Prop} {u2 u3 u4 u6 u7 u8 u9 u10 u11 u12 u13 u14 u15 u16 u17 u18 u19 u20 u21 u22 u23 u24 u25 u26 u27 u28 u29 u30 u31 u32 u33 u34 u35 u36 u37 u38 u39 u40 : Value} (h : PEnd P w B S2 x NM pa ca none cap rs) (hX : w.heap[X]? = some (.cells #[.int .i64 x.node, .string NM, .slice pa x.attrs.length ca] 63)) (hk0 : k = 0) (hcap : cap = 0) (hr0 : rs.length = 0)
    (hE : ∀ W, Below w.heap.size w W → RowP P W (.slice none 0 0) es) (hF : ∀ W, Below w.heap.size w W → RowP P W (.slice none 0 0) fs) (HSL : Hid (([] : List (MK × Value)).length + es.length ≤ 4294967296)) (HSM : Hid (([] ++ es : List (MK × Value)).length + [(x, (Value.slice pa x.attrs.length ca))].length ≤ 4294967296)) (HSN : Hid (([] ++ es ++ [(x, (Value.slice pa x.attrs.length ca))] : List (MK × Value)).length + fs.length ≤ 4294967296))
    (hQ : ∀ (x20 x21 x22 x23 x24 x25 x26 x27 x28 x29 x30 x31 x32 x33 x34 x35 x36 x37 x38 x39 x40 v' : Value) (w' : World), w'.ownsRow w.heap.size 63 3 v' ([] ++ es ++ [(x, (Value.slice pa x.attrs.length ca))] ++ fs).length (mkCells ([] ++ es ++ [(x, (Value.slice pa x.attrs.length ca))] ++ fs)) → Below w.heap.size w w' → Q .normal { tmps := #[.pointer (some ⟨B, 0, none⟩), .int .i64 (k : Int), u2, u3, u4, .pointer (some ⟨X, 0, none⟩), u6, u7, u8, u9, u10, u11, u12, u13, u14, u15, u16, u17, u18, u19, x20, x21, x22, x23, x24, x25, x26, x27, x28, x29, x30, x31, x32, x33, x34, x35, x36, x37, x38, x39, x40], defers := [] } (w'.setCell ⟨B, 0, none⟩ v')) :
    (Code.region 3 #[{ dst := some 20, op := Op.move (Operand.tmp 0), type := 56, pos := "ref.go:100", after := #[], guard := none }, { dst := some 21, op := Op.buildSlice 102 0 #[], type := 102, pos := "ref.go:100", after := #[], guard := none }, { dst := some 22, op := Op.move (Operand.tmp 0), type := 56, pos := "ref.go:100", after := #[], guard := none }, { dst := some 23, op := Op.nilCheck (Operand.tmp 22), type := 0, pos := "ref.go:100", after := #[{ on := 2, ground := Ground.data }], guard := none }, { dst := some 24, op := Op.fieldAddr 106 (Operand.tmp 23) 0, type := 0, pos := "ref.go:100", after := #[{ on := 3, ground := Ground.data }], guard := none }, { dst := some 25, op := Op.load 102 (Operand.tmp 24), type := 102, pos := "ref.go:100", after := #[{ on := 4, ground := Ground.data }], guard := none }, { dst := some 26, op := Op.move (Operand.tmp 1), type := 3, pos := "ref.go:100", after := #[], guard := none }, { dst := some 27, op := Op.slice 102 (Operand.tmp 25) none (some (Operand.tmp 26)) none, type := 102, pos := "ref.go:100", after := #[{ on := 5, ground := Ground.data }, { on := 6, ground := Ground.data }], guard := none }, { dst := some 28, op := Op.call { callee := Callee.builtin Builtin.append, args := #[Operand.tmp 21, Operand.tmp 27], argTypes := #[ 102, 102 ] }, type := 102, pos := "ref.go:100", after := #[{ on := 1, ground := Ground.data }, { on := 7, ground := Ground.data }], guard := none }, { dst := some 29, op := Op.load 63 (Operand.tmp 5), type := 63, pos := "ref.go:100", after := #[], guard := none }, { dst := some 30, op := Op.buildSlice 102 1 #[(0, Operand.tmp 29)], type := 102, pos := "ref.go:100", after := #[{ on := 9, ground := Ground.data }], guard := none }, { dst := some 31, op := Op.call { callee := Callee.builtin Builtin.append, args := #[Operand.tmp 28, Operand.tmp 30], argTypes := #[ 102, 102 ] }, type := 102, pos := "ref.go:100", after := #[{ on := 8, ground := Ground.data }, { on := 10, ground := Ground.data }, { on := 8, ground := Ground.chain }], guard := none }, { dst := some 32, op := Op.move (Operand.tmp 0), type := 56, pos := "ref.go:100", after := #[], guard := none }, { dst := some 33, op := Op.nilCheck (Operand.tmp 32), type := 0, pos := "ref.go:100", after := #[{ on := 12, ground := Ground.data }], guard := none }, { dst := some 34, op := Op.fieldAddr 106 (Operand.tmp 33) 0, type := 0, pos := "ref.go:100", after := #[{ on := 13, ground := Ground.data }], guard := none }, { dst := some 35, op := Op.load 102 (Operand.tmp 34), type := 102, pos := "ref.go:100", after := #[{ on := 14, ground := Ground.data }], guard := none }, { dst := some 36, op := Op.move (Operand.tmp 1), type := 3, pos := "ref.go:100", after := #[], guard := none }, { dst := some 37, op := Op.slice 102 (Operand.tmp 35) (some (Operand.tmp 36)) none none, type := 102, pos := "ref.go:100", after := #[{ on := 15, ground := Ground.data }, { on := 16, ground := Ground.data }], guard := none }, { dst := some 38, op := Op.call { callee := Callee.builtin Builtin.append, args := #[Operand.tmp 31, Operand.tmp 37], argTypes := #[ 102, 102 ] }, type := 102, pos := "ref.go:100", after := #[{ on := 11, ground := Ground.data }, { on := 17, ground := Ground.data }, { on := 11, ground := Ground.chain }], guard := none }, { dst := some 39, op := Op.nilCheck (Operand.tmp 20), type := 0, pos := "ref.go:100", after := #[{ on := 0, ground := Ground.data }, { on := 0, ground := Ground.phase }, { on := 1, ground := Ground.phase }, { on := 2, ground := Ground.phase }, { on := 3, ground := Ground.phase }, { on := 4, ground := Ground.phase }, { on := 5, ground := Ground.phase }, { on := 6, ground := Ground.phase }, { on := 7, ground := Ground.phase }, { on := 8, ground := Ground.phase }, { on := 9, ground := Ground.phase }, { on := 10, ground := Ground.phase }, { on := 11, ground := Ground.phase }, { on := 12, ground := Ground.phase }, { on := 13, ground := Ground.phase }, { on := 14, ground := Ground.phase }, { on := 15, ground := Ground.phase }, { on := 16, ground := Ground.phase }, { on := 17, ground := Ground.phase }, { on := 18, ground := Ground.phase }], guard := none }, { dst := some 40, op := Op.fieldAddr 106 (Operand.tmp 39) 0, type := 0, pos := "ref.go:100", after := #[{ on := 19, ground := Ground.data }, { on := 0, ground := Ground.phase }, { on := 1, ground := Ground.phase }, { on := 2, ground := Ground.phase }, { on := 3, ground := Ground.phase }, { on := 4, ground := Ground.phase }, { on := 5, ground := Ground.phase }, { on := 6, ground := Ground.phase }, { on := 7, ground := Ground.phase }, { on := 8, ground := Ground.phase }, { on := 9, ground := Ground.phase }, { on := 10, ground := Ground.phase }, { on := 11, ground := Ground.phase }, { on := 12, ground := Ground.phase }, { on := 13, ground := Ground.phase }, { on := 14, ground := Ground.phase }, { on := 15, ground := Ground.phase }, { on := 16, ground := Ground.phase }, { on := 17, ground := Ground.phase }, { on := 18, ground := Ground.phase }], guard := none }, { dst := none, op := Op.store 102 (Operand.tmp 40) (Operand.tmp 38), type := 0, pos := "ref.go:100", after := #[{ on := 20, ground := Ground.data }, { on := 18, ground := Ground.data }, { on := 18, ground := Ground.chain }, { on := 0, ground := Ground.phase }, { on := 1, ground := Ground.phase }, { on := 2, ground := Ground.phase }, { on := 3, ground := Ground.phase }, { on := 4, ground := Ground.phase }, { on := 5, ground := Ground.phase }, { on := 6, ground := Ground.phase }, { on := 7, ground := Ground.phase }, { on := 8, ground := Ground.phase }, { on := 9, ground := Ground.phase }, { on := 10, ground := Ground.phase }, { on := 11, ground := Ground.phase }, { on := 12, ground := Ground.phase }, { on := 13, ground := Ground.phase }, { on := 14, ground := Ground.phase }, { on := 15, ground := Ground.phase }, { on := 16, ground := Ground.phase }, { on := 17, ground := Ground.phase }, { on := 18, ground := Ground.phase }], guard := none }] true).wp Try.prog Q { tmps := #[.pointer (some ⟨B, 0, none⟩), .int .i64 (k : Int), u2, u3, u4, .pointer (some ⟨X, 0, none⟩), u6, u7, u8, u9, u10, u11, u12, u13, u14, u15, u16, u17, u18, u19, u20, u21, u22, u23, u24, u25, u26, u27, u28, u29, u30, u31, u32, u33, u34, u35, u36, u37, u38, u39, u40], defers := [] } w := by
  refine wp_region_noPanic ?_
  subst hcap hk0
  have hpe : (none : Option Addr) = none → (0 : Nat) = 0 ∧ (0 : Nat) = 0 := fun _ => ⟨rfl, rfl⟩
  have hpf : (none : Option Addr) = none → (0 : Nat) = 0 ∧ (0 : Nat) = 0 := fun _ => ⟨rfl, rfl⟩
  have HQ := Lib.hid hQ
  have H := Lib.hid h
  have HE := Lib.hid hE
  have HF := Lib.hid hF
  have hxc := fun W (hb : Below w.heap.size w W) => (hb.block X (heap_lt hX)).trans hX
  have HSB : Hid (∀ W, Below w.heap.size w W → W.cell? ⟨B, 0, none⟩ = some (.slice none rs.length 0) ∧ W.cell? ⟨X, 0, none⟩ = some (.int .i64 x.node) ∧ W.cell? ⟨X, 1, none⟩ = some (.string NM) ∧ W.cell? ⟨X, 2, none⟩ = some (.slice pa x.attrs.length ca) ∧ Below w.heap.size w W) := Lib.hid fun W hb => ⟨(h.ref.below hb).cell, (block_cell (hxc W hb) 0).1, (block_cell (hxc W hb) 1).1, (block_cell (hxc W hb) 2).1, hb⟩
  have hbd : Below w.heap.size w w.drew := (Below.refl _ w).drew
  clear hQ h hE hF hxc
  refine wp_region_heldS_drew (s := 21) (S := fun W => W.cell? ⟨B, 0, none⟩ = some (.slice none rs.length 0) ∧ W.cell? ⟨X, 0, none⟩ = some (.int .i64 x.node) ∧ W.cell? ⟨X, 1, none⟩ = some (.string NM) ∧ W.cell? ⟨X, 2, none⟩ = some (.slice pa x.attrs.length ca) ∧ Below w.heap.size w W) (by kernel_rfl) (HSB.out _ hbd) (fun hHeld => ?_)
  generalize w.drew = W0 at *
  refine wpAnyS_take (i := 0) (oi := { dst := some 20, op := Op.move (Operand.tmp 0), type := 56, pos := "ref.go:100", after := #[], guard := none }) (v := ?_) rfl (by kernel_rfl) (by kernel_rfl) (by kernel_rfl) (by kernel_rfl) (fun _ _ _ h => h) (Or.inl ⟨by rfl, ?_⟩) (by assumption) ?_
  rotate_left
  focus (intro w hSw; (try dsimp only at hSw); go_simp; (try with_reducible rfl))
  try simp only [Act.put, List.setIfInBounds_toArray, List.set_cons_zero, List.set_cons_succ]
  refine wpAnyS_take (i := 2) (oi := { dst := some 22, op := Op.move (Operand.tmp 0), type := 56, pos := "ref.go:100", after := #[], guard := none }) (v := ?_) rfl (by kernel_rfl) (by kernel_rfl) (by kernel_rfl) (by kernel_rfl) (fun _ _ _ h => h) (Or.inl ⟨by rfl, ?_⟩) (by assumption) ?_
  rotate_left
  focus (intro w hSw; (try dsimp only at hSw); go_simp; (try with_reducible rfl))
  try simp only [Act.put, List.setIfInBounds_toArray, List.set_cons_zero, List.set_cons_succ]
  refine wpAnyS_take (i := 3) (oi := { dst := some 23, op := Op.nilCheck (Operand.tmp 22), type := 0, pos := "ref.go:100", after := #[{ on := 2, ground := Ground.data }], guard := none }) (v := ?_) rfl (by kernel_rfl) (by kernel_rfl) (by kernel_rfl) (by kernel_rfl) (fun _ _ _ h => h) (Or.inl ⟨by rfl, ?_⟩) (by assumption) ?_
  rotate_left
  focus (intro w hSw; (try dsimp only at hSw); go_simp; (try with_reducible rfl))
  try simp only [Act.put, List.setIfInBounds_toArray, List.set_cons_zero, List.set_cons_succ]
  refine wpAnyS_take (i := 4) (oi := { dst := some 24, op := Op.fieldAddr 106 (Operand.tmp 23) 0, type := 0, pos := "ref.go:100", after := #[{ on := 3, ground := Ground.data }], guard := none }) (v := ?_) rfl (by kernel_rfl) (by kernel_rfl) (by kernel_rfl) (by kernel_rfl) (fun _ _ _ h => h) (Or.inl ⟨by rfl, ?_⟩) (by assumption) ?_
  rotate_left
  focus (intro w hSw; (try dsimp only at hSw); go_simp; (try with_reducible rfl))
  try simp only [Act.put, List.setIfInBounds_toArray, List.set_cons_zero, List.set_cons_succ]
  refine wpAnyS_take (i := 5) (oi := { dst := some 25, op := Op.load 102 (Operand.tmp 24), type := 102, pos := "ref.go:100", after := #[{ on := 4, ground := Ground.data }], guard := none }) (v := ?_) rfl (by kernel_rfl) (by kernel_rfl) (by kernel_rfl) (by kernel_rfl) (fun _ _ _ h => h) (Or.inl ⟨by rfl, ?_⟩) (by assumption) ?_
  rotate_left
  focus (intro w hSw; (try dsimp only at hSw); go_simp; (try with_reducible rfl))
  try simp only [Act.put, List.setIfInBounds_toArray, List.set_cons_zero, List.set_cons_succ]
  refine wpAnyS_take (i := 6) (oi := { dst := some 26, op := Op.move (Operand.tmp 1), type := 3, pos := "ref.go:100", after := #[], guard := none }) (v := ?_) rfl (by kernel_rfl) (by kernel_rfl) (by kernel_rfl) (by kernel_rfl) (fun _ _ _ h => h) (Or.inl ⟨by rfl, ?_⟩) (by assumption) ?_
  rotate_left
  focus (intro w hSw; (try dsimp only at hSw); go_simp; (try with_reducible rfl))
  try simp only [Act.put, List.setIfInBounds_toArray, List.set_cons_zero, List.set_cons_succ]
  refine wpAnyS_take (i := 7) (oi := { dst := some 27, op := Op.slice 102 (Operand.tmp 25) none (some (Operand.tmp 26)) none, type := 102, pos := "ref.go:100", after := #[{ on := 5, ground := Ground.data }, { on := 6, ground := Ground.data }], guard := none }) (v := ?_) rfl (by kernel_rfl) (by kernel_rfl) (by kernel_rfl) (by kernel_rfl) (fun _ _ _ h => h) (Or.inl ⟨by rfl, ?_⟩) (by assumption) ?_
  rotate_left
  focus (intro w hSw; (try dsimp only at hSw); go_simp; (try with_reducible rfl))
  try simp only [Act.put, List.setIfInBounds_toArray, List.set_cons_zero, List.set_cons_succ]
  refine wpAnyS_take (i := 9) (oi := { dst := some 29, op := Op.load 63 (Operand.tmp 5), type := 63, pos := "ref.go:100", after := #[], guard := none }) (v := ?_) rfl (by kernel_rfl) (by kernel_rfl) (by kernel_rfl) (by kernel_rfl) (fun _ _ _ h => h) (Or.inl ⟨by rfl, ?_⟩) (by assumption) ?_
  rotate_left
  focus (intro w hSw; (try dsimp only at hSw); go_simp; (try with_reducible rfl))
  try simp only [Act.put, List.setIfInBounds_toArray, List.set_cons_zero, List.set_cons_succ]
  refine wpAnyS_take (i := 12) (oi := { dst := some 32, op := Op.move (Operand.tmp 0), type := 56, pos := "ref.go:100", after := #[], guard := none }) (v := ?_) rfl (by kernel_rfl) (by kernel_rfl) (by kernel_rfl) (by kernel_rfl) (fun _ _ _ h => h) (Or.inl ⟨by rfl, ?_⟩) (by assumption) ?_
  rotate_left
  focus (intro w hSw; (try dsimp only at hSw); go_simp; (try with_reducible rfl))
  try simp only [Act.put, List.setIfInBounds_toArray, List.set_cons_zero, List.set_cons_succ]
  refine wpAnyS_take (i := 13) (oi := { dst := some 33, op := Op.nilCheck (Operand.tmp 32), type := 0, pos := "ref.go:100", after := #[{ on := 12, ground := Ground.data }], guard := none }) (v := ?_) rfl (by kernel_rfl) (by kernel_rfl) (by kernel_rfl) (by kernel_rfl) (fun _ _ _ h => h) (Or.inl ⟨by rfl, ?_⟩) (by assumption) ?_
  rotate_left
  focus (intro w hSw; (try dsimp only at hSw); go_simp; (try with_reducible rfl))
  try simp only [Act.put, List.setIfInBounds_toArray, List.set_cons_zero, List.set_cons_succ]
  refine wpAnyS_take (i := 14) (oi := { dst := some 34, op := Op.fieldAddr 106 (Operand.tmp 33) 0, type := 0, pos := "ref.go:100", after := #[{ on := 13, ground := Ground.data }], guard := none }) (v := ?_) rfl (by kernel_rfl) (by kernel_rfl) (by kernel_rfl) (by kernel_rfl) (fun _ _ _ h => h) (Or.inl ⟨by rfl, ?_⟩) (by assumption) ?_
  rotate_left
  focus (intro w hSw; (try dsimp only at hSw); go_simp; (try with_reducible rfl))
  try simp only [Act.put, List.setIfInBounds_toArray, List.set_cons_zero, List.set_cons_succ]
  refine wpAnyS_take (i := 15) (oi := { dst := some 35, op := Op.load 102 (Operand.tmp 34), type := 102, pos := "ref.go:100", after := #[{ on := 14, ground := Ground.data }], guard := none }) (v := ?_) rfl (by kernel_rfl) (by kernel_rfl) (by kernel_rfl) (by kernel_rfl) (fun _ _ _ h => h) (Or.inl ⟨by rfl, ?_⟩) (by assumption) ?_
  rotate_left
  focus (intro w hSw; (try dsimp only at hSw); go_simp; (try with_reducible rfl))
  try simp only [Act.put, List.setIfInBounds_toArray, List.set_cons_zero, List.set_cons_succ]
  refine wpAnyS_take (i := 16) (oi := { dst := some 36, op := Op.move (Operand.tmp 1), type := 3, pos := "ref.go:100", after := #[], guard := none }) (v := ?_) rfl (by kernel_rfl) (by kernel_rfl) (by kernel_rfl) (by kernel_rfl) (fun _ _ _ h => h) (Or.inl ⟨by rfl, ?_⟩) (by assumption) ?_
  rotate_left
  focus (intro w hSw; (try dsimp only at hSw); go_simp; (try with_reducible rfl))
  try simp only [Act.put, List.setIfInBounds_toArray, List.set_cons_zero, List.set_cons_succ]
  refine wpAnyS_take (i := 17) (oi := { dst := some 37, op := Op.slice 102 (Operand.tmp 35) (some (Operand.tmp 36)) none none, type := 102, pos := "ref.go:100", after := #[{ on := 15, ground := Ground.data }, { on := 16, ground := Ground.data }], guard := none }) (v := ?_) rfl (by kernel_rfl) (by kernel_rfl) (by kernel_rfl) (by kernel_rfl) (fun _ _ _ h => h) (Or.inl ⟨by rfl, ?_⟩) (by assumption) ?_
  rotate_left
  focus (intro w hSw; (try dsimp only at hSw); go_simp; (try with_reducible rfl))
  try simp only [Act.put, List.setIfInBounds_toArray, List.set_cons_zero, List.set_cons_succ]
  refine wpAnyS_ready (rs := [1, 10]) (by kernel_rfl) (by simp) ?_
  refine AllReadyS.cons (o := { dst := some 21, op := Op.buildSlice 102 0 #[], type := 102, pos := "ref.go:100", after := #[], guard := none }) rfl (fun K hK => ?_) (AllReadyS.cons (o := { dst := some 30, op := Op.buildSlice 102 1 #[(0, Operand.tmp 29)], type := 102, pos := "ref.go:100", after := #[{ on := 9, ground := Ground.data }], guard := none }) rfl (fun K hK => ?_) AllReadyS.nil)
  · go_simp
    have hba1 : Below w.heap.size w (W0.alloc (.cells #[] 63)) := hbd.alloc hbd.size _
    have hEa1 : (W0.alloc (.cells #[] 63)).heap[W0.heap.size]? = some (.cells #[] 63 (0, 0)) := heap_alloc_new _ _
    have hea1 : w.heap.size ≤ W0.heap.size := hbd.size
    refine hK.out _ _ (HSB.out _ hba1) (fun hHeld => ?_)
    clear hK K
    try simp only [Act.put, List.setIfInBounds_toArray, List.set_cons_zero, List.set_cons_succ]
    change wpAnyS _ _ _ _ _ _ _ _ _ (W0.alloc (.cells #[] 63))
    generalize (W0.alloc (.cells #[] 63)) = Wa1 at *
    generalize W0.heap.size = e0a1 at *
    clear hHeld
    have hHeld := HSB.out _ hba1
    refine wpAnyS_ready (rs := [8, 10]) (by kernel_rfl) (by simp) ?_
    refine AllReadyS.cons (o := { dst := some 28, op := Op.call { callee := Callee.builtin Builtin.append, args := #[Operand.tmp 21, Operand.tmp 27], argTypes := #[ 102, 102 ] }, type := 102, pos := "ref.go:100", after := #[{ on := 1, ground := Ground.data }, { on := 7, ground := Ground.data }], guard := none }) rfl (fun K hK => ?_) (AllReadyS.cons (o := { dst := some 30, op := Op.buildSlice 102 1 #[(0, Operand.tmp 29)], type := 102, pos := "ref.go:100", after := #[{ on := 9, ground := Ground.data }], guard := none }) rfl (fun K hK => ?_) AllReadyS.nil)
    · have hownb2 := own_empty hEa1 hea1
      refine step_append_row rfl (.tmp 21) (.tmp 27) rfl w.heap.size [] _ (by rfl) hownb2 P _ _ _ es (by rfl) hpe (HE.out _ hba1) HSL.out hba1.size ?_
      intro vb2 Wb2 hrb2 hgb2
      obtain ⟨ppb2, llb2, ccb2, rfl⟩ := own_slice hrb2
      obtain ⟨hbb2, _, _, _⟩ := RefQ.grown H.out.ref hba1 hownb2 hgb2
      refine hK.out _ _ (HSB.out _ hbb2) (fun hHeld => ?_)
      clear hK K
      try simp only [Act.put, List.setIfInBounds_toArray, List.set_cons_zero, List.set_cons_succ]
      refine wpAnyS_ready (rs := [10]) (by kernel_rfl) (by simp) ?_
      refine AllReadyS.cons (o := { dst := some 30, op := Op.buildSlice 102 1 #[(0, Operand.tmp 29)], type := 102, pos := "ref.go:100", after := #[{ on := 9, ground := Ground.data }], guard := none }) rfl (fun K hK => ?_) AllReadyS.nil
      go_simp
      have hbb3 : Below w.heap.size w (Wb2.alloc (.cells #[.int .i64 x.node, .string NM, .slice pa x.attrs.length ca] 63)) := hbb2.alloc hbb2.size _
      have hOb3 : (Wb2.alloc (.cells #[.int .i64 x.node, .string NM, .slice pa x.attrs.length ca] 63)).heap[Wb2.heap.size]? = some (.cells #[.int .i64 x.node, .string NM, .slice pa x.attrs.length ca] 63) := heap_alloc_new _ _
      have hrb3 := hrb2.alloc (.cells #[.int .i64 x.node, .string NM, .slice pa x.attrs.length ca] 63)
      refine hK.out _ _ (HSB.out _ hbb3) (fun hHeld => ?_)
      clear hK K
      try simp only [Act.put, List.setIfInBounds_toArray, List.set_cons_zero, List.set_cons_succ]
      change wpAnyS _ _ _ _ _ _ _ _ _ (Wb2.alloc (.cells #[.int .i64 x.node, .string NM, .slice pa x.attrs.length ca] 63))
      generalize (Wb2.alloc (.cells #[.int .i64 x.node, .string NM, .slice pa x.attrs.length ca] 63)) = Wb3 at *
      generalize Wb2.heap.size = o1b3 at *
      clear hHeld
      have hHeld := HSB.out _ hbb3
      refine wpAnyS_ready (rs := [11]) (by kernel_rfl) (by simp) ?_
      refine AllReadyS.cons (o := { dst := some 31, op := Op.call { callee := Callee.builtin Builtin.append, args := #[Operand.tmp 28, Operand.tmp 30], argTypes := #[ 102, 102 ] }, type := 102, pos := "ref.go:100", after := #[{ on := 8, ground := Ground.data }, { on := 10, ground := Ground.data }, { on := 8, ground := Ground.chain }], guard := none }) rfl (fun K hK => ?_) AllReadyS.nil
      refine step_append_row rfl (.tmp 28) (.tmp 30) rfl w.heap.size ([] ++ es) _ (by rfl) hrb3 (fun b => P b ∨ b = o1b3) _ _ _ [(x, (Value.slice pa x.attrs.length ca))] (by rfl) (fun e => by cases e) (H.out.one hbb3 hOb3) HSM.out hbb3.size ?_
      intro vb4 Wb4 hrb4 hgb4
      obtain ⟨ppb4, llb4, ccb4, rfl⟩ := own_slice hrb4
      obtain ⟨hbb4, _, _, _⟩ := RefQ.grown H.out.ref hbb3 hrb3 hgb4
      refine hK.out _ _ (HSB.out _ hbb4) (fun hHeld => ?_)
      clear hK K
      try simp only [Act.put, List.setIfInBounds_toArray, List.set_cons_zero, List.set_cons_succ]
      refine wpAnyS_ready (rs := [18]) (by kernel_rfl) (by simp) ?_
      refine AllReadyS.cons (o := { dst := some 38, op := Op.call { callee := Callee.builtin Builtin.append, args := #[Operand.tmp 31, Operand.tmp 37], argTypes := #[ 102, 102 ] }, type := 102, pos := "ref.go:100", after := #[{ on := 11, ground := Ground.data }, { on := 17, ground := Ground.data }, { on := 11, ground := Ground.chain }], guard := none }) rfl (fun K hK => ?_) AllReadyS.nil
      refine step_append_row rfl (.tmp 31) (.tmp 37) rfl w.heap.size ([] ++ es ++ [(x, (Value.slice pa x.attrs.length ca))]) _ (by rfl) hrb4 P _ _ _ fs (by rfl) hpf (HF.out _ hbb4) HSN.out hbb4.size ?_
      intro vb5 Wb5 hrb5 hgb5
      obtain ⟨ppb5, llb5, ccb5, rfl⟩ := own_slice hrb5
      obtain ⟨hbb5, _, _, _⟩ := RefQ.grown H.out.ref hbb4 hrb4 hgb5
      refine hK.out _ _ (HSB.out _ hbb5) (fun hHeld => ?_)
      clear hK K
      try simp only [Act.put, List.setIfInBounds_toArray, List.set_cons_zero, List.set_cons_succ]
      refine wpAnyS_ready (rs := [19]) (by kernel_rfl) (by simp) ?_
      refine AllReadyS.cons (o := { dst := some 39, op := Op.nilCheck (Operand.tmp 20), type := 0, pos := "ref.go:100", after := #[{ on := 0, ground := Ground.data }, { on := 0, ground := Ground.phase }, { on := 1, ground := Ground.phase }, { on := 2, ground := Ground.phase }, { on := 3, ground := Ground.phase }, { on := 4, ground := Ground.phase }, { on := 5, ground := Ground.phase }, { on := 6, ground := Ground.phase }, { on := 7, ground := Ground.phase }, { on := 8, ground := Ground.phase }, { on := 9, ground := Ground.phase }, { on := 10, ground := Ground.phase }, { on := 11, ground := Ground.phase }, { on := 12, ground := Ground.phase }, { on := 13, ground := Ground.phase }, { on := 14, ground := Ground.phase }, { on := 15, ground := Ground.phase }, { on := 16, ground := Ground.phase }, { on := 17, ground := Ground.phase }, { on := 18, ground := Ground.phase }], guard := none }) rfl (fun K hK => ?_) AllReadyS.nil
      go_simp
      refine hK.out _ _ hHeld (fun hHeld => ?_)
      clear hK K
      try simp only [Act.put, List.setIfInBounds_toArray, List.set_cons_zero, List.set_cons_succ]
      refine wpAnyS_ready (rs := [20]) (by kernel_rfl) (by simp) ?_
      refine AllReadyS.cons (o := { dst := some 40, op := Op.fieldAddr 106 (Operand.tmp 39) 0, type := 0, pos := "ref.go:100", after := #[{ on := 19, ground := Ground.data }, { on := 0, ground := Ground.phase }, { on := 1, ground := Ground.phase }, { on := 2, ground := Ground.phase }, { on := 3, ground := Ground.phase }, { on := 4, ground := Ground.phase }, { on := 5, ground := Ground.phase }, { on := 6, ground := Ground.phase }, { on := 7, ground := Ground.phase }, { on := 8, ground := Ground.phase }, { on := 9, ground := Ground.phase }, { on := 10, ground := Ground.phase }, { on := 11, ground := Ground.phase }, { on := 12, ground := Ground.phase }, { on := 13, ground := Ground.phase }, { on := 14, ground := Ground.phase }, { on := 15, ground := Ground.phase }, { on := 16, ground := Ground.phase }, { on := 17, ground := Ground.phase }, { on := 18, ground := Ground.phase }], guard := none }) rfl (fun K hK => ?_) AllReadyS.nil
      go_simp
      refine hK.out _ _ hHeld (fun hHeld => ?_)
      clear hK K
      try simp only [Act.put, List.setIfInBounds_toArray, List.set_cons_zero, List.set_cons_succ]
      have cB := (H.out.ref.below hbb5).cell
      have fB := (H.out.ref.below hbb5).free
      refine wpAnyS_ready (rs := [21]) (by kernel_rfl) (by simp) ?_
      refine AllReadyS.last (o := { dst := none, op := Op.store 102 (Operand.tmp 40) (Operand.tmp 38), type := 0, pos := "ref.go:100", after := #[{ on := 20, ground := Ground.data }, { on := 18, ground := Ground.data }, { on := 18, ground := Ground.chain }, { on := 0, ground := Ground.phase }, { on := 1, ground := Ground.phase }, { on := 2, ground := Ground.phase }, { on := 3, ground := Ground.phase }, { on := 4, ground := Ground.phase }, { on := 5, ground := Ground.phase }, { on := 6, ground := Ground.phase }, { on := 7, ground := Ground.phase }, { on := 8, ground := Ground.phase }, { on := 9, ground := Ground.phase }, { on := 10, ground := Ground.phase }, { on := 11, ground := Ground.phase }, { on := 12, ground := Ground.phase }, { on := 13, ground := Ground.phase }, { on := 14, ground := Ground.phase }, { on := 15, ground := Ground.phase }, { on := 16, ground := Ground.phase }, { on := 17, ground := Ground.phase }, { on := 18, ground := Ground.phase }], guard := none }) rfl (fun K hK => ?_)
      go_simp
      refine hK.out _ _ ?_
      refine wpAnyS_done (by kernel_rfl) ?_ _
      try simp only [Act.put, List.setIfInBounds_toArray, List.set_cons_zero, List.set_cons_succ]
      exact NoPanic.normal (HQ.out _ _ _ _ _ _ _ _ _ _ _ _ _ _ _ _ _ _ _ _ _ _ _ hrb5 hbb5)
    · go_simp
      have hbc6 : Below w.heap.size w (Wa1.alloc (.cells #[.int .i64 x.node, .string NM, .slice pa x.attrs.length ca] 63)) := hba1.alloc hba1.size _
      have hOc6 : (Wa1.alloc (.cells #[.int .i64 x.node, .string NM, .slice pa x.attrs.length ca] 63)).heap[Wa1.heap.size]? = some (.cells #[.int .i64 x.node, .string NM, .slice pa x.attrs.length ca] 63) := heap_alloc_new _ _
      have hEc6 : (Wa1.alloc (.cells #[.int .i64 x.node, .string NM, .slice pa x.attrs.length ca] 63)).heap[e0a1]? = some (.cells #[] 63 (0, 0)) := (((Below.refl _ Wa1).alloc (Nat.le_refl _) (.cells #[.int .i64 x.node, .string NM, .slice pa x.attrs.length ca] 63)).block _ (heap_lt hEa1)).trans hEa1
      have hnc6 : Wa1.heap.size ≠ e0a1 := by have := heap_lt hEa1; omega
      refine hK.out _ _ (HSB.out _ hbc6) (fun hHeld => ?_)
      clear hK K
      try simp only [Act.put, List.setIfInBounds_toArray, List.set_cons_zero, List.set_cons_succ]
      change wpAnyS _ _ _ _ _ _ _ _ _ (Wa1.alloc (.cells #[.int .i64 x.node, .string NM, .slice pa x.attrs.length ca] 63))
      generalize (Wa1.alloc (.cells #[.int .i64 x.node, .string NM, .slice pa x.attrs.length ca] 63)) = Wc6 at *
      generalize Wa1.heap.size = o1c6 at *
      clear hHeld
      have hHeld := HSB.out _ hbc6
      refine wpAnyS_ready (rs := [8]) (by kernel_rfl) (by simp) ?_
      refine AllReadyS.cons (o := { dst := some 28, op := Op.call { callee := Callee.builtin Builtin.append, args := #[Operand.tmp 21, Operand.tmp 27], argTypes := #[ 102, 102 ] }, type := 102, pos := "ref.go:100", after := #[{ on := 1, ground := Ground.data }, { on := 7, ground := Ground.data }], guard := none }) rfl (fun K hK => ?_) AllReadyS.nil
      have hownc7 := own_empty hEc6 hea1
      refine step_append_row rfl (.tmp 21) (.tmp 27) rfl w.heap.size [] _ (by rfl) hownc7 P _ _ _ es (by rfl) hpe (HE.out _ hbc6) HSL.out hbc6.size ?_
      intro vc7 Wc7 hrc7 hgc7
      obtain ⟨ppc7, llc7, ccc7, rfl⟩ := own_slice hrc7
      obtain ⟨hbc7, _, _, _⟩ := RefQ.grown H.out.ref hbc6 hownc7 hgc7
      have hOc7 := far_block hgc7 hOc6 (by simp [Value.ownBlock]; exact hnc6)
      refine hK.out _ _ (HSB.out _ hbc7) (fun hHeld => ?_)
      clear hK K
      try simp only [Act.put, List.setIfInBounds_toArray, List.set_cons_zero, List.set_cons_succ]
      refine wpAnyS_ready (rs := [11]) (by kernel_rfl) (by simp) ?_
      refine AllReadyS.cons (o := { dst := some 31, op := Op.call { callee := Callee.builtin Builtin.append, args := #[Operand.tmp 28, Operand.tmp 30], argTypes := #[ 102, 102 ] }, type := 102, pos := "ref.go:100", after := #[{ on := 8, ground := Ground.data }, { on := 10, ground := Ground.data }, { on := 8, ground := Ground.chain }], guard := none }) rfl (fun K hK => ?_) AllReadyS.nil
      refine step_append_row rfl (.tmp 28) (.tmp 30) rfl w.heap.size ([] ++ es) _ (by rfl) hrc7 (fun b => P b ∨ b = o1c6) _ _ _ [(x, (Value.slice pa x.attrs.length ca))] (by rfl) (fun e => by cases e) (H.out.one hbc7 hOc7) HSM.out hbc7.size ?_
      intro vc8 Wc8 hrc8 hgc8
      obtain ⟨ppc8, llc8, ccc8, rfl⟩ := own_slice hrc8
      obtain ⟨hbc8, _, _, _⟩ := RefQ.grown H.out.ref hbc7 hrc7 hgc8
      refine hK.out _ _ (HSB.out _ hbc8) (fun hHeld => ?_)
      clear hK K
      try simp only [Act.put, List.setIfInBounds_toArray, List.set_cons_zero, List.set_cons_succ]
      refine wpAnyS_ready (rs := [18]) (by kernel_rfl) (by simp) ?_
      refine AllReadyS.cons (o := { dst := some 38, op := Op.call { callee := Callee.builtin Builtin.append, args := #[Operand.tmp 31, Operand.tmp 37], argTypes := #[ 102, 102 ] }, type := 102, pos := "ref.go:100", after := #[{ on := 11, ground := Ground.data }, { on := 17, ground := Ground.data }, { on := 11, ground := Ground.chain }], guard := none }) rfl (fun K hK => ?_) AllReadyS.nil
      refine step_append_row rfl (.tmp 31) (.tmp 37) rfl w.heap.size ([] ++ es ++ [(x, (Value.slice pa x.attrs.length ca))]) _ (by rfl) hrc8 P _ _ _ fs (by rfl) hpf (HF.out _ hbc8) HSN.out hbc8.size ?_
      intro vc9 Wc9 hrc9 hgc9
      obtain ⟨ppc9, llc9, ccc9, rfl⟩ := own_slice hrc9
      obtain ⟨hbc9, _, _, _⟩ := RefQ.grown H.out.ref hbc8 hrc8 hgc9
      refine hK.out _ _ (HSB.out _ hbc9) (fun hHeld => ?_)
      clear hK K
      try simp only [Act.put, List.setIfInBounds_toArray, List.set_cons_zero, List.set_cons_succ]
      refine wpAnyS_ready (rs := [19]) (by kernel_rfl) (by simp) ?_
      refine AllReadyS.cons (o := { dst := some 39, op := Op.nilCheck (Operand.tmp 20), type := 0, pos := "ref.go:100", after := #[{ on := 0, ground := Ground.data }, { on := 0, ground := Ground.phase }, { on := 1, ground := Ground.phase }, { on := 2, ground := Ground.phase }, { on := 3, ground := Ground.phase }, { on := 4, ground := Ground.phase }, { on := 5, ground := Ground.phase }, { on := 6, ground := Ground.phase }, { on := 7, ground := Ground.phase }, { on := 8, ground := Ground.phase }, { on := 9, ground := Ground.phase }, { on := 10, ground := Ground.phase }, { on := 11, ground := Ground.phase }, { on := 12, ground := Ground.phase }, { on := 13, ground := Ground.phase }, { on := 14, ground := Ground.phase }, { on := 15, ground := Ground.phase }, { on := 16, ground := Ground.phase }, { on := 17, ground := Ground.phase }, { on := 18, ground := Ground.phase }], guard := none }) rfl (fun K hK => ?_) AllReadyS.nil
      go_simp
      refine hK.out _ _ hHeld (fun hHeld => ?_)
      clear hK K
      try simp only [Act.put, List.setIfInBounds_toArray, List.set_cons_zero, List.set_cons_succ]
      refine wpAnyS_ready (rs := [20]) (by kernel_rfl) (by simp) ?_
      refine AllReadyS.cons (o := { dst := some 40, op := Op.fieldAddr 106 (Operand.tmp 39) 0, type := 0, pos := "ref.go:100", after := #[{ on := 19, ground := Ground.data }, { on := 0, ground := Ground.phase }, { on := 1, ground := Ground.phase }, { on := 2, ground := Ground.phase }, { on := 3, ground := Ground.phase }, { on := 4, ground := Ground.phase }, { on := 5, ground := Ground.phase }, { on := 6, ground := Ground.phase }, { on := 7, ground := Ground.phase }, { on := 8, ground := Ground.phase }, { on := 9, ground := Ground.phase }, { on := 10, ground := Ground.phase }, { on := 11, ground := Ground.phase }, { on := 12, ground := Ground.phase }, { on := 13, ground := Ground.phase }, { on := 14, ground := Ground.phase }, { on := 15, ground := Ground.phase }, { on := 16, ground := Ground.phase }, { on := 17, ground := Ground.phase }, { on := 18, ground := Ground.phase }], guard := none }) rfl (fun K hK => ?_) AllReadyS.nil
      go_simp
      refine hK.out _ _ hHeld (fun hHeld => ?_)
      clear hK K
      try simp only [Act.put, List.setIfInBounds_toArray, List.set_cons_zero, List.set_cons_succ]
      have cB := (H.out.ref.below hbc9).cell
      have fB := (H.out.ref.below hbc9).free
      refine wpAnyS_ready (rs := [21]) (by kernel_rfl) (by simp) ?_
      refine AllReadyS.last (o := { dst := none, op := Op.store 102 (Operand.tmp 40) (Operand.tmp 38), type := 0, pos := "ref.go:100", after := #[{ on := 20, ground := Ground.data }, { on := 18, ground := Ground.data }, { on := 18, ground := Ground.chain }, { on := 0, ground := Ground.phase }, { on := 1, ground := Ground.phase }, { on := 2, ground := Ground.phase }, { on := 3, ground := Ground.phase }, { on := 4, ground := Ground.phase }, { on := 5, ground := Ground.phase }, { on := 6, ground := Ground.phase }, { on := 7, ground := Ground.phase }, { on := 8, ground := Ground.phase }, { on := 9, ground := Ground.phase }, { on := 10, ground := Ground.phase }, { on := 11, ground := Ground.phase }, { on := 12, ground := Ground.phase }, { on := 13, ground := Ground.phase }, { on := 14, ground := Ground.phase }, { on := 15, ground := Ground.phase }, { on := 16, ground := Ground.phase }, { on := 17, ground := Ground.phase }, { on := 18, ground := Ground.phase }], guard := none }) rfl (fun K hK => ?_)
      go_simp
      refine hK.out _ _ ?_
      refine wpAnyS_done (by kernel_rfl) ?_ _
      try simp only [Act.put, List.setIfInBounds_toArray, List.set_cons_zero, List.set_cons_succ]
      exact NoPanic.normal (HQ.out _ _ _ _ _ _ _ _ _ _ _ _ _ _ _ _ _ _ _ _ _ _ _ hrc9 hbc9)
  · go_simp
    have hbd10 : Below w.heap.size w (W0.alloc (.cells #[.int .i64 x.node, .string NM, .slice pa x.attrs.length ca] 63)) := hbd.alloc hbd.size _
    have hOd10 : (W0.alloc (.cells #[.int .i64 x.node, .string NM, .slice pa x.attrs.length ca] 63)).heap[W0.heap.size]? = some (.cells #[.int .i64 x.node, .string NM, .slice pa x.attrs.length ca] 63) := heap_alloc_new _ _
    refine hK.out _ _ (HSB.out _ hbd10) (fun hHeld => ?_)
    clear hK K
    try simp only [Act.put, List.setIfInBounds_toArray, List.set_cons_zero, List.set_cons_succ]
    change wpAnyS _ _ _ _ _ _ _ _ _ (W0.alloc (.cells #[.int .i64 x.node, .string NM, .slice pa x.attrs.length ca] 63))
    generalize (W0.alloc (.cells #[.int .i64 x.node, .string NM, .slice pa x.attrs.length ca] 63)) = Wd10 at *
    generalize W0.heap.size = o1d10 at *
    clear hHeld
    have hHeld := HSB.out _ hbd10
    refine wpAnyS_ready (rs := [1]) (by kernel_rfl) (by simp) ?_
    refine AllReadyS.cons (o := { dst := some 21, op := Op.buildSlice 102 0 #[], type := 102, pos := "ref.go:100", after := #[], guard := none }) rfl (fun K hK => ?_) AllReadyS.nil
    go_simp
    have hbd11 : Below w.heap.size w (Wd10.alloc (.cells #[] 63)) := hbd10.alloc hbd10.size _
    have hEd11 : (Wd10.alloc (.cells #[] 63)).heap[Wd10.heap.size]? = some (.cells #[] 63 (0, 0)) := heap_alloc_new _ _
    have hed11 : w.heap.size ≤ Wd10.heap.size := hbd10.size
    have hOd11 : (Wd10.alloc (.cells #[] 63)).heap[o1d10]? = some (.cells #[.int .i64 x.node, .string NM, .slice pa x.attrs.length ca] 63) := (((Below.refl _ Wd10).alloc (Nat.le_refl _) (.cells #[] 63)).block _ (heap_lt hOd10)).trans hOd10
    have hnd11 : o1d10 ≠ Wd10.heap.size := by have := heap_lt hOd10; omega
    refine hK.out _ _ (HSB.out _ hbd11) (fun hHeld => ?_)
    clear hK K
    try simp only [Act.put, List.setIfInBounds_toArray, List.set_cons_zero, List.set_cons_succ]
    change wpAnyS _ _ _ _ _ _ _ _ _ (Wd10.alloc (.cells #[] 63))
    generalize (Wd10.alloc (.cells #[] 63)) = Wd11 at *
    generalize Wd10.heap.size = e0d11 at *
    clear hHeld
    have hHeld := HSB.out _ hbd11
    refine wpAnyS_ready (rs := [8]) (by kernel_rfl) (by simp) ?_
    refine AllReadyS.cons (o := { dst := some 28, op := Op.call { callee := Callee.builtin Builtin.append, args := #[Operand.tmp 21, Operand.tmp 27], argTypes := #[ 102, 102 ] }, type := 102, pos := "ref.go:100", after := #[{ on := 1, ground := Ground.data }, { on := 7, ground := Ground.data }], guard := none }) rfl (fun K hK => ?_) AllReadyS.nil
    have hownd12 := own_empty hEd11 hed11
    refine step_append_row rfl (.tmp 21) (.tmp 27) rfl w.heap.size [] _ (by rfl) hownd12 P _ _ _ es (by rfl) hpe (HE.out _ hbd11) HSL.out hbd11.size ?_
    intro vd12 Wd12 hrd12 hgd12
    obtain ⟨ppd12, lld12, ccd12, rfl⟩ := own_slice hrd12
    obtain ⟨hbd12, _, _, _⟩ := RefQ.grown H.out.ref hbd11 hownd12 hgd12
    have hOd12 := far_block hgd12 hOd11 (by simp [Value.ownBlock]; exact hnd11)
    refine hK.out _ _ (HSB.out _ hbd12) (fun hHeld => ?_)
    clear hK K
    try simp only [Act.put, List.setIfInBounds_toArray, List.set_cons_zero, List.set_cons_succ]
    refine wpAnyS_ready (rs := [11]) (by kernel_rfl) (by simp) ?_
    refine AllReadyS.cons (o := { dst := some 31, op := Op.call { callee := Callee.builtin Builtin.append, args := #[Operand.tmp 28, Operand.tmp 30], argTypes := #[ 102, 102 ] }, type := 102, pos := "ref.go:100", after := #[{ on := 8, ground := Ground.data }, { on := 10, ground := Ground.data }, { on := 8, ground := Ground.chain }], guard := none }) rfl (fun K hK => ?_) AllReadyS.nil
    refine step_append_row rfl (.tmp 28) (.tmp 30) rfl w.heap.size ([] ++ es) _ (by rfl) hrd12 (fun b => P b ∨ b = o1d10) _ _ _ [(x, (Value.slice pa x.attrs.length ca))] (by rfl) (fun e => by cases e) (H.out.one hbd12 hOd12) HSM.out hbd12.size ?_
    intro vd13 Wd13 hrd13 hgd13
    obtain ⟨ppd13, lld13, ccd13, rfl⟩ := own_slice hrd13
    obtain ⟨hbd13, _, _, _⟩ := RefQ.grown H.out.ref hbd12 hrd12 hgd13
    refine hK.out _ _ (HSB.out _ hbd13) (fun hHeld => ?_)
    clear hK K
    try simp only [Act.put, List.setIfInBounds_toArray, List.set_cons_zero, List.set_cons_succ]
    refine wpAnyS_ready (rs := [18]) (by kernel_rfl) (by simp) ?_
    refine AllReadyS.cons (o := { dst := some 38, op := Op.call { callee := Callee.builtin Builtin.append, args := #[Operand.tmp 31, Operand.tmp 37], argTypes := #[ 102, 102 ] }, type := 102, pos := "ref.go:100", after := #[{ on := 11, ground := Ground.data }, { on := 17, ground := Ground.data }, { on := 11, ground := Ground.chain }], guard := none }) rfl (fun K hK => ?_) AllReadyS.nil
    refine step_append_row rfl (.tmp 31) (.tmp 37) rfl w.heap.size ([] ++ es ++ [(x, (Value.slice pa x.attrs.length ca))]) _ (by rfl) hrd13 P _ _ _ fs (by rfl) hpf (HF.out _ hbd13) HSN.out hbd13.size ?_
    intro vd14 Wd14 hrd14 hgd14
    obtain ⟨ppd14, lld14, ccd14, rfl⟩ := own_slice hrd14
    obtain ⟨hbd14, _, _, _⟩ := RefQ.grown H.out.ref hbd13 hrd13 hgd14
    refine hK.out _ _ (HSB.out _ hbd14) (fun hHeld => ?_)
    clear hK K
    try simp only [Act.put, List.setIfInBounds_toArray, List.set_cons_zero, List.set_cons_succ]
    refine wpAnyS_ready (rs := [19]) (by kernel_rfl) (by simp) ?_
    refine AllReadyS.cons (o := { dst := some 39, op := Op.nilCheck (Operand.tmp 20), type := 0, pos := "ref.go:100", after := #[{ on := 0, ground := Ground.data }, { on := 0, ground := Ground.phase }, { on := 1, ground := Ground.phase }, { on := 2, ground := Ground.phase }, { on := 3, ground := Ground.phase }, { on := 4, ground := Ground.phase }, { on := 5, ground := Ground.phase }, { on := 6, ground := Ground.phase }, { on := 7, ground := Ground.phase }, { on := 8, ground := Ground.phase }, { on := 9, ground := Ground.phase }, { on := 10, ground := Ground.phase }, { on := 11, ground := Ground.phase }, { on := 12, ground := Ground.phase }, { on := 13, ground := Ground.phase }, { on := 14, ground := Ground.phase }, { on := 15, ground := Ground.phase }, { on := 16, ground := Ground.phase }, { on := 17, ground := Ground.phase }, { on := 18, ground := Ground.phase }], guard := none }) rfl (fun K hK => ?_) AllReadyS.nil
    go_simp
    refine hK.out _ _ hHeld (fun hHeld => ?_)
    clear hK K
    try simp only [Act.put, List.setIfInBounds_toArray, List.set_cons_zero, List.set_cons_succ]
    refine wpAnyS_ready (rs := [20]) (by kernel_rfl) (by simp) ?_
    refine AllReadyS.cons (o := { dst := some 40, op := Op.fieldAddr 106 (Operand.tmp 39) 0, type := 0, pos := "ref.go:100", after := #[{ on := 19, ground := Ground.data }, { on := 0, ground := Ground.phase }, { on := 1, ground := Ground.phase }, { on := 2, ground := Ground.phase }, { on := 3, ground := Ground.phase }, { on := 4, ground := Ground.phase }, { on := 5, ground := Ground.phase }, { on := 6, ground := Ground.phase }, { on := 7, ground := Ground.phase }, { on := 8, ground := Ground.phase }, { on := 9, ground := Ground.phase }, { on := 10, ground := Ground.phase }, { on := 11, ground := Ground.phase }, { on := 12, ground := Ground.phase }, { on := 13, ground := Ground.phase }, { on := 14, ground := Ground.phase }, { on := 15, ground := Ground.phase }, { on := 16, ground := Ground.phase }, { on := 17, ground := Ground.phase }, { on := 18, ground := Ground.phase }], guard := none }) rfl (fun K hK => ?_) AllReadyS.nil
    go_simp
    refine hK.out _ _ hHeld (fun hHeld => ?_)
    clear hK K
    try simp only [Act.put, List.setIfInBounds_toArray, List.set_cons_zero, List.set_cons_succ]
    have cB := (H.out.ref.below hbd14).cell
    have fB := (H.out.ref.below hbd14).free
    refine wpAnyS_ready (rs := [21]) (by kernel_rfl) (by simp) ?_
    refine AllReadyS.last (o := { dst := none, op := Op.store 102 (Operand.tmp 40) (Operand.tmp 38), type := 0, pos := "ref.go:100", after := #[{ on := 20, ground := Ground.data }, { on := 18, ground := Ground.data }, { on := 18, ground := Ground.chain }, { on := 0, ground := Ground.phase }, { on := 1, ground := Ground.phase }, { on := 2, ground := Ground.phase }, { on := 3, ground := Ground.phase }, { on := 4, ground := Ground.phase }, { on := 5, ground := Ground.phase }, { on := 6, ground := Ground.phase }, { on := 7, ground := Ground.phase }, { on := 8, ground := Ground.phase }, { on := 9, ground := Ground.phase }, { on := 10, ground := Ground.phase }, { on := 11, ground := Ground.phase }, { on := 12, ground := Ground.phase }, { on := 13, ground := Ground.phase }, { on := 14, ground := Ground.phase }, { on := 15, ground := Ground.phase }, { on := 16, ground := Ground.phase }, { on := 17, ground := Ground.phase }, { on := 18, ground := Ground.phase }], guard := none }) rfl (fun K hK => ?_)
    go_simp
    refine hK.out _ _ ?_
    refine wpAnyS_done (by kernel_rfl) ?_ _
    try simp only [Act.put, List.setIfInBounds_toArray, List.set_cons_zero, List.set_cons_succ]
    exact NoPanic.normal (HQ.out _ _ _ _ _ _ _ _ _ _ _ _ _ _ _ _ _ _ _ _ _ _ _ hrd14 hbd14)
end Go.Proofs.Ytbadckkcjjfnoaa
