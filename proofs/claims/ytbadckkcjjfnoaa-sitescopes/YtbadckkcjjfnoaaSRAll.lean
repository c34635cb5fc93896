/-
  The reference's Site in memory, fostering off, and its calls that read: Top, Place. Any nodes, not too many.
  The drawn region of the reference's Put for open elements, over an opaque post: a row with room behind the place.
  The drawn region of the reference's Put for open elements, over an opaque post: a row without room, at its end.
  The reference's Site, fostering off: an element may come in, goes to the end of the row; what is added. Any nodes, not too many.
  The reference's Site, fostering off: Put at the end, Push, Lay, Add. Any nodes, not too many.
  The reference's Site, fostering off: Lay, Add. Any nodes, not too many.
-/
import Derived.Test.YtbadckkcjjfnoaaRfC
import Derived.StillTailTactics
import Derived.Deep.RegionHeld3
import Derived.Test.YtbadckkcjjfnoaaDRefA
namespace Go.Proofs.Ytbadckkcjjfnoaa
open Go.RowKit

theorem RefD.turn {M P T : Nat → Prop} {w w' : World} {B : Nat} {S : List Cl} (h : RefD M P w B S) (ht : Turns T w w') (hM : ∀ b, M b → ¬ T b) (hP : ∀ b, P b → ¬ T b) : RefD M P w' B S := by
  obtain ⟨vN, vU, vR, qs, rv, h⟩ := h
  have hm : ∀ v : Value, (∀ g, v.ownBlock = some g → New M w g) → (∀ g, v.ownBlock = some g → g < w.heap.size) → ∀ g, v.ownBlock = some g → M g := fun v h1 h2 g e => by
    rcases h1 g e with k | k
    · exact k
    · have := h2 g e; omega
  have mN := hm vN h.own.mN fun g e => (h.own.rN.lt g e).2
  have mU := hm vU h.own.mU fun g e => (h.own.rU.lt g e).2
  have mR := hm vR h.own.mR fun g e => (h.own.rR.lt g e).2
  refine ⟨vN, vU, vR, qs, rv, ⟨ownsRow_kept h.own.rN ht fun g e => hM g (mN g e), ownsRow_kept h.own.rU ht fun g e => hM g (mU g e), ownsRow_kept h.own.rR ht fun g e => hM g (mR g e), h.own.nNU, h.own.nNR, h.own.nUR, fun p hp => ?_, fun g e => .inl (mN g e), fun g e => .inl (mU g e), fun g e => .inl (mR g e), Turns.refl _ _⟩, h.mB, fun b k => Nat.lt_of_lt_of_le (h.min b k) ht.size, fun b k => Nat.lt_of_lt_of_le (h.pin b k) ht.size, h.pM, h.pos, h.len, h.nodes, fun q hq => ⟨(h.attrs q hq).1.kept (ht.kept fun b _ k => hP b k), (h.attrs q hq).2⟩, h.rlen, fun j hj => ?_⟩
  · obtain ⟨h0, h1, h2, h3⟩ := h.own.ex p hp
    rw [List.mem_singleton.1 hp] at h0 h1 h2 h3 ⊢
    exact ⟨(ht.block B (h.min B h.mB) (hM B h.mB)).trans h0, h1, h2, h3⟩
  · obtain ⟨v, hv, hr⟩ := h.rows j hj
    exact ⟨v, hv, hr.kept (ht.kept fun b _ k => hP b k)⟩
/-- Block Z leads to a Site: its nodes S at B, its row in blocks of R; fostering is off. -/
structure RSite (M P R : Nat → Prop) (w : World) (Z B : Nat) (S : List Cl) (row : List Nat) : Prop where
  cells : ∃ vm rowv, w.heap[Z]? = some (.cells #[.pointer (some ⟨B, 0, none⟩), vm, rowv, .bool false] 127 (0, 0)) ∧ NumsP R w rowv row
  doc : RefD M P w B S
  zM : ¬ M Z
  zR : ¬ R Z
  zP : ¬ P Z
  rM : ∀ b, R b → ¬ M b
  rin : ∀ b, R b → b < w.heap.size
  pos : 0 < row.length
  len : row.length ≤ 1000
theorem RSite.on {M P R : Nat → Prop} {w w' : World} {Z B : Nat} {S : List Cl} {row : List Nat} (h : RSite M P R w Z B S row) (hb : Below w.heap.size w w') : RSite M P R w' Z B S row := by
  obtain ⟨vm, rowv, hz, hr⟩ := h.cells
  exact ⟨⟨vm, rowv, (hb.block Z (heap_lt hz)).trans hz, hr.kept (.of_below hb)⟩, h.doc.on hb, h.zM, h.zR, h.zP, h.rM, fun b k => Nat.lt_of_lt_of_le (h.rin b k) hb.size, h.pos, h.len⟩
theorem RSite.zlt {M P R : Nat → Prop} {w : World} {Z B : Nat} {S : List Cl} {row : List Nat} (h : RSite M P R w Z B S row) : Z < w.heap.size := by
  obtain ⟨vm, rowv, hz, hr⟩ := h.cells
  exact heap_lt hz
/-- The Doc was written: the Site stands. -/
theorem RSite.doc_ {M P R : Nat → Prop} {w w' : World} {Z B : Nat} {S S' : List Cl} {row : List Nat} (h : RSite M P R w Z B S row) (hs : RStep6 w M P B S' w') : ∃ M' P', RSite M' P' R w' Z B S' row ∧ (∀ b, b < w.heap.size → M' b → M b) ∧ (∀ b, b < w.heap.size → P' b → P b) ∧ Turns M w w' := by
  obtain ⟨M', P', h1, h2, h3, h4⟩ := hs
  obtain ⟨vm, rowv, hz, hr⟩ := h.cells
  have hl := heap_lt hz
  exact ⟨M', P', ⟨⟨vm, rowv, (h4.block Z hl h.zM).trans hz, hr.kept (h4.kept fun b _ k => h.rM b k)⟩, h1, fun k => h.zM (h2 Z hl k), h.zR, fun k => h.zP (h3 Z hl k), fun b k q => h.rM b k (h2 b (h.rin b k) q), fun b k => Nat.lt_of_lt_of_le (h.rin b k) h4.size, h.pos, h.len⟩, h2, h3, h4⟩
theorem RSite.reads {M P R : Nat → Prop} {w : World} {Z B : Nat} {S : List Cl} {row : List Nat} (h : RSite M P R w Z B S row) :
    ∃ (vm : Value) (g o cap : Nat), w.heap[Z]? = some (.cells #[.pointer (some ⟨B, 0, none⟩), vm, .slice (some ⟨g, o, none⟩) row.length cap, .bool false] 127 (0, 0)) ∧ row.length ≤ cap ∧ R g ∧ g < w.heap.size ∧ ∀ j (hj : j < row.length), w.cell? ⟨g, o + j, none⟩ = some (.int .i64 (row[j] : Int)) := by
  obtain ⟨vm, rowv, hz, p, cap, rfl, h1, h2, h3⟩ := h.cells
  have hp := h.pos
  cases p with
  | none => have := h2 rfl; omega
  | some ad =>
    obtain ⟨g, o, s⟩ := ad
    obtain ⟨rfl, hP, hg, hc⟩ := h3 g o s rfl
    exact ⟨vm, g, o, cap, hz, h1, hP, hg, hc⟩
set_option maxHeartbeats 1000000 in
set_option maxRecDepth 100000 in
theorem rtopP {M P R : Nat → Prop} {w : World} {Z B : Nat} {S : List Cl} {L : List Nat} {t : Nat} (h : RSite M P R w Z B S (L ++ [t])) : Calls Try.prog 111 #[.pointer (some ⟨Z, 0, none⟩)] w (Brings (.int .i64 (t : Int)) w) := by
  obtain ⟨vm, g, o, cap, hz, _, _, hg, hc⟩ := h.reads
  have c2 := (block_cell6 hz 2).1
  have hl := h.len
  have ht := hc L.length (by simp)
  rw [List.length_append] at c2 hl
  simp at c2 ht hl
  have e1 : IntKind.i64.wrap (((L.length + 1 : Nat) : Int) - 1) = (L.length : Int) := by rw [IntWalk.i64_in _ (by omega)]; omega
  have e2 : IntKind.i64.wrap (L.length : Int) = (L.length : Int) := IntWalk.i64_in _ (by omega)
  have e3 : IntKind.i64.wrap ((L.length : Int) + 1 - 1) = (L.length : Int) := by rw [IntWalk.i64_in _ (by omega)]; omega
  have j2 : (L.length : Int) < (L.length : Int) + 1 := by omega
  have j0 : (0 : Int) ≤ (L.length : Int) := by omega
  have j1 : (L.length : Int) < ((L.length + 1 : Nat) : Int) := by omega
  have HB := Lib.hid (Below.refl w.heap.size w).drew
  clear h hz hc
  go_enter Try.func111, Try.ntmps111
  go_upto_region 1 with fail
  refine wp_region_noPanic ?_
  refine wp_region_held_drew (S := (fun W => W.cell? ⟨Z, 2, none⟩ = some (.slice (some ⟨g, o, none⟩) (L.length + 1) cap) ∧ W.cell? ⟨g, o + L.length, none⟩ = some (.int .i64 (t : Int)) ∧ Below w.heap.size w W)) (by kernel_rfl) (by exact ⟨c2, ht, HB.out⟩) (fun hHeld => ?_)
  generalize w.drew = W0 at *
  refine wpAnyH_take (i := 0) (oi := { dst := some 3, op := Op.move (Operand.tmp 0), type := 74, pos := "ref.go:24", after := #[], guard := none }) (v := ?_) rfl (by kernel_rfl) (by kernel_rfl) (by kernel_rfl) (fun _ _ _ h => h) (Or.inl ⟨by rfl, ?_⟩) (by assumption) ?_
  rotate_left
  focus (intro w hSw; (try dsimp only at hSw); go_simp; (try with_reducible rfl))
  try simp only [Act.put, List.setIfInBounds_toArray, List.set_cons_zero, List.set_cons_succ]
  refine wpAnyH_take (i := 1) (oi := { dst := some 4, op := Op.nilCheck (Operand.tmp 3), type := 0, pos := "ref.go:24", after := #[{ on := 0, ground := Ground.data }], guard := none }) (v := ?_) rfl (by kernel_rfl) (by kernel_rfl) (by kernel_rfl) (fun _ _ _ h => h) (Or.inl ⟨by rfl, ?_⟩) (by assumption) ?_
  rotate_left
  focus (intro w hSw; (try dsimp only at hSw); go_simp; (try with_reducible rfl))
  try simp only [Act.put, List.setIfInBounds_toArray, List.set_cons_zero, List.set_cons_succ]
  refine wpAnyH_take (i := 2) (oi := { dst := some 5, op := Op.fieldAddr 127 (Operand.tmp 4) 2, type := 0, pos := "ref.go:24", after := #[{ on := 1, ground := Ground.data }], guard := none }) (v := ?_) rfl (by kernel_rfl) (by kernel_rfl) (by kernel_rfl) (fun _ _ _ h => h) (Or.inl ⟨by rfl, ?_⟩) (by assumption) ?_
  rotate_left
  focus (intro w hSw; (try dsimp only at hSw); go_simp; (try with_reducible rfl))
  try simp only [Act.put, List.setIfInBounds_toArray, List.set_cons_zero, List.set_cons_succ]
  refine wpAnyH_take (i := 3) (oi := { dst := some 6, op := Op.load 32 (Operand.tmp 5), type := 32, pos := "ref.go:24", after := #[{ on := 2, ground := Ground.data }], guard := none }) (v := ?_) rfl (by kernel_rfl) (by kernel_rfl) (by kernel_rfl) (fun _ _ _ h => h) (Or.inl ⟨by rfl, ?_⟩) (by assumption) ?_
  rotate_left
  focus (intro w hSw; (try dsimp only at hSw); go_simp; (try with_reducible rfl))
  try simp only [Act.put, List.setIfInBounds_toArray, List.set_cons_zero, List.set_cons_succ]
  refine wpAnyH_take (i := 4) (oi := { dst := some 7, op := Op.move (Operand.tmp 0), type := 74, pos := "ref.go:24", after := #[], guard := none }) (v := ?_) rfl (by kernel_rfl) (by kernel_rfl) (by kernel_rfl) (fun _ _ _ h => h) (Or.inl ⟨by rfl, ?_⟩) (by assumption) ?_
  rotate_left
  focus (intro w hSw; (try dsimp only at hSw); go_simp; (try with_reducible rfl))
  try simp only [Act.put, List.setIfInBounds_toArray, List.set_cons_zero, List.set_cons_succ]
  refine wpAnyH_take (i := 5) (oi := { dst := some 8, op := Op.nilCheck (Operand.tmp 7), type := 0, pos := "ref.go:24", after := #[{ on := 4, ground := Ground.data }], guard := none }) (v := ?_) rfl (by kernel_rfl) (by kernel_rfl) (by kernel_rfl) (fun _ _ _ h => h) (Or.inl ⟨by rfl, ?_⟩) (by assumption) ?_
  rotate_left
  focus (intro w hSw; (try dsimp only at hSw); go_simp; (try with_reducible rfl))
  try simp only [Act.put, List.setIfInBounds_toArray, List.set_cons_zero, List.set_cons_succ]
  refine wpAnyH_take (i := 6) (oi := { dst := some 9, op := Op.fieldAddr 127 (Operand.tmp 8) 2, type := 0, pos := "ref.go:24", after := #[{ on := 5, ground := Ground.data }], guard := none }) (v := ?_) rfl (by kernel_rfl) (by kernel_rfl) (by kernel_rfl) (fun _ _ _ h => h) (Or.inl ⟨by rfl, ?_⟩) (by assumption) ?_
  rotate_left
  focus (intro w hSw; (try dsimp only at hSw); go_simp; (try with_reducible rfl))
  try simp only [Act.put, List.setIfInBounds_toArray, List.set_cons_zero, List.set_cons_succ]
  refine wpAnyH_take (i := 7) (oi := { dst := some 10, op := Op.load 32 (Operand.tmp 9), type := 32, pos := "ref.go:24", after := #[{ on := 6, ground := Ground.data }], guard := none }) (v := ?_) rfl (by kernel_rfl) (by kernel_rfl) (by kernel_rfl) (fun _ _ _ h => h) (Or.inl ⟨by rfl, ?_⟩) (by assumption) ?_
  rotate_left
  focus (intro w hSw; (try dsimp only at hSw); go_simp; (try with_reducible rfl))
  try simp only [Act.put, List.setIfInBounds_toArray, List.set_cons_zero, List.set_cons_succ]
  refine wpAnyH_take (i := 8) (oi := { dst := some 11, op := Op.call { callee := Callee.builtin Builtin.len, args := #[Operand.tmp 10], argTypes := #[ 32 ] }, type := 3, pos := "ref.go:24", after := #[{ on := 7, ground := Ground.data }], guard := none }) (v := ?_) rfl (by kernel_rfl) (by kernel_rfl) (by kernel_rfl) (fun _ _ _ h => h) (Or.inl ⟨by rfl, ?_⟩) (by assumption) ?_
  rotate_left
  focus (intro w hSw; (try dsimp only at hSw); go_simp; (try with_reducible rfl))
  try simp only [Act.put, List.setIfInBounds_toArray, List.set_cons_zero, List.set_cons_succ]
  refine wpAnyH_take (i := 9) (oi := { dst := some 12, op := Op.binOp BinOp.sub 3 (Operand.tmp 11) (Operand.const (Value.int IntKind.i64 1)) 3, type := 3, pos := "ref.go:24", after := #[{ on := 8, ground := Ground.data }], guard := none }) (v := ?_) rfl (by kernel_rfl) (by kernel_rfl) (by kernel_rfl) (fun _ _ _ h => h) (Or.inl ⟨by rfl, ?_⟩) (by assumption) ?_
  rotate_left
  focus (intro w hSw; (try dsimp only at hSw); go_simp; (try with_reducible rfl))
  try simp only [Act.put, List.setIfInBounds_toArray, List.set_cons_zero, List.set_cons_succ]
  refine wpAnyH_take (i := 10) (oi := { dst := some 13, op := Op.indexAddr 32 (Operand.tmp 6) (Operand.tmp 12), type := 0, pos := "ref.go:24", after := #[{ on := 3, ground := Ground.data }, { on := 9, ground := Ground.data }], guard := none }) (v := ?_) rfl (by kernel_rfl) (by kernel_rfl) (by kernel_rfl) (fun _ _ _ h => h) (Or.inl ⟨by rfl, ?_⟩) (by assumption) ?_
  rotate_left
  focus (intro w hSw; (try dsimp only at hSw); go_simp; (try with_reducible rfl))
  try simp only [Act.put, List.setIfInBounds_toArray, List.set_cons_zero, List.set_cons_succ]
  refine wpAnyH_take (i := 11) (oi := { dst := some 14, op := Op.load 3 (Operand.tmp 13), type := 3, pos := "ref.go:24", after := #[{ on := 10, ground := Ground.data }], guard := none }) (v := ?_) rfl (by kernel_rfl) (by kernel_rfl) (by kernel_rfl) (fun _ _ _ h => h) (Or.inl ⟨by rfl, ?_⟩) (by assumption) ?_
  rotate_left
  focus (intro w hSw; (try dsimp only at hSw); go_simp; (try with_reducible rfl))
  try simp only [Act.put, List.setIfInBounds_toArray, List.set_cons_zero, List.set_cons_succ]
  refine wpAnyH_take (i := 12) (oi := { dst := some 2, op := Op.assign (Operand.tmp 14), type := 3, pos := "ref.go:24", after := #[{ on := 11, ground := Ground.data }, { on := 0, ground := Ground.phase }, { on := 1, ground := Ground.phase }, { on := 2, ground := Ground.phase }, { on := 3, ground := Ground.phase }, { on := 4, ground := Ground.phase }, { on := 5, ground := Ground.phase }, { on := 6, ground := Ground.phase }, { on := 7, ground := Ground.phase }, { on := 8, ground := Ground.phase }, { on := 9, ground := Ground.phase }, { on := 10, ground := Ground.phase }, { on := 11, ground := Ground.phase }], guard := none }) (v := ?_) rfl (by kernel_rfl) (by kernel_rfl) (by kernel_rfl) (fun _ _ _ h => h) (Or.inl ⟨by rfl, ?_⟩) (by assumption) ?_
  rotate_left
  focus (intro w hSw; (try dsimp only at hSw); go_simp; (try with_reducible rfl))
  try simp only [Act.put, List.setIfInBounds_toArray, List.set_cons_zero, List.set_cons_succ]
  refine wpAnyH_done (by kernel_rfl) ?_ _
  refine NoPanic.normal ?_
  have HB0 := Lib.hid hHeld.2.2
  go_wp2_with fail
  go_ret
  exact ⟨rfl, HB0.out⟩
set_option maxHeartbeats 1000000 in
set_option maxRecDepth 100000 in
theorem rsplaceP {M P R : Nat → Prop} {w : World} {Z B : Nat} {S : List Cl} {row : List Nat} (n : Nat) (h : RSite M P R w Z B S row) (hn : n ∉ row) : Calls Try.prog 160 #[.pointer (some ⟨Z, 0, none⟩), .int .i64 (n : Int)] w (Gives (.int .i64 (-1)) w) := by
  obtain ⟨vm, g, o, cap, hz, _, _, hg, hc⟩ := h.reads
  have c2 := (block_cell6 hz 2).1
  simp at c2
  have hl := h.len
  have HC := Lib.hid hc
  have HN := Lib.hid hn
  clear h hz hc hn
  go_enter Try.func160, Try.ntmps160
  go_wp2_with fail
  go_loopw [5] (fun iv wr => ∃ i : Nat, i ≤ row.length ∧ iv = .int .i64 (i : Int) ∧ w = wr) (fun iv _ => row.length - (intOf iv).toNat)
  case atStart => exact ⟨0, Nat.zero_le _, rfl, rfl⟩
  case round =>
    obtain ⟨i, hi, rfl, rfl⟩ := hrel
    by_cases hlt : i < row.length
    · have hx := HC.out i hlt
      have k0 : (i : Int) < (row.length : Int) := by omega
      have k1 : (0 : Int) ≤ (i : Int) := by omega
      have hne : ((row[i] : Int) == (n : Int)) = false := beq_eq_false_iff_ne.2 fun e => HN.out (by
        have : row[i] = n := by omega
        rw [← this]
        exact List.getElem_mem _)
      generalize row[i] = x at *
      go_wp2_with fail
      exact ⟨⟨i + 1, by omega, by go_num, by trivial⟩, by simp [intOf]; omega⟩
    · have k0 : ¬ (i : Int) < (row.length : Int) := by omega
      go_wp2_with fail
      go_ret
      exact ⟨rfl, rfl⟩
end Go.Proofs.Ytbadckkcjjfnoaa
namespace Go.Proofs.Ytbadckkcjjfnoaa
open Go.RowKit

def rput8_regA_ops : Array Oper := #[{ dst := some 24, op := Op.move (Operand.tmp 0), type := 74, pos := "ref.go:44", after := #[], guard := none }, { dst := some 25, op := Op.buildSlice 32 0 #[], type := 32, pos := "ref.go:44", after := #[], guard := none }, { dst := some 26, op := Op.move (Operand.tmp 0), type := 74, pos := "ref.go:44", after := #[], guard := none }, { dst := some 27, op := Op.nilCheck (Operand.tmp 26), type := 0, pos := "ref.go:44", after := #[{ on := 2, ground := Ground.data }], guard := none }, { dst := some 28, op := Op.fieldAddr 127 (Operand.tmp 27) 2, type := 0, pos := "ref.go:44", after := #[{ on := 3, ground := Ground.data }], guard := none }, { dst := some 29, op := Op.load 32 (Operand.tmp 28), type := 32, pos := "ref.go:44", after := #[{ on := 4, ground := Ground.data }], guard := none }, { dst := some 30, op := Op.move (Operand.tmp 1), type := 3, pos := "ref.go:44", after := #[], guard := none }, { dst := some 31, op := Op.slice 32 (Operand.tmp 29) none (some (Operand.tmp 30)) none, type := 32, pos := "ref.go:44", after := #[{ on := 5, ground := Ground.data }, { on := 6, ground := Ground.data }], guard := none }, { dst := some 32, op := Op.call { callee := Callee.builtin Builtin.append, args := #[Operand.tmp 25, Operand.tmp 31], argTypes := #[ 32, 32 ] }, type := 32, pos := "ref.go:44", after := #[{ on := 1, ground := Ground.data }, { on := 7, ground := Ground.data }], guard := none }, { dst := some 33, op := Op.move (Operand.tmp 2), type := 3, pos := "ref.go:44", after := #[], guard := none }, { dst := some 34, op := Op.buildSlice 32 1 #[(0, Operand.tmp 33)], type := 32, pos := "ref.go:44", after := #[{ on := 9, ground := Ground.data }], guard := none }, { dst := some 35, op := Op.call { callee := Callee.builtin Builtin.append, args := #[Operand.tmp 32, Operand.tmp 34], argTypes := #[ 32, 32 ] }, type := 32, pos := "ref.go:44", after := #[{ on := 8, ground := Ground.data }, { on := 10, ground := Ground.data }, { on := 8, ground := Ground.chain }], guard := none }, { dst := some 36, op := Op.move (Operand.tmp 0), type := 74, pos := "ref.go:44", after := #[], guard := none }, { dst := some 37, op := Op.nilCheck (Operand.tmp 36), type := 0, pos := "ref.go:44", after := #[{ on := 12, ground := Ground.data }], guard := none }, { dst := some 38, op := Op.fieldAddr 127 (Operand.tmp 37) 2, type := 0, pos := "ref.go:44", after := #[{ on := 13, ground := Ground.data }], guard := none }, { dst := some 39, op := Op.load 32 (Operand.tmp 38), type := 32, pos := "ref.go:44", after := #[{ on := 14, ground := Ground.data }], guard := none }, { dst := some 40, op := Op.move (Operand.tmp 1), type := 3, pos := "ref.go:44", after := #[], guard := none }, { dst := some 41, op := Op.slice 32 (Operand.tmp 39) (some (Operand.tmp 40)) none none, type := 32, pos := "ref.go:44", after := #[{ on := 15, ground := Ground.data }, { on := 16, ground := Ground.data }], guard := none }, { dst := some 42, op := Op.call { callee := Callee.builtin Builtin.append, args := #[Operand.tmp 35, Operand.tmp 41], argTypes := #[ 32, 32 ] }, type := 32, pos := "ref.go:44", after := #[{ on := 11, ground := Ground.data }, { on := 17, ground := Ground.data }, { on := 11, ground := Ground.chain }], guard := none }, { dst := some 43, op := Op.nilCheck (Operand.tmp 24), type := 0, pos := "ref.go:44", after := #[{ on := 0, ground := Ground.data }, { on := 0, ground := Ground.phase }, { on := 1, ground := Ground.phase }, { on := 2, ground := Ground.phase }, { on := 3, ground := Ground.phase }, { on := 4, ground := Ground.phase }, { on := 5, ground := Ground.phase }, { on := 6, ground := Ground.phase }, { on := 7, ground := Ground.phase }, { on := 8, ground := Ground.phase }, { on := 9, ground := Ground.phase }, { on := 10, ground := Ground.phase }, { on := 11, ground := Ground.phase }, { on := 12, ground := Ground.phase }, { on := 13, ground := Ground.phase }, { on := 14, ground := Ground.phase }, { on := 15, ground := Ground.phase }, { on := 16, ground := Ground.phase }, { on := 17, ground := Ground.phase }, { on := 18, ground := Ground.phase }], guard := none }, { dst := some 44, op := Op.fieldAddr 127 (Operand.tmp 43) 2, type := 0, pos := "ref.go:44", after := #[{ on := 19, ground := Ground.data }, { on := 0, ground := Ground.phase }, { on := 1, ground := Ground.phase }, { on := 2, ground := Ground.phase }, { on := 3, ground := Ground.phase }, { on := 4, ground := Ground.phase }, { on := 5, ground := Ground.phase }, { on := 6, ground := Ground.phase }, { on := 7, ground := Ground.phase }, { on := 8, ground := Ground.phase }, { on := 9, ground := Ground.phase }, { on := 10, ground := Ground.phase }, { on := 11, ground := Ground.phase }, { on := 12, ground := Ground.phase }, { on := 13, ground := Ground.phase }, { on := 14, ground := Ground.phase }, { on := 15, ground := Ground.phase }, { on := 16, ground := Ground.phase }, { on := 17, ground := Ground.phase }, { on := 18, ground := Ground.phase }], guard := none }, { dst := none, op := Op.store 32 (Operand.tmp 44) (Operand.tmp 42), type := 0, pos := "ref.go:44", after := #[{ on := 20, ground := Ground.data }, { on := 18, ground := Ground.data }, { on := 18, ground := Ground.chain }, { on := 0, ground := Ground.phase }, { on := 1, ground := Ground.phase }, { on := 2, ground := Ground.phase }, { on := 3, ground := Ground.phase }, { on := 4, ground := Ground.phase }, { on := 5, ground := Ground.phase }, { on := 6, ground := Ground.phase }, { on := 7, ground := Ground.phase }, { on := 8, ground := Ground.phase }, { on := 9, ground := Ground.phase }, { on := 10, ground := Ground.phase }, { on := 11, ground := Ground.phase }, { on := 12, ground := Ground.phase }, { on := 13, ground := Ground.phase }, { on := 14, ground := Ground.phase }, { on := 15, ground := Ground.phase }, { on := 16, ground := Ground.phase }, { on := 17, ground := Ground.phase }, { on := 18, ground := Ground.phase }], guard := none }]
set_option maxHeartbeats 8000000 in
set_option maxRecDepth 100000 in
theorem rput8_regA {w : World} {n : Nat} {es fs : List Nat} {Z k l cap g o : Nat} {Q : Exit → Act → World → Prop} {u3 u4 u5 u6 u7 u8 u9 u10 u11 u12 u13 u14 u15 u16 u17 u18 u19 u20 u21 u22 u23 u24 u25 u26 u27 u28 u29 u30 u31 u32 u33 u34 u35 u36 u37 u38 u39 u40 u41 u42 u43 u44 : Value} (hB : Z < w.heap.size) (h2 : w.cell? ⟨Z, 2, none⟩ = some (.slice (some ⟨g, o, none⟩) l cap)) (hf : w.frozen? ⟨Z, 2, none⟩ = false) (hk : k ≤ l) (hkc2 : k < cap) (hls : l ≤ 100000)
    (hel : es.length = k) (hfl : fs.length = (l - k))
    (hE : ∀ W, Below w.heap.size w W → ∀ ad, ((some ⟨g, o, none⟩) : Option Addr) = some ad → ∀ j (hj : j < es.length), W.cell? (ad.add j) = some (.int .i64 (es[j] : Int)))
    (hF : ∀ W, Below w.heap.size w W → ∀ ad, ((some ⟨g, o + k, none⟩) : Option Addr) = some ad → ∀ j (hj : j < fs.length), W.cell? (ad.add j) = some (.int .i64 (fs[j] : Int)))
    (hQ : ∀ (y24 y25 y26 y27 y28 y29 y30 y31 y32 y33 y34 y35 y36 y37 y38 y39 y40 y41 y42 y43 y44 : Value) (p' : Option Addr) (c' : Nat) (w' : World), RowX w w' (.slice p' (k + 1 + (l - k)) c') (k + 1 + (l - k)) ([] ++ intsV es ++ intsV [n] ++ intsV fs) [] → Q .normal { tmps := #[.pointer (some ⟨Z, 0, none⟩), .int .i64 (k : Int), .int .i64 (n : Int), u3, u4, u5, u6, u7, u8, u9, u10, u11, u12, u13, u14, u15, u16, u17, u18, u19, u20, u21, u22, u23, y24, y25, y26, y27, y28, y29, y30, y31, y32, y33, y34, y35, y36, y37, y38, y39, y40, y41, y42, y43, y44], defers := [] } (w'.setCell ⟨Z, 2, none⟩ (.slice p' (k + 1 + (l - k)) c'))) :
    (Code.region 3 rput8_regA_ops true).wp Try.prog Q { tmps := #[.pointer (some ⟨Z, 0, none⟩), .int .i64 (k : Int), .int .i64 (n : Int), u3, u4, u5, u6, u7, u8, u9, u10, u11, u12, u13, u14, u15, u16, u17, u18, u19, u20, u21, u22, u23, u24, u25, u26, u27, u28, u29, u30, u31, u32, u33, u34, u35, u36, u37, u38, u39, u40, u41, u42, u43, u44], defers := [] } w := by
  refine wp_region_noPanic ?_
  unfold rput8_regA_ops
  have HQ := Lib.hid hQ
  have HE := Lib.hid hE
  have HF := Lib.hid hF
  have HRE := Lib.hid (lateOk_spec (md := .any) (ops := rput8_regA_ops) (late := [19, 20, 21]) (is := [0, 2, 3, 4, 5, 6, 7, 9, 12, 13, 14, 15, 16, 17]) (f := 8) (by kernel_rfl))
  have HS1 : Hid (0 + k ≤ 4294967296) := Lib.hid (by omega)
  have HS2 : Hid (0 + k + 1 ≤ 4294967296) := Lib.hid (by omega)
  have HS3 : Hid (0 + k + 1 + (l - k) ≤ 4294967296) := Lib.hid (by omega)
  have hpe : (some ⟨g, o, none⟩ : Option Addr) = none → k = 0 ∧ cap = 0 := fun e => by cases e
  have hpf : (some ⟨g, o + k, none⟩ : Option Addr) = none → l - k = 0 ∧ cap - k = 0 := fun e => by cases e
  have j0 : (0 : Int) ≤ (k : Int) := by omega
  have hkc : k ≤ cap := by omega
  have j2 : (k : Int) ≤ (cap : Int) := by omega
  have j3 : (k : Int) ≤ (l : Int) := by omega
  have hne2 : cap ≠ k := by omega
  have HSB : Hid (∀ W, Below w.heap.size w W → W.cell? ⟨Z, 2, none⟩ = some (.slice (some ⟨g, o, none⟩) l cap)) := Lib.hid fun W hb => (hb.cell (p := ⟨Z, 2, none⟩) hB).trans h2
  have HFR : Hid (∀ W, Below w.heap.size w W → W.frozen? ⟨Z, 2, none⟩ = false) := Lib.hid fun W hb => by rw [World.frozen?_of_block (w := w) (hb.block Z hB)]; exact hf
  clear h2 hf
  have h0 : RowX w w.drew (.slice none 0 0) 0 [] [] := .new (Below.refl _ w).drew
  clear hQ hE hF
  refine wp_region_heldL_drew (late := [19, 20, 21]) (S := fun W => W.cell? ⟨Z, 2, none⟩ = some (.slice (some ⟨g, o, none⟩) l cap)) (by kernel_rfl) (HSB.out _ h0.below) (fun hHeld => ?_)
  generalize w.drew = W0 at *
  refine wpAnyL_take (i := 0) (oi := { dst := some 24, op := Op.move (Operand.tmp 0), type := 74, pos := "ref.go:44", after := #[], guard := none }) (v := ?_) rfl (by kernel_rfl) (by kernel_rfl) (by kernel_rfl) (by kernel_rfl) (HRE.out 0 (by decide)) (fun _ _ _ h => h) (Or.inl ⟨by rfl, ?_⟩) (by assumption) ?_
  rotate_left
  focus (intro w hSw; (try dsimp only at hSw); go_simp; (try with_reducible rfl))
  try simp only [Act.put, List.setIfInBounds_toArray, List.set_cons_zero, List.set_cons_succ]
  refine wpAnyL_take (i := 2) (oi := { dst := some 26, op := Op.move (Operand.tmp 0), type := 74, pos := "ref.go:44", after := #[], guard := none }) (v := ?_) rfl (by kernel_rfl) (by kernel_rfl) (by kernel_rfl) (by kernel_rfl) (HRE.out 2 (by decide)) (fun _ _ _ h => h) (Or.inl ⟨by rfl, ?_⟩) (by assumption) ?_
  rotate_left
  focus (intro w hSw; (try dsimp only at hSw); go_simp; (try with_reducible rfl))
  try simp only [Act.put, List.setIfInBounds_toArray, List.set_cons_zero, List.set_cons_succ]
  refine wpAnyL_take (i := 3) (oi := { dst := some 27, op := Op.nilCheck (Operand.tmp 26), type := 0, pos := "ref.go:44", after := #[{ on := 2, ground := Ground.data }], guard := none }) (v := ?_) rfl (by kernel_rfl) (by kernel_rfl) (by kernel_rfl) (by kernel_rfl) (HRE.out 3 (by decide)) (fun _ _ _ h => h) (Or.inl ⟨by rfl, ?_⟩) (by assumption) ?_
  rotate_left
  focus (intro w hSw; (try dsimp only at hSw); go_simp; (try with_reducible rfl))
  try simp only [Act.put, List.setIfInBounds_toArray, List.set_cons_zero, List.set_cons_succ]
  refine wpAnyL_take (i := 4) (oi := { dst := some 28, op := Op.fieldAddr 127 (Operand.tmp 27) 2, type := 0, pos := "ref.go:44", after := #[{ on := 3, ground := Ground.data }], guard := none }) (v := ?_) rfl (by kernel_rfl) (by kernel_rfl) (by kernel_rfl) (by kernel_rfl) (HRE.out 4 (by decide)) (fun _ _ _ h => h) (Or.inl ⟨by rfl, ?_⟩) (by assumption) ?_
  rotate_left
  focus (intro w hSw; (try dsimp only at hSw); go_simp; (try with_reducible rfl))
  try simp only [Act.put, List.setIfInBounds_toArray, List.set_cons_zero, List.set_cons_succ]
  refine wpAnyL_take (i := 5) (oi := { dst := some 29, op := Op.load 32 (Operand.tmp 28), type := 32, pos := "ref.go:44", after := #[{ on := 4, ground := Ground.data }], guard := none }) (v := ?_) rfl (by kernel_rfl) (by kernel_rfl) (by kernel_rfl) (by kernel_rfl) (HRE.out 5 (by decide)) (fun _ _ _ h => h) (Or.inl ⟨by rfl, ?_⟩) (by assumption) ?_
  rotate_left
  focus (intro w hSw; (try dsimp only at hSw); go_simp; (try with_reducible rfl))
  try simp only [Act.put, List.setIfInBounds_toArray, List.set_cons_zero, List.set_cons_succ]
  refine wpAnyL_take (i := 6) (oi := { dst := some 30, op := Op.move (Operand.tmp 1), type := 3, pos := "ref.go:44", after := #[], guard := none }) (v := ?_) rfl (by kernel_rfl) (by kernel_rfl) (by kernel_rfl) (by kernel_rfl) (HRE.out 6 (by decide)) (fun _ _ _ h => h) (Or.inl ⟨by rfl, ?_⟩) (by assumption) ?_
  rotate_left
  focus (intro w hSw; (try dsimp only at hSw); go_simp; (try with_reducible rfl))
  try simp only [Act.put, List.setIfInBounds_toArray, List.set_cons_zero, List.set_cons_succ]
  refine wpAnyL_take (i := 7) (oi := { dst := some 31, op := Op.slice 32 (Operand.tmp 29) none (some (Operand.tmp 30)) none, type := 32, pos := "ref.go:44", after := #[{ on := 5, ground := Ground.data }, { on := 6, ground := Ground.data }], guard := none }) (v := ?_) rfl (by kernel_rfl) (by kernel_rfl) (by kernel_rfl) (by kernel_rfl) (HRE.out 7 (by decide)) (fun _ _ _ h => h) (Or.inl ⟨by rfl, ?_⟩) (by assumption) ?_
  rotate_left
  focus (intro w hSw; (try dsimp only at hSw); go_simp; (try with_reducible rfl))
  try simp only [Act.put, List.setIfInBounds_toArray, List.set_cons_zero, List.set_cons_succ]
  refine wpAnyL_take (i := 9) (oi := { dst := some 33, op := Op.move (Operand.tmp 2), type := 3, pos := "ref.go:44", after := #[], guard := none }) (v := ?_) rfl (by kernel_rfl) (by kernel_rfl) (by kernel_rfl) (by kernel_rfl) (HRE.out 9 (by decide)) (fun _ _ _ h => h) (Or.inl ⟨by rfl, ?_⟩) (by assumption) ?_
  rotate_left
  focus (intro w hSw; (try dsimp only at hSw); go_simp; (try with_reducible rfl))
  try simp only [Act.put, List.setIfInBounds_toArray, List.set_cons_zero, List.set_cons_succ]
  refine wpAnyL_take (i := 12) (oi := { dst := some 36, op := Op.move (Operand.tmp 0), type := 74, pos := "ref.go:44", after := #[], guard := none }) (v := ?_) rfl (by kernel_rfl) (by kernel_rfl) (by kernel_rfl) (by kernel_rfl) (HRE.out 12 (by decide)) (fun _ _ _ h => h) (Or.inl ⟨by rfl, ?_⟩) (by assumption) ?_
  rotate_left
  focus (intro w hSw; (try dsimp only at hSw); go_simp; (try with_reducible rfl))
  try simp only [Act.put, List.setIfInBounds_toArray, List.set_cons_zero, List.set_cons_succ]
  refine wpAnyL_take (i := 13) (oi := { dst := some 37, op := Op.nilCheck (Operand.tmp 36), type := 0, pos := "ref.go:44", after := #[{ on := 12, ground := Ground.data }], guard := none }) (v := ?_) rfl (by kernel_rfl) (by kernel_rfl) (by kernel_rfl) (by kernel_rfl) (HRE.out 13 (by decide)) (fun _ _ _ h => h) (Or.inl ⟨by rfl, ?_⟩) (by assumption) ?_
  rotate_left
  focus (intro w hSw; (try dsimp only at hSw); go_simp; (try with_reducible rfl))
  try simp only [Act.put, List.setIfInBounds_toArray, List.set_cons_zero, List.set_cons_succ]
  refine wpAnyL_take (i := 14) (oi := { dst := some 38, op := Op.fieldAddr 127 (Operand.tmp 37) 2, type := 0, pos := "ref.go:44", after := #[{ on := 13, ground := Ground.data }], guard := none }) (v := ?_) rfl (by kernel_rfl) (by kernel_rfl) (by kernel_rfl) (by kernel_rfl) (HRE.out 14 (by decide)) (fun _ _ _ h => h) (Or.inl ⟨by rfl, ?_⟩) (by assumption) ?_
  rotate_left
  focus (intro w hSw; (try dsimp only at hSw); go_simp; (try with_reducible rfl))
  try simp only [Act.put, List.setIfInBounds_toArray, List.set_cons_zero, List.set_cons_succ]
  refine wpAnyL_take (i := 15) (oi := { dst := some 39, op := Op.load 32 (Operand.tmp 38), type := 32, pos := "ref.go:44", after := #[{ on := 14, ground := Ground.data }], guard := none }) (v := ?_) rfl (by kernel_rfl) (by kernel_rfl) (by kernel_rfl) (by kernel_rfl) (HRE.out 15 (by decide)) (fun _ _ _ h => h) (Or.inl ⟨by rfl, ?_⟩) (by assumption) ?_
  rotate_left
  focus (intro w hSw; (try dsimp only at hSw); go_simp; (try with_reducible rfl))
  try simp only [Act.put, List.setIfInBounds_toArray, List.set_cons_zero, List.set_cons_succ]
  refine wpAnyL_take (i := 16) (oi := { dst := some 40, op := Op.move (Operand.tmp 1), type := 3, pos := "ref.go:44", after := #[], guard := none }) (v := ?_) rfl (by kernel_rfl) (by kernel_rfl) (by kernel_rfl) (by kernel_rfl) (HRE.out 16 (by decide)) (fun _ _ _ h => h) (Or.inl ⟨by rfl, ?_⟩) (by assumption) ?_
  rotate_left
  focus (intro w hSw; (try dsimp only at hSw); go_simp; (try with_reducible rfl))
  try simp only [Act.put, List.setIfInBounds_toArray, List.set_cons_zero, List.set_cons_succ]
  refine wpAnyL_take (i := 17) (oi := { dst := some 41, op := Op.slice 32 (Operand.tmp 39) (some (Operand.tmp 40)) none none, type := 32, pos := "ref.go:44", after := #[{ on := 15, ground := Ground.data }, { on := 16, ground := Ground.data }], guard := none }) (v := ?_) rfl (by kernel_rfl) (by kernel_rfl) (by kernel_rfl) (by kernel_rfl) (HRE.out 17 (by decide)) (fun _ _ _ h => h) (Or.inl ⟨by rfl, ?_⟩) (by assumption) ?_
  rotate_left
  focus (intro w hSw; (try dsimp only at hSw); go_simp; (try with_reducible rfl))
  try simp only [Act.put, List.setIfInBounds_toArray, List.set_cons_zero, List.set_cons_succ]
  refine wpAnyL_ready (rs := [1, 10]) (by kernel_rfl) (by simp) ?_
  refine (AllReadyL.cons (o := { dst := some 25, op := Op.buildSlice 32 0 #[], type := 32, pos := "ref.go:44", after := #[], guard := none }) rfl (fun K hK => ?_) (AllReadyL.cons (o := { dst := some 34, op := Op.buildSlice 32 1 #[(0, Operand.tmp 33)], type := 32, pos := "ref.go:44", after := #[{ on := 9, ground := Ground.data }], guard := none }) rfl (fun K hK => ?_) AllReadyL.nil))
  · go_simp
    have h1 := h0.alloc (.cells #[] 3 (0, 0))
    have hn1 : w.heap.size ≤ W0.heap.size := h0.below.size
    refine hK.out _ _ (HSB.out _ h1.below) (fun hHeld => ?_)
    clear hK K
    try simp only [Act.put, List.setIfInBounds_toArray, List.set_cons_zero, List.set_cons_succ]
    clear hHeld
    have hHeld := HSB.out _ h1.below
    clear h0
    change wpAnyL _ _ _ _ _ _ _ _ _ (W0.alloc (.cells #[] 3))
    generalize (W0.alloc (.cells #[] 3)) = W1 at *
    generalize W0.heap.size = A1 at *
    refine wpAnyL_ready (rs := [8, 10]) (by kernel_rfl) (by simp) ?_
    refine (AllReadyL.cons (o := { dst := some 32, op := Op.call { callee := Callee.builtin Builtin.append, args := #[Operand.tmp 25, Operand.tmp 31], argTypes := #[ 32, 32 ] }, type := 32, pos := "ref.go:44", after := #[{ on := 1, ground := Ground.data }, { on := 7, ground := Ground.data }], guard := none }) rfl (fun K hK => ?_) (AllReadyL.cons (o := { dst := some 34, op := Op.buildSlice 32 1 #[(0, Operand.tmp 33)], type := 32, pos := "ref.go:44", after := #[{ on := 9, ground := Ground.data }], guard := none }) rfl (fun K hK => ?_) AllReadyL.nil))
    · have hb2 := h1.begin_ (E := A1) (ex' := []) (h1.ex (A1, (.cells #[] 3 (0, 0))) (by simp)).1 hn1 (fun p hp => by cases hp)
      refine step_append_int rfl (.tmp 25) (.tmp 31) rfl w.heap.size _ _ _ (by rfl) hb2.row (some ⟨g, o, none⟩) _ _ es (by rfl) hpe hel (HE.out _ hb2.below) HS1.out hb2.below.size ?_
      intro v2 W2 hr2 hg2 ho2
      have h2 := hb2.grow hr2 hg2 ho2
      clear hr2 hg2 ho2
      refine hK.out _ _ (HSB.out _ h2.below) (fun hHeld => ?_)
      clear hK K
      try simp only [Act.put, List.setIfInBounds_toArray, List.set_cons_zero, List.set_cons_succ]
      refine wpAnyL_ready (rs := [10]) (by kernel_rfl) (by simp) ?_
      refine (AllReadyL.cons (o := { dst := some 34, op := Op.buildSlice 32 1 #[(0, Operand.tmp 33)], type := 32, pos := "ref.go:44", after := #[{ on := 9, ground := Ground.data }], guard := none }) rfl (fun K hK => ?_) AllReadyL.nil)
      go_simp
      have h3 := h2.alloc (.cells #[.int .i64 (n : Int)] 3 (0, 0))
      have hn3 : w.heap.size ≤ W2.heap.size := h2.below.size
      refine hK.out _ _ (HSB.out _ h3.below) (fun hHeld => ?_)
      clear hK K
      try simp only [Act.put, List.setIfInBounds_toArray, List.set_cons_zero, List.set_cons_succ]
      clear hHeld
      have hHeld := HSB.out _ h3.below
      clear h2
      change wpAnyL _ _ _ _ _ _ _ _ _ (W2.alloc (.cells #[.int .i64 (n : Int)] 3))
      generalize (W2.alloc (.cells #[.int .i64 (n : Int)] 3)) = W3 at *
      generalize W2.heap.size = A3 at *
      refine wpAnyL_ready (rs := [11]) (by kernel_rfl) (by simp) ?_
      refine (AllReadyL.cons (o := { dst := some 35, op := Op.call { callee := Callee.builtin Builtin.append, args := #[Operand.tmp 32, Operand.tmp 34], argTypes := #[ 32, 32 ] }, type := 32, pos := "ref.go:44", after := #[{ on := 8, ground := Ground.data }, { on := 10, ground := Ground.data }, { on := 8, ground := Ground.chain }], guard := none }) rfl (fun K hK => ?_) AllReadyL.nil)
      refine step_append_int rfl (.tmp 32) (.tmp 34) rfl w.heap.size _ _ _ (by rfl) h3.row (some ⟨A3, 0, none⟩) 1 1 [n] (by rfl) (fun e => by cases e) rfl (one_news (h3.ex (A3, (.cells #[.int .i64 (n : Int)] 3 (0, 0))) (by simp)).1) HS2.out h3.below.size ?_
      intro v4 W4 hr4 hg4 ho4
      have h4 := h3.grow hr4 hg4 ho4
      clear hr4 hg4 ho4
      refine hK.out _ _ (HSB.out _ h4.below) (fun hHeld => ?_)
      clear hK K
      try simp only [Act.put, List.setIfInBounds_toArray, List.set_cons_zero, List.set_cons_succ]
      refine wpAnyL_ready (rs := [18]) (by kernel_rfl) (by simp) ?_
      refine (AllReadyL.cons (o := { dst := some 42, op := Op.call { callee := Callee.builtin Builtin.append, args := #[Operand.tmp 35, Operand.tmp 41], argTypes := #[ 32, 32 ] }, type := 32, pos := "ref.go:44", after := #[{ on := 11, ground := Ground.data }, { on := 17, ground := Ground.data }, { on := 11, ground := Ground.chain }], guard := none }) rfl (fun K hK => ?_) AllReadyL.nil)
      refine step_append_int rfl (.tmp 35) (.tmp 41) rfl w.heap.size _ _ _ (by rfl) h4.row (some ⟨g, o + k, none⟩) _ _ fs (by rfl) hpf hfl (HF.out _ h4.below) HS3.out h4.below.size ?_
      intro v5 W5 hr5 hg5 ho5
      have h5 := h4.grow hr5 hg5 ho5
      obtain ⟨p5, c5, rfl⟩ := h5.form
      clear hr5 hg5 ho5
      refine hK.out _ _ (HSB.out _ h5.below) (fun hHeld => ?_)
      clear hK K
      try simp only [Act.put, List.setIfInBounds_toArray, List.set_cons_zero, List.set_cons_succ]
      refine wpAnyL_ready (rs := [19]) (by kernel_rfl) (by simp) ?_
      refine AllReadyL.last (o := { dst := some 43, op := Op.nilCheck (Operand.tmp 24), type := 0, pos := "ref.go:44", after := #[{ on := 0, ground := Ground.data }, { on := 0, ground := Ground.phase }, { on := 1, ground := Ground.phase }, { on := 2, ground := Ground.phase }, { on := 3, ground := Ground.phase }, { on := 4, ground := Ground.phase }, { on := 5, ground := Ground.phase }, { on := 6, ground := Ground.phase }, { on := 7, ground := Ground.phase }, { on := 8, ground := Ground.phase }, { on := 9, ground := Ground.phase }, { on := 10, ground := Ground.phase }, { on := 11, ground := Ground.phase }, { on := 12, ground := Ground.phase }, { on := 13, ground := Ground.phase }, { on := 14, ground := Ground.phase }, { on := 15, ground := Ground.phase }, { on := 16, ground := Ground.phase }, { on := 17, ground := Ground.phase }, { on := 18, ground := Ground.phase }], guard := none }) rfl (by kernel_rfl) (fun K hK => ?_) AllReadyL.nil
      go_simp
      refine hK.out _ _ ?_
      clear hK K
      try simp only [Act.put, List.setIfInBounds_toArray, List.set_cons_zero, List.set_cons_succ]
      refine wpAnyL_ready (rs := [20]) (by kernel_rfl) (by simp) ?_
      refine AllReadyL.last (o := { dst := some 44, op := Op.fieldAddr 127 (Operand.tmp 43) 2, type := 0, pos := "ref.go:44", after := #[{ on := 19, ground := Ground.data }, { on := 0, ground := Ground.phase }, { on := 1, ground := Ground.phase }, { on := 2, ground := Ground.phase }, { on := 3, ground := Ground.phase }, { on := 4, ground := Ground.phase }, { on := 5, ground := Ground.phase }, { on := 6, ground := Ground.phase }, { on := 7, ground := Ground.phase }, { on := 8, ground := Ground.phase }, { on := 9, ground := Ground.phase }, { on := 10, ground := Ground.phase }, { on := 11, ground := Ground.phase }, { on := 12, ground := Ground.phase }, { on := 13, ground := Ground.phase }, { on := 14, ground := Ground.phase }, { on := 15, ground := Ground.phase }, { on := 16, ground := Ground.phase }, { on := 17, ground := Ground.phase }, { on := 18, ground := Ground.phase }], guard := none }) rfl (by kernel_rfl) (fun K hK => ?_) AllReadyL.nil
      go_simp
      refine hK.out _ _ ?_
      clear hK K
      try simp only [Act.put, List.setIfInBounds_toArray, List.set_cons_zero, List.set_cons_succ]
      have cB := (HSB.out _ h5.below)
      have fB := HFR.out _ h5.below
      refine wpAnyL_ready (rs := [21]) (by kernel_rfl) (by simp) ?_
      refine AllReadyL.last (o := { dst := none, op := Op.store 32 (Operand.tmp 44) (Operand.tmp 42), type := 0, pos := "ref.go:44", after := #[{ on := 20, ground := Ground.data }, { on := 18, ground := Ground.data }, { on := 18, ground := Ground.chain }, { on := 0, ground := Ground.phase }, { on := 1, ground := Ground.phase }, { on := 2, ground := Ground.phase }, { on := 3, ground := Ground.phase }, { on := 4, ground := Ground.phase }, { on := 5, ground := Ground.phase }, { on := 6, ground := Ground.phase }, { on := 7, ground := Ground.phase }, { on := 8, ground := Ground.phase }, { on := 9, ground := Ground.phase }, { on := 10, ground := Ground.phase }, { on := 11, ground := Ground.phase }, { on := 12, ground := Ground.phase }, { on := 13, ground := Ground.phase }, { on := 14, ground := Ground.phase }, { on := 15, ground := Ground.phase }, { on := 16, ground := Ground.phase }, { on := 17, ground := Ground.phase }, { on := 18, ground := Ground.phase }], guard := none }) rfl (by kernel_rfl) (fun K hK => ?_) AllReadyL.nil
      go_simp
      refine hK.out _ _ ?_
      refine wpAnyL_done (by kernel_rfl) ?_ _
      try simp only [Act.put, List.setIfInBounds_toArray, List.set_cons_zero, List.set_cons_succ]
      exact NoPanic.normal (HQ.out _ _ _ _ _ _ _ _ _ _ _ _ _ _ _ _ _ _ _ _ _ _ _ _ (by have q := h5.less (ex' := []) (by simp); simpa only [Nat.zero_add, Nat.add_zero] using q))
    · go_simp
      have h6 := h1.alloc (.cells #[.int .i64 (n : Int)] 3 (0, 0))
      have hn6 : w.heap.size ≤ W1.heap.size := h1.below.size
      have hne : W1.heap.size ≠ A1 := fun e => by have := heap_lt (h1.ex (A1, _) (List.mem_cons_self ..)).1; omega
      refine hK.out _ _ (HSB.out _ h6.below) (fun hHeld => ?_)
      clear hK K
      try simp only [Act.put, List.setIfInBounds_toArray, List.set_cons_zero, List.set_cons_succ]
      clear hHeld
      have hHeld := HSB.out _ h6.below
      clear h1
      change wpAnyL _ _ _ _ _ _ _ _ _ (W1.alloc (.cells #[.int .i64 (n : Int)] 3))
      generalize (W1.alloc (.cells #[.int .i64 (n : Int)] 3)) = W6 at *
      generalize W1.heap.size = A6 at *
      refine wpAnyL_ready (rs := [8]) (by kernel_rfl) (by simp) ?_
      refine (AllReadyL.cons (o := { dst := some 32, op := Op.call { callee := Callee.builtin Builtin.append, args := #[Operand.tmp 25, Operand.tmp 31], argTypes := #[ 32, 32 ] }, type := 32, pos := "ref.go:44", after := #[{ on := 1, ground := Ground.data }, { on := 7, ground := Ground.data }], guard := none }) rfl (fun K hK => ?_) AllReadyL.nil)
      have hb7 := h6.begin_ (E := A1) (ex' := [(A6, (.cells #[.int .i64 (n : Int)] 3 (0, 0)))]) (h6.ex (A1, (.cells #[] 3 (0, 0))) (by simp)).1 hn1 (fun p hp => by rw [List.mem_singleton.1 hp]; exact ⟨by simp, hne⟩)
      refine step_append_int rfl (.tmp 25) (.tmp 31) rfl w.heap.size _ _ _ (by rfl) hb7.row (some ⟨g, o, none⟩) _ _ es (by rfl) hpe hel (HE.out _ hb7.below) HS1.out hb7.below.size ?_
      intro v7 W7 hr7 hg7 ho7
      have h7 := hb7.grow hr7 hg7 ho7
      clear hr7 hg7 ho7
      refine hK.out _ _ (HSB.out _ h7.below) (fun hHeld => ?_)
      clear hK K
      try simp only [Act.put, List.setIfInBounds_toArray, List.set_cons_zero, List.set_cons_succ]
      refine wpAnyL_ready (rs := [11]) (by kernel_rfl) (by simp) ?_
      refine (AllReadyL.cons (o := { dst := some 35, op := Op.call { callee := Callee.builtin Builtin.append, args := #[Operand.tmp 32, Operand.tmp 34], argTypes := #[ 32, 32 ] }, type := 32, pos := "ref.go:44", after := #[{ on := 8, ground := Ground.data }, { on := 10, ground := Ground.data }, { on := 8, ground := Ground.chain }], guard := none }) rfl (fun K hK => ?_) AllReadyL.nil)
      refine step_append_int rfl (.tmp 32) (.tmp 34) rfl w.heap.size _ _ _ (by rfl) h7.row (some ⟨A6, 0, none⟩) 1 1 [n] (by rfl) (fun e => by cases e) rfl (one_news (h7.ex (A6, (.cells #[.int .i64 (n : Int)] 3 (0, 0))) (by simp)).1) HS2.out h7.below.size ?_
      intro v8 W8 hr8 hg8 ho8
      have h8 := h7.grow hr8 hg8 ho8
      clear hr8 hg8 ho8
      refine hK.out _ _ (HSB.out _ h8.below) (fun hHeld => ?_)
      clear hK K
      try simp only [Act.put, List.setIfInBounds_toArray, List.set_cons_zero, List.set_cons_succ]
      refine wpAnyL_ready (rs := [18]) (by kernel_rfl) (by simp) ?_
      refine (AllReadyL.cons (o := { dst := some 42, op := Op.call { callee := Callee.builtin Builtin.append, args := #[Operand.tmp 35, Operand.tmp 41], argTypes := #[ 32, 32 ] }, type := 32, pos := "ref.go:44", after := #[{ on := 11, ground := Ground.data }, { on := 17, ground := Ground.data }, { on := 11, ground := Ground.chain }], guard := none }) rfl (fun K hK => ?_) AllReadyL.nil)
      refine step_append_int rfl (.tmp 35) (.tmp 41) rfl w.heap.size _ _ _ (by rfl) h8.row (some ⟨g, o + k, none⟩) _ _ fs (by rfl) hpf hfl (HF.out _ h8.below) HS3.out h8.below.size ?_
      intro v9 W9 hr9 hg9 ho9
      have h9 := h8.grow hr9 hg9 ho9
      obtain ⟨p9, c9, rfl⟩ := h9.form
      clear hr9 hg9 ho9
      refine hK.out _ _ (HSB.out _ h9.below) (fun hHeld => ?_)
      clear hK K
      try simp only [Act.put, List.setIfInBounds_toArray, List.set_cons_zero, List.set_cons_succ]
      refine wpAnyL_ready (rs := [19]) (by kernel_rfl) (by simp) ?_
      refine AllReadyL.last (o := { dst := some 43, op := Op.nilCheck (Operand.tmp 24), type := 0, pos := "ref.go:44", after := #[{ on := 0, ground := Ground.data }, { on := 0, ground := Ground.phase }, { on := 1, ground := Ground.phase }, { on := 2, ground := Ground.phase }, { on := 3, ground := Ground.phase }, { on := 4, ground := Ground.phase }, { on := 5, ground := Ground.phase }, { on := 6, ground := Ground.phase }, { on := 7, ground := Ground.phase }, { on := 8, ground := Ground.phase }, { on := 9, ground := Ground.phase }, { on := 10, ground := Ground.phase }, { on := 11, ground := Ground.phase }, { on := 12, ground := Ground.phase }, { on := 13, ground := Ground.phase }, { on := 14, ground := Ground.phase }, { on := 15, ground := Ground.phase }, { on := 16, ground := Ground.phase }, { on := 17, ground := Ground.phase }, { on := 18, ground := Ground.phase }], guard := none }) rfl (by kernel_rfl) (fun K hK => ?_) AllReadyL.nil
      go_simp
      refine hK.out _ _ ?_
      clear hK K
      try simp only [Act.put, List.setIfInBounds_toArray, List.set_cons_zero, List.set_cons_succ]
      refine wpAnyL_ready (rs := [20]) (by kernel_rfl) (by simp) ?_
      refine AllReadyL.last (o := { dst := some 44, op := Op.fieldAddr 127 (Operand.tmp 43) 2, type := 0, pos := "ref.go:44", after := #[{ on := 19, ground := Ground.data }, { on := 0, ground := Ground.phase }, { on := 1, ground := Ground.phase }, { on := 2, ground := Ground.phase }, { on := 3, ground := Ground.phase }, { on := 4, ground := Ground.phase }, { on := 5, ground := Ground.phase }, { on := 6, ground := Ground.phase }, { on := 7, ground := Ground.phase }, { on := 8, ground := Ground.phase }, { on := 9, ground := Ground.phase }, { on := 10, ground := Ground.phase }, { on := 11, ground := Ground.phase }, { on := 12, ground := Ground.phase }, { on := 13, ground := Ground.phase }, { on := 14, ground := Ground.phase }, { on := 15, ground := Ground.phase }, { on := 16, ground := Ground.phase }, { on := 17, ground := Ground.phase }, { on := 18, ground := Ground.phase }], guard := none }) rfl (by kernel_rfl) (fun K hK => ?_) AllReadyL.nil
      go_simp
      refine hK.out _ _ ?_
      clear hK K
      try simp only [Act.put, List.setIfInBounds_toArray, List.set_cons_zero, List.set_cons_succ]
      have cB := (HSB.out _ h9.below)
      have fB := HFR.out _ h9.below
      refine wpAnyL_ready (rs := [21]) (by kernel_rfl) (by simp) ?_
      refine AllReadyL.last (o := { dst := none, op := Op.store 32 (Operand.tmp 44) (Operand.tmp 42), type := 0, pos := "ref.go:44", after := #[{ on := 20, ground := Ground.data }, { on := 18, ground := Ground.data }, { on := 18, ground := Ground.chain }, { on := 0, ground := Ground.phase }, { on := 1, ground := Ground.phase }, { on := 2, ground := Ground.phase }, { on := 3, ground := Ground.phase }, { on := 4, ground := Ground.phase }, { on := 5, ground := Ground.phase }, { on := 6, ground := Ground.phase }, { on := 7, ground := Ground.phase }, { on := 8, ground := Ground.phase }, { on := 9, ground := Ground.phase }, { on := 10, ground := Ground.phase }, { on := 11, ground := Ground.phase }, { on := 12, ground := Ground.phase }, { on := 13, ground := Ground.phase }, { on := 14, ground := Ground.phase }, { on := 15, ground := Ground.phase }, { on := 16, ground := Ground.phase }, { on := 17, ground := Ground.phase }, { on := 18, ground := Ground.phase }], guard := none }) rfl (by kernel_rfl) (fun K hK => ?_) AllReadyL.nil
      go_simp
      refine hK.out _ _ ?_
      refine wpAnyL_done (by kernel_rfl) ?_ _
      try simp only [Act.put, List.setIfInBounds_toArray, List.set_cons_zero, List.set_cons_succ]
      exact NoPanic.normal (HQ.out _ _ _ _ _ _ _ _ _ _ _ _ _ _ _ _ _ _ _ _ _ _ _ _ (by have q := h9.less (ex' := []) (by simp); simpa only [Nat.zero_add, Nat.add_zero] using q))
  · go_simp
    have h10 := h0.alloc (.cells #[.int .i64 (n : Int)] 3 (0, 0))
    have hn10 : w.heap.size ≤ W0.heap.size := h0.below.size
    refine hK.out _ _ (HSB.out _ h10.below) (fun hHeld => ?_)
    clear hK K
    try simp only [Act.put, List.setIfInBounds_toArray, List.set_cons_zero, List.set_cons_succ]
    clear hHeld
    have hHeld := HSB.out _ h10.below
    clear h0
    change wpAnyL _ _ _ _ _ _ _ _ _ (W0.alloc (.cells #[.int .i64 (n : Int)] 3))
    generalize (W0.alloc (.cells #[.int .i64 (n : Int)] 3)) = W10 at *
    generalize W0.heap.size = A10 at *
    refine wpAnyL_ready (rs := [1]) (by kernel_rfl) (by simp) ?_
    refine (AllReadyL.cons (o := { dst := some 25, op := Op.buildSlice 32 0 #[], type := 32, pos := "ref.go:44", after := #[], guard := none }) rfl (fun K hK => ?_) AllReadyL.nil)
    go_simp
    have h11 := h10.alloc (.cells #[] 3 (0, 0))
    have hn11 : w.heap.size ≤ W10.heap.size := h10.below.size
    have hne : A10 ≠ W10.heap.size := fun e => by have := heap_lt (h10.ex (A10, _) (List.mem_cons_self ..)).1; omega
    refine hK.out _ _ (HSB.out _ h11.below) (fun hHeld => ?_)
    clear hK K
    try simp only [Act.put, List.setIfInBounds_toArray, List.set_cons_zero, List.set_cons_succ]
    clear hHeld
    have hHeld := HSB.out _ h11.below
    clear h10
    change wpAnyL _ _ _ _ _ _ _ _ _ (W10.alloc (.cells #[] 3))
    generalize (W10.alloc (.cells #[] 3)) = W11 at *
    generalize W10.heap.size = A11 at *
    refine wpAnyL_ready (rs := [8]) (by kernel_rfl) (by simp) ?_
    refine (AllReadyL.cons (o := { dst := some 32, op := Op.call { callee := Callee.builtin Builtin.append, args := #[Operand.tmp 25, Operand.tmp 31], argTypes := #[ 32, 32 ] }, type := 32, pos := "ref.go:44", after := #[{ on := 1, ground := Ground.data }, { on := 7, ground := Ground.data }], guard := none }) rfl (fun K hK => ?_) AllReadyL.nil)
    have hb12 := h11.begin_ (E := A11) (ex' := [(A10, (.cells #[.int .i64 (n : Int)] 3 (0, 0)))]) (h11.ex (A11, (.cells #[] 3 (0, 0))) (by simp)).1 hn11 (fun p hp => by rw [List.mem_singleton.1 hp]; exact ⟨by simp, hne⟩)
    refine step_append_int rfl (.tmp 25) (.tmp 31) rfl w.heap.size _ _ _ (by rfl) hb12.row (some ⟨g, o, none⟩) _ _ es (by rfl) hpe hel (HE.out _ hb12.below) HS1.out hb12.below.size ?_
    intro v12 W12 hr12 hg12 ho12
    have h12 := hb12.grow hr12 hg12 ho12
    clear hr12 hg12 ho12
    refine hK.out _ _ (HSB.out _ h12.below) (fun hHeld => ?_)
    clear hK K
    try simp only [Act.put, List.setIfInBounds_toArray, List.set_cons_zero, List.set_cons_succ]
    refine wpAnyL_ready (rs := [11]) (by kernel_rfl) (by simp) ?_
    refine (AllReadyL.cons (o := { dst := some 35, op := Op.call { callee := Callee.builtin Builtin.append, args := #[Operand.tmp 32, Operand.tmp 34], argTypes := #[ 32, 32 ] }, type := 32, pos := "ref.go:44", after := #[{ on := 8, ground := Ground.data }, { on := 10, ground := Ground.data }, { on := 8, ground := Ground.chain }], guard := none }) rfl (fun K hK => ?_) AllReadyL.nil)
    refine step_append_int rfl (.tmp 32) (.tmp 34) rfl w.heap.size _ _ _ (by rfl) h12.row (some ⟨A10, 0, none⟩) 1 1 [n] (by rfl) (fun e => by cases e) rfl (one_news (h12.ex (A10, (.cells #[.int .i64 (n : Int)] 3 (0, 0))) (by simp)).1) HS2.out h12.below.size ?_
    intro v13 W13 hr13 hg13 ho13
    have h13 := h12.grow hr13 hg13 ho13
    clear hr13 hg13 ho13
    refine hK.out _ _ (HSB.out _ h13.below) (fun hHeld => ?_)
    clear hK K
    try simp only [Act.put, List.setIfInBounds_toArray, List.set_cons_zero, List.set_cons_succ]
    refine wpAnyL_ready (rs := [18]) (by kernel_rfl) (by simp) ?_
    refine (AllReadyL.cons (o := { dst := some 42, op := Op.call { callee := Callee.builtin Builtin.append, args := #[Operand.tmp 35, Operand.tmp 41], argTypes := #[ 32, 32 ] }, type := 32, pos := "ref.go:44", after := #[{ on := 11, ground := Ground.data }, { on := 17, ground := Ground.data }, { on := 11, ground := Ground.chain }], guard := none }) rfl (fun K hK => ?_) AllReadyL.nil)
    refine step_append_int rfl (.tmp 35) (.tmp 41) rfl w.heap.size _ _ _ (by rfl) h13.row (some ⟨g, o + k, none⟩) _ _ fs (by rfl) hpf hfl (HF.out _ h13.below) HS3.out h13.below.size ?_
    intro v14 W14 hr14 hg14 ho14
    have h14 := h13.grow hr14 hg14 ho14
    obtain ⟨p14, c14, rfl⟩ := h14.form
    clear hr14 hg14 ho14
    refine hK.out _ _ (HSB.out _ h14.below) (fun hHeld => ?_)
    clear hK K
    try simp only [Act.put, List.setIfInBounds_toArray, List.set_cons_zero, List.set_cons_succ]
    refine wpAnyL_ready (rs := [19]) (by kernel_rfl) (by simp) ?_
    refine AllReadyL.last (o := { dst := some 43, op := Op.nilCheck (Operand.tmp 24), type := 0, pos := "ref.go:44", after := #[{ on := 0, ground := Ground.data }, { on := 0, ground := Ground.phase }, { on := 1, ground := Ground.phase }, { on := 2, ground := Ground.phase }, { on := 3, ground := Ground.phase }, { on := 4, ground := Ground.phase }, { on := 5, ground := Ground.phase }, { on := 6, ground := Ground.phase }, { on := 7, ground := Ground.phase }, { on := 8, ground := Ground.phase }, { on := 9, ground := Ground.phase }, { on := 10, ground := Ground.phase }, { on := 11, ground := Ground.phase }, { on := 12, ground := Ground.phase }, { on := 13, ground := Ground.phase }, { on := 14, ground := Ground.phase }, { on := 15, ground := Ground.phase }, { on := 16, ground := Ground.phase }, { on := 17, ground := Ground.phase }, { on := 18, ground := Ground.phase }], guard := none }) rfl (by kernel_rfl) (fun K hK => ?_) AllReadyL.nil
    go_simp
    refine hK.out _ _ ?_
    clear hK K
    try simp only [Act.put, List.setIfInBounds_toArray, List.set_cons_zero, List.set_cons_succ]
    refine wpAnyL_ready (rs := [20]) (by kernel_rfl) (by simp) ?_
    refine AllReadyL.last (o := { dst := some 44, op := Op.fieldAddr 127 (Operand.tmp 43) 2, type := 0, pos := "ref.go:44", after := #[{ on := 19, ground := Ground.data }, { on := 0, ground := Ground.phase }, { on := 1, ground := Ground.phase }, { on := 2, ground := Ground.phase }, { on := 3, ground := Ground.phase }, { on := 4, ground := Ground.phase }, { on := 5, ground := Ground.phase }, { on := 6, ground := Ground.phase }, { on := 7, ground := Ground.phase }, { on := 8, ground := Ground.phase }, { on := 9, ground := Ground.phase }, { on := 10, ground := Ground.phase }, { on := 11, ground := Ground.phase }, { on := 12, ground := Ground.phase }, { on := 13, ground := Ground.phase }, { on := 14, ground := Ground.phase }, { on := 15, ground := Ground.phase }, { on := 16, ground := Ground.phase }, { on := 17, ground := Ground.phase }, { on := 18, ground := Ground.phase }], guard := none }) rfl (by kernel_rfl) (fun K hK => ?_) AllReadyL.nil
    go_simp
    refine hK.out _ _ ?_
    clear hK K
    try simp only [Act.put, List.setIfInBounds_toArray, List.set_cons_zero, List.set_cons_succ]
    have cB := (HSB.out _ h14.below)
    have fB := HFR.out _ h14.below
    refine wpAnyL_ready (rs := [21]) (by kernel_rfl) (by simp) ?_
    refine AllReadyL.last (o := { dst := none, op := Op.store 32 (Operand.tmp 44) (Operand.tmp 42), type := 0, pos := "ref.go:44", after := #[{ on := 20, ground := Ground.data }, { on := 18, ground := Ground.data }, { on := 18, ground := Ground.chain }, { on := 0, ground := Ground.phase }, { on := 1, ground := Ground.phase }, { on := 2, ground := Ground.phase }, { on := 3, ground := Ground.phase }, { on := 4, ground := Ground.phase }, { on := 5, ground := Ground.phase }, { on := 6, ground := Ground.phase }, { on := 7, ground := Ground.phase }, { on := 8, ground := Ground.phase }, { on := 9, ground := Ground.phase }, { on := 10, ground := Ground.phase }, { on := 11, ground := Ground.phase }, { on := 12, ground := Ground.phase }, { on := 13, ground := Ground.phase }, { on := 14, ground := Ground.phase }, { on := 15, ground := Ground.phase }, { on := 16, ground := Ground.phase }, { on := 17, ground := Ground.phase }, { on := 18, ground := Ground.phase }], guard := none }) rfl (by kernel_rfl) (fun K hK => ?_) AllReadyL.nil
    go_simp
    refine hK.out _ _ ?_
    refine wpAnyL_done (by kernel_rfl) ?_ _
    try simp only [Act.put, List.setIfInBounds_toArray, List.set_cons_zero, List.set_cons_succ]
    exact NoPanic.normal (HQ.out _ _ _ _ _ _ _ _ _ _ _ _ _ _ _ _ _ _ _ _ _ _ _ _ (by have q := h14.less (ex' := []) (by simp); simpa only [Nat.zero_add, Nat.add_zero] using q))
end Go.Proofs.Ytbadckkcjjfnoaa
namespace Go.Proofs.Ytbadckkcjjfnoaa
open Go.RowKit

def rput8_regB_ops : Array Oper := #[{ dst := some 24, op := Op.move (Operand.tmp 0), type := 74, pos := "ref.go:44", after := #[], guard := none }, { dst := some 25, op := Op.buildSlice 32 0 #[], type := 32, pos := "ref.go:44", after := #[], guard := none }, { dst := some 26, op := Op.move (Operand.tmp 0), type := 74, pos := "ref.go:44", after := #[], guard := none }, { dst := some 27, op := Op.nilCheck (Operand.tmp 26), type := 0, pos := "ref.go:44", after := #[{ on := 2, ground := Ground.data }], guard := none }, { dst := some 28, op := Op.fieldAddr 127 (Operand.tmp 27) 2, type := 0, pos := "ref.go:44", after := #[{ on := 3, ground := Ground.data }], guard := none }, { dst := some 29, op := Op.load 32 (Operand.tmp 28), type := 32, pos := "ref.go:44", after := #[{ on := 4, ground := Ground.data }], guard := none }, { dst := some 30, op := Op.move (Operand.tmp 1), type := 3, pos := "ref.go:44", after := #[], guard := none }, { dst := some 31, op := Op.slice 32 (Operand.tmp 29) none (some (Operand.tmp 30)) none, type := 32, pos := "ref.go:44", after := #[{ on := 5, ground := Ground.data }, { on := 6, ground := Ground.data }], guard := none }, { dst := some 32, op := Op.call { callee := Callee.builtin Builtin.append, args := #[Operand.tmp 25, Operand.tmp 31], argTypes := #[ 32, 32 ] }, type := 32, pos := "ref.go:44", after := #[{ on := 1, ground := Ground.data }, { on := 7, ground := Ground.data }], guard := none }, { dst := some 33, op := Op.move (Operand.tmp 2), type := 3, pos := "ref.go:44", after := #[], guard := none }, { dst := some 34, op := Op.buildSlice 32 1 #[(0, Operand.tmp 33)], type := 32, pos := "ref.go:44", after := #[{ on := 9, ground := Ground.data }], guard := none }, { dst := some 35, op := Op.call { callee := Callee.builtin Builtin.append, args := #[Operand.tmp 32, Operand.tmp 34], argTypes := #[ 32, 32 ] }, type := 32, pos := "ref.go:44", after := #[{ on := 8, ground := Ground.data }, { on := 10, ground := Ground.data }, { on := 8, ground := Ground.chain }], guard := none }, { dst := some 36, op := Op.move (Operand.tmp 0), type := 74, pos := "ref.go:44", after := #[], guard := none }, { dst := some 37, op := Op.nilCheck (Operand.tmp 36), type := 0, pos := "ref.go:44", after := #[{ on := 12, ground := Ground.data }], guard := none }, { dst := some 38, op := Op.fieldAddr 127 (Operand.tmp 37) 2, type := 0, pos := "ref.go:44", after := #[{ on := 13, ground := Ground.data }], guard := none }, { dst := some 39, op := Op.load 32 (Operand.tmp 38), type := 32, pos := "ref.go:44", after := #[{ on := 14, ground := Ground.data }], guard := none }, { dst := some 40, op := Op.move (Operand.tmp 1), type := 3, pos := "ref.go:44", after := #[], guard := none }, { dst := some 41, op := Op.slice 32 (Operand.tmp 39) (some (Operand.tmp 40)) none none, type := 32, pos := "ref.go:44", after := #[{ on := 15, ground := Ground.data }, { on := 16, ground := Ground.data }], guard := none }, { dst := some 42, op := Op.call { callee := Callee.builtin Builtin.append, args := #[Operand.tmp 35, Operand.tmp 41], argTypes := #[ 32, 32 ] }, type := 32, pos := "ref.go:44", after := #[{ on := 11, ground := Ground.data }, { on := 17, ground := Ground.data }, { on := 11, ground := Ground.chain }], guard := none }, { dst := some 43, op := Op.nilCheck (Operand.tmp 24), type := 0, pos := "ref.go:44", after := #[{ on := 0, ground := Ground.data }, { on := 0, ground := Ground.phase }, { on := 1, ground := Ground.phase }, { on := 2, ground := Ground.phase }, { on := 3, ground := Ground.phase }, { on := 4, ground := Ground.phase }, { on := 5, ground := Ground.phase }, { on := 6, ground := Ground.phase }, { on := 7, ground := Ground.phase }, { on := 8, ground := Ground.phase }, { on := 9, ground := Ground.phase }, { on := 10, ground := Ground.phase }, { on := 11, ground := Ground.phase }, { on := 12, ground := Ground.phase }, { on := 13, ground := Ground.phase }, { on := 14, ground := Ground.phase }, { on := 15, ground := Ground.phase }, { on := 16, ground := Ground.phase }, { on := 17, ground := Ground.phase }, { on := 18, ground := Ground.phase }], guard := none }, { dst := some 44, op := Op.fieldAddr 127 (Operand.tmp 43) 2, type := 0, pos := "ref.go:44", after := #[{ on := 19, ground := Ground.data }, { on := 0, ground := Ground.phase }, { on := 1, ground := Ground.phase }, { on := 2, ground := Ground.phase }, { on := 3, ground := Ground.phase }, { on := 4, ground := Ground.phase }, { on := 5, ground := Ground.phase }, { on := 6, ground := Ground.phase }, { on := 7, ground := Ground.phase }, { on := 8, ground := Ground.phase }, { on := 9, ground := Ground.phase }, { on := 10, ground := Ground.phase }, { on := 11, ground := Ground.phase }, { on := 12, ground := Ground.phase }, { on := 13, ground := Ground.phase }, { on := 14, ground := Ground.phase }, { on := 15, ground := Ground.phase }, { on := 16, ground := Ground.phase }, { on := 17, ground := Ground.phase }, { on := 18, ground := Ground.phase }], guard := none }, { dst := none, op := Op.store 32 (Operand.tmp 44) (Operand.tmp 42), type := 0, pos := "ref.go:44", after := #[{ on := 20, ground := Ground.data }, { on := 18, ground := Ground.data }, { on := 18, ground := Ground.chain }, { on := 0, ground := Ground.phase }, { on := 1, ground := Ground.phase }, { on := 2, ground := Ground.phase }, { on := 3, ground := Ground.phase }, { on := 4, ground := Ground.phase }, { on := 5, ground := Ground.phase }, { on := 6, ground := Ground.phase }, { on := 7, ground := Ground.phase }, { on := 8, ground := Ground.phase }, { on := 9, ground := Ground.phase }, { on := 10, ground := Ground.phase }, { on := 11, ground := Ground.phase }, { on := 12, ground := Ground.phase }, { on := 13, ground := Ground.phase }, { on := 14, ground := Ground.phase }, { on := 15, ground := Ground.phase }, { on := 16, ground := Ground.phase }, { on := 17, ground := Ground.phase }, { on := 18, ground := Ground.phase }], guard := none }]
set_option maxHeartbeats 8000000 in
set_option maxRecDepth 100000 in
theorem rput8_regB {w : World} {n : Nat} {es fs : List Nat} {Z k g o : Nat} {Q : Exit → Act → World → Prop} {u3 u4 u5 u6 u7 u8 u9 u10 u11 u12 u13 u14 u15 u16 u17 u18 u19 u20 u21 u22 u23 u24 u25 u26 u27 u28 u29 u30 u31 u32 u33 u34 u35 u36 u37 u38 u39 u40 u41 u42 u43 u44 : Value} (hB : Z < w.heap.size) (h2 : w.cell? ⟨Z, 2, none⟩ = some (.slice (some ⟨g, o, none⟩) k k)) (hf : w.frozen? ⟨Z, 2, none⟩ = false) (hls : k ≤ 100000)
    (hel : es.length = k) (hfl : fs.length = 0)
    (hE : ∀ W, Below w.heap.size w W → ∀ ad, ((some ⟨g, o, none⟩) : Option Addr) = some ad → ∀ j (hj : j < es.length), W.cell? (ad.add j) = some (.int .i64 (es[j] : Int)))
    (hF : ∀ W, Below w.heap.size w W → ∀ ad, ((some ⟨g, o, none⟩) : Option Addr) = some ad → ∀ j (hj : j < fs.length), W.cell? (ad.add j) = some (.int .i64 (fs[j] : Int)))
    (hQ : ∀ (y24 y25 y26 y27 y28 y29 y30 y31 y32 y33 y34 y35 y36 y37 y38 y39 y40 y41 y42 y43 y44 : Value) (p' : Option Addr) (c' : Nat) (w' : World), RowX w w' (.slice p' (k + 1) c') (k + 1) ([] ++ intsV es ++ intsV [n] ++ intsV fs) [] → Q .normal { tmps := #[.pointer (some ⟨Z, 0, none⟩), .int .i64 (k : Int), .int .i64 (n : Int), u3, u4, u5, u6, u7, u8, u9, u10, u11, u12, u13, u14, u15, u16, u17, u18, u19, u20, u21, u22, u23, y24, y25, y26, y27, y28, y29, y30, y31, y32, y33, y34, y35, y36, y37, y38, y39, y40, y41, y42, y43, y44], defers := [] } (w'.setCell ⟨Z, 2, none⟩ (.slice p' (k + 1) c'))) :
    (Code.region 3 rput8_regB_ops true).wp Try.prog Q { tmps := #[.pointer (some ⟨Z, 0, none⟩), .int .i64 (k : Int), .int .i64 (n : Int), u3, u4, u5, u6, u7, u8, u9, u10, u11, u12, u13, u14, u15, u16, u17, u18, u19, u20, u21, u22, u23, u24, u25, u26, u27, u28, u29, u30, u31, u32, u33, u34, u35, u36, u37, u38, u39, u40, u41, u42, u43, u44], defers := [] } w := by
  refine wp_region_noPanic ?_
  unfold rput8_regB_ops
  have HQ := Lib.hid hQ
  have HE := Lib.hid hE
  have HF := Lib.hid hF
  have HRE := Lib.hid (lateOk_spec (md := .any) (ops := rput8_regB_ops) (late := [19, 20, 21]) (is := [0, 2, 3, 4, 5, 6, 7, 9, 12, 13, 14, 15, 16, 17]) (f := 8) (by kernel_rfl))
  have HS1 : Hid (0 + k ≤ 4294967296) := Lib.hid (by omega)
  have HS2 : Hid (0 + k + 1 ≤ 4294967296) := Lib.hid (by omega)
  have HS3 : Hid (0 + k + 1 + 0 ≤ 4294967296) := Lib.hid (by omega)
  have hpe : (some ⟨g, o, none⟩ : Option Addr) = none → k = 0 ∧ k = 0 := fun e => by cases e
  have hpf : (some ⟨g, o, none⟩ : Option Addr) = none → (0 : Nat) = 0 ∧ (0 : Nat) = 0 := fun e => by cases e
  have j0 : (0 : Int) ≤ (k : Int) := by omega
  have HSB : Hid (∀ W, Below w.heap.size w W → W.cell? ⟨Z, 2, none⟩ = some (.slice (some ⟨g, o, none⟩) k k)) := Lib.hid fun W hb => (hb.cell (p := ⟨Z, 2, none⟩) hB).trans h2
  have HFR : Hid (∀ W, Below w.heap.size w W → W.frozen? ⟨Z, 2, none⟩ = false) := Lib.hid fun W hb => by rw [World.frozen?_of_block (w := w) (hb.block Z hB)]; exact hf
  clear h2 hf
  have h0 : RowX w w.drew (.slice none 0 0) 0 [] [] := .new (Below.refl _ w).drew
  clear hQ hE hF
  refine wp_region_heldL_drew (late := [19, 20, 21]) (S := fun W => W.cell? ⟨Z, 2, none⟩ = some (.slice (some ⟨g, o, none⟩) k k)) (by kernel_rfl) (HSB.out _ h0.below) (fun hHeld => ?_)
  generalize w.drew = W0 at *
  refine wpAnyL_take (i := 0) (oi := { dst := some 24, op := Op.move (Operand.tmp 0), type := 74, pos := "ref.go:44", after := #[], guard := none }) (v := ?_) rfl (by kernel_rfl) (by kernel_rfl) (by kernel_rfl) (by kernel_rfl) (HRE.out 0 (by decide)) (fun _ _ _ h => h) (Or.inl ⟨by rfl, ?_⟩) (by assumption) ?_
  rotate_left
  focus (intro w hSw; (try dsimp only at hSw); go_simp; (try with_reducible rfl))
  try simp only [Act.put, List.setIfInBounds_toArray, List.set_cons_zero, List.set_cons_succ]
  refine wpAnyL_take (i := 2) (oi := { dst := some 26, op := Op.move (Operand.tmp 0), type := 74, pos := "ref.go:44", after := #[], guard := none }) (v := ?_) rfl (by kernel_rfl) (by kernel_rfl) (by kernel_rfl) (by kernel_rfl) (HRE.out 2 (by decide)) (fun _ _ _ h => h) (Or.inl ⟨by rfl, ?_⟩) (by assumption) ?_
  rotate_left
  focus (intro w hSw; (try dsimp only at hSw); go_simp; (try with_reducible rfl))
  try simp only [Act.put, List.setIfInBounds_toArray, List.set_cons_zero, List.set_cons_succ]
  refine wpAnyL_take (i := 3) (oi := { dst := some 27, op := Op.nilCheck (Operand.tmp 26), type := 0, pos := "ref.go:44", after := #[{ on := 2, ground := Ground.data }], guard := none }) (v := ?_) rfl (by kernel_rfl) (by kernel_rfl) (by kernel_rfl) (by kernel_rfl) (HRE.out 3 (by decide)) (fun _ _ _ h => h) (Or.inl ⟨by rfl, ?_⟩) (by assumption) ?_
  rotate_left
  focus (intro w hSw; (try dsimp only at hSw); go_simp; (try with_reducible rfl))
  try simp only [Act.put, List.setIfInBounds_toArray, List.set_cons_zero, List.set_cons_succ]
  refine wpAnyL_take (i := 4) (oi := { dst := some 28, op := Op.fieldAddr 127 (Operand.tmp 27) 2, type := 0, pos := "ref.go:44", after := #[{ on := 3, ground := Ground.data }], guard := none }) (v := ?_) rfl (by kernel_rfl) (by kernel_rfl) (by kernel_rfl) (by kernel_rfl) (HRE.out 4 (by decide)) (fun _ _ _ h => h) (Or.inl ⟨by rfl, ?_⟩) (by assumption) ?_
  rotate_left
  focus (intro w hSw; (try dsimp only at hSw); go_simp; (try with_reducible rfl))
  try simp only [Act.put, List.setIfInBounds_toArray, List.set_cons_zero, List.set_cons_succ]
  refine wpAnyL_take (i := 5) (oi := { dst := some 29, op := Op.load 32 (Operand.tmp 28), type := 32, pos := "ref.go:44", after := #[{ on := 4, ground := Ground.data }], guard := none }) (v := ?_) rfl (by kernel_rfl) (by kernel_rfl) (by kernel_rfl) (by kernel_rfl) (HRE.out 5 (by decide)) (fun _ _ _ h => h) (Or.inl ⟨by rfl, ?_⟩) (by assumption) ?_
  rotate_left
  focus (intro w hSw; (try dsimp only at hSw); go_simp; (try with_reducible rfl))
  try simp only [Act.put, List.setIfInBounds_toArray, List.set_cons_zero, List.set_cons_succ]
  refine wpAnyL_take (i := 6) (oi := { dst := some 30, op := Op.move (Operand.tmp 1), type := 3, pos := "ref.go:44", after := #[], guard := none }) (v := ?_) rfl (by kernel_rfl) (by kernel_rfl) (by kernel_rfl) (by kernel_rfl) (HRE.out 6 (by decide)) (fun _ _ _ h => h) (Or.inl ⟨by rfl, ?_⟩) (by assumption) ?_
  rotate_left
  focus (intro w hSw; (try dsimp only at hSw); go_simp; (try with_reducible rfl))
  try simp only [Act.put, List.setIfInBounds_toArray, List.set_cons_zero, List.set_cons_succ]
  refine wpAnyL_take (i := 7) (oi := { dst := some 31, op := Op.slice 32 (Operand.tmp 29) none (some (Operand.tmp 30)) none, type := 32, pos := "ref.go:44", after := #[{ on := 5, ground := Ground.data }, { on := 6, ground := Ground.data }], guard := none }) (v := ?_) rfl (by kernel_rfl) (by kernel_rfl) (by kernel_rfl) (by kernel_rfl) (HRE.out 7 (by decide)) (fun _ _ _ h => h) (Or.inl ⟨by rfl, ?_⟩) (by assumption) ?_
  rotate_left
  focus (intro w hSw; (try dsimp only at hSw); go_simp; (try with_reducible rfl))
  try simp only [Act.put, List.setIfInBounds_toArray, List.set_cons_zero, List.set_cons_succ]
  refine wpAnyL_take (i := 9) (oi := { dst := some 33, op := Op.move (Operand.tmp 2), type := 3, pos := "ref.go:44", after := #[], guard := none }) (v := ?_) rfl (by kernel_rfl) (by kernel_rfl) (by kernel_rfl) (by kernel_rfl) (HRE.out 9 (by decide)) (fun _ _ _ h => h) (Or.inl ⟨by rfl, ?_⟩) (by assumption) ?_
  rotate_left
  focus (intro w hSw; (try dsimp only at hSw); go_simp; (try with_reducible rfl))
  try simp only [Act.put, List.setIfInBounds_toArray, List.set_cons_zero, List.set_cons_succ]
  refine wpAnyL_take (i := 12) (oi := { dst := some 36, op := Op.move (Operand.tmp 0), type := 74, pos := "ref.go:44", after := #[], guard := none }) (v := ?_) rfl (by kernel_rfl) (by kernel_rfl) (by kernel_rfl) (by kernel_rfl) (HRE.out 12 (by decide)) (fun _ _ _ h => h) (Or.inl ⟨by rfl, ?_⟩) (by assumption) ?_
  rotate_left
  focus (intro w hSw; (try dsimp only at hSw); go_simp; (try with_reducible rfl))
  try simp only [Act.put, List.setIfInBounds_toArray, List.set_cons_zero, List.set_cons_succ]
  refine wpAnyL_take (i := 13) (oi := { dst := some 37, op := Op.nilCheck (Operand.tmp 36), type := 0, pos := "ref.go:44", after := #[{ on := 12, ground := Ground.data }], guard := none }) (v := ?_) rfl (by kernel_rfl) (by kernel_rfl) (by kernel_rfl) (by kernel_rfl) (HRE.out 13 (by decide)) (fun _ _ _ h => h) (Or.inl ⟨by rfl, ?_⟩) (by assumption) ?_
  rotate_left
  focus (intro w hSw; (try dsimp only at hSw); go_simp; (try with_reducible rfl))
  try simp only [Act.put, List.setIfInBounds_toArray, List.set_cons_zero, List.set_cons_succ]
  refine wpAnyL_take (i := 14) (oi := { dst := some 38, op := Op.fieldAddr 127 (Operand.tmp 37) 2, type := 0, pos := "ref.go:44", after := #[{ on := 13, ground := Ground.data }], guard := none }) (v := ?_) rfl (by kernel_rfl) (by kernel_rfl) (by kernel_rfl) (by kernel_rfl) (HRE.out 14 (by decide)) (fun _ _ _ h => h) (Or.inl ⟨by rfl, ?_⟩) (by assumption) ?_
  rotate_left
  focus (intro w hSw; (try dsimp only at hSw); go_simp; (try with_reducible rfl))
  try simp only [Act.put, List.setIfInBounds_toArray, List.set_cons_zero, List.set_cons_succ]
  refine wpAnyL_take (i := 15) (oi := { dst := some 39, op := Op.load 32 (Operand.tmp 38), type := 32, pos := "ref.go:44", after := #[{ on := 14, ground := Ground.data }], guard := none }) (v := ?_) rfl (by kernel_rfl) (by kernel_rfl) (by kernel_rfl) (by kernel_rfl) (HRE.out 15 (by decide)) (fun _ _ _ h => h) (Or.inl ⟨by rfl, ?_⟩) (by assumption) ?_
  rotate_left
  focus (intro w hSw; (try dsimp only at hSw); go_simp; (try with_reducible rfl))
  try simp only [Act.put, List.setIfInBounds_toArray, List.set_cons_zero, List.set_cons_succ]
  refine wpAnyL_take (i := 16) (oi := { dst := some 40, op := Op.move (Operand.tmp 1), type := 3, pos := "ref.go:44", after := #[], guard := none }) (v := ?_) rfl (by kernel_rfl) (by kernel_rfl) (by kernel_rfl) (by kernel_rfl) (HRE.out 16 (by decide)) (fun _ _ _ h => h) (Or.inl ⟨by rfl, ?_⟩) (by assumption) ?_
  rotate_left
  focus (intro w hSw; (try dsimp only at hSw); go_simp; (try with_reducible rfl))
  try simp only [Act.put, List.setIfInBounds_toArray, List.set_cons_zero, List.set_cons_succ]
  refine wpAnyL_take (i := 17) (oi := { dst := some 41, op := Op.slice 32 (Operand.tmp 39) (some (Operand.tmp 40)) none none, type := 32, pos := "ref.go:44", after := #[{ on := 15, ground := Ground.data }, { on := 16, ground := Ground.data }], guard := none }) (v := ?_) rfl (by kernel_rfl) (by kernel_rfl) (by kernel_rfl) (by kernel_rfl) (HRE.out 17 (by decide)) (fun _ _ _ h => h) (Or.inl ⟨by rfl, ?_⟩) (by assumption) ?_
  rotate_left
  focus (intro w hSw; (try dsimp only at hSw); go_simp; (try with_reducible rfl))
  try simp only [Act.put, List.setIfInBounds_toArray, List.set_cons_zero, List.set_cons_succ]
  refine wpAnyL_ready (rs := [1, 10]) (by kernel_rfl) (by simp) ?_
  refine (AllReadyL.cons (o := { dst := some 25, op := Op.buildSlice 32 0 #[], type := 32, pos := "ref.go:44", after := #[], guard := none }) rfl (fun K hK => ?_) (AllReadyL.cons (o := { dst := some 34, op := Op.buildSlice 32 1 #[(0, Operand.tmp 33)], type := 32, pos := "ref.go:44", after := #[{ on := 9, ground := Ground.data }], guard := none }) rfl (fun K hK => ?_) AllReadyL.nil))
  · go_simp
    have h1 := h0.alloc (.cells #[] 3 (0, 0))
    have hn1 : w.heap.size ≤ W0.heap.size := h0.below.size
    refine hK.out _ _ (HSB.out _ h1.below) (fun hHeld => ?_)
    clear hK K
    try simp only [Act.put, List.setIfInBounds_toArray, List.set_cons_zero, List.set_cons_succ]
    clear hHeld
    have hHeld := HSB.out _ h1.below
    clear h0
    change wpAnyL _ _ _ _ _ _ _ _ _ (W0.alloc (.cells #[] 3))
    generalize (W0.alloc (.cells #[] 3)) = W1 at *
    generalize W0.heap.size = A1 at *
    refine wpAnyL_ready (rs := [8, 10]) (by kernel_rfl) (by simp) ?_
    refine (AllReadyL.cons (o := { dst := some 32, op := Op.call { callee := Callee.builtin Builtin.append, args := #[Operand.tmp 25, Operand.tmp 31], argTypes := #[ 32, 32 ] }, type := 32, pos := "ref.go:44", after := #[{ on := 1, ground := Ground.data }, { on := 7, ground := Ground.data }], guard := none }) rfl (fun K hK => ?_) (AllReadyL.cons (o := { dst := some 34, op := Op.buildSlice 32 1 #[(0, Operand.tmp 33)], type := 32, pos := "ref.go:44", after := #[{ on := 9, ground := Ground.data }], guard := none }) rfl (fun K hK => ?_) AllReadyL.nil))
    · have hb2 := h1.begin_ (E := A1) (ex' := []) (h1.ex (A1, (.cells #[] 3 (0, 0))) (by simp)).1 hn1 (fun p hp => by cases hp)
      refine step_append_int rfl (.tmp 25) (.tmp 31) rfl w.heap.size _ _ _ (by rfl) hb2.row (some ⟨g, o, none⟩) _ _ es (by rfl) hpe hel (HE.out _ hb2.below) HS1.out hb2.below.size ?_
      intro v2 W2 hr2 hg2 ho2
      have h2 := hb2.grow hr2 hg2 ho2
      clear hr2 hg2 ho2
      refine hK.out _ _ (HSB.out _ h2.below) (fun hHeld => ?_)
      clear hK K
      try simp only [Act.put, List.setIfInBounds_toArray, List.set_cons_zero, List.set_cons_succ]
      refine wpAnyL_ready (rs := [10]) (by kernel_rfl) (by simp) ?_
      refine (AllReadyL.cons (o := { dst := some 34, op := Op.buildSlice 32 1 #[(0, Operand.tmp 33)], type := 32, pos := "ref.go:44", after := #[{ on := 9, ground := Ground.data }], guard := none }) rfl (fun K hK => ?_) AllReadyL.nil)
      go_simp
      have h3 := h2.alloc (.cells #[.int .i64 (n : Int)] 3 (0, 0))
      have hn3 : w.heap.size ≤ W2.heap.size := h2.below.size
      refine hK.out _ _ (HSB.out _ h3.below) (fun hHeld => ?_)
      clear hK K
      try simp only [Act.put, List.setIfInBounds_toArray, List.set_cons_zero, List.set_cons_succ]
      clear hHeld
      have hHeld := HSB.out _ h3.below
      clear h2
      change wpAnyL _ _ _ _ _ _ _ _ _ (W2.alloc (.cells #[.int .i64 (n : Int)] 3))
      generalize (W2.alloc (.cells #[.int .i64 (n : Int)] 3)) = W3 at *
      generalize W2.heap.size = A3 at *
      refine wpAnyL_ready (rs := [11]) (by kernel_rfl) (by simp) ?_
      refine (AllReadyL.cons (o := { dst := some 35, op := Op.call { callee := Callee.builtin Builtin.append, args := #[Operand.tmp 32, Operand.tmp 34], argTypes := #[ 32, 32 ] }, type := 32, pos := "ref.go:44", after := #[{ on := 8, ground := Ground.data }, { on := 10, ground := Ground.data }, { on := 8, ground := Ground.chain }], guard := none }) rfl (fun K hK => ?_) AllReadyL.nil)
      refine step_append_int rfl (.tmp 32) (.tmp 34) rfl w.heap.size _ _ _ (by rfl) h3.row (some ⟨A3, 0, none⟩) 1 1 [n] (by rfl) (fun e => by cases e) rfl (one_news (h3.ex (A3, (.cells #[.int .i64 (n : Int)] 3 (0, 0))) (by simp)).1) HS2.out h3.below.size ?_
      intro v4 W4 hr4 hg4 ho4
      have h4 := h3.grow hr4 hg4 ho4
      clear hr4 hg4 ho4
      refine hK.out _ _ (HSB.out _ h4.below) (fun hHeld => ?_)
      clear hK K
      try simp only [Act.put, List.setIfInBounds_toArray, List.set_cons_zero, List.set_cons_succ]
      refine wpAnyL_ready (rs := [18]) (by kernel_rfl) (by simp) ?_
      refine (AllReadyL.cons (o := { dst := some 42, op := Op.call { callee := Callee.builtin Builtin.append, args := #[Operand.tmp 35, Operand.tmp 41], argTypes := #[ 32, 32 ] }, type := 32, pos := "ref.go:44", after := #[{ on := 11, ground := Ground.data }, { on := 17, ground := Ground.data }, { on := 11, ground := Ground.chain }], guard := none }) rfl (fun K hK => ?_) AllReadyL.nil)
      refine step_append_int rfl (.tmp 35) (.tmp 41) rfl w.heap.size _ _ _ (by rfl) h4.row (some ⟨g, o, none⟩) _ _ fs (by rfl) hpf hfl (HF.out _ h4.below) HS3.out h4.below.size ?_
      intro v5 W5 hr5 hg5 ho5
      have h5 := h4.grow hr5 hg5 ho5
      obtain ⟨p5, c5, rfl⟩ := h5.form
      clear hr5 hg5 ho5
      refine hK.out _ _ (HSB.out _ h5.below) (fun hHeld => ?_)
      clear hK K
      try simp only [Act.put, List.setIfInBounds_toArray, List.set_cons_zero, List.set_cons_succ]
      refine wpAnyL_ready (rs := [19]) (by kernel_rfl) (by simp) ?_
      refine AllReadyL.last (o := { dst := some 43, op := Op.nilCheck (Operand.tmp 24), type := 0, pos := "ref.go:44", after := #[{ on := 0, ground := Ground.data }, { on := 0, ground := Ground.phase }, { on := 1, ground := Ground.phase }, { on := 2, ground := Ground.phase }, { on := 3, ground := Ground.phase }, { on := 4, ground := Ground.phase }, { on := 5, ground := Ground.phase }, { on := 6, ground := Ground.phase }, { on := 7, ground := Ground.phase }, { on := 8, ground := Ground.phase }, { on := 9, ground := Ground.phase }, { on := 10, ground := Ground.phase }, { on := 11, ground := Ground.phase }, { on := 12, ground := Ground.phase }, { on := 13, ground := Ground.phase }, { on := 14, ground := Ground.phase }, { on := 15, ground := Ground.phase }, { on := 16, ground := Ground.phase }, { on := 17, ground := Ground.phase }, { on := 18, ground := Ground.phase }], guard := none }) rfl (by kernel_rfl) (fun K hK => ?_) AllReadyL.nil
      go_simp
      refine hK.out _ _ ?_
      clear hK K
      try simp only [Act.put, List.setIfInBounds_toArray, List.set_cons_zero, List.set_cons_succ]
      refine wpAnyL_ready (rs := [20]) (by kernel_rfl) (by simp) ?_
      refine AllReadyL.last (o := { dst := some 44, op := Op.fieldAddr 127 (Operand.tmp 43) 2, type := 0, pos := "ref.go:44", after := #[{ on := 19, ground := Ground.data }, { on := 0, ground := Ground.phase }, { on := 1, ground := Ground.phase }, { on := 2, ground := Ground.phase }, { on := 3, ground := Ground.phase }, { on := 4, ground := Ground.phase }, { on := 5, ground := Ground.phase }, { on := 6, ground := Ground.phase }, { on := 7, ground := Ground.phase }, { on := 8, ground := Ground.phase }, { on := 9, ground := Ground.phase }, { on := 10, ground := Ground.phase }, { on := 11, ground := Ground.phase }, { on := 12, ground := Ground.phase }, { on := 13, ground := Ground.phase }, { on := 14, ground := Ground.phase }, { on := 15, ground := Ground.phase }, { on := 16, ground := Ground.phase }, { on := 17, ground := Ground.phase }, { on := 18, ground := Ground.phase }], guard := none }) rfl (by kernel_rfl) (fun K hK => ?_) AllReadyL.nil
      go_simp
      refine hK.out _ _ ?_
      clear hK K
      try simp only [Act.put, List.setIfInBounds_toArray, List.set_cons_zero, List.set_cons_succ]
      have cB := (HSB.out _ h5.below)
      have fB := HFR.out _ h5.below
      refine wpAnyL_ready (rs := [21]) (by kernel_rfl) (by simp) ?_
      refine AllReadyL.last (o := { dst := none, op := Op.store 32 (Operand.tmp 44) (Operand.tmp 42), type := 0, pos := "ref.go:44", after := #[{ on := 20, ground := Ground.data }, { on := 18, ground := Ground.data }, { on := 18, ground := Ground.chain }, { on := 0, ground := Ground.phase }, { on := 1, ground := Ground.phase }, { on := 2, ground := Ground.phase }, { on := 3, ground := Ground.phase }, { on := 4, ground := Ground.phase }, { on := 5, ground := Ground.phase }, { on := 6, ground := Ground.phase }, { on := 7, ground := Ground.phase }, { on := 8, ground := Ground.phase }, { on := 9, ground := Ground.phase }, { on := 10, ground := Ground.phase }, { on := 11, ground := Ground.phase }, { on := 12, ground := Ground.phase }, { on := 13, ground := Ground.phase }, { on := 14, ground := Ground.phase }, { on := 15, ground := Ground.phase }, { on := 16, ground := Ground.phase }, { on := 17, ground := Ground.phase }, { on := 18, ground := Ground.phase }], guard := none }) rfl (by kernel_rfl) (fun K hK => ?_) AllReadyL.nil
      go_simp
      refine hK.out _ _ ?_
      refine wpAnyL_done (by kernel_rfl) ?_ _
      try simp only [Act.put, List.setIfInBounds_toArray, List.set_cons_zero, List.set_cons_succ]
      exact NoPanic.normal (HQ.out _ _ _ _ _ _ _ _ _ _ _ _ _ _ _ _ _ _ _ _ _ _ _ _ (by have q := h5.less (ex' := []) (by simp); simpa only [Nat.zero_add, Nat.add_zero] using q))
    · go_simp
      have h6 := h1.alloc (.cells #[.int .i64 (n : Int)] 3 (0, 0))
      have hn6 : w.heap.size ≤ W1.heap.size := h1.below.size
      have hne : W1.heap.size ≠ A1 := fun e => by have := heap_lt (h1.ex (A1, _) (List.mem_cons_self ..)).1; omega
      refine hK.out _ _ (HSB.out _ h6.below) (fun hHeld => ?_)
      clear hK K
      try simp only [Act.put, List.setIfInBounds_toArray, List.set_cons_zero, List.set_cons_succ]
      clear hHeld
      have hHeld := HSB.out _ h6.below
      clear h1
      change wpAnyL _ _ _ _ _ _ _ _ _ (W1.alloc (.cells #[.int .i64 (n : Int)] 3))
      generalize (W1.alloc (.cells #[.int .i64 (n : Int)] 3)) = W6 at *
      generalize W1.heap.size = A6 at *
      refine wpAnyL_ready (rs := [8]) (by kernel_rfl) (by simp) ?_
      refine (AllReadyL.cons (o := { dst := some 32, op := Op.call { callee := Callee.builtin Builtin.append, args := #[Operand.tmp 25, Operand.tmp 31], argTypes := #[ 32, 32 ] }, type := 32, pos := "ref.go:44", after := #[{ on := 1, ground := Ground.data }, { on := 7, ground := Ground.data }], guard := none }) rfl (fun K hK => ?_) AllReadyL.nil)
      have hb7 := h6.begin_ (E := A1) (ex' := [(A6, (.cells #[.int .i64 (n : Int)] 3 (0, 0)))]) (h6.ex (A1, (.cells #[] 3 (0, 0))) (by simp)).1 hn1 (fun p hp => by rw [List.mem_singleton.1 hp]; exact ⟨by simp, hne⟩)
      refine step_append_int rfl (.tmp 25) (.tmp 31) rfl w.heap.size _ _ _ (by rfl) hb7.row (some ⟨g, o, none⟩) _ _ es (by rfl) hpe hel (HE.out _ hb7.below) HS1.out hb7.below.size ?_
      intro v7 W7 hr7 hg7 ho7
      have h7 := hb7.grow hr7 hg7 ho7
      clear hr7 hg7 ho7
      refine hK.out _ _ (HSB.out _ h7.below) (fun hHeld => ?_)
      clear hK K
      try simp only [Act.put, List.setIfInBounds_toArray, List.set_cons_zero, List.set_cons_succ]
      refine wpAnyL_ready (rs := [11]) (by kernel_rfl) (by simp) ?_
      refine (AllReadyL.cons (o := { dst := some 35, op := Op.call { callee := Callee.builtin Builtin.append, args := #[Operand.tmp 32, Operand.tmp 34], argTypes := #[ 32, 32 ] }, type := 32, pos := "ref.go:44", after := #[{ on := 8, ground := Ground.data }, { on := 10, ground := Ground.data }, { on := 8, ground := Ground.chain }], guard := none }) rfl (fun K hK => ?_) AllReadyL.nil)
      refine step_append_int rfl (.tmp 32) (.tmp 34) rfl w.heap.size _ _ _ (by rfl) h7.row (some ⟨A6, 0, none⟩) 1 1 [n] (by rfl) (fun e => by cases e) rfl (one_news (h7.ex (A6, (.cells #[.int .i64 (n : Int)] 3 (0, 0))) (by simp)).1) HS2.out h7.below.size ?_
      intro v8 W8 hr8 hg8 ho8
      have h8 := h7.grow hr8 hg8 ho8
      clear hr8 hg8 ho8
      refine hK.out _ _ (HSB.out _ h8.below) (fun hHeld => ?_)
      clear hK K
      try simp only [Act.put, List.setIfInBounds_toArray, List.set_cons_zero, List.set_cons_succ]
      refine wpAnyL_ready (rs := [18]) (by kernel_rfl) (by simp) ?_
      refine (AllReadyL.cons (o := { dst := some 42, op := Op.call { callee := Callee.builtin Builtin.append, args := #[Operand.tmp 35, Operand.tmp 41], argTypes := #[ 32, 32 ] }, type := 32, pos := "ref.go:44", after := #[{ on := 11, ground := Ground.data }, { on := 17, ground := Ground.data }, { on := 11, ground := Ground.chain }], guard := none }) rfl (fun K hK => ?_) AllReadyL.nil)
      refine step_append_int rfl (.tmp 35) (.tmp 41) rfl w.heap.size _ _ _ (by rfl) h8.row (some ⟨g, o, none⟩) _ _ fs (by rfl) hpf hfl (HF.out _ h8.below) HS3.out h8.below.size ?_
      intro v9 W9 hr9 hg9 ho9
      have h9 := h8.grow hr9 hg9 ho9
      obtain ⟨p9, c9, rfl⟩ := h9.form
      clear hr9 hg9 ho9
      refine hK.out _ _ (HSB.out _ h9.below) (fun hHeld => ?_)
      clear hK K
      try simp only [Act.put, List.setIfInBounds_toArray, List.set_cons_zero, List.set_cons_succ]
      refine wpAnyL_ready (rs := [19]) (by kernel_rfl) (by simp) ?_
      refine AllReadyL.last (o := { dst := some 43, op := Op.nilCheck (Operand.tmp 24), type := 0, pos := "ref.go:44", after := #[{ on := 0, ground := Ground.data }, { on := 0, ground := Ground.phase }, { on := 1, ground := Ground.phase }, { on := 2, ground := Ground.phase }, { on := 3, ground := Ground.phase }, { on := 4, ground := Ground.phase }, { on := 5, ground := Ground.phase }, { on := 6, ground := Ground.phase }, { on := 7, ground := Ground.phase }, { on := 8, ground := Ground.phase }, { on := 9, ground := Ground.phase }, { on := 10, ground := Ground.phase }, { on := 11, ground := Ground.phase }, { on := 12, ground := Ground.phase }, { on := 13, ground := Ground.phase }, { on := 14, ground := Ground.phase }, { on := 15, ground := Ground.phase }, { on := 16, ground := Ground.phase }, { on := 17, ground := Ground.phase }, { on := 18, ground := Ground.phase }], guard := none }) rfl (by kernel_rfl) (fun K hK => ?_) AllReadyL.nil
      go_simp
      refine hK.out _ _ ?_
      clear hK K
      try simp only [Act.put, List.setIfInBounds_toArray, List.set_cons_zero, List.set_cons_succ]
      refine wpAnyL_ready (rs := [20]) (by kernel_rfl) (by simp) ?_
      refine AllReadyL.last (o := { dst := some 44, op := Op.fieldAddr 127 (Operand.tmp 43) 2, type := 0, pos := "ref.go:44", after := #[{ on := 19, ground := Ground.data }, { on := 0, ground := Ground.phase }, { on := 1, ground := Ground.phase }, { on := 2, ground := Ground.phase }, { on := 3, ground := Ground.phase }, { on := 4, ground := Ground.phase }, { on := 5, ground := Ground.phase }, { on := 6, ground := Ground.phase }, { on := 7, ground := Ground.phase }, { on := 8, ground := Ground.phase }, { on := 9, ground := Ground.phase }, { on := 10, ground := Ground.phase }, { on := 11, ground := Ground.phase }, { on := 12, ground := Ground.phase }, { on := 13, ground := Ground.phase }, { on := 14, ground := Ground.phase }, { on := 15, ground := Ground.phase }, { on := 16, ground := Ground.phase }, { on := 17, ground := Ground.phase }, { on := 18, ground := Ground.phase }], guard := none }) rfl (by kernel_rfl) (fun K hK => ?_) AllReadyL.nil
      go_simp
      refine hK.out _ _ ?_
      clear hK K
      try simp only [Act.put, List.setIfInBounds_toArray, List.set_cons_zero, List.set_cons_succ]
      have cB := (HSB.out _ h9.below)
      have fB := HFR.out _ h9.below
      refine wpAnyL_ready (rs := [21]) (by kernel_rfl) (by simp) ?_
      refine AllReadyL.last (o := { dst := none, op := Op.store 32 (Operand.tmp 44) (Operand.tmp 42), type := 0, pos := "ref.go:44", after := #[{ on := 20, ground := Ground.data }, { on := 18, ground := Ground.data }, { on := 18, ground := Ground.chain }, { on := 0, ground := Ground.phase }, { on := 1, ground := Ground.phase }, { on := 2, ground := Ground.phase }, { on := 3, ground := Ground.phase }, { on := 4, ground := Ground.phase }, { on := 5, ground := Ground.phase }, { on := 6, ground := Ground.phase }, { on := 7, ground := Ground.phase }, { on := 8, ground := Ground.phase }, { on := 9, ground := Ground.phase }, { on := 10, ground := Ground.phase }, { on := 11, ground := Ground.phase }, { on := 12, ground := Ground.phase }, { on := 13, ground := Ground.phase }, { on := 14, ground := Ground.phase }, { on := 15, ground := Ground.phase }, { on := 16, ground := Ground.phase }, { on := 17, ground := Ground.phase }, { on := 18, ground := Ground.phase }], guard := none }) rfl (by kernel_rfl) (fun K hK => ?_) AllReadyL.nil
      go_simp
      refine hK.out _ _ ?_
      refine wpAnyL_done (by kernel_rfl) ?_ _
      try simp only [Act.put, List.setIfInBounds_toArray, List.set_cons_zero, List.set_cons_succ]
      exact NoPanic.normal (HQ.out _ _ _ _ _ _ _ _ _ _ _ _ _ _ _ _ _ _ _ _ _ _ _ _ (by have q := h9.less (ex' := []) (by simp); simpa only [Nat.zero_add, Nat.add_zero] using q))
  · go_simp
    have h10 := h0.alloc (.cells #[.int .i64 (n : Int)] 3 (0, 0))
    have hn10 : w.heap.size ≤ W0.heap.size := h0.below.size
    refine hK.out _ _ (HSB.out _ h10.below) (fun hHeld => ?_)
    clear hK K
    try simp only [Act.put, List.setIfInBounds_toArray, List.set_cons_zero, List.set_cons_succ]
    clear hHeld
    have hHeld := HSB.out _ h10.below
    clear h0
    change wpAnyL _ _ _ _ _ _ _ _ _ (W0.alloc (.cells #[.int .i64 (n : Int)] 3))
    generalize (W0.alloc (.cells #[.int .i64 (n : Int)] 3)) = W10 at *
    generalize W0.heap.size = A10 at *
    refine wpAnyL_ready (rs := [1]) (by kernel_rfl) (by simp) ?_
    refine (AllReadyL.cons (o := { dst := some 25, op := Op.buildSlice 32 0 #[], type := 32, pos := "ref.go:44", after := #[], guard := none }) rfl (fun K hK => ?_) AllReadyL.nil)
    go_simp
    have h11 := h10.alloc (.cells #[] 3 (0, 0))
    have hn11 : w.heap.size ≤ W10.heap.size := h10.below.size
    have hne : A10 ≠ W10.heap.size := fun e => by have := heap_lt (h10.ex (A10, _) (List.mem_cons_self ..)).1; omega
    refine hK.out _ _ (HSB.out _ h11.below) (fun hHeld => ?_)
    clear hK K
    try simp only [Act.put, List.setIfInBounds_toArray, List.set_cons_zero, List.set_cons_succ]
    clear hHeld
    have hHeld := HSB.out _ h11.below
    clear h10
    change wpAnyL _ _ _ _ _ _ _ _ _ (W10.alloc (.cells #[] 3))
    generalize (W10.alloc (.cells #[] 3)) = W11 at *
    generalize W10.heap.size = A11 at *
    refine wpAnyL_ready (rs := [8]) (by kernel_rfl) (by simp) ?_
    refine (AllReadyL.cons (o := { dst := some 32, op := Op.call { callee := Callee.builtin Builtin.append, args := #[Operand.tmp 25, Operand.tmp 31], argTypes := #[ 32, 32 ] }, type := 32, pos := "ref.go:44", after := #[{ on := 1, ground := Ground.data }, { on := 7, ground := Ground.data }], guard := none }) rfl (fun K hK => ?_) AllReadyL.nil)
    have hb12 := h11.begin_ (E := A11) (ex' := [(A10, (.cells #[.int .i64 (n : Int)] 3 (0, 0)))]) (h11.ex (A11, (.cells #[] 3 (0, 0))) (by simp)).1 hn11 (fun p hp => by rw [List.mem_singleton.1 hp]; exact ⟨by simp, hne⟩)
    refine step_append_int rfl (.tmp 25) (.tmp 31) rfl w.heap.size _ _ _ (by rfl) hb12.row (some ⟨g, o, none⟩) _ _ es (by rfl) hpe hel (HE.out _ hb12.below) HS1.out hb12.below.size ?_
    intro v12 W12 hr12 hg12 ho12
    have h12 := hb12.grow hr12 hg12 ho12
    clear hr12 hg12 ho12
    refine hK.out _ _ (HSB.out _ h12.below) (fun hHeld => ?_)
    clear hK K
    try simp only [Act.put, List.setIfInBounds_toArray, List.set_cons_zero, List.set_cons_succ]
    refine wpAnyL_ready (rs := [11]) (by kernel_rfl) (by simp) ?_
    refine (AllReadyL.cons (o := { dst := some 35, op := Op.call { callee := Callee.builtin Builtin.append, args := #[Operand.tmp 32, Operand.tmp 34], argTypes := #[ 32, 32 ] }, type := 32, pos := "ref.go:44", after := #[{ on := 8, ground := Ground.data }, { on := 10, ground := Ground.data }, { on := 8, ground := Ground.chain }], guard := none }) rfl (fun K hK => ?_) AllReadyL.nil)
    refine step_append_int rfl (.tmp 32) (.tmp 34) rfl w.heap.size _ _ _ (by rfl) h12.row (some ⟨A10, 0, none⟩) 1 1 [n] (by rfl) (fun e => by cases e) rfl (one_news (h12.ex (A10, (.cells #[.int .i64 (n : Int)] 3 (0, 0))) (by simp)).1) HS2.out h12.below.size ?_
    intro v13 W13 hr13 hg13 ho13
    have h13 := h12.grow hr13 hg13 ho13
    clear hr13 hg13 ho13
    refine hK.out _ _ (HSB.out _ h13.below) (fun hHeld => ?_)
    clear hK K
    try simp only [Act.put, List.setIfInBounds_toArray, List.set_cons_zero, List.set_cons_succ]
    refine wpAnyL_ready (rs := [18]) (by kernel_rfl) (by simp) ?_
    refine (AllReadyL.cons (o := { dst := some 42, op := Op.call { callee := Callee.builtin Builtin.append, args := #[Operand.tmp 35, Operand.tmp 41], argTypes := #[ 32, 32 ] }, type := 32, pos := "ref.go:44", after := #[{ on := 11, ground := Ground.data }, { on := 17, ground := Ground.data }, { on := 11, ground := Ground.chain }], guard := none }) rfl (fun K hK => ?_) AllReadyL.nil)
    refine step_append_int rfl (.tmp 35) (.tmp 41) rfl w.heap.size _ _ _ (by rfl) h13.row (some ⟨g, o, none⟩) _ _ fs (by rfl) hpf hfl (HF.out _ h13.below) HS3.out h13.below.size ?_
    intro v14 W14 hr14 hg14 ho14
    have h14 := h13.grow hr14 hg14 ho14
    obtain ⟨p14, c14, rfl⟩ := h14.form
    clear hr14 hg14 ho14
    refine hK.out _ _ (HSB.out _ h14.below) (fun hHeld => ?_)
    clear hK K
    try simp only [Act.put, List.setIfInBounds_toArray, List.set_cons_zero, List.set_cons_succ]
    refine wpAnyL_ready (rs := [19]) (by kernel_rfl) (by simp) ?_
    refine AllReadyL.last (o := { dst := some 43, op := Op.nilCheck (Operand.tmp 24), type := 0, pos := "ref.go:44", after := #[{ on := 0, ground := Ground.data }, { on := 0, ground := Ground.phase }, { on := 1, ground := Ground.phase }, { on := 2, ground := Ground.phase }, { on := 3, ground := Ground.phase }, { on := 4, ground := Ground.phase }, { on := 5, ground := Ground.phase }, { on := 6, ground := Ground.phase }, { on := 7, ground := Ground.phase }, { on := 8, ground := Ground.phase }, { on := 9, ground := Ground.phase }, { on := 10, ground := Ground.phase }, { on := 11, ground := Ground.phase }, { on := 12, ground := Ground.phase }, { on := 13, ground := Ground.phase }, { on := 14, ground := Ground.phase }, { on := 15, ground := Ground.phase }, { on := 16, ground := Ground.phase }, { on := 17, ground := Ground.phase }, { on := 18, ground := Ground.phase }], guard := none }) rfl (by kernel_rfl) (fun K hK => ?_) AllReadyL.nil
    go_simp
    refine hK.out _ _ ?_
    clear hK K
    try simp only [Act.put, List.setIfInBounds_toArray, List.set_cons_zero, List.set_cons_succ]
    refine wpAnyL_ready (rs := [20]) (by kernel_rfl) (by simp) ?_
    refine AllReadyL.last (o := { dst := some 44, op := Op.fieldAddr 127 (Operand.tmp 43) 2, type := 0, pos := "ref.go:44", after := #[{ on := 19, ground := Ground.data }, { on := 0, ground := Ground.phase }, { on := 1, ground := Ground.phase }, { on := 2, ground := Ground.phase }, { on := 3, ground := Ground.phase }, { on := 4, ground := Ground.phase }, { on := 5, ground := Ground.phase }, { on := 6, ground := Ground.phase }, { on := 7, ground := Ground.phase }, { on := 8, ground := Ground.phase }, { on := 9, ground := Ground.phase }, { on := 10, ground := Ground.phase }, { on := 11, ground := Ground.phase }, { on := 12, ground := Ground.phase }, { on := 13, ground := Ground.phase }, { on := 14, ground := Ground.phase }, { on := 15, ground := Ground.phase }, { on := 16, ground := Ground.phase }, { on := 17, ground := Ground.phase }, { on := 18, ground := Ground.phase }], guard := none }) rfl (by kernel_rfl) (fun K hK => ?_) AllReadyL.nil
    go_simp
    refine hK.out _ _ ?_
    clear hK K
    try simp only [Act.put, List.setIfInBounds_toArray, List.set_cons_zero, List.set_cons_succ]
    have cB := (HSB.out _ h14.below)
    have fB := HFR.out _ h14.below
    refine wpAnyL_ready (rs := [21]) (by kernel_rfl) (by simp) ?_
    refine AllReadyL.last (o := { dst := none, op := Op.store 32 (Operand.tmp 44) (Operand.tmp 42), type := 0, pos := "ref.go:44", after := #[{ on := 20, ground := Ground.data }, { on := 18, ground := Ground.data }, { on := 18, ground := Ground.chain }, { on := 0, ground := Ground.phase }, { on := 1, ground := Ground.phase }, { on := 2, ground := Ground.phase }, { on := 3, ground := Ground.phase }, { on := 4, ground := Ground.phase }, { on := 5, ground := Ground.phase }, { on := 6, ground := Ground.phase }, { on := 7, ground := Ground.phase }, { on := 8, ground := Ground.phase }, { on := 9, ground := Ground.phase }, { on := 10, ground := Ground.phase }, { on := 11, ground := Ground.phase }, { on := 12, ground := Ground.phase }, { on := 13, ground := Ground.phase }, { on := 14, ground := Ground.phase }, { on := 15, ground := Ground.phase }, { on := 16, ground := Ground.phase }, { on := 17, ground := Ground.phase }, { on := 18, ground := Ground.phase }], guard := none }) rfl (by kernel_rfl) (fun K hK => ?_) AllReadyL.nil
    go_simp
    refine hK.out _ _ ?_
    refine wpAnyL_done (by kernel_rfl) ?_ _
    try simp only [Act.put, List.setIfInBounds_toArray, List.set_cons_zero, List.set_cons_succ]
    exact NoPanic.normal (HQ.out _ _ _ _ _ _ _ _ _ _ _ _ _ _ _ _ _ _ _ _ _ _ _ _ (by have q := h14.less (ex' := []) (by simp); simpa only [Nat.zero_add, Nat.add_zero] using q))
end Go.Proofs.Ytbadckkcjjfnoaa
namespace Go.Proofs.Ytbadckkcjjfnoaa
open Go.RowKit

theorem RSite.ptr {M P R : Nat → Prop} {w : World} {Z B : Nat} {S : List Cl} {row : List Nat} (h : RSite M P R w Z B S row) : w.cell? ⟨Z, 0, none⟩ = some (.pointer (some ⟨B, 0, none⟩)) ∧ w.cell? ⟨Z, 3, none⟩ = some (.bool false) := by
  obtain ⟨vm, rowv, hz, hr⟩ := h.cells
  exact ⟨by have := (block_cell6 hz 0).1; simpa using this, by have := (block_cell6 hz 3).1; simpa using this⟩
set_option maxHeartbeats 1000000 in
set_option maxRecDepth 100000 in
theorem rfreshP {M P R : Nat → Prop} {w : World} {Z B : Nat} {S : List Cl} {row : List Nat} (n : Nat) (h : RSite M P R w Z B S row) (hn : n ∉ row) (hS : n < S.length) (hk : S[n].d.kind = 1) : Calls Try.prog 152 #[.pointer (some ⟨Z, 0, none⟩), .int .i64 (n : Int)] w (Brings (.bool true) w) := by
  have HN := Lib.hid (rnodeP6 S B w n h.doc.rdoc hS)
  have HP : Hid (∀ W, Below w.heap.size w W → Calls Try.prog 160 #[.pointer (some ⟨Z, 0, none⟩), .int .i64 (n : Int)] W (Gives (.int .i64 (-1)) W)) := Lib.hid fun W hb => rsplaceP n (h.on hb) hn
  have z0 := h.ptr.1
  obtain ⟨d, hd⟩ : ∃ d, d = S[n].d := ⟨_, rfl⟩
  rw [← hd] at HN hk
  obtain ⟨NM, hNM⟩ : ∃ NM : ByteArray, NM = ⟨d.name.toArray⟩ := ⟨_, rfl⟩
  obtain ⟨TX, hTX⟩ : ∃ TX : ByteArray, TX = ⟨d.text.toArray⟩ := ⟨_, rfl⟩
  unfold NodeOut6 at HN
  rw [hk, ← hNM, ← hTX] at HN
  clear h hn hd hNM hTX hk
  go_enter Try.func152, Try.ntmps152
  go_wp2_with fail
  refine HN.out.mono ?_
  rintro e w1 ⟨va, rfl, ha, hb⟩
  have HPW := Lib.hid (HP.out w1 hb)
  have HB := Lib.hid hb
  obtain ⟨pv, lv, cv, rfl⟩ : ∃ p l c, va = .slice p l c := by obtain ⟨p, c, e, _⟩ := ha; exact ⟨_, _, _, e⟩
  clear ha hb
  have hf : ∀ (W : World) (a b c d e f g : Value), Sem.run Try.prog (Instr.field 48 (.agg #[a, b, c, d, e, f, g]) 0) W = .ok a W := fun W a b c d e f g => by rfl
  go_wp2_with fail
  refine HPW.out.mono ?_
  rintro e w2 ⟨rfl, rfl⟩
  go_wp2_with fail
  go_ret
  exact ⟨rfl, HB.out⟩
set_option maxHeartbeats 1000000 in
set_option maxRecDepth 100000 in
theorem rspotP {M P R : Nat → Prop} {w : World} {Z B : Nat} {S : List Cl} {row : List Nat} (n : Int) (h : RSite M P R w Z B S row) : Calls Try.prog 136 #[.pointer (some ⟨Z, 0, none⟩), .int .i64 n] w (Gives (.tuple #[.int .i64 n, .int .i64 (-1)]) w) := by
  have z3 := h.ptr.2
  clear h
  go_enter Try.func136, Try.ntmps136
  go_wp2_with fail
  exact bodyPost_ret (results_tmp2 rfl _ _ _) rfl ⟨rfl, rfl⟩
/-- The element n behind the row. -/
theorem RSite.pushed {M P R : Nat → Prop} {w w1 : World} {Z B n c' : Nat} {S : List Cl} {row row' : List Nat} {p' : Option Addr} (h : RSite M P R w Z B S row) (hr : row' = row ++ [n]) (hl : row.length < 1000) (hx : RowX w w1 (.slice p' row'.length c') row'.length (intsV row') []) :
    RSite M P (fun b => w.heap.size ≤ b ∧ b < w1.heap.size) (w1.setCell ⟨Z, 2, none⟩ (.slice p' row'.length c')) Z B S row' ∧ Turns (fun b => b = Z) w (w1.setCell ⟨Z, 2, none⟩ (.slice p' row'.length c')) := by
  have h1 := h.on hx.below
  obtain ⟨vm, rowv, hz, _⟩ := h1.cells
  obtain ⟨f1, f2, f3, f4, _, _⟩ := h.doc.facts
  have hzl := h.zlt
  have hzs := hx.below.size
  have zz : (w1.setCell ⟨Z, 2, none⟩ (.slice p' row'.length c')).heap.size = w1.heap.size := by simp
  have t1 : Turns (fun b => b = Z) w1 (w1.setCell ⟨Z, 2, none⟩ (.slice p' row'.length c')) := (Turns.refl (fun b => b = Z) w1).setCell (B := Z) (.inl rfl) 2 _
  have tw : Turns (fun b => b = Z) w (w1.setCell ⟨Z, 2, none⟩ (.slice p' row'.length c')) := (Turns.of_below (M := fun b => b = Z) hx.below).setCell (B := Z) (.inl rfl) 2 _
  refine ⟨⟨⟨vm, .slice p' row'.length c', ?_, ?_⟩, ?_, h.zM, fun k => by omega, h.zP, fun b k q => by have := f2 b q; omega, fun b k => by rw [zz]; exact k.2, by rw [hr]; simp, by rw [hr]; simp; omega⟩, tw⟩
  · rw [heap_setCell_same w1 _ 2 _ _ _ hz]
    simp
  · have hnum := NumsP.of_row (l := row') hx.row
    exact (hnum.mono (Q := fun b => w.heap.size ≤ b ∧ b < w1.heap.size) fun b k hb => ⟨k, hb⟩).kept (t1.kept fun b hb k e => by subst e; omega)
  · exact h1.doc.turn t1 (fun b k e => h.zM (by rw [← e]; exact k)) (fun b k e => h.zP (by rw [← e]; exact k))
end Go.Proofs.Ytbadckkcjjfnoaa
namespace Go.Proofs.Ytbadckkcjjfnoaa
open Go.RowKit

/-- The row has one more at its end. -/
def PushOut8 (M P : Nat → Prop) (w : World) (Z B : Nat) (S : List Cl) (row : List Nat) (n : Nat) (e : Ending) (w' : World) : Prop :=
  e = .returned (.bool true) ∧ ∃ R', RSite M P R' w' Z B S (row ++ [n]) ∧ (∀ b, b < w.heap.size → ¬ R' b) ∧ Turns (fun b => b = Z) w w'
set_option maxHeartbeats 4000000 in
set_option maxRecDepth 100000 in
theorem rputEndP {M P R : Nat → Prop} {w : World} {Z B : Nat} {S : List Cl} {row : List Nat} (k n : Nat) (h : RSite M P R w Z B S row) (hk : Hid (k = row.length)) (hl : row.length < 1000) (hn : n ∉ row) (hS : n < S.length) (hkd : S[n].d.kind = 1) : Calls Try.prog 137 #[.pointer (some ⟨Z, 0, none⟩), .int .i64 (k : Int), .int .i64 (n : Int)] w (PushOut8 M P w Z B S row n) := by
  have HF := Lib.hid (rfreshP n h hn hS hkd)
  have HS := Lib.hid h
  have HK := hk
  have hpos := h.pos
  have k1 : ¬ (k : Int) < 1 := by have := hk.out; omega
  have k2 : ¬ (k : Int) > (row.length : Int) := by have := hk.out; omega
  unfold PushOut8
  clear h hn hS hkd hk
  go_enter Try.func137, Try.ntmps137
  go_wp2_with fail
  refine HF.out.mono ?_
  rintro e w1 ⟨rfl, hb⟩
  have HB := Lib.hid hb
  have HS1 := Lib.hid (HS.out.on hb)
  obtain ⟨vm, g, o, cap, hz, hlc, _, hg, hc⟩ := HS1.out.reads
  have c2 := (block_cell6 hz 2).1
  have f2 := (block_cell6 hz 2).2
  have hzl : Z < w1.heap.size := heap_lt hz
  simp at c2
  have hE : ∀ W, Below w1.heap.size w1 W → ∀ ad, (some ⟨g, o, none⟩ : Option Addr) = some ad → ∀ j (hj : j < row.length), W.cell? (ad.add j) = some (.int .i64 (row[j] : Int)) := by
    intro W hb ad e j hj
    obtain rfl : (⟨g, o, none⟩ : Addr) = ad := Option.some.inj e
    rw [add_plain6, (hb.cell (p := ⟨g, o + j, none⟩) hg), hc j hj]
  clear hz hb HF HS hc
  go_upto_region 3 with fail
  by_cases hkc : k < cap
  · refine rput8_regA (n := n) (es := row) (fs := []) hzl c2 f2 (by have := HK.out; omega) hkc (by omega) (by have := HK.out; omega) (by have := HK.out; simp; omega) hE (fun W hb ad e j hj => by cases hj) ?_
    intro y24 y25 y26 y27 y28 y29 y30 y31 y32 y33 y34 y35 y36 y37 y38 y39 y40 y41 y42 y43 y44 p' c' w2 hx
    have hLL : (row ++ [n]).length = k + 1 + (row.length - k) := by rw [List.length_append, List.length_singleton]; have := HK.out; omega
    have hx2 : RowX w1 w2 (.slice p' (row ++ [n]).length c') (row ++ [n]).length (intsV (row ++ [n])) [] := by
      rw [hLL, intsV_app]
      simpa only [List.nil_append, show intsV ([] : List Nat) = [] from rfl, List.append_nil] using hx
    have hpu := HS1.out.pushed rfl hl hx2
    rw [hLL] at hpu
    have HPU := Lib.hid hpu
    clear hx hx2 hpu hLL
    go_wp2_with fail
    go_ret
    exact ⟨rfl, _, HPU.out.1, fun b k q => by have := HB.out.size; have := q.1; omega, (Turns.of_below HB.out).trans (HPU.out.2.mono fun _ _ k => .inl k)⟩
  · have hk2 : k = cap := by have := HK.out; omega
    subst hk2
    have hll : row.length = k := HK.out.symm
    rw [hll] at c2
    refine rput8_regB (n := n) (es := row) (fs := []) hzl c2 f2 (by omega) hll rfl hE (fun W hb ad e j hj => by cases hj) ?_
    intro y24 y25 y26 y27 y28 y29 y30 y31 y32 y33 y34 y35 y36 y37 y38 y39 y40 y41 y42 y43 y44 p' c' w2 hx
    have hLL : (row ++ [n]).length = k + 1 := by rw [List.length_append, List.length_singleton]; have := HK.out; omega
    have hx2 : RowX w1 w2 (.slice p' (row ++ [n]).length c') (row ++ [n]).length (intsV (row ++ [n])) [] := by
      rw [hLL, intsV_app]
      simpa only [List.nil_append, show intsV ([] : List Nat) = [] from rfl, List.append_nil] using hx
    have hpu := HS1.out.pushed rfl hl hx2
    rw [hLL] at hpu
    have HPU := Lib.hid hpu
    clear hx hx2 hpu hLL
    go_wp2_with fail
    go_ret
    exact ⟨rfl, _, HPU.out.1, fun b k q => by have := HB.out.size; have := q.1; omega, (Turns.of_below HB.out).trans (HPU.out.2.mono fun _ _ k => .inl k)⟩
set_option maxHeartbeats 1000000 in
set_option maxRecDepth 100000 in
theorem rpushP8 {M P R : Nat → Prop} {w : World} {Z B : Nat} {S : List Cl} {row : List Nat} (n : Nat) (h : RSite M P R w Z B S row) (hl : row.length < 1000) (hn : n ∉ row) (hS : n < S.length) (hkd : S[n].d.kind = 1) : Calls Try.prog 112 #[.pointer (some ⟨Z, 0, none⟩), .int .i64 (n : Int)] w (PushOut8 M P w Z B S row n) := by
  have HP := Lib.hid (rputEndP row.length n h (Lib.hid rfl) hl hn hS hkd)
  obtain ⟨vm, g, o, cap, hz, _, _, _, _⟩ := h.reads
  have c2 := (block_cell6 hz 2).1
  simp at c2
  unfold PushOut8 at HP ⊢
  clear h hz hn hkd
  go_enter Try.func112, Try.ntmps112
  go_wp2_with fail
  refine HP.out.mono ?_
  rintro e w1 ⟨rfl, h1⟩
  have H1 := Lib.hid h1
  clear h1
  go_wp2_with fail
  go_ret
  exact ⟨rfl, H1.out⟩
end Go.Proofs.Ytbadckkcjjfnoaa
namespace Go.Proofs.Ytbadckkcjjfnoaa
open Go.RowKit

/-- What Lay leaves: the node n is put under t, at the end. -/
def LayOut8 (M P R : Nat → Prop) (w : World) (Z B : Nat) (S : List Cl) (row : List Nat) (n t : Nat) (e : Ending) (w' : World) : Prop :=
  e = .returned (.tuple #[]) ∧ ∃ b, (isN S (n : Int) = true → isEl S (t : Int) = true → (b = true ↔ Anc S t n)) ∧ ∃ M' P', RSite M' P' R w' Z B (putD S (n : Int) (t : Int) (-1) b).1 row ∧ (∀ b, b < w.heap.size → M' b → M b) ∧ (∀ b, b < w.heap.size → P' b → P b) ∧ Turns M w w'
set_option maxHeartbeats 1000000 in
set_option maxRecDepth 100000 in
theorem rlayP8 {M P R : Nat → Prop} {w : World} {Z B : Nat} {S : List Cl} {row : List Nat} (n t : Nat) (h : RSite M P R w Z B S row) (hI : Inv S) (hrow : ∀ c ∈ S, c.row.length ≤ 100000) : Calls Try.prog 110 #[.pointer (some ⟨Z, 0, none⟩), .int .i64 (n : Int), .int .i64 (t : Int)] w (LayOut8 M P R w Z B S row n t) := by
  have HSP := Lib.hid (rspotP (t : Int) h)
  have HP := Lib.hid (rputP6 S B M P w (n : Int) (t : Int) (-1) h.doc hI hrow)
  have HS := Lib.hid h
  have z0 := h.ptr.1
  clear h hI hrow
  go_enter Try.func110, Try.ntmps110
  go_wp2_with fail
  refine HSP.out.mono ?_
  rintro e w1 ⟨rfl, rfl⟩
  go_wp2_with fail
  refine HP.out.mono ?_
  rintro e w1 ⟨b, hb, rfl, hst⟩
  have HB := Lib.hid hb
  have HST := Lib.hid (HS.out.doc_ hst)
  clear hb hst
  go_wp2_with fail
  exact bodyPost_ret (results_none rfl _ _ _) rfl ⟨rfl, b, HB.out, HST.out⟩
def addD (S : List Cl) (t : Nat) (d : Nd) : List Cl := link (lay S d) S.length t (rowAt (lay S d) t).length
theorem addD_len (S : List Cl) (t : Nat) (d : Nd) : (addD S t d).length = S.length + 1 := by unfold addD; rw [link_len, lay_len]
theorem lay_at {S : List Cl} {d : Nd} {j : Nat} (hj : j < S.length) : ∃ h : j < (lay S d).length, (lay S d)[j] = S[j] := ⟨by rw [lay_len]; omega, by simp [lay, hj]⟩
theorem addD_put {S : List Cl} {t : Nat} {d : Nd} (hI : Inv S) (h0 : 0 < S.length) (ht : t < S.length) (hk : S[t].d.kind = 1) (b : Bool) (hb : isN (lay S d) (S.length : Int) = true → isEl (lay S d) (t : Int) = true → (b = true ↔ Anc (lay S d) t S.length)) : (putD (lay S d) (S.length : Int) (t : Int) (-1) b).1 = addD S t d := by
  have hn : isN (lay S d) (S.length : Int) = true := (isN_iff _ _).2 ⟨by omega, by rw [lay_len]; omega⟩
  obtain ⟨hl, e⟩ := lay_at (d := d) ht
  have he : isEl (lay S d) (t : Int) = true := by
    unfold isEl
    rw [(isN_iff _ _).2 ⟨by omega, by rw [lay_len]; omega⟩, show ((t : Int)).toNat = t from rfl, nd_get hl, e, hk]
    rfl
  have hbf : b = false := by
    cases b with
    | false => rfl
    | true => exact absurd ((hb hn he).1 rfl) (anc_new hI d ht)
  subst hbf
  have hu : upAt (lay S d) S.length = none := by
    unfold upAt
    rw [lay_new]
  unfold putD
  rw [if_pos (by rw [hn, he, show ((S.length : Int)).toNat = S.length from rfl, hu, show (((S.length : Nat) : Int) == 0) = false from beq_eq_false_iff_ne.2 (by omega)]; rfl)]
  unfold spot
  rw [if_pos rfl]
  rfl
/-- What Add leaves: a new element under t, open at the end. -/
def AddOut8 (M P R : Nat → Prop) (w : World) (Z B : Nat) (S : List Cl) (row : List Nat) (t : Nat) (d : Nd) (e : Ending) (w' : World) : Prop :=
  e = .returned (.int .i64 (S.length : Int)) ∧ ∃ M' P' R', RSite M' P' R' w' Z B (addD S t d) (row ++ [S.length]) ∧ (∀ b, b < w.heap.size → M' b → M b) ∧ (∀ b, b < w.heap.size → P' b → P b) ∧ (∀ b, b < w.heap.size → R' b → R b) ∧ Turns (fun b => M b ∨ b = Z) w w'
set_option maxHeartbeats 2000000 in
set_option maxRecDepth 100000 in
theorem raddP8 {M P R : Nat → Prop} {w : World} {Z B : Nat} {S : List Cl} {L : List Nat} {t : Nat} (sp : Int) (nm : List UInt8) (h : RSite M P R w Z B S (L ++ [t])) (hI : Inv S) (hrow : ∀ c ∈ S, c.row.length ≤ 100000) (hs : S.length < 100000) (hl : (L ++ [t]).length < 1000) (hin : ∀ x ∈ L ++ [t], x < S.length) (hk : ∀ ht : t < S.length, S[t].d.kind = 1) :
    Calls Try.prog 50 #[.pointer (some ⟨Z, 0, none⟩), .int .i64 sp, .string ⟨nm.toArray⟩, .slice none 0 0] w (AddOut8 M P R w Z B S (L ++ [t]) t (elemNd sp nm [])) := by
  have htl : t < S.length := hin t (by simp)
  have HK := Lib.hid (hk htl)
  have HEL := Lib.hid (relemNewP S B M P (fun _ => True) w sp nm [] (.slice none 0 0) h.doc hs (AttrsP.nil _ _ _ _) (by simp) (fun p c e q => by injection e with _ _ e; exact e.symm))
  have HS := Lib.hid h
  have HI := Lib.hid hI
  have HIN := Lib.hid hin
  have HROW : Hid (∀ c ∈ lay S (elemNd sp nm []), c.row.length ≤ 100000) := Lib.hid fun c hc => by
    rcases List.mem_append.1 hc with hc | hc
    · exact hrow c hc
    · rw [List.mem_singleton.1 hc]; exact Nat.zero_le _
  have HPOS := Lib.hid (show 0 < S.length by omega)
  have z0 := h.ptr.1
  obtain ⟨NM, hNM⟩ : ∃ NM : ByteArray, NM = ⟨nm.toArray⟩ := ⟨_, rfl⟩
  rw [← hNM] at HEL ⊢
  unfold AddOut8
  clear h hI hin hrow hNM hk
  go_enter Try.func50, Try.ntmps50
  go_wp2_with fail
  refine HEL.out.mono ?_
  rintro e w1 ⟨rfl, hst⟩
  obtain ⟨M1, P1, h1, m1, p1, t1⟩ := HS.out.doc_ hst
  have H1 := Lib.hid h1
  have F1 := Lib.hid (show (∀ b, b < w.heap.size → M1 b → M b) ∧ (∀ b, b < w.heap.size → P1 b → P b) ∧ Turns M w w1 from ⟨m1, p1, t1⟩)
  have HT := Lib.hid (rtopP h1)
  clear hst h1 m1 p1 t1 HEL
  go_wp2_with fail
  refine HT.out.mono ?_
  rintro e w2 ⟨rfl, b2⟩
  have H2 := Lib.hid (H1.out.on b2)
  have B2 := Lib.hid b2
  have HLY := Lib.hid (rlayP8 S.length t H2.out (by obtain ⟨hh, hi⟩ := HI.out; exact ⟨hh, hi.lay _⟩) HROW.out)
  clear b2 HT
  go_wp2_with fail
  refine HLY.out.mono ?_
  rintro e w3 ⟨rfl, b, hb, M3, P3, h3, m3, p3, t3⟩
  rw [addD_put HI.out HPOS.out htl HK.out b hb] at h3
  have H3 := Lib.hid h3
  have F3 := Lib.hid (show (∀ b, b < w2.heap.size → M3 b → M1 b) ∧ (∀ b, b < w2.heap.size → P3 b → P1 b) ∧ Turns M1 w2 w3 from ⟨m3, p3, t3⟩)
  have HPU := Lib.hid (rpushP8 S.length h3 hl (fun k => Nat.lt_irrefl _ (HIN.out _ k)) (by rw [addD_len]; omega) (by
    obtain ⟨hlk, e⟩ := link_at (S := lay S (elemNd sp nm [])) (n := S.length) (u := t) (i := (rowAt (lay S (elemNd sp nm [])) t).length) (j := S.length) (by rw [lay_len]; omega)
    unfold addD
    rw [e]
    simp [lay, elemNd]))
  clear h3 m3 p3 t3 hb HLY
  go_wp2_with fail
  refine HPU.out.mono ?_
  rintro e w4 ⟨rfl, R4, h4, r4, t4⟩
  have z1 := F1.out.2.2.size
  have z2 := B2.out.size
  have z3 := F3.out.2.2.size
  have HEND := Lib.hid (show ∃ M' P' R', RSite M' P' R' w4 Z B (addD S t (elemNd sp nm [])) (L ++ [t] ++ [S.length]) ∧ (∀ b, b < w.heap.size → M' b → M b) ∧ (∀ b, b < w.heap.size → P' b → P b) ∧ (∀ b, b < w.heap.size → R' b → R b) ∧ Turns (fun b => M b ∨ b = Z) w w4 from
    ⟨M3, P3, R4, h4, fun b k q => F1.out.1 b k (F3.out.1 b (by omega) q), fun b k q => F1.out.2.1 b k (F3.out.2.1 b (by omega) q), fun b k q => absurd q (r4 b (by omega)),
(((F1.out.2.2.mono (L := fun b => M b ∨ b = Z) fun b _ k => .inl k).trans (.of_below B2.out)).trans (F3.out.2.2.mono fun b hb k => by
        by_cases hbw : b < w.heap.size
        · exact .inl (.inl (F1.out.1 b hbw k))
        · exact .inr (by omega))).trans (t4.mono fun b _ k => .inl (.inr k))⟩)
  clear h4 r4 t4
  go_wp2_with fail
  go_ret
  exact ⟨rfl, HEND.out⟩
end Go.Proofs.Ytbadckkcjjfnoaa
