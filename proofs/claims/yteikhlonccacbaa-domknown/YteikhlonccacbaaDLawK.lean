/-
  The walk of the law DomKnown: true, and nothing old is changed. Any number.
-/
import Derived.Test.YteikhlonccacbaaDPKnown
import Derived.Test.YteikhlonccacbaaDPSound2
import Derived.Test.YteikhlonccacbaaDPDeep
import Derived.Test.YteikhlonccacbaaDTape
namespace Go.Proofs.Yteikhlonccacbaa
open Go.RowKit

/-- Blocks that are made one behind another. -/
def allocs (w : World) : List Obj → World
  | [] => w
  | o :: r => allocs (w.alloc o) r
theorem allocs_below (w : World) (r : List Obj) : Below w.heap.size w (allocs w r) := by
  induction r generalizing w with
  | nil => exact Below.refl _ w
  | cons o r ih => exact ((Below.refl _ w).alloc (Nat.le_refl _) o).trans ((ih (w.alloc o)).mono (by simp))
theorem allocs_size (w : World) (r : List Obj) : (allocs w r).heap.size = w.heap.size + r.length := by
  induction r generalizing w with
  | nil => rfl
  | cons o r ih => rw [allocs, ih, List.length_cons]; simp; omega
theorem allocs_cell (w : World) (r : List Obj) (i : Nat) (cs : Array Value) (t : TypeId) (h : r[i]? = some (.cells cs t)) (j : Nat) : (allocs w r).cell? ⟨w.heap.size + i, j, none⟩ = cs[j]? := by
  induction r generalizing w i with
  | nil => simp at h
  | cons o r ih =>
    cases i with
    | zero =>
      rw [List.getElem?_cons_zero] at h
      have := Option.some.inj h
      subst this
      have hb := allocs_below (w.alloc (.cells cs t)) r
      rw [allocs, hb.cell (p := ⟨w.heap.size + 0, j, none⟩) (by simp)]
      exact World.cell?_alloc_mark w cs t (0, 0) j
    | succ i =>
      rw [List.getElem?_cons_succ] at h
      have := ih (w.alloc o) i h
      rw [show (w.alloc o).heap.size = w.heap.size + 1 by simp] at this
      rw [allocs, show w.heap.size + (i + 1) = w.heap.size + 1 + i by omega]
      exact this

namespace Kn
def nP : Nd := ⟨1, 1, [112], [], [], 0⟩
def nX : Nd := ⟨2, 0, [], [], [120], 0⟩
def nN3 : Nd := ⟨3, 0, [], [], [], 0⟩
def nT0 : Nd := ⟨2, 0, [], [], [], 0⟩
def nE0 : Nd := ⟨1, 0, [112], [], [], 0⟩
def nE4 : Nd := ⟨1, 4, [112], [], [], 0⟩
def nN1 : Nd := ⟨3, 0, [110], [], [], 0⟩
def nT1 : Nd := ⟨2, 0, [], [], [120], -1⟩
def lf (d : Nd) : (Nd × Value × Value) := (d, .slice none 0 0, .slice none 0 0)
def leafs : List Nd → Fo
  | [] => .nil
  | d :: r => .cons d .nil (leafs r)
def fo : Nat → Fo
  | 1 => leafs [nP] | 2 => leafs [nX, nX] | 3 => .cons nP (leafs [nX, nP, nX]) .nil | 4 => leafs [nN3] | 5 => leafs [nT0] | 6 => leafs [nE0] | 7 => leafs [nE4] | 8 => leafs [nN1] | 9 => leafs [nT1] | _ => .nil
def outs : List Bool := [true, true, false, true, true, false, false, false, false, false]
def deeps : List Int := [0, 1, 1, 2, 1, 1, 1, 1, 1, 1]
theorem fo_ok : ∀ r, r < 10 → ((fo r).sound false = outs.getD r false ∧ ((fo r).deep : Int) = deeps.getD r 0 ∧ (fo r).wt ≤ 100) := by decide
def row (ds : List Nd) : Array Value := (nodeCells (ds.map lf)).toArray
def ins (h : Nat) : List Value := [.slice none 0 0, .slice (some ⟨h + 4, 0, none⟩) 1 1, .slice (some ⟨h + 5, 0, none⟩) 2 2, .slice (some ⟨h + 6, 0, none⟩) 1 1, .slice (some ⟨h + 7, 0, none⟩) 1 1, .slice (some ⟨h + 8, 0, none⟩) 1 1, .slice (some ⟨h + 9, 0, none⟩) 1 1, .slice (some ⟨h + 10, 0, none⟩) 1 1, .slice (some ⟨h + 11, 0, none⟩) 1 1, .slice (some ⟨h + 12, 0, none⟩) 1 1]
def topQ (h : Nat) : Array Value := (nodeCell (nP, .slice none 0 0, .slice (some ⟨h + 3, 0, none⟩) 3 3)).toArray
def objs (h : Nat) : List Obj := [.cells (row [nP]) 49, .cells (row [nX]) 49, .cells (topQ h) 49, .cells (row [nX, nP, nX]) 49, .cells (row [nP]) 49, .cells (row [nX, nX]) 49, .cells (topQ h) 49, .cells (row [nN3]) 49, .cells (row [nT0]) 49, .cells (row [nE0]) 49, .cells (row [nE4]) 49, .cells (row [nN1]) 49, .cells (row [nT1]) 49, .cells (ins h).toArray 31, .cells (outs.map Value.bool).toArray 4, .cells (deeps.map (Value.int .i64)).toArray 3 ]
theorem leafs_of : ∀ ds : List Nd, Fo.ofList ((ds.map fun d => (lf d, Fo.nil)).map fun q => (q.1.1, q.2)) = leafs ds
  | [] => rfl
  | d :: r => by rw [List.map_cons, List.map_cons, Fo.ofList, leafs_of r]; rfl
theorem leafs_len : ∀ ds : List Nd, (leafs ds).len = ds.length
  | [] => rfl
  | d :: r => by rw [leafs, Fo.len, leafs_len r, List.length_cons]
theorem leaf_row (W : World) (g c : Nat) (ds : List Nd) (hg : g < W.heap.size) (h0 : ∀ d ∈ ds, d.attrs = []) (hc : ∀ j, W.cell? ⟨g, j, none⟩ = (row ds)[j]?) : NodesP (fun _ => True) W (.slice (some ⟨g, 0, none⟩) ds.length c) (leafs ds) := by
  refine ⟨some ⟨g, 0, none⟩, c, by rw [leafs_len], fun _ => ⟨g, 0, rfl, trivial, hg, ?_⟩⟩
  rw [← leafs_of]
  refine nodesFrom_of _ W g _ 0 fun j hj => ?_
  have hj' : j < ds.length := by simpa using hj
  have hj2 : j < (ds.map lf).length := by simpa using hj
  rw [List.getElem_map]
  have key : ∀ i, i < 7 → W.cell? ⟨g, 0 + (0 + j) * 7 + i, none⟩ = (nodeCell (lf ds[j]))[i]? := by
    intro i hi
    rw [show 0 + (0 + j) * 7 + i = j * 7 + i by omega, hc]
    show (nodeCells (ds.map lf)).toArray[j * 7 + i]? = _
    rw [List.getElem?_toArray, nodeCells_at (ds.map lf) j i hj2 hi, List.getElem_map]
  refine ⟨⟨key 0 (by omega), key 1 (by omega), key 2 (by omega), key 3 (by omega), key 4 (by omega), key 5 (by omega), key 6 (by omega)⟩, ?_, NodesP.nil _ _ _ _⟩
  show AttrsP _ W (.slice none 0 0) ds[j].attrs
  rw [h0 _ (List.getElem_mem hj')]
  exact AttrsP.nil _ _ _ _
theorem nodes_at (w : World) (r : Nat) (hr : r < 10) : NodesP (fun _ => True) (allocs w (objs w.heap.size)) ((ins w.heap.size).getD r (.slice none 0 0)) (fo r) := by
  have hz : (allocs w (objs w.heap.size)).heap.size = w.heap.size + 16 := allocs_size w _
  have lf1 : ∀ (i : Nat) (ds : List Nd) (c : Nat), (objs w.heap.size)[i]? = some (.cells (row ds) 49) → i < 16 → (∀ d ∈ ds, d.attrs = []) → NodesP (fun _ => True) (allocs w (objs w.heap.size)) (.slice (some ⟨w.heap.size + i, 0, none⟩) ds.length c) (leafs ds) := fun i ds c hi hl h0 => leaf_row _ _ c ds (by omega) h0 (fun j => allocs_cell w _ i _ _ hi j)
  match r, hr with
  | 0, _ => exact NodesP.nil _ _ _ _
  | 1, _ => exact lf1 4 [nP] 1 rfl (by omega) (by simp [nP])
  | 2, _ => exact lf1 5 [nX, nX] 2 rfl (by omega) (by simp [nX])
  | 3, _ =>
    have hk := lf1 3 [nX, nP, nX] 3 rfl (by omega) (by simp [nX, nP])
    obtain ⟨p, cap, hv, ht⟩ := hk
    have hc : ∀ j, (allocs w (objs w.heap.size)).cell? ⟨w.heap.size + 6, j, none⟩ = (topQ w.heap.size)[j]? := fun j => allocs_cell w _ 6 _ _ rfl j
    exact ⟨some ⟨w.heap.size + 6, 0, none⟩, 1, rfl, fun _ => ⟨w.heap.size + 6, 0, rfl, trivial, by omega, ⟨.slice none 0 0, _, ⟨hc 0, hc 1, hc 2, hc 3, hc 4, hc 5, hc 6⟩, AttrsP.nil _ _ _ _, p, cap, hv, ht⟩, trivial⟩⟩
  | 4, _ => exact lf1 7 [nN3] 1 rfl (by omega) (by simp [nN3])
  | 5, _ => exact lf1 8 [nT0] 1 rfl (by omega) (by simp [nT0])
  | 6, _ => exact lf1 9 [nE0] 1 rfl (by omega) (by simp [nE0])
  | 7, _ => exact lf1 10 [nE4] 1 rfl (by omega) (by simp [nE4])
  | 8, _ => exact lf1 11 [nN1] 1 rfl (by omega) (by simp [nN1])
  | 9, _ => exact lf1 12 [nT1] 1 rfl (by omega) (by simp [nT1])
theorem tabs_at (w : World) (r : Nat) (hr : r < 10) : (allocs w (objs w.heap.size)).cell? ⟨w.heap.size + 13, r, none⟩ = some ((ins w.heap.size).getD r (.slice none 0 0)) ∧ (allocs w (objs w.heap.size)).cell? ⟨w.heap.size + 14, r, none⟩ = some (.bool (outs.getD r false)) ∧ (allocs w (objs w.heap.size)).cell? ⟨w.heap.size + 15, r, none⟩ = some (.int .i64 (deeps.getD r 0)) := by
  rw [allocs_cell w _ 13 _ _ rfl, allocs_cell w _ 14 _ _ rfl, allocs_cell w _ 15 _ _ rfl]
  match r, hr with
  | 0, _ | 1, _ | 2, _ | 3, _ | 4, _ | 5, _ | 6, _ | 7, _ | 8, _ | 9, _ => exact ⟨rfl, rfl, rfl⟩
theorem leafs_fits : ∀ ds : List Nd, (∀ d ∈ ds, d.attrs = []) → (leafs ds).fits
  | [], _ => trivial
  | d :: r, h => ⟨by rw [h d (by simp)]; exact ⟨by simp, fun _ q => absurd q (by simp)⟩, by simp [Fo.len], trivial, leafs_fits r (fun x hx => h x (by simp [hx]))⟩
theorem fo_fits (r : Nat) : (fo r).fits := by
  unfold fo
  split
  · exact leafs_fits _ (by simp [nP])
  · exact leafs_fits _ (by simp [nX])
  · exact ⟨⟨by simp [nP], fun _ q => absurd q (by simp [nP])⟩, by rw [leafs_len]; simp [maxLen], leafs_fits _ (by simp [nX, nP]), trivial⟩
  · exact leafs_fits _ (by simp [nN3])
  · exact leafs_fits _ (by simp [nT0])
  · exact leafs_fits _ (by simp [nE0])
  · exact leafs_fits _ (by simp [nE4])
  · exact leafs_fits _ (by simp [nN1])
  · exact leafs_fits _ (by simp [nT1])
  · trivial
theorem ins_slice (h r : Nat) (hr : r < 10) : ∃ p l c, (ins h).getD r (.slice none 0 0) = .slice p l c := by
  match r, hr with
  | 0, _ | 1, _ | 2, _ | 3, _ | 4, _ | 5, _ | 6, _ | 7, _ | 8, _ | 9, _ => exact ⟨_, _, _, rfl⟩
end Kn
set_option maxHeartbeats 2000000 in
set_option maxRecDepth 100000 in
theorem domKnown_walk (k : Int) (w : World) (h0 : -9223372036854775808 ≤ k) (h1 : k ≤ 9223372036854775807) : Calls Try.prog 11 #[.int .i64 k] w (Yes w) := by
  have HW := fun W => Lib.hid (within6 k 10 W h0 h1 (by omega) (by omega))
  have hr := (within_lt k 10 (by omega)).1
  generalize Within k 10 = r at *
  obtain ⟨t1, t2, t3⟩ := Kn.tabs_at w r hr
  obtain ⟨hs, hd, hwt⟩ := Kn.fo_ok r hr
  have hN := Kn.nodes_at w r hr
  obtain ⟨pi, li, ci, hin⟩ := Kn.ins_slice w.heap.size r hr
  rw [hin] at t1 hN
  have hBW := allocs_below w (Kn.objs w.heap.size)
  have hz : (allocs w (Kn.objs w.heap.size)).heap.size = w.heap.size + 16 := allocs_size w _
  generalize Kn.outs.getD r false = ob at *
  generalize Kn.deeps.getD r 0 = od at *
  obtain ⟨W, hWe⟩ : ∃ W, allocs w (Kn.objs w.heap.size) = W := ⟨_, rfl⟩
  rw [hWe] at t1 t2 t3 hN hBW hz
  have key : ∀ V, Below W.heap.size W V → (fun w' => w'.cell? ⟨w.heap.size + 1 + 1 + 1 + 1 + 1 + 1 + 1 + 1 + 1 + 1 + 1 + 1 + 1, r, none⟩ = some (.slice pi li ci) ∧ w'.cell? ⟨w.heap.size + 1 + 1 + 1 + 1 + 1 + 1 + 1 + 1 + 1 + 1 + 1 + 1 + 1 + 1, r, none⟩ = some (.bool ob) ∧ w'.cell? ⟨w.heap.size + 1 + 1 + 1 + 1 + 1 + 1 + 1 + 1 + 1 + 1 + 1 + 1 + 1 + 1 + 1, r, none⟩ = some (.int .i64 od) ∧ Below W.heap.size W w') V := fun V b => by
    exact ⟨(b.cell (p := ⟨w.heap.size + 13, r, none⟩) (by show w.heap.size + 13 < _; omega)).trans t1, (b.cell (p := ⟨w.heap.size + 14, r, none⟩) (by show w.heap.size + 14 < _; omega)).trans t2, (b.cell (p := ⟨w.heap.size + 15, r, none⟩) (by show w.heap.size + 15 < _; omega)).trans t3, b⟩
  have hS0 : (fun w' => w'.cell? ⟨w.heap.size + 1 + 1 + 1 + 1 + 1 + 1 + 1 + 1 + 1 + 1 + 1 + 1 + 1, r, none⟩ = some (.slice pi li ci) ∧ w'.cell? ⟨w.heap.size + 1 + 1 + 1 + 1 + 1 + 1 + 1 + 1 + 1 + 1 + 1 + 1 + 1 + 1, r, none⟩ = some (.bool ob) ∧ w'.cell? ⟨w.heap.size + 1 + 1 + 1 + 1 + 1 + 1 + 1 + 1 + 1 + 1 + 1 + 1 + 1 + 1 + 1, r, none⟩ = some (.int .i64 od) ∧ Below W.heap.size W w') W.drew := key _ (Below.refl _ _).drew
  have HKN : Hid (∀ V, Below W.heap.size W V → Calls Try.prog 12 #[] V fun e V' => e = .returned (.bool true) ∧ (fun w' => w'.cell? ⟨w.heap.size + 1 + 1 + 1 + 1 + 1 + 1 + 1 + 1 + 1 + 1 + 1 + 1 + 1, r, none⟩ = some (.slice pi li ci) ∧ w'.cell? ⟨w.heap.size + 1 + 1 + 1 + 1 + 1 + 1 + 1 + 1 + 1 + 1 + 1 + 1 + 1 + 1, r, none⟩ = some (.bool ob) ∧ w'.cell? ⟨w.heap.size + 1 + 1 + 1 + 1 + 1 + 1 + 1 + 1 + 1 + 1 + 1 + 1 + 1 + 1 + 1, r, none⟩ = some (.int .i64 od) ∧ Below W.heap.size W w') V') := Lib.hid fun V b => (known6_yes V).mono fun e V' ⟨he, b'⟩ => ⟨he, key _ (b.trans (b'.mono b.size))⟩
  have HSO : Hid (∀ V, Below W.heap.size W V → Calls Try.prog 19 #[.slice pi li ci] V fun e V' => e = .returned (.bool ob) ∧ (fun w' => w'.cell? ⟨w.heap.size + 1 + 1 + 1 + 1 + 1 + 1 + 1 + 1 + 1 + 1 + 1 + 1 + 1, r, none⟩ = some (.slice pi li ci) ∧ w'.cell? ⟨w.heap.size + 1 + 1 + 1 + 1 + 1 + 1 + 1 + 1 + 1 + 1 + 1 + 1 + 1 + 1, r, none⟩ = some (.bool ob) ∧ w'.cell? ⟨w.heap.size + 1 + 1 + 1 + 1 + 1 + 1 + 1 + 1 + 1 + 1 + 1 + 1 + 1 + 1 + 1, r, none⟩ = some (.int .i64 od) ∧ Below W.heap.size W w') V') := Lib.hid fun V b => (dsoundP (Kn.fo r) _ _ V (by omega) (Kn.fo_fits r) (hN.kept (.of_below b))).mono fun e V' ⟨he, b'⟩ => ⟨by rw [he, hs], key _ (b.trans (b'.mono b.size))⟩
  have HDE : Hid (∀ V, Below W.heap.size W V → Calls Try.prog 21 #[.slice pi li ci] V fun e V' => e = .returned (.int .i64 od) ∧ (fun w' => w'.cell? ⟨w.heap.size + 1 + 1 + 1 + 1 + 1 + 1 + 1 + 1 + 1 + 1 + 1 + 1 + 1, r, none⟩ = some (.slice pi li ci) ∧ w'.cell? ⟨w.heap.size + 1 + 1 + 1 + 1 + 1 + 1 + 1 + 1 + 1 + 1 + 1 + 1 + 1 + 1, r, none⟩ = some (.bool ob) ∧ w'.cell? ⟨w.heap.size + 1 + 1 + 1 + 1 + 1 + 1 + 1 + 1 + 1 + 1 + 1 + 1 + 1 + 1 + 1, r, none⟩ = some (.int .i64 od) ∧ Below W.heap.size W w') V') := Lib.hid fun V b => (ddeepP (Kn.fo r) _ _ V (by omega) (hN.kept (.of_below b))).mono fun e V' ⟨he, b'⟩ => ⟨by rw [he, hd], key _ (b.trans (b'.mono b.size))⟩
  have HBW := Lib.hid hBW
  have r0 : (0 : Int) ≤ (r : Int) := by omega
  have r1 : (r : Int) < 10 := by omega
  clear key hN hs hd t1 t2 t3 hBW
  go_enter Try.func11, Try.ntmps11
  go_wp2_with fail
  generalize hw' : (World.alloc _ _ : World) = W2 at *
  have hw2 : W = W2 := by rw [← hw', ← hWe]; rfl
  subst hw2
  clear hw' hWe
  refine (HW _).out.mono ?_
  rintro e w1 ⟨rfl, rfl⟩
  go_wp2_with fail
  refine wp_region_held_drew (S := (fun w' => w'.cell? ⟨w.heap.size + 1 + 1 + 1 + 1 + 1 + 1 + 1 + 1 + 1 + 1 + 1 + 1 + 1, r, none⟩ = some (.slice pi li ci) ∧ w'.cell? ⟨w.heap.size + 1 + 1 + 1 + 1 + 1 + 1 + 1 + 1 + 1 + 1 + 1 + 1 + 1 + 1, r, none⟩ = some (.bool ob) ∧ w'.cell? ⟨w.heap.size + 1 + 1 + 1 + 1 + 1 + 1 + 1 + 1 + 1 + 1 + 1 + 1 + 1 + 1 + 1, r, none⟩ = some (.int .i64 od) ∧ Below W.heap.size W w')) (by kernel_rfl) (by exact hS0) (fun hHeld => ?_)
  refine wpAnyH_ready (rs := [0]) (by kernel_rfl) (by simp) ?_
  refine AllReadyH.cons (o := { dst := some 44, op := Op.call { callee := Callee.value (Operand.func 12), args := #[], argTypes := #[  ] }, type := 4, pos := "more.go:185", after := #[], guard := none }) rfl (fun K hK => ?_) AllReadyH.nil
  go_simp
  refine (HKN.out _ hHeld.2.2.2).mono ?_; rintro e w3 ⟨rfl, hS3⟩
  go_wp2_with fail
  refine hK.out _ _ (by exact hS3) (fun hHeld => ?_)
  clear hK K
  try simp only [Act.put, List.setIfInBounds_toArray, List.set_cons_zero, List.set_cons_succ]
  refine wpAnyH_take (i := 1) (oi := { dst := some 45, op := Op.move (Operand.tmp 44), type := 4, pos := "more.go:185", after := #[{ on := 0, ground := Ground.data }, { on := 0, ground := Ground.chain }], guard := none }) (v := ?_) rfl (by kernel_rfl) (by kernel_rfl) (by kernel_rfl) (fun _ _ _ h => h) (Or.inl ⟨by rfl, ?_⟩) (by assumption) ?_
  rotate_left
  focus (intro w hSw; (try dsimp only at hSw); go_simp; (try with_reducible rfl))
  try simp only [Act.put, List.setIfInBounds_toArray, List.set_cons_zero, List.set_cons_succ]
  refine wpAnyH_take (i := 2) (oi := { dst := some 46, op := Op.move (Operand.tmp 6), type := 65, pos := "more.go:185", after := #[{ on := 1, ground := Ground.guard }], guard := some (1, true) }) (v := ?_) rfl (by kernel_rfl) (by kernel_rfl) (by kernel_rfl) (fun _ _ _ h => h) (Or.inl ⟨by rfl, ?_⟩) (by assumption) ?_
  rotate_left
  focus (intro w hSw; (try dsimp only at hSw); go_simp; (try with_reducible rfl))
  try simp only [Act.put, List.setIfInBounds_toArray, List.set_cons_zero, List.set_cons_succ]
  refine wpAnyH_take (i := 3) (oi := { dst := some 47, op := Op.move (Operand.tmp 9), type := 3, pos := "more.go:185", after := #[{ on := 1, ground := Ground.guard }], guard := some (1, true) }) (v := ?_) rfl (by kernel_rfl) (by kernel_rfl) (by kernel_rfl) (fun _ _ _ h => h) (Or.inl ⟨by rfl, ?_⟩) (by assumption) ?_
  rotate_left
  focus (intro w hSw; (try dsimp only at hSw); go_simp; (try with_reducible rfl))
  try simp only [Act.put, List.setIfInBounds_toArray, List.set_cons_zero, List.set_cons_succ]
  refine wpAnyH_take (i := 4) (oi := { dst := some 48, op := Op.indexAddr 65 (Operand.tmp 46) (Operand.tmp 47), type := 0, pos := "more.go:185", after := #[{ on := 2, ground := Ground.data }, { on := 3, ground := Ground.data }, { on := 1, ground := Ground.guard }], guard := some (1, true) }) (v := ?_) rfl (by kernel_rfl) (by kernel_rfl) (by kernel_rfl) (fun _ _ _ h => h) (Or.inl ⟨by rfl, ?_⟩) (by assumption) ?_
  rotate_left
  focus (intro w hSw; (try dsimp only at hSw); go_simp; (try with_reducible rfl))
  try simp only [Act.put, List.setIfInBounds_toArray, List.set_cons_zero, List.set_cons_succ]
  refine wpAnyH_take (i := 5) (oi := { dst := some 49, op := Op.load 31 (Operand.tmp 48), type := 31, pos := "more.go:185", after := #[{ on := 4, ground := Ground.data }, { on := 1, ground := Ground.guard }], guard := some (1, true) }) (v := ?_) rfl (by kernel_rfl) (by kernel_rfl) (by kernel_rfl) (fun _ _ _ h => h) (Or.inl ⟨by rfl, ?_⟩) (by assumption) ?_
  rotate_left
  focus (intro w hSw; (try dsimp only at hSw); go_simp; (try with_reducible rfl))
  try simp only [Act.put, List.setIfInBounds_toArray, List.set_cons_zero, List.set_cons_succ]
  refine wpAnyH_take (i := 7) (oi := { dst := some 51, op := Op.move (Operand.tmp 7), type := 66, pos := "more.go:185", after := #[{ on := 1, ground := Ground.guard }], guard := some (1, true) }) (v := ?_) rfl (by kernel_rfl) (by kernel_rfl) (by kernel_rfl) (fun _ _ _ h => h) (Or.inl ⟨by rfl, ?_⟩) (by assumption) ?_
  rotate_left
  focus (intro w hSw; (try dsimp only at hSw); go_simp; (try with_reducible rfl))
  try simp only [Act.put, List.setIfInBounds_toArray, List.set_cons_zero, List.set_cons_succ]
  refine wpAnyH_take (i := 8) (oi := { dst := some 52, op := Op.move (Operand.tmp 9), type := 3, pos := "more.go:185", after := #[{ on := 1, ground := Ground.guard }], guard := some (1, true) }) (v := ?_) rfl (by kernel_rfl) (by kernel_rfl) (by kernel_rfl) (fun _ _ _ h => h) (Or.inl ⟨by rfl, ?_⟩) (by assumption) ?_
  rotate_left
  focus (intro w hSw; (try dsimp only at hSw); go_simp; (try with_reducible rfl))
  try simp only [Act.put, List.setIfInBounds_toArray, List.set_cons_zero, List.set_cons_succ]
  refine wpAnyH_take (i := 9) (oi := { dst := some 53, op := Op.indexAddr 66 (Operand.tmp 51) (Operand.tmp 52), type := 0, pos := "more.go:185", after := #[{ on := 7, ground := Ground.data }, { on := 8, ground := Ground.data }, { on := 1, ground := Ground.guard }], guard := some (1, true) }) (v := ?_) rfl (by kernel_rfl) (by kernel_rfl) (by kernel_rfl) (fun _ _ _ h => h) (Or.inl ⟨by rfl, ?_⟩) (by assumption) ?_
  rotate_left
  focus (intro w hSw; (try dsimp only at hSw); go_simp; (try with_reducible rfl))
  try simp only [Act.put, List.setIfInBounds_toArray, List.set_cons_zero, List.set_cons_succ]
  refine wpAnyH_take (i := 10) (oi := { dst := some 54, op := Op.load 4 (Operand.tmp 53), type := 4, pos := "more.go:185", after := #[{ on := 9, ground := Ground.data }, { on := 1, ground := Ground.guard }], guard := some (1, true) }) (v := ?_) rfl (by kernel_rfl) (by kernel_rfl) (by kernel_rfl) (fun _ _ _ h => h) (Or.inl ⟨by rfl, ?_⟩) (by assumption) ?_
  rotate_left
  focus (intro w hSw; (try dsimp only at hSw); go_simp; (try with_reducible rfl))
  try simp only [Act.put, List.setIfInBounds_toArray, List.set_cons_zero, List.set_cons_succ]
  refine wpAnyH_ready (rs := [6]) (by kernel_rfl) (by simp) ?_
  refine AllReadyH.cons (o := { dst := some 50, op := Op.call { callee := Callee.value (Operand.func 19), args := #[Operand.tmp 49], argTypes := #[ 31 ] }, type := 4, pos := "more.go:185", after := #[{ on := 5, ground := Ground.data }, { on := 1, ground := Ground.chain }, { on := 1, ground := Ground.guard }], guard := some (1, true) }) rfl (fun K hK => ?_) AllReadyH.nil
  go_simp
  refine (HSO.out _ hHeld.2.2.2).mono ?_; rintro e w4 ⟨rfl, hS4⟩
  go_wp2_with fail
  refine hK.out _ _ (by exact hS4) (fun hHeld => ?_)
  clear hK K
  try simp only [Act.put, List.setIfInBounds_toArray, List.set_cons_zero, List.set_cons_succ]
  refine wpAnyH_take (i := 11) (oi := { dst := some 55, op := Op.binOp BinOp.eql 4 (Operand.tmp 50) (Operand.tmp 54) 4, type := 4, pos := "more.go:185", after := #[{ on := 6, ground := Ground.data }, { on := 10, ground := Ground.data }, { on := 1, ground := Ground.guard }], guard := some (1, true) }) (v := ?_) rfl (by kernel_rfl) (by kernel_rfl) (by kernel_rfl) (fun _ _ _ h => h) (Or.inl ⟨by rfl, ?_⟩) (by assumption) ?_
  rotate_left
  focus (intro w hSw; (try dsimp only at hSw); go_simp; (try with_reducible rfl))
  try simp only [Act.put, List.setIfInBounds_toArray, List.set_cons_zero, List.set_cons_succ]
  refine wpAnyH_take (i := 12) (oi := { dst := some 56, op := Op.pick (Operand.tmp 45) (Operand.tmp 55) (Operand.const (Value.bool false)), type := 4, pos := "more.go:185", after := #[{ on := 1, ground := Ground.data }, { on := 11, ground := Ground.data }], guard := none }) (v := ?_) rfl (by kernel_rfl) (by kernel_rfl) (by kernel_rfl) (fun _ _ _ h => h) (Or.inl ⟨by rfl, ?_⟩) (by assumption) ?_
  rotate_left
  focus (intro w hSw; (try dsimp only at hSw); go_simp; (try with_reducible rfl))
  try simp only [Act.put, List.setIfInBounds_toArray, List.set_cons_zero, List.set_cons_succ]
  refine wpAnyH_take (i := 13) (oi := { dst := some 57, op := Op.move (Operand.tmp 56), type := 4, pos := "more.go:185", after := #[{ on := 12, ground := Ground.data }, { on := 6, ground := Ground.chain }], guard := none }) (v := ?_) rfl (by kernel_rfl) (by kernel_rfl) (by kernel_rfl) (fun _ _ _ h => h) (Or.inl ⟨by rfl, ?_⟩) (by assumption) ?_
  rotate_left
  focus (intro w hSw; (try dsimp only at hSw); go_simp; (try with_reducible rfl))
  try simp only [Act.put, List.setIfInBounds_toArray, List.set_cons_zero, List.set_cons_succ]
  refine wpAnyH_take (i := 14) (oi := { dst := some 58, op := Op.move (Operand.tmp 6), type := 65, pos := "more.go:185", after := #[{ on := 13, ground := Ground.guard }], guard := some (13, true) }) (v := ?_) rfl (by kernel_rfl) (by kernel_rfl) (by kernel_rfl) (fun _ _ _ h => h) (Or.inl ⟨by rfl, ?_⟩) (by assumption) ?_
  rotate_left
  focus (intro w hSw; (try dsimp only at hSw); go_simp; (try with_reducible rfl))
  try simp only [Act.put, List.setIfInBounds_toArray, List.set_cons_zero, List.set_cons_succ]
  refine wpAnyH_take (i := 15) (oi := { dst := some 59, op := Op.move (Operand.tmp 9), type := 3, pos := "more.go:185", after := #[{ on := 13, ground := Ground.guard }], guard := some (13, true) }) (v := ?_) rfl (by kernel_rfl) (by kernel_rfl) (by kernel_rfl) (fun _ _ _ h => h) (Or.inl ⟨by rfl, ?_⟩) (by assumption) ?_
  rotate_left
  focus (intro w hSw; (try dsimp only at hSw); go_simp; (try with_reducible rfl))
  try simp only [Act.put, List.setIfInBounds_toArray, List.set_cons_zero, List.set_cons_succ]
  refine wpAnyH_take (i := 16) (oi := { dst := some 60, op := Op.indexAddr 65 (Operand.tmp 58) (Operand.tmp 59), type := 0, pos := "more.go:185", after := #[{ on := 14, ground := Ground.data }, { on := 15, ground := Ground.data }, { on := 13, ground := Ground.guard }], guard := some (13, true) }) (v := ?_) rfl (by kernel_rfl) (by kernel_rfl) (by kernel_rfl) (fun _ _ _ h => h) (Or.inl ⟨by rfl, ?_⟩) (by assumption) ?_
  rotate_left
  focus (intro w hSw; (try dsimp only at hSw); go_simp; (try with_reducible rfl))
  try simp only [Act.put, List.setIfInBounds_toArray, List.set_cons_zero, List.set_cons_succ]
  refine wpAnyH_take (i := 17) (oi := { dst := some 61, op := Op.load 31 (Operand.tmp 60), type := 31, pos := "more.go:185", after := #[{ on := 16, ground := Ground.data }, { on := 13, ground := Ground.guard }], guard := some (13, true) }) (v := ?_) rfl (by kernel_rfl) (by kernel_rfl) (by kernel_rfl) (fun _ _ _ h => h) (Or.inl ⟨by rfl, ?_⟩) (by assumption) ?_
  rotate_left
  focus (intro w hSw; (try dsimp only at hSw); go_simp; (try with_reducible rfl))
  try simp only [Act.put, List.setIfInBounds_toArray, List.set_cons_zero, List.set_cons_succ]
  refine wpAnyH_take (i := 19) (oi := { dst := some 63, op := Op.move (Operand.tmp 8), type := 32, pos := "more.go:185", after := #[{ on := 13, ground := Ground.guard }], guard := some (13, true) }) (v := ?_) rfl (by kernel_rfl) (by kernel_rfl) (by kernel_rfl) (fun _ _ _ h => h) (Or.inl ⟨by rfl, ?_⟩) (by assumption) ?_
  rotate_left
  focus (intro w hSw; (try dsimp only at hSw); go_simp; (try with_reducible rfl))
  try simp only [Act.put, List.setIfInBounds_toArray, List.set_cons_zero, List.set_cons_succ]
  refine wpAnyH_take (i := 20) (oi := { dst := some 64, op := Op.move (Operand.tmp 9), type := 3, pos := "more.go:185", after := #[{ on := 13, ground := Ground.guard }], guard := some (13, true) }) (v := ?_) rfl (by kernel_rfl) (by kernel_rfl) (by kernel_rfl) (fun _ _ _ h => h) (Or.inl ⟨by rfl, ?_⟩) (by assumption) ?_
  rotate_left
  focus (intro w hSw; (try dsimp only at hSw); go_simp; (try with_reducible rfl))
  try simp only [Act.put, List.setIfInBounds_toArray, List.set_cons_zero, List.set_cons_succ]
  refine wpAnyH_take (i := 21) (oi := { dst := some 65, op := Op.indexAddr 32 (Operand.tmp 63) (Operand.tmp 64), type := 0, pos := "more.go:185", after := #[{ on := 19, ground := Ground.data }, { on := 20, ground := Ground.data }, { on := 13, ground := Ground.guard }], guard := some (13, true) }) (v := ?_) rfl (by kernel_rfl) (by kernel_rfl) (by kernel_rfl) (fun _ _ _ h => h) (Or.inl ⟨by rfl, ?_⟩) (by assumption) ?_
  rotate_left
  focus (intro w hSw; (try dsimp only at hSw); go_simp; (try with_reducible rfl))
  try simp only [Act.put, List.setIfInBounds_toArray, List.set_cons_zero, List.set_cons_succ]
  refine wpAnyH_take (i := 22) (oi := { dst := some 66, op := Op.load 3 (Operand.tmp 65), type := 3, pos := "more.go:185", after := #[{ on := 21, ground := Ground.data }, { on := 13, ground := Ground.guard }], guard := some (13, true) }) (v := ?_) rfl (by kernel_rfl) (by kernel_rfl) (by kernel_rfl) (fun _ _ _ h => h) (Or.inl ⟨by rfl, ?_⟩) (by assumption) ?_
  rotate_left
  focus (intro w hSw; (try dsimp only at hSw); go_simp; (try with_reducible rfl))
  try simp only [Act.put, List.setIfInBounds_toArray, List.set_cons_zero, List.set_cons_succ]
  refine wpAnyH_ready (rs := [18]) (by kernel_rfl) (by simp) ?_
  refine AllReadyH.cons (o := { dst := some 62, op := Op.call { callee := Callee.value (Operand.func 21), args := #[Operand.tmp 61], argTypes := #[ 31 ] }, type := 3, pos := "more.go:185", after := #[{ on := 17, ground := Ground.data }, { on := 13, ground := Ground.chain }, { on := 13, ground := Ground.guard }], guard := some (13, true) }) rfl (fun K hK => ?_) AllReadyH.nil
  go_simp
  refine (HDE.out _ hHeld.2.2.2).mono ?_; rintro e w5 ⟨rfl, hS5⟩
  go_wp2_with fail
  refine hK.out _ _ (by exact hS5) (fun hHeld => ?_)
  clear hK K
  try simp only [Act.put, List.setIfInBounds_toArray, List.set_cons_zero, List.set_cons_succ]
  refine wpAnyH_take (i := 23) (oi := { dst := some 67, op := Op.binOp BinOp.eql 3 (Operand.tmp 62) (Operand.tmp 66) 3, type := 4, pos := "more.go:185", after := #[{ on := 18, ground := Ground.data }, { on := 22, ground := Ground.data }, { on := 13, ground := Ground.guard }], guard := some (13, true) }) (v := ?_) rfl (by kernel_rfl) (by kernel_rfl) (by kernel_rfl) (fun _ _ _ h => h) (Or.inl ⟨by rfl, ?_⟩) (by assumption) ?_
  rotate_left
  focus (intro w hSw; (try dsimp only at hSw); go_simp; (try with_reducible rfl))
  try simp only [Act.put, List.setIfInBounds_toArray, List.set_cons_zero, List.set_cons_succ]
  refine wpAnyH_take (i := 24) (oi := { dst := some 68, op := Op.pick (Operand.tmp 57) (Operand.tmp 67) (Operand.const (Value.bool false)), type := 4, pos := "more.go:185", after := #[{ on := 13, ground := Ground.data }, { on := 23, ground := Ground.data }], guard := none }) (v := ?_) rfl (by kernel_rfl) (by kernel_rfl) (by kernel_rfl) (fun _ _ _ h => h) (Or.inl ⟨by rfl, ?_⟩) (by assumption) ?_
  rotate_left
  focus (intro w hSw; (try dsimp only at hSw); go_simp; (try with_reducible rfl))
  try simp only [Act.put, List.setIfInBounds_toArray, List.set_cons_zero, List.set_cons_succ]
  refine wpAnyH_take (i := 25) (oi := { dst := some 2, op := Op.assign (Operand.tmp 68), type := 4, pos := "more.go:185", after := #[{ on := 24, ground := Ground.data }, { on := 18, ground := Ground.chain }, { on := 0, ground := Ground.phase }, { on := 1, ground := Ground.phase }, { on := 2, ground := Ground.phase }, { on := 3, ground := Ground.phase }, { on := 4, ground := Ground.phase }, { on := 5, ground := Ground.phase }, { on := 6, ground := Ground.phase }, { on := 7, ground := Ground.phase }, { on := 8, ground := Ground.phase }, { on := 9, ground := Ground.phase }, { on := 10, ground := Ground.phase }, { on := 11, ground := Ground.phase }, { on := 12, ground := Ground.phase }, { on := 13, ground := Ground.phase }, { on := 14, ground := Ground.phase }, { on := 15, ground := Ground.phase }, { on := 16, ground := Ground.phase }, { on := 17, ground := Ground.phase }, { on := 18, ground := Ground.phase }, { on := 19, ground := Ground.phase }, { on := 20, ground := Ground.phase }, { on := 21, ground := Ground.phase }, { on := 22, ground := Ground.phase }, { on := 23, ground := Ground.phase }, { on := 24, ground := Ground.phase }], guard := none }) (v := ?_) rfl (by kernel_rfl) (by kernel_rfl) (by kernel_rfl) (fun _ _ _ h => h) (Or.inl ⟨by rfl, ?_⟩) (by assumption) ?_
  rotate_left
  focus (intro w hSw; (try dsimp only at hSw); go_simp; (try with_reducible rfl))
  try simp only [Act.put, List.setIfInBounds_toArray, List.set_cons_zero, List.set_cons_succ]
  refine wpAnyH_done (by kernel_rfl) ?_ _
  go_wp2_with fail
  go_ret
  exact ⟨by simp [go_sem], HBW.out.trans (hS5.2.2.2.mono HBW.out.size)⟩
end Go.Proofs.Yteikhlonccacbaa
