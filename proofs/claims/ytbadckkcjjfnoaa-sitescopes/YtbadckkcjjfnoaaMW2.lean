/-
  The walk of the program's copied. Any mark.
-/
import Derived.Test.YtbadckkcjjfnoaaMW1
namespace Go.Proofs.Ytbadckkcjjfnoaa
open Go.RowKit

/-- What copied tells. -/
def CopyM (x : MK) (w : World) (e : Ending) (w' : World) : Prop := ∃ p c, e = .returned (markV x (.slice p x.attrs.length c)) ∧ AttrsP (fun b => w.heap.size ≤ b) w' (.slice p x.attrs.length c) x.attrs ∧ Below w.heap.size w w'
theorem block_cell {w : World} {g : Nat} {cs : Array Value} {t : TypeId} (h : w.heap[g]? = some (.cells cs t (0, 0))) (i : Nat) : w.cell? ⟨g, i, none⟩ = cs[i]? ∧ w.frozen? ⟨g, i, none⟩ = false := by
  constructor
  · simp [World.cell?, h]
  · simp [World.frozen?, h]
theorem set3 {w3 : World} {g : Nat} {T : TypeId} {x0 x1 x2 : Value} (v0 v1 v2 : Value) (h : w3.heap[g]? = some (.cells #[x0, x1, x2] T (0, 0))) :
    (((w3.setCell ⟨g, 0, none⟩ v0).setCell ⟨g, 1, none⟩ v1).setCell ⟨g, 2, none⟩ v2).heap[g]? = some (.cells #[v0, v1, v2] T (0, 0)) := by
  have e0 := heap_setCell_same w3 g 0 _ T v0 h
  have e1 := heap_setCell_same _ g 1 _ T v1 e0
  have e2 := heap_setCell_same _ g 2 _ T v2 e1
  rw [e2]
  simp
set_option maxHeartbeats 1000000 in
set_option maxRecDepth 100000 in
theorem mcopiedP (x : MK) (P : Nat → Prop) (pa : Option Addr) (ca : Nat) (w : World) (ha : AttrsP P w (.slice pa x.attrs.length ca) x.attrs) (hs : x.attrs.length ≤ 4294967296) : Calls Try.prog 93 #[markV x (.slice pa x.attrs.length ca)] w (CopyM x w) := by
  obtain ⟨i0, hi0, hz0, hz1, hz2⟩ := info_at
  unfold markV CopyM markV
  rcases Nat.eq_zero_or_pos x.attrs.length with h0 | h0
  · have HI := Lib.hid hi0
    have HX : Hid (x.attrs = []) := Lib.hid (List.eq_nil_of_length_eq_zero h0)
    rw [HX.out] at ha ⊢
    clear ha hz0 hz1 hz2 hi0 hs h0
    generalize (⟨x.name.toArray⟩ : ByteArray) = NM at *
    have hb4 : ((w.alloc (.cells #[.int .i64 x.node, .string NM, .slice none 0 0] 63)).alloc (.cells #[.int .i64 x.node, .string NM, .slice none 0 0] 63)).heap[w.heap.size + 1]? = some (.cells #[.int .i64 x.node, .string NM, .slice none 0 0] 63 (0, 0)) := by
      have := heap_alloc_new (w.alloc (.cells #[.int .i64 x.node, .string NM, .slice none 0 0] 63)) (.cells #[.int .i64 x.node, .string NM, .slice none 0 0] 63)
      simpa using this
    have HB4 := Lib.hid hb4
    clear hb4
    go_enter Try.func93, Try.ntmps93
    go_wp2_with (first
      | (at_builtin; refine wpList_append_empty rfl _ _ 41 rfl 40 i0 Try.underlying41 HI.out pa ca rfl rfl ?_)
      | fail)
    exact bodyPost_ret (results_cell_row rfl _ _ _ _ _ _ _ rfl HB4.out Try.underlying63 rfl (by kernel_rfl)) rfl ⟨none, 0, rfl, AttrsP.nil _ _ _ _, ((Below.refl _ w).alloc (Nat.le_refl _) _).alloc (by simp) _⟩
  · obtain ⟨p', cap', hv, hc⟩ := id ha
    injection hv with hv1 hv2 hv3
    subst hv1
    clear hv2 hv3
    obtain ⟨g, o, rfl, -, hg, -⟩ := hc h0
    have HI := Lib.hid (And.intro hi0 (And.intro hz0 (And.intro hz1 hz2)))
    obtain ⟨NM, hNM⟩ : ∃ NM : ByteArray, (⟨x.name.toArray⟩ : ByteArray) = NM := ⟨_, rfl⟩
    rw [hNM]
    have HN : Hid (∀ (W : World), Below w.heap.size w W → ∀ j u, (atCells x.attrs)[j]? = some u → W.cell? ((⟨g, o, none⟩ : Addr).add j) = some u) := Lib.hid fun W b => atCells_read (P := P) (ha.kept (.of_below b))
    have HBB : Hid (Below w.heap.size w ((w.alloc (.cells #[.int .i64 x.node, .string NM, .slice (some ⟨g, o, none⟩) x.attrs.length ca] 63)).alloc (.cells #[.int .i64 0, .string ⟨#[]⟩, .slice none 0 0] 63))) := Lib.hid (((Below.refl _ w).alloc (Nat.le_refl _) _).alloc (by simp) _)
    have HK1 : Hid (((w.alloc (.cells #[.int .i64 x.node, .string NM, .slice (some ⟨g, o, none⟩) x.attrs.length ca] 63)).alloc (.cells #[.int .i64 0, .string ⟨#[]⟩, .slice none 0 0] 63)).heap[w.heap.size]? = some (.cells #[.int .i64 x.node, .string NM, .slice (some ⟨g, o, none⟩) x.attrs.length ca] 63 (0, 0))) := by
      refine Lib.hid ?_
      rw [((Below.refl _ (w.alloc (.cells #[.int .i64 x.node, .string NM, .slice (some ⟨g, o, none⟩) x.attrs.length ca] 63))).alloc (Nat.le_refl _) _).block w.heap.size (by simp)]
      exact heap_alloc_new w _
    have HK2 : Hid (((w.alloc (.cells #[.int .i64 x.node, .string NM, .slice (some ⟨g, o, none⟩) x.attrs.length ca] 63)).alloc (.cells #[.int .i64 0, .string ⟨#[]⟩, .slice none 0 0] 63)).heap[w.heap.size + 1]? = some (.cells #[.int .i64 0, .string ⟨#[]⟩, .slice none 0 0] 63 (0, 0))) := by
      refine Lib.hid ?_
      have := heap_alloc_new (w.alloc (.cells #[.int .i64 x.node, .string NM, .slice (some ⟨g, o, none⟩) x.attrs.length ca] 63)) (.cells #[.int .i64 0, .string ⟨#[]⟩, .slice none 0 0] 63)
      simpa using this
    have HSZ : Hid (((w.alloc (.cells #[.int .i64 x.node, .string NM, .slice (some ⟨g, o, none⟩) x.attrs.length ca] 63)).alloc (.cells #[.int .i64 0, .string ⟨#[]⟩, .slice none 0 0] 63)).heap.size = w.heap.size + 2) := Lib.hid (by simp)
    clear ha hc hz0 hz1 hz2 hi0 hNM
    go_enter Try.func93, Try.ntmps93
    go_wp2_with (first
      | (at_builtin; refine wpList_append_own _ rfl _ _ 41 rfl (w.heap.size + 2) 40 i0 (.agg #[.string ByteArray.empty, .string ByteArray.empty]) 2 32 Try.underlying41 HI.out.1 HI.out.2.1 HI.out.2.2.1 HI.out.2.2.2 rfl (by omega) (.slice none 0 0) 0 [] rfl (World.ownsRow_nil _ _ _ _) ⟨g, o, none⟩ x.attrs.length ca (atCells x.attrs) rfl (atCells_len x.attrs) (HN.out _ HBB.out) (atCells_one x.attrs) (by unfold maxLen; omega) (by omega) (by have := HSZ.out; omega) ?_; intro v1 w1 hr1 hg1 _; rw [Nat.zero_add, List.nil_append] at hr1; obtain ⟨g1, c1, rfl⟩ := Joins.ownsRow_form hr1 h0; have k1 := (hg1.block w.heap.size (by rw [HSZ.out]; omega) (by simp [Value.ownBlock])).trans HK1.out; have k2 := (hg1.block (w.heap.size + 1) (by rw [HSZ.out]; omega) (by simp [Value.ownBlock])).trans HK2.out; have s1 : w.heap.size + 1 < w1.heap.size := (by have := hg1.size; have := HSZ.out; omega); have s0 : w.heap.size < w1.heap.size := (by omega); have K1 := Lib.hid k1; have K2 := Lib.hid k2; have HR := Lib.hid hr1; have HG := Lib.hid hg1; have x0 := (block_cell k1 0).1; have x1 := (block_cell k1 1).1; have x2 := (block_cell k1 2).1; have y2 := (block_cell k1 2).2; have z0 := (block_cell k2 0).1; have z1 := (block_cell k2 1).1; have z2 := (block_cell k2 2).1; have u0 := (block_cell k2 0).2; have u1 := (block_cell k2 1).2; have u2 := (block_cell k2 2).2; simp at x0 x1 x2 z0 z1 z2; clear hr1 hg1 k1 k2)
      | fail)
    have hb4 := set3 (w3 := w1.setCell ⟨w.heap.size, 2, none⟩ (.slice (some ⟨g1, 0, none⟩) x.attrs.length c1)) (g := w.heap.size + 1) (.int .i64 x.node) (.string NM) (.slice (some ⟨g1, 0, none⟩) x.attrs.length c1) (by rw [heap_setCell_other _ _ _ _ (by show w.heap.size + 1 ≠ w.heap.size; omega)]; exact K2.out)
    have hB1 : Below w.heap.size w w1 := HBB.out.grown HG.out HBB.out.size (fun k hk => by simp [Value.ownBlock] at hk)
    refine bodyPost_ret (results_cell_row rfl _ _ _ _ _ _ _ rfl hb4 Try.underlying63 rfl (by kernel_rfl)) rfl ⟨some ⟨g1, 0, none⟩, c1, rfl, ?_, ?_⟩
    · refine ((AttrsP.of_row HR.out).kept ⟨by simp, fun b q _ => ?_⟩).mono (fun b q _ => by omega)
      rw [heap_setCell_other _ _ _ _ (by show b ≠ w.heap.size + 1; omega), heap_setCell_other _ _ _ _ (by show b ≠ w.heap.size + 1; omega), heap_setCell_other _ _ _ _ (by show b ≠ w.heap.size + 1; omega), heap_setCell_other _ _ _ _ (by show b ≠ w.heap.size; omega)]
    · iterate 4 refine Below.setCell ?_ (by simp) _
      exact hB1
end Go.Proofs.Ytbadckkcjjfnoaa
