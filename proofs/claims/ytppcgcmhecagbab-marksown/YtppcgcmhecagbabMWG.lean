/-
  What the program's copied and All tell once more: what they make may be written. Any marks, not too many.
-/
import Derived.Test.YtppcgcmhecagbabMWF
namespace Go.Proofs.Ytppcgcmhecagbab
open Go.RowKit

/-- What copied tells; the row may be written. -/
def CopyF (x : MK) (w : World) (e : Ending) (w' : World) : Prop := ∃ p c, e = .returned (markV x (.slice p x.attrs.length c)) ∧ AttrsP (fun b => w.heap.size ≤ b) w' (.slice p x.attrs.length c) x.attrs ∧ Below w.heap.size w w' ∧ ∀ g, (Value.slice p x.attrs.length c).ownBlock = some g → w.heap.size ≤ g ∧ g < w'.heap.size ∧ ∀ o, w'.frozen? ⟨g, o, none⟩ = false
set_option maxHeartbeats 1000000 in
set_option maxRecDepth 100000 in
theorem mcopiedF (x : MK) (P : Nat → Prop) (pa : Option Addr) (ca : Nat) (w : World) (ha : AttrsP P w (.slice pa x.attrs.length ca) x.attrs) (hs : x.attrs.length ≤ 4294967296) : Calls Try.prog 46 #[markV x (.slice pa x.attrs.length ca)] w (CopyF x w) := by
  obtain ⟨i0, hi0, hz0, hz1, hz2⟩ := info_at
  unfold markV CopyF markV
  rcases Nat.eq_zero_or_pos x.attrs.length with h0 | h0
  · have HI := Lib.hid hi0
    have HX : Hid (x.attrs = []) := Lib.hid (List.eq_nil_of_length_eq_zero h0)
    rw [HX.out] at ha ⊢
    clear ha hz0 hz1 hz2 hi0 hs h0
    generalize (⟨x.name.toArray⟩ : ByteArray) = NM at *
    have hb4 : ((w.alloc (.cells #[.int .i64 x.node, .string NM, .slice none 0 0] 34)).alloc (.cells #[.int .i64 x.node, .string NM, .slice none 0 0] 34)).heap[w.heap.size + 1]? = some (.cells #[.int .i64 x.node, .string NM, .slice none 0 0] 34 (0, 0)) := by
      have := heap_alloc_new (w.alloc (.cells #[.int .i64 x.node, .string NM, .slice none 0 0] 34)) (.cells #[.int .i64 x.node, .string NM, .slice none 0 0] 34)
      simpa using this
    have HB4 := Lib.hid hb4
    clear hb4
    go_enter Try.func46, Try.ntmps46
    go_wp2_with (first
      | (at_builtin; refine wpList_append_empty rfl _ _ 31 rfl 55 i0 Try.underlying31 HI.out pa ca rfl rfl ?_)
      | fail)
    exact bodyPost_ret (results_cell_row rfl _ _ _ _ _ _ _ rfl HB4.out Try.underlying34 rfl (by kernel_rfl)) rfl ⟨none, 0, rfl, AttrsP.nil _ _ _ _, ((Below.refl _ w).alloc (Nat.le_refl _) _).alloc (by simp) _, fun g e => by cases e⟩
  · obtain ⟨p', cap', hv, hc⟩ := id ha
    injection hv with hv1 hv2 hv3
    subst hv1
    clear hv2 hv3
    obtain ⟨g, o, rfl, -, hg, -⟩ := hc h0
    have HI := Lib.hid (And.intro hi0 (And.intro hz0 (And.intro hz1 hz2)))
    obtain ⟨NM, hNM⟩ : ∃ NM : ByteArray, (⟨x.name.toArray⟩ : ByteArray) = NM := ⟨_, rfl⟩
    rw [hNM]
    have HN : Hid (∀ (W : World), Below w.heap.size w W → ∀ j u, (atCells x.attrs)[j]? = some u → W.cell? ((⟨g, o, none⟩ : Addr).add j) = some u) := Lib.hid fun W b => atCells_read (P := P) (ha.kept (.of_below b))
    have HBB : Hid (Below w.heap.size w ((w.alloc (.cells #[.int .i64 x.node, .string NM, .slice (some ⟨g, o, none⟩) x.attrs.length ca] 34)).alloc (.cells #[.int .i64 0, .string ⟨#[]⟩, .slice none 0 0] 34))) := Lib.hid (((Below.refl _ w).alloc (Nat.le_refl _) _).alloc (by simp) _)
    have HK1 : Hid (((w.alloc (.cells #[.int .i64 x.node, .string NM, .slice (some ⟨g, o, none⟩) x.attrs.length ca] 34)).alloc (.cells #[.int .i64 0, .string ⟨#[]⟩, .slice none 0 0] 34)).heap[w.heap.size]? = some (.cells #[.int .i64 x.node, .string NM, .slice (some ⟨g, o, none⟩) x.attrs.length ca] 34 (0, 0))) := by
      refine Lib.hid ?_
      rw [((Below.refl _ (w.alloc (.cells #[.int .i64 x.node, .string NM, .slice (some ⟨g, o, none⟩) x.attrs.length ca] 34))).alloc (Nat.le_refl _) _).block w.heap.size (by simp)]
      exact heap_alloc_new w _
    have HK2 : Hid (((w.alloc (.cells #[.int .i64 x.node, .string NM, .slice (some ⟨g, o, none⟩) x.attrs.length ca] 34)).alloc (.cells #[.int .i64 0, .string ⟨#[]⟩, .slice none 0 0] 34)).heap[w.heap.size + 1]? = some (.cells #[.int .i64 0, .string ⟨#[]⟩, .slice none 0 0] 34 (0, 0))) := by
      refine Lib.hid ?_
      have := heap_alloc_new (w.alloc (.cells #[.int .i64 x.node, .string NM, .slice (some ⟨g, o, none⟩) x.attrs.length ca] 34)) (.cells #[.int .i64 0, .string ⟨#[]⟩, .slice none 0 0] 34)
      simpa using this
    have HSZ : Hid (((w.alloc (.cells #[.int .i64 x.node, .string NM, .slice (some ⟨g, o, none⟩) x.attrs.length ca] 34)).alloc (.cells #[.int .i64 0, .string ⟨#[]⟩, .slice none 0 0] 34)).heap.size = w.heap.size + 2) := Lib.hid (by simp)
    clear ha hc hz0 hz1 hz2 hi0 hNM
    go_enter Try.func46, Try.ntmps46
    go_wp2_with (first
      | (at_builtin; refine wpList_append_own _ rfl _ _ 31 rfl (w.heap.size + 2) 55 i0 (.agg #[.string ByteArray.empty, .string ByteArray.empty]) 2 32 Try.underlying31 HI.out.1 HI.out.2.1 HI.out.2.2.1 HI.out.2.2.2 rfl (by omega) (.slice none 0 0) 0 [] rfl (World.ownsRow_nil _ _ _ _) ⟨g, o, none⟩ x.attrs.length ca (atCells x.attrs) rfl (atCells_len x.attrs) (HN.out _ HBB.out) (atCells_one x.attrs) (by unfold maxLen; omega) (by omega) (by have := HSZ.out; omega) ?_; intro v1 w1 hr1 hg1 _; rw [Nat.zero_add, List.nil_append] at hr1; obtain ⟨g1, c1, rfl⟩ := Joins.ownsRow_form hr1 h0; have k1 := (hg1.block w.heap.size (by rw [HSZ.out]; omega) (by simp [Value.ownBlock])).trans HK1.out; have k2 := (hg1.block (w.heap.size + 1) (by rw [HSZ.out]; omega) (by simp [Value.ownBlock])).trans HK2.out; have s1 : w.heap.size + 1 < w1.heap.size := (by have := hg1.size; have := HSZ.out; omega); have s0 : w.heap.size < w1.heap.size := (by omega); have K1 := Lib.hid k1; have K2 := Lib.hid k2; have HR := Lib.hid hr1; have HG := Lib.hid hg1; have x0 := (block_cell k1 0).1; have x1 := (block_cell k1 1).1; have x2 := (block_cell k1 2).1; have y2 := (block_cell k1 2).2; have z0 := (block_cell k2 0).1; have z1 := (block_cell k2 1).1; have z2 := (block_cell k2 2).1; have u0 := (block_cell k2 0).2; have u1 := (block_cell k2 1).2; have u2 := (block_cell k2 2).2; simp at x0 x1 x2 z0 z1 z2; clear hr1 hg1 k1 k2)
      | fail)
    have hb4 := set3 (w3 := w1.setCell ⟨w.heap.size, 2, none⟩ (.slice (some ⟨g1, 0, none⟩) x.attrs.length c1)) (g := w.heap.size + 1) (.int .i64 x.node) (.string NM) (.slice (some ⟨g1, 0, none⟩) x.attrs.length c1) (by rw [heap_setCell_other _ _ _ _ (by show w.heap.size + 1 ≠ w.heap.size; omega)]; exact K2.out)
    have hB1 : Below w.heap.size w w1 := HBB.out.grown HG.out HBB.out.size (fun k hk => by simp [Value.ownBlock] at hk)
    refine bodyPost_ret (results_cell_row rfl _ _ _ _ _ _ _ rfl hb4 Try.underlying34 rfl (by kernel_rfl)) rfl ⟨some ⟨g1, 0, none⟩, c1, rfl, ?_, ?_, ?_⟩
    · refine ((AttrsP.of_row HR.out).kept ⟨by simp, fun b q _ => ?_⟩).mono (fun b q _ => by omega)
      rw [heap_setCell_other _ _ _ _ (by show b ≠ w.heap.size + 1; omega), heap_setCell_other _ _ _ _ (by show b ≠ w.heap.size + 1; omega), heap_setCell_other _ _ _ _ (by show b ≠ w.heap.size + 1; omega), heap_setCell_other _ _ _ _ (by show b ≠ w.heap.size; omega)]
    · iterate 4 refine Below.setCell ?_ (by simp) _
      exact hB1
    · intro g' e
      have e' : g1 = g' := Option.some.inj e
      subst e'
      have hr := HR.out
      rcases hr.2 with ⟨e, _⟩ | ⟨g', cap', cur, e, hb, hg, _⟩
      · cases e
      · injection e with e
        injection e with e
        injection e with e
        subst e
        exact ⟨by omega, by simpa using heap_lt hg, fun o => by simp only [World.frozen?_setCell]; exact (block_cell hg o).2⟩

def CopyFN (x : MK) (NM : ByteArray) (w : World) (e : Ending) (w' : World) : Prop := ∃ p c, e = .returned (.agg #[.int .i64 x.node, .string NM, .slice p x.attrs.length c]) ∧ AttrsP (fun b => w.heap.size ≤ b) w' (.slice p x.attrs.length c) x.attrs ∧ Below w.heap.size w w' ∧ ∀ g, (Value.slice p x.attrs.length c).ownBlock = some g → w.heap.size ≤ g ∧ g < w'.heap.size ∧ ∀ o, w'.frozen? ⟨g, o, none⟩ = false
theorem mcopiedFN (x : MK) (NM : ByteArray) (hNM : NM = ⟨x.name.toArray⟩) (P : Nat → Prop) (pa : Option Addr) (ca : Nat) (w : World) (ha : AttrsP P w (.slice pa x.attrs.length ca) x.attrs) (hs : x.attrs.length ≤ 4294967296) : Calls Try.prog 46 #[.agg #[.int .i64 x.node, .string NM, .slice pa x.attrs.length ca]] w (CopyFN x NM w) := by
  subst hNM
  exact mcopiedF x P pa ca w ha hs
/-- The block of u may be written, and is not the row's. -/
def SoftR (w : World) (v u : Value) : Prop := ∀ g, u.ownBlock = some g → g < w.heap.size ∧ some g ≠ v.ownBlock ∧ ∀ o, w.frozen? ⟨g, o, none⟩ = false
theorem soft_more {B0 : Nat} {wr W6 W8 : World} {v : Value} {rs : List (MK × Value)} {q : MK × Value} {g8 n c8 : Nat} {o : Obj} (h : OutRow B0 wr v rs) (hs : ∀ q ∈ rs, SoftR wr v q.2) (hb : Below wr.heap.size wr W6) (hg : (W6.alloc o).grownBy W8 v.ownBlock) (hor : v.ownBlock = some g8 ∨ g8 = W6.heap.size + 1)
    (hq : ∀ g, q.2.ownBlock = some g → wr.heap.size ≤ g ∧ g < W6.heap.size ∧ ∀ o, W6.frozen? ⟨g, o, none⟩ = false) : ∀ x ∈ rs ++ [q], SoftR W8 (.slice (some ⟨g8, 0, none⟩) n c8) x.2 := by
  have hvl : ∀ g, v.ownBlock = some g → g < wr.heap.size := fun g e => (h.row.lt g e).2
  have z6 := hb.size
  have z8 := hg.size
  have za : (W6.alloc o).heap.size = W6.heap.size + 1 := by simp
  have key : ∀ g, g < W6.heap.size → some g ≠ v.ownBlock → (∀ o, W6.frozen? ⟨g, o, none⟩ = false) → g < W8.heap.size ∧ some g ≠ (Value.slice (some ⟨g8, 0, none⟩) n c8).ownBlock ∧ ∀ o, W8.frozen? ⟨g, o, none⟩ = false := by
    intro g h1 h2 h3
    refine ⟨by omega, fun e => ?_, fun i => ?_⟩
    · have e' : g = g8 := Option.some.inj e
      rcases hor with h4 | h4
      · exact h2 (by rw [h4, e'])
      · omega
    · rw [hg.frozen_far ⟨g, i, none⟩ (by show g < _; omega) h2, ((Below.refl _ W6).alloc (Nat.le_refl _) o).frozen (p := ⟨g, i, none⟩) h1]
      exact h3 i
  intro x hx g e
  rcases List.mem_append.1 hx with hx | hx
  · obtain ⟨h1, h2, h3⟩ := hs x hx g e
    exact key g (by omega) h2 fun i => (hb.frozen (p := ⟨g, i, none⟩) h1).trans (h3 i)
  · rw [List.mem_singleton] at hx
    subst hx
    obtain ⟨h1, h2, h3⟩ := hq g e
    exact key g h2 (fun e2 => by have := hvl g e2.symm; omega) h3
def AllF (S : List MK) (w : World) (e : Ending) (w' : World) : Prop := ∃ v rs, e = .returned v ∧ rs.map (·.1) = S ∧ OutRow w.heap.size w' v rs ∧ Below w.heap.size w w' ∧ ∀ q ∈ rs, SoftR w' v q.2
set_option maxHeartbeats 1000000 in
set_option maxRecDepth 100000 in
theorem mallF (S : List MK) (B : Nat) (M : Nat → Prop) (w : World) (h : MarksM M w B S) (hs : S.length ≤ 4294967296) (hx : ∀ x ∈ S, x.attrs.length ≤ 4294967296) :
    Calls Try.prog 34 #[.pointer (some ⟨B, 0, none⟩)] w (AllF S w) := by
  obtain ⟨v, qs, rfl, hq⟩ := h
  obtain ⟨p, cap, rfl, hr⟩ := hq.reads
  have h0 := hq.cell
  have hB := hq.lt
  rw [List.length_map] at hs
  have HQ := Lib.hid hq
  have HR := Lib.hid hr
  have HX := Lib.hid hx
  obtain ⟨i0, hi0, hz0, hz1, hz2⟩ := info_mark
  have HI := Lib.hid (And.intro hi0 (And.intro hz0 (And.intro hz1 hz2)))
  clear hq hr hi0 hz0 hz1 hz2 hx
  go_enter Try.func34, Try.ntmps34
  go_wp2_with fail
  go_loopw [3, 11] (fun o i wr => ∃ (k : Nat) (rs : List (MK × Value)), k ≤ qs.length ∧ i = .int .i64 (k : Int) ∧ rs.map (·.1) = (qs.take k).map (·.1) ∧ OutRow w.heap.size wr o rs ∧ Below w.heap.size w wr ∧ ∀ q ∈ rs, SoftR wr o q.2) (fun _ i _ => qs.length - (intOf i).toNat)
  case atStart => exact ⟨0, [], Nat.zero_le _, rfl, rfl, OutRow.nil _ _, Below.refl _ _, fun q hq => absurd hq (by simp)⟩
  case round =>
    obtain ⟨k, rs, hk, rfl, hm, ho, hb, hso⟩ := hrel
    have HSO := Lib.hid hso
    clear hso
    have HM := Lib.hid hm
    have HO := Lib.hid ho
    have HB := Lib.hid hb
    have hlen : rs.length = k := by
      have := congrArg List.length hm
      rw [List.length_map, List.length_map, List.length_take] at this
      omega
    have HLN := Lib.hid hlen
    have hkl : rs.length ≤ 4294967296 := by omega
    clear hm ho hb hlen
    by_cases hlt : k < qs.length
    · obtain ⟨g, rfl, hg, n0, n1, n2⟩ := HR.out k hlt
      have hbs := HB.out.size
      have m0 := (HB.out.cell (p := ⟨g, k * 3, none⟩) hg).trans n0
      have m1 := (HB.out.cell (p := ⟨g, k * 3 + 1, none⟩) hg).trans n1
      have m2 := (HB.out.cell (p := ⟨g, k * 3 + 2, none⟩) hg).trans n2
      have hgr : g < wr.heap.size := by omega
      have hat := HQ.out.attrs qs[k] (List.getElem_mem hlt)
      have hxk := HX.out qs[k].1 (List.mem_map_of_mem (List.getElem_mem hlt))
      obtain ⟨x, hxx⟩ : ∃ x, x = qs[k].1 := ⟨_, rfl⟩
      obtain ⟨va, hva⟩ : ∃ va, va = qs[k].2 := ⟨_, rfl⟩
      rw [← hxx] at m0 m1 hat hxk
      rw [← hva] at m2 hat
      obtain ⟨pa, ca, rfl, hat2⟩ := id hat
      obtain ⟨NM, hNM⟩ : ∃ NM : ByteArray, NM = (⟨x.name.toArray⟩ : ByteArray) := ⟨_, rfl⟩
      rw [← hNM] at m1
      have HNM := Lib.hid hNM
      have HAT := Lib.hid hat
      have HXX := Lib.hid hxx
      have hxn : rs.length + 1 ≤ maxLen := by unfold maxLen; omega
      clear n0 n1 n2 hat hat2 hxx hva hNM
      have b1 : Below wr.heap.size wr (wr.alloc (.cells #[.int .i64 x.node, .string NM, .slice pa x.attrs.length ca] 34)) := (Below.refl _ wr).alloc (Nat.le_refl _) _
      have HC : Hid (Calls Try.prog 46 #[.agg #[.int .i64 x.node, .string NM, .slice pa x.attrs.length ca]] (wr.alloc (.cells #[.int .i64 x.node, .string NM, .slice pa x.attrs.length ca] 34)) (CopyFN x NM (wr.alloc (.cells #[.int .i64 x.node, .string NM, .slice pa x.attrs.length ca] 34)))) := Lib.hid (mcopiedFN x NM HNM.out _ pa ca _ ((HAT.out.kept (.of_below HB.out)).kept (.of_below b1)) hxk)
      have HB1 := Lib.hid b1
      clear b1
      go_wp2_with (first
        | (go_at_call 46; refine HC.out.mono ?_; rintro e W6 ⟨p6, c6, rfl, ha6, hb6, hs6⟩; have HS6 := Lib.hid hs6; clear hs6; have HA6 := Lib.hid ha6; have HB6 := Lib.hid (HB1.out.trans (hb6.mono HB1.out.size)); have HN7 := Lib.hid (allM_ready HO.out HB6.out (q := (x, .slice p6 x.attrs.length c6)) (ha6.mono (fun b k _ => Nat.le_trans HB1.out.size k)) HB.out.size); rw [← HNM.out] at HN7; clear ha6 hb6)
        | (at_builtin; refine wpList_append_lies _ rfl _ _ 47 rfl w.heap.size 34 i0 (.agg #[.int .i64 0, .string ByteArray.empty, .slice none 0 0]) 3 48 Try.underlying47 HI.out.1 HI.out.2.1 HI.out.2.2.1 HI.out.2.2.2 rfl (by omega) _ rs.length (mkCells rs) rfl HN7.out.1.row ⟨W6.heap.size, 0, none⟩ 1 1 [.int .i64 x.node, .string NM, .slice p6 x.attrs.length c6] rfl rfl (World.news_of_block (cs := #[.int .i64 x.node, .string NM, .slice p6 x.attrs.length c6]) (heap_alloc_new W6 _)) (by simp [Value.oneCell']) (by omega) (by omega) (by omega) HN7.out.2.2.1 (W6.heap.size + 1) (by simp) ?_; intro g8 c8 W8 hr8 hg8 hor8 hlt8; have HO8 := Lib.hid (HN7.out.1.more (q := (x, .slice p6 x.attrs.length c6)) hg8 (by unfold mkCell; rw [← HNM.out]; exact hr8) (hor8.imp id (fun k => by simpa using k)) HN7.out.2.1); have HB8 := Lib.hid ((HB.out.trans (HN7.out.2.2.2.mono HB.out.size)).grown hg8 HN7.out.2.2.1 (fun g' e => (HN7.out.1.row.lt g' e).1)); have HS8 := Lib.hid (soft_more (n := rs.length + 1) (c8 := c8) (q := (x, .slice p6 x.attrs.length c6)) HO.out HSO.out HB6.out hg8 (hor8.imp id (fun k => by simpa using k)) (fun g e => ⟨Nat.le_trans HB1.out.size (HS6.out g e).1, (HS6.out g e).2⟩)); clear hr8 hg8 hor8 hlt8)
        | fail)
      refine ⟨⟨k + 1, rs ++ [(x, .slice p6 x.attrs.length c6)], by omega, by go_num, ?_, ?_, ?_, ?_⟩, by simp [intOf]; omega⟩
      · rw [List.map_append, HM.out, List.take_succ_eq_append_getElem hlt, List.map_append, HXX.out]
        rfl
      · exact HO8.out
      · exact HB8.out
      · exact HS8.out
    · go_wp2_with fail
      go_ret
      refine ⟨_, rs, rfl, ?_, HO.out, HB.out, HSO.out⟩
      rw [HM.out, List.take_of_length_le (by omega)]
end Go.Proofs.Ytppcgcmhecagbab
