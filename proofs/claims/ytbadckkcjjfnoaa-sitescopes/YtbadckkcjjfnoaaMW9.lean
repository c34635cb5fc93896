/-
  The walks of the program's Set, At, All. Any marks, not too many.
-/
import Derived.Test.YtbadckkcjjfnoaaMW6
namespace Go.Proofs.Ytbadckkcjjfnoaa
open Go.RowKit

def mSetS (S : List MK) (i : Int) (x : MK) : List MK := if mHas S i = true then S.set i.toNat x else S
theorem MarkQ.set_end {M : Nat → Prop} {w W5 W6 : World} {B g n cp : Nat} {rs : List (MK × Value)} {i : Nat} {q : MK × Value} (hi : i < rs.length) (hq5 : MarkQ M W5 B (.slice (some ⟨g, 0, none⟩) n cp) rs)
    (b5 : Below w.heap.size w W5) (hb6 : Below W5.heap.size W5 W6) (ha6 : AttrsP (fun b => W5.heap.size ≤ b) W6 q.2 q.1.attrs) :
    MarksM (New M w) (((W6.setCell ⟨g, i * 3, none⟩ (.int .i64 q.1.node)).setCell ⟨g, i * 3 + 1, none⟩ (.string ⟨q.1.name.toArray⟩)).setCell ⟨g, i * 3 + 2, none⟩ q.2) B ((rs.map (·.1)).set i q.1) ∧ Turns M w (((W6.setCell ⟨g, i * 3, none⟩ (.int .i64 q.1.node)).setCell ⟨g, i * 3 + 1, none⟩ (.string ⟨q.1.name.toArray⟩)).setCell ⟨g, i * 3 + 2, none⟩ q.2) := by
  have hg := (hq5.row.lt g rfl).2
  have hB := hq5.lt
  have h6 : MarkQ (New M W5) W6 B _ _ := (hq5.below hb6).mono (fun b _ k => .inl k)
  obtain ⟨r1, r2⟩ := h6.setq i hi q (ha6.mono (fun b k _ => ⟨.inr k, by omega, by omega⟩))
  have z5 := b5.size
  have hm : ∀ b, New M W5 b → New M w b := by
    rintro b (k | k)
    · exact .inl k
    · exact .inr (by omega)
  exact ⟨⟨_, _, by rw [List.map_set], r1.mono fun b _ k => hm b k⟩, (Turns.of_below (M := M) b5).trans (((Turns.of_below (M := M) hb6).trans r2).mono fun b _ k => .inl k)⟩
set_option maxHeartbeats 1000000 in
set_option maxRecDepth 100000 in
theorem msetP (S : List MK) (B : Nat) (M P : Nat → Prop) (w : World) (i : Int) (x : MK) (pa : Option Addr) (ca : Nat) (h : MarksM M w B S) (hs : S.length ≤ 4294967296) (ha : AttrsP P w (.slice pa x.attrs.length ca) x.attrs) (hx : x.attrs.length ≤ 4294967296) :
    Calls Try.prog 34 #[.pointer (some ⟨B, 0, none⟩), .int .i64 i, markV x (.slice pa x.attrs.length ca)] w (fun e w' => e = .returned (.bool (mHas S i)) ∧ MarksM (New M w) w' B (mSetS S i x) ∧ Turns M w w') := by
  unfold markV
  obtain ⟨NM, hNM⟩ : ∃ NM : ByteArray, NM = (⟨x.name.toArray⟩ : ByteArray) := ⟨_, rfl⟩
  rw [← hNM]
  have HNM := Lib.hid hNM
  obtain ⟨W1, hW1⟩ : ∃ W1, W1 = w.alloc (.cells #[.int .i64 x.node, .string NM, .slice pa x.attrs.length ca] 63) := ⟨_, rfl⟩
  have b1 : Below w.heap.size w W1 := by rw [hW1]; exact (Below.refl _ w).alloc (Nat.le_refl _) _
  have hx1 : W1.heap[w.heap.size]? = some (.cells #[.int .i64 x.node, .string NM, .slice pa x.attrs.length ca] 63 (0, 0)) := by rw [hW1]; exact heap_alloc_new w _
  have HW1 := Lib.hid hW1
  have h1 := h.below b1
  have HH := Lib.hid (mhasP S B M W1 i h1)
  have HM := Lib.hid (h1.mono (L := New M w) fun b _ k => .inl k)
  have HB1 := Lib.hid b1
  by_cases c : mHas S i = true
  · have hc : 0 ≤ i ∧ i < S.length := by unfold mHas at c; simpa using c
    have HS : Hid (mSetS S i x = S.set i.toNat x) := Lib.hid (if_pos c)
    rw [HS.out, c]
    rw [c] at HH
    obtain ⟨k, hk⟩ : ∃ k : Nat, k = i.toNat := ⟨_, rfl⟩
    rw [← hk]
    obtain rfl : i = (k : Int) := by omega
    obtain ⟨v, qs, rfl, hq⟩ := id h1
    rw [List.length_map] at hc hs
    rcases hq.form with ⟨rfl, rfl⟩ | ⟨g, cap, rfl⟩
    · exact absurd hc.2 (by simp)
    have HQ := Lib.hid hq
    have d1 : Below W1.heap.size W1 W1.drew := (Below.refl _ _).drew
    have c0 := (hq.below d1).cell
    have s0 := (hq.below d1).lt
    have y0 := (block_cell ((d1.block _ (heap_lt hx1)).trans hx1) 0).1
    have y1 := (block_cell ((d1.block _ (heap_lt hx1)).trans hx1) 1).1
    have y2 := (block_cell ((d1.block _ (heap_lt hx1)).trans hx1) 2).1
    simp at y0 y1 y2
    have HC : Hid (∀ W, Below W1.heap.size W1 W → Calls Try.prog 93 #[.agg #[.int .i64 x.node, .string NM, .slice pa x.attrs.length ca]] W (CopyN x NM W)) := Lib.hid fun W b => mcopiedN x NM HNM.out P pa ca W ((ha.kept (.of_below b1)).kept (.of_below b)) hx
    have HE : Hid (∀ W6 : World, Below W1.heap.size W1 W6 → _) := Lib.hid fun W6 b => HQ.out.cells_at k (by omega) b
    have j0 : (0 : Int) ≤ (k : Int) := by omega
    have j1 : (k : Int) < (qs.length : Int) := by omega
    clear h h1 hq hW1 hx1 c hk ha b1 hNM HM HS
    go_enter Try.func34, Try.ntmps34
    go_wp2_with fail
    rw [← HW1.out]
    refine HH.out.mono ?_
    rintro e w1 ⟨rfl, rfl⟩
    go_wp2_with fail
    go_region_with (go_at_call 93; refine (HC.out _ d1).mono ?_; rintro e W6 ⟨p6, c6, rfl, ha6, hb6⟩; obtain ⟨uk, us, uv, e0, e1, e2, e3, e4, e5, e6, e7, e8⟩ := HE.out W6 (d1.trans hb6); have HA6 := Lib.hid ha6; have HB6 := Lib.hid hb6; clear ha6 hb6)
    all_goals
      go_wp2_with fail
      go_ret
      have HEND := (MarkQ.set_end (i := k) (q := (x, .slice p6 x.attrs.length c6)) (by omega) HQ.out HB1.out (d1.trans HB6.out) (HA6.out.mono fun b k _ => k))
      rw [← HNM.out] at HEND
      exact ⟨rfl, HEND.1, HEND.2⟩
  · have c' : mHas S i = false := by simpa using c
    have HS : Hid (mSetS S i x = S) := Lib.hid (if_neg c)
    rw [HS.out, c']
    rw [c'] at HH
    clear h h1 hW1 hx1 c c' ha b1 hNM
    go_enter Try.func34, Try.ntmps34
    go_wp2_with fail
    rw [← HW1.out]
    refine HH.out.mono ?_
    rintro e w1 ⟨rfl, rfl⟩
    go_wp2_with fail
    go_ret
    exact ⟨rfl, HM.out, Turns.of_below HB1.out⟩

/-- What At tells. -/
def AtM (S : List MK) (i : Int) (w : World) (e : Ending) (w' : World) : Prop :=
  (mHas S i = false ∧ e = .returned (.tuple #[markV mZero (.slice none 0 0), .bool false]) ∨
    mHas S i = true ∧ ∃ p c, e = .returned (.tuple #[markV (S.getD i.toNat mZero) (.slice p (S.getD i.toNat mZero).attrs.length c), .bool true]) ∧ AttrsP (fun b => w.heap.size ≤ b) w' (.slice p (S.getD i.toNat mZero).attrs.length c) (S.getD i.toNat mZero).attrs) ∧ Below w.heap.size w w'
set_option maxHeartbeats 1000000 in
set_option maxRecDepth 100000 in
theorem matP (S : List MK) (B : Nat) (M : Nat → Prop) (w : World) (i : Int) (h : MarksM M w B S) (hs : S.length ≤ 4294967296) (hx : ∀ x ∈ S, x.attrs.length ≤ 4294967296) :
    Calls Try.prog 98 #[.pointer (some ⟨B, 0, none⟩), .int .i64 i] w (AtM S i w) := by
  obtain ⟨W1, hW1⟩ : ∃ W1, W1 = w.alloc (.cells #[.int .i64 0, .string ⟨#[]⟩, .slice none 0 0] 63) := ⟨_, rfl⟩
  have b1 : Below w.heap.size w W1 := by rw [hW1]; exact (Below.refl _ w).alloc (Nat.le_refl _) _
  have hx1 : W1.heap[w.heap.size]? = some (.cells #[.int .i64 0, .string ⟨#[]⟩, .slice none 0 0] 63 (0, 0)) := by rw [hW1]; exact heap_alloc_new w _
  have HW1 := Lib.hid hW1
  have h1 := h.below b1
  have HH := Lib.hid (mhasP S B M W1 i h1)
  have HB1 := Lib.hid b1
  have HX1 := Lib.hid hx1
  have y0 := (block_cell hx1 0).1
  have y1 := (block_cell hx1 1).1
  have y2 := (block_cell hx1 2).1
  have z0 := (block_cell hx1 0).2
  have z1 := (block_cell hx1 1).2
  have z2 := (block_cell hx1 2).2
  simp at y0 y1 y2
  have ys := heap_lt hx1
  by_cases c : mHas S i = true
  · have hc : 0 ≤ i ∧ i < S.length := by unfold mHas at c; simpa using c
    have HMH := Lib.hid c
    rw [c] at HH
    obtain ⟨k, hk⟩ : ∃ k : Nat, k = i.toNat := ⟨_, rfl⟩
    obtain rfl : i = (k : Int) := by omega
    obtain ⟨v, qs, rfl, hq⟩ := id h1
    rw [List.length_map] at hc hs
    rcases hq.form with ⟨rfl, rfl⟩ | ⟨g, cap, rfl⟩
    · exact absurd hc.2 (by simp)
    have hkl : k < qs.length := by omega
    have HQ := Lib.hid hq
    have c0 := hq.cell
    have s0 := hq.lt
    have sg := (hq.row.lt g rfl).2
    have r0 := hq.at k 0 hkl (by omega)
    have r1 := hq.at k 1 hkl (by omega)
    have r2 := hq.at k 2 hkl (by omega)
    have hat := hq.attrs qs[k] (List.getElem_mem hkl)
    have hxk := hx qs[k].1 (List.mem_map_of_mem (List.getElem_mem hkl))
    have HGD : Hid ((qs.map (·.1)).getD ((k : Int)).toNat mZero = qs[k].1) := Lib.hid (by rw [show ((k : Int)).toNat = k by omega, getD_at (by simpa using hkl)]; simp)
    obtain ⟨x, hxx⟩ : ∃ x, x = qs[k].1 := ⟨_, rfl⟩
    obtain ⟨va, hva⟩ : ∃ va, va = qs[k].2 := ⟨_, rfl⟩
    rw [← hxx] at hat hxk HGD
    rw [← hva] at hat
    obtain ⟨pa, ca, rfl, hat2⟩ := id hat
    rw [show (mkCell qs[k])[0]? = some (.int .i64 x.node) by rw [hxx]; rfl] at r0
    rw [show (mkCell qs[k])[1]? = some (.string ⟨x.name.toArray⟩) by rw [hxx]; rfl] at r1
    rw [show (mkCell qs[k])[2]? = some (.slice pa x.attrs.length ca) by rw [hva]; rfl] at r2
    obtain ⟨NM, hNM⟩ : ∃ NM : ByteArray, NM = (⟨x.name.toArray⟩ : ByteArray) := ⟨_, rfl⟩
    rw [← hNM] at r1
    have HNM := Lib.hid hNM
    have HC : Hid (Calls Try.prog 93 #[.agg #[.int .i64 x.node, .string NM, .slice pa x.attrs.length ca]] W1 (CopyN x NM W1)) := Lib.hid (mcopiedN x NM hNM _ pa ca W1 hat hxk)
    have j0 : (0 : Int) ≤ (k : Int) := by omega
    have j1 : (k : Int) < (qs.length : Int) := by omega
    rw [Nat.add_zero] at r0
    clear h h1 hq hW1 hx1 c hk b1 hat hat2 hx hxx hva hNM y0 y1 y2 z0 z1 z2
    go_enter Try.func98, Try.ntmps98
    go_wp2_with fail
    rw [← HW1.out]
    refine HH.out.mono ?_
    rintro e w1 ⟨rfl, rfl⟩
    go_wp2_with fail
    refine HC.out.mono ?_
    rintro e W6 ⟨p6, c6, rfl, ha6, hb6⟩
    have HA6 := Lib.hid ha6
    have HB6 := Lib.hid hb6
    have hx6 := (hb6.block _ ys).trans HX1.out
    have HX6 := Lib.hid hx6
    have y0 := (block_cell hx6 0).1
    have y1 := (block_cell hx6 1).1
    have y2 := (block_cell hx6 2).1
    have z0 := (block_cell hx6 0).2
    have z1 := (block_cell hx6 1).2
    have z2 := (block_cell hx6 2).2
    simp at y0 y1 y2
    have y6 := heap_lt hx6
    clear hx6 ha6 hb6
    go_wp2_with fail
    have hb4 := set3 (w3 := W6) (g := w.heap.size) (.int .i64 x.node) (.string NM) (.slice p6 x.attrs.length c6) HX6.out
    have q0 := (block_cell hb4 0).1
    have q1 := (block_cell hb4 1).1
    have q2 := (block_cell hb4 2).1
    simp at q0 q1 q2
    have HEND : AtM (qs.map (·.1)) (k : Int) w (.returned (.tuple #[.agg #[.int .i64 x.node, .string NM, .slice p6 x.attrs.length c6], .bool true])) (((W6.setCell ⟨w.heap.size, 0, none⟩ (.int .i64 x.node)).setCell ⟨w.heap.size, 1, none⟩ (.string NM)).setCell ⟨w.heap.size, 2, none⟩ (.slice p6 x.attrs.length c6)) := by
      refine ⟨.inr ⟨HMH.out, p6, c6, ?_, ?_⟩, ?_⟩
      · rw [HGD.out, HNM.out]; rfl
      · rw [HGD.out]
        refine (HA6.out.kept ⟨by simp, fun b q _ => ?_⟩).mono (fun b k _ => by have := HB1.out.size; omega)
        rw [heap_setCell_other _ _ _ _ (by show b ≠ w.heap.size; omega), heap_setCell_other _ _ _ _ (by show b ≠ w.heap.size; omega), heap_setCell_other _ _ _ _ (by show b ≠ w.heap.size; omega)]
      · iterate 3 refine Below.setCell ?_ (by simp) _
        exact HB1.out.trans (HB6.out.mono HB1.out.size)
    have HE := Lib.hid HEND
    clear HEND
    refine bodyPost_ret (v := .tuple #[.agg #[.int .i64 x.node, .string NM, .slice p6 x.attrs.length c6], .bool true]) (by simp [results, Try.results98, go_sem, *]) rfl HE.out
  · have c' : mHas S i = false := by simpa using c
    have HC := Lib.hid c'
    rw [c'] at HH
    clear h h1 hW1 hx1 c c' b1
    go_enter Try.func98, Try.ntmps98
    go_wp2_with fail
    rw [← HW1.out]
    refine HH.out.mono ?_
    rintro e w1 ⟨rfl, rfl⟩
    go_wp2_with fail
    have hb4 := set3 (w3 := W1) (g := w.heap.size) (.int .i64 0) (.string ⟨#[]⟩) (.slice none 0 0) HX1.out
    have q0 := (block_cell hb4 0).1
    have q1 := (block_cell hb4 1).1
    have q2 := (block_cell hb4 2).1
    simp at q0 q1 q2
    refine bodyPost_ret (v := .tuple #[.agg #[.int .i64 0, .string ⟨#[]⟩, .slice none 0 0], .bool false]) (by simp [results, Try.results98, go_sem, *]) rfl ⟨.inl ⟨HC.out, rfl⟩, ?_⟩
    iterate 3 refine Below.setCell ?_ (by simp) _
    exact HB1.out
end Go.Proofs.Ytbadckkcjjfnoaa
