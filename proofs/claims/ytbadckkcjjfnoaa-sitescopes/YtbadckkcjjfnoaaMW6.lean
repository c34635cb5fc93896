/-
  The walk of the program's insert. Any marks, not too many.
-/
import Derived.Test.YtbadckkcjjfnoaaMW5
namespace Go.Proofs.Ytbadckkcjjfnoaa
open Go.RowKit

def mIns (S : List MK) (i : Nat) (x : MK) : List MK := S.take i ++ x :: S.drop i
/-- What copied tells, the name by itself. -/
def CopyN (x : MK) (NM : ByteArray) (w : World) (e : Ending) (w' : World) : Prop := ∃ p c, e = .returned (.agg #[.int .i64 x.node, .string NM, .slice p x.attrs.length c]) ∧ AttrsP (fun b => w.heap.size ≤ b) w' (.slice p x.attrs.length c) x.attrs ∧ Below w.heap.size w w'
theorem mcopiedN (x : MK) (NM : ByteArray) (hNM : NM = ⟨x.name.toArray⟩) (P : Nat → Prop) (pa : Option Addr) (ca : Nat) (w : World) (ha : AttrsP P w (.slice pa x.attrs.length ca) x.attrs) (hs : x.attrs.length ≤ 4294967296) : Calls Try.prog 93 #[.agg #[.int .i64 x.node, .string NM, .slice pa x.attrs.length ca]] w (CopyN x NM w) := by
  subst hNM
  exact mcopiedP x P pa ca w ha hs
theorem MarkQ.shift {M : Nat → Prop} {w : World} {B g n cap : Nat} {rs : List (MK × Value)} (h : MarkQ M w B (.slice (some ⟨g, 0, none⟩) n cap) rs) (i : Nat) (hi : i + 1 ≤ rs.length) (cs : List Value) (hcs : cs = mkCells ((rs.drop i).take (rs.length - (i + 1)))) :
    ∃ cur, w.heap[g]? = some (.cells cur 63 (0, 0)) ∧ cs.length = (rs.length - (i + 1)) * 3 ∧ (i + 1) * 3 + cs.length ≤ cur.size ∧ rs.length ≤ cap ∧ (∀ j v, cs[j]? = some v → w.cell? ((⟨g, i * 3, none⟩ : Addr).add j) = some v) ∧ (∀ v ∈ cs, v.oneCell' = true) ∧
      MarkQ M (w.setRow g (cur.toList.take ((i + 1) * 3) ++ (cs ++ cur.toList.drop ((i + 1) * 3 + cs.length))).toArray) B (.slice (some ⟨g, 0, none⟩) n cap) (rs.take (i + 1) ++ (rs.drop i).take (rs.length - (i + 1))) ∧ Turns M w (w.setRow g (cur.toList.take ((i + 1) * 3) ++ (cs ++ cur.toList.drop ((i + 1) * 3 + cs.length))).toArray) := by
  obtain ⟨hn, cur, hg, h1, h2, h3, h4⟩ := h.row_at
  have hl : cs.length = (rs.length - (i + 1)) * 3 := by rw [hcs, mkCells_len, List.length_take, List.length_drop]; congr 1; omega
  have hc1 : cur.toList.length = cap * 3 := by rw [Array.length_toList]; exact h3
  have hmem : ∀ q ∈ rs.take (i + 1) ++ (rs.drop i).take (rs.length - (i + 1)), q ∈ rs := by
    intro q hm
    rcases List.mem_append.1 hm with hm | hm
    · exact List.mem_of_mem_take hm
    · exact List.mem_of_mem_drop (List.mem_of_mem_take hm)
  have hlist : (rs.take (i + 1) ++ (rs.drop i).take (rs.length - (i + 1))).length = n := by simp; omega
  refine ⟨cur, hg, hl, by omega, h1, ?_, ?_, ?_⟩
  · intro j v hv
    refine h.from i j v ?_
    have e : mkCells (rs.drop i) = cs ++ mkCells ((rs.drop i).drop (rs.length - (i + 1))) := by rw [hcs, ← mkCells_app, List.take_append_drop]
    rw [e, List.getElem?_append_left (lt_of_some hv)]
    exact hv
  · rw [hcs]
    exact mkCells_one _ (fun q hm => h.ones q (List.mem_of_mem_drop (List.mem_of_mem_take hm)))
  · refine h.relaid_same _ _ ?_ hlist ?_ (fun q hm => h.attrs_at q (hmem q hm))
    · rw [List.size_toArray, List.length_append, List.length_append, List.length_take, List.length_drop, hc1, hl]
      omega
    · have e1 : cur.toList.take ((i + 1) * 3) = mkCells (rs.take (i + 1)) := by rw [← mkCells_take, ← h4, List.take_take, Nat.min_eq_left (by omega)]
      have e3 : (mkCells (rs.take (i + 1)) ++ cs).length = n * 3 := by rw [List.length_append, mkCells_len, List.length_take, hl]; omega
      rw [hlist, List.toList_toArray, ← List.append_assoc, e1, mkCells_app, ← hcs, List.take_append_of_le_length (by omega), List.take_of_length_le (by omega)]
theorem shift_set (qs : List (MK × Value)) (z q : MK × Value) (i : Nat) (hi : i ≤ qs.length) : ((((qs ++ [z]).take (i + 1) ++ ((qs ++ [z]).drop i).take ((qs ++ [z]).length - (i + 1))).set i q).map (·.1)) = mIns (qs.map (·.1)) i q.1 := by
  have e1 : ((qs ++ [z]).take (i + 1) ++ ((qs ++ [z]).drop i).take ((qs ++ [z]).length - (i + 1))).set i q = qs.take i ++ q :: qs.drop i := by
    have e2 : ((qs ++ [z]).drop i).take ((qs ++ [z]).length - (i + 1)) = qs.drop i := by
      rw [List.drop_append_of_le_length hi, List.take_append_of_le_length (by simp), List.take_of_length_le (by simp)]
    have e4 : (qs ++ [z]).take (i + 1) = qs.take i ++ [(qs ++ [z])[i]'(by simp; omega)] := by
      rw [List.take_succ_eq_append_getElem (by simp; omega), List.take_append_of_le_length hi]
    rw [e2, e4, List.append_assoc, List.set_append_right _ _ (by simp; omega)]
    simp [Nat.min_eq_left hi]
  rw [e1]
  simp [mIns]
/-- What stands behind the append. -/
theorem MarkQ.room {M : Nat → Prop} {w WA W3 : World} {B g cp cap : Nat} {p : Option Addr} {o : Obj} {qs : List (MK × Value)} (hq : MarkQ M w B (.slice p qs.length cap) qs) (bA : Below w.heap.size w WA) (sA : WA.heap.size = w.heap.size + 2) (hX : WA.heap[w.heap.size]? = some o)
    (hg3 : WA.grownBy W3 (Value.slice p qs.length cap).ownBlock) (hr3 : W3.ownsRow 0 63 3 (.slice (some ⟨g, 0, none⟩) (qs.length + 1) cp) (qs.length + 1) (mkCells qs ++ [.int .i64 0, .string ⟨#[]⟩, .slice none 0 0])) (hor : (Value.slice p qs.length cap).ownBlock = some g ∨ g = w.heap.size + 2) :
    W3.cell? ⟨B, 0, none⟩ = some (.slice p qs.length cap) ∧ W3.frozen? ⟨B, 0, none⟩ = false ∧ B < W3.heap.size ∧ (MarkQ (New M WA) (W3.setCell ⟨B, 0, none⟩ (.slice (some ⟨g, 0, none⟩) (qs.length + 1) cp)) B (.slice (some ⟨g, 0, none⟩) (qs.length + 1) cp) (qs ++ [(mZero, (Value.slice none 0 0 : Value))]) ∧ Turns M WA (W3.setCell ⟨B, 0, none⟩ (.slice (some ⟨g, 0, none⟩) (qs.length + 1) cp))) ∧
      W3.heap[w.heap.size]? = some o ∧ g ≠ w.heap.size := by
  have hB := hq.lt
  have fb : some B ≠ (Value.slice p qs.length cap).ownBlock := fun e => (hq.rowM B e.symm).2 rfl
  have hBA : B < WA.heap.size := by omega
  have hlt : ∀ g', (Value.slice p qs.length cap).ownBlock = some g' → g' < w.heap.size := fun g' e => (hq.row.lt g' e).2
  refine ⟨?_, ?_, ?_, ?_, ?_, ?_⟩
  · exact (hg3.cell_far ⟨B, 0, none⟩ hBA fb).trans ((bA.cell (p := ⟨B, 0, none⟩) hB).trans hq.cell)
  · exact (hg3.frozen_far ⟨B, 0, none⟩ hBA fb).trans ((bA.frozen (p := ⟨B, 0, none⟩) hB).trans hq.free)
  · have := hg3.size
    omega
  · refine MarkQ.add (q := (mZero, (Value.slice none 0 0 : Value))) (hq.below bA) (fun W => AttrsP.nil _ _ _ _) hg3 hr3 ?_
    intro g' e
    injection e with e
    subst e
    exact hor.imp id (fun k => by show _ ≤ g; omega)
  · refine (hg3.block w.heap.size (by omega) (fun e => ?_)).trans hX
    exact absurd (hlt _ e.symm) (by omega)
  · rintro rfl
    exact hor.elim (fun e => absurd (hlt _ e) (by omega)) (fun e => by omega)
theorem MarkQ.cells_at {M : Nat → Prop} {w w' : World} {B g n cap : Nat} {rs : List (MK × Value)} (h : MarkQ M w B (.slice (some ⟨g, 0, none⟩) n cap) rs) (i : Nat) (hi : i < rs.length) (b : Below w.heap.size w w') :
    ∃ (k : Int) (s : ByteArray) (u : Value), w'.cell? ⟨B, 0, none⟩ = some (.slice (some ⟨g, 0, none⟩) n cap) ∧ B < w'.heap.size ∧ g < w'.heap.size ∧ w'.cell? ⟨g, i * 3, none⟩ = some (.int .i64 k) ∧ w'.cell? ⟨g, i * 3 + 1, none⟩ = some (.string s) ∧ w'.cell? ⟨g, i * 3 + 2, none⟩ = some u ∧
      w'.frozen? ⟨g, i * 3, none⟩ = false ∧ w'.frozen? ⟨g, i * 3 + 1, none⟩ = false ∧ w'.frozen? ⟨g, i * 3 + 2, none⟩ = false := by
  have h' := h.below b
  obtain ⟨_, cur, hg, _⟩ := h'.row_at
  have f := fun i => (block_cell hg i).2
  exact ⟨_, _, _, h'.cell, h'.lt, heap_lt hg, h'.at i 0 hi (by omega), h'.at i 1 hi (by omega), h'.at i 2 hi (by omega), f _, f _, f _⟩
theorem MarkQ.insert_end {M : Nat → Prop} {w WA W5 W6 : World} {B g n cp : Nat} {qs : List (MK × Value)} {i : Nat} {q : MK × Value} (hi : i ≤ qs.length) (hq5 : MarkQ (New M WA) W5 B (.slice (some ⟨g, 0, none⟩) n cp) ((qs ++ [(mZero, (Value.slice none 0 0 : Value))]).take (i + 1) ++ ((qs ++ [(mZero, (Value.slice none 0 0 : Value))]).drop i).take ((qs ++ [(mZero, (Value.slice none 0 0 : Value))]).length - (i + 1))))
    (ht5 : Turns M WA W5) (bA : Below w.heap.size w WA) (hb6 : Below W5.heap.size W5 W6) (ha6 : AttrsP (fun b => W5.heap.size ≤ b) W6 q.2 q.1.attrs) :
    MarksM (New M w) (((W6.setCell ⟨g, i * 3, none⟩ (.int .i64 q.1.node)).setCell ⟨g, i * 3 + 1, none⟩ (.string ⟨q.1.name.toArray⟩)).setCell ⟨g, i * 3 + 2, none⟩ q.2) B (mIns (qs.map (·.1)) i q.1) ∧ Turns M w (((W6.setCell ⟨g, i * 3, none⟩ (.int .i64 q.1.node)).setCell ⟨g, i * 3 + 1, none⟩ (.string ⟨q.1.name.toArray⟩)).setCell ⟨g, i * 3 + 2, none⟩ q.2) := by
  have hg := (hq5.row.lt g rfl).2
  have hB := hq5.lt
  have h6 : MarkQ (New (New M WA) W5) W6 B _ _ := (hq5.below hb6).mono (fun b _ k => .inl k)
  obtain ⟨r1, r2⟩ := h6.setq i (by simp; omega) q (ha6.mono (fun b k _ => ⟨.inr k, by omega, by omega⟩))
  have z1 := bA.size
  have z5 := ht5.size
  have hm : ∀ b, New (New M WA) W5 b → New M w b := by
    rintro b ((k | k) | k)
    · exact .inl k
    · exact .inr (by omega)
    · exact .inr (by omega)
  exact ⟨⟨_, _, shift_set qs _ q i hi, r1.mono fun b _ k => hm b k⟩, (Turns.of_below (M := M) bA).trans ((ht5.mono fun b _ k => .inl k).trans (((Turns.of_below hb6).trans (r2.mono fun b _ k => .inl k)).mono fun b _ k => .inl (hm b k)))⟩
set_option maxHeartbeats 1000000 in
set_option maxRecDepth 100000 in
theorem minsertP (S : List MK) (B : Nat) (M P : Nat → Prop) (w : World) (i : Nat) (x : MK) (pa : Option Addr) (ca : Nat) (h : MarksM M w B S) (hi : i ≤ S.length) (hs : S.length ≤ 4294967296) (ha : AttrsP P w (.slice pa x.attrs.length ca) x.attrs) (hP : ∀ b, P b → ¬ M b) (hx : x.attrs.length ≤ 4294967296) :
    Calls Try.prog 87 #[.pointer (some ⟨B, 0, none⟩), .int .i64 (i : Int), markV x (.slice pa x.attrs.length ca)] w (fun e w' => e = .returned (.tuple #[]) ∧ MarksM (New M w) w' B (mIns S i x) ∧ Turns M w w') := by
  obtain ⟨v, qs, rfl, hq⟩ := h
  obtain ⟨p, cap, rfl, _⟩ := hq.reads
  rw [List.length_map] at hi hs
  have h0 := hq.cell
  have hB := hq.lt
  have hf := hq.free
  have HQ := Lib.hid hq
  have HA := Lib.hid ha
  have HP := Lib.hid hP
  obtain ⟨i0, hi0, hz0, hz1, hz2⟩ := info_mark
  have HI := Lib.hid (And.intro hi0 (And.intro hz0 (And.intro hz1 hz2)))
  have fb : some B ≠ (Value.slice p qs.length cap).ownBlock := fun e => (hq.rowM B e.symm).2 rfl
  clear hi0 hz0 hz1 hz2 hq ha hP
  unfold markV
  obtain ⟨NM, hNM⟩ : ∃ NM : ByteArray, NM = (⟨x.name.toArray⟩ : ByteArray) := ⟨_, rfl⟩
  rw [← hNM]
  have HNM := Lib.hid hNM
  clear hNM
  obtain ⟨WA, hWA⟩ : ∃ WA, WA = (w.alloc (.cells #[.int .i64 x.node, .string NM, .slice pa x.attrs.length ca] 63)).alloc (.cells #[.int .i64 0, .string ⟨#[]⟩, .slice none 0 0] 63) := ⟨_, rfl⟩
  have bA : Below w.heap.size w WA := by rw [hWA]; exact ((Below.refl _ w).alloc (Nat.le_refl _) _).alloc (by simp) _
  have szA : WA.heap.size = w.heap.size + 2 := by rw [hWA]; simp
  have hhA : WA.heap[w.heap.size]? = some (.cells #[.int .i64 x.node, .string NM, .slice pa x.attrs.length ca] 63 (0, 0)) := by
    rw [hWA, ((Below.refl _ (w.alloc (.cells #[.int .i64 x.node, .string NM, .slice pa x.attrs.length ca] 63))).alloc (Nat.le_refl _) (.cells #[.int .i64 0, .string ⟨#[]⟩, .slice none 0 0] 63)).block w.heap.size (by simp)]
    exact heap_alloc_new w _
  have hhZ : WA.heap[w.heap.size + 1]? = some (.cells #[.int .i64 0, .string ⟨#[]⟩, .slice none 0 0] 63 (0, 0)) := by
    rw [hWA]
    have := heap_alloc_new (w.alloc (.cells #[.int .i64 x.node, .string NM, .slice pa x.attrs.length ca] 63)) (.cells #[.int .i64 0, .string ⟨#[]⟩, .slice none 0 0] 63)
    simpa using this
  have HW := Lib.hid (And.intro bA (And.intro szA (And.intro hhA hhZ)))
  have HWA := Lib.hid hWA
  have HQA := Lib.hid (HQ.out.below bA)
  clear hWA bA szA hhA hhZ
  go_enter Try.func87, Try.ntmps87
  go_wp2_with (first
    | (at_builtin; (rw [← HWA.out]; refine wpList_append_lies _ rfl _ _ 102 rfl 0 63 i0 (.agg #[.int .i64 0, .string ByteArray.empty, .slice none 0 0]) 3 48 Try.underlying102 HI.out.1 HI.out.2.1 HI.out.2.2.1 HI.out.2.2.2 rfl (by omega) (.slice p qs.length cap) qs.length (mkCells qs) rfl HQA.out.row ⟨w.heap.size + 1, 0, none⟩ 1 1 [.int .i64 0, .string ⟨#[]⟩, .slice none 0 0] rfl rfl (World.news_of_block (cs := #[.int .i64 0, .string ⟨#[]⟩, .slice none 0 0]) HW.out.2.2.2) (by simp [Value.oneCell']) (by omega) (by unfold maxLen; omega) (by omega) (by omega) (w.heap.size + 2) HW.out.2.1 ?_; intro g cp W3 hr3 hg3 hor3 hlt3; obtain ⟨k3, f3, s3, hd3, hx3, hn3⟩ := MarkQ.room HQ.out HW.out.1 HW.out.2.1 HW.out.2.2.1 hg3 hr3 hor3; have HD := Lib.hid hd3; have HX3 := Lib.hid hx3; have HN3 := Lib.hid hn3; clear hr3 hg3 hor3 hd3 hx3 hn3))
    | fail)
  obtain ⟨hq4, ht4⟩ := HD.out
  have x4 : (W3.setCell ⟨B, 0, none⟩ (.slice (some ⟨g, 0, none⟩) (qs.length + 1) cp)).heap[w.heap.size]? = some (.cells #[.int .i64 x.node, .string NM, .slice pa x.attrs.length ca] 63 (0, 0)) := by
    rw [heap_setCell_other _ _ _ _ (by show w.heap.size ≠ B; omega)]; exact HX3.out
  clear HD HX3 k3 f3 s3 HWA HQA
  generalize W3.setCell ⟨B, 0, none⟩ (.slice (some ⟨g, 0, none⟩) (qs.length + 1) cp) = W4 at *
  clear hlt3
  have d4 : Below W4.heap.size W4 W4.drew := (Below.refl _ _).drew
  have c4 := (hq4.below d4).cell
  have s4 := (hq4.below d4).lt
  obtain ⟨cs, hcs⟩ : ∃ cs, cs = mkCells (((qs ++ [(mZero, (Value.slice none 0 0 : Value))]).drop i).take ((qs ++ [(mZero, (Value.slice none 0 0 : Value))]).length - (i + 1))) := ⟨_, rfl⟩
  obtain ⟨cur, hg4, hl4, hfit4, hcap4, hrd4, hone4, hq5, ht5⟩ := (hq4.below d4).shift i (by simp; omega) cs hcs
  have c5 := hq5.cell
  have s5 := hq5.lt
  have f5 := hq5.free
  have x5 : (W4.drew.setRow g (cur.toList.take ((i + 1) * 3) ++ (cs ++ cur.toList.drop ((i + 1) * 3 + cs.length))).toArray).heap[w.heap.size]? = some (.cells #[.int .i64 x.node, .string NM, .slice pa x.attrs.length ca] 63 (0, 0)) := by
    rw [setRow_other _ _ _ _ (fun e => HN3.out e.symm), d4.block _ (heap_lt x4)]; exact x4
  have hll : (qs ++ [(mZero, (Value.slice none 0 0 : Value))]).length = qs.length + 1 := by simp
  rw [hll, show qs.length + 1 - (i + 1) = qs.length - i by omega] at hl4
  rw [hll] at hcap4
  have HD5 := Lib.hid (And.intro hq5 (ht4.trans (((Turns.of_below d4).trans (ht5.mono fun b _ k => .inl k)))))
  have HX5 := Lib.hid x5
  have HG4 := Lib.hid hg4
  have HL4 := Lib.hid hl4
  have HR4 := Lib.hid hrd4
  have HO4 := Lib.hid hone4
  have HCS := Lib.hid hcs
  have hic : i ≤ cp := by omega
  have hil : i ≤ qs.length + 1 := by omega
  have hil1 : i + 1 ≤ qs.length + 1 := by omega
  have hz0 : (0 : Int) ≤ (i : Int) + 1 := by omega
  have hw1 : IntKind.i64.wrap ((i : Int) + 1) = ((i + 1 : Nat) : Int) := by rw [IntWalk.i64_in _ (by omega)]; omega
  have hic1 : i + 1 ≤ cp := by omega
  have hne : cp ≠ i := by omega
  have hz4 : (i : Int) < (qs.length : Int) + 1 := by omega
  have hz5 : (0 : Int) ≤ (i : Int) := by omega
  have hz3 : (i : Int) ≤ (qs.length : Int) + 1 := by omega
  have HMIN : Hid (qs.length - i = Nat.min (qs.length + 1 - i) (qs.length - i)) := Lib.hid (Nat.min_eq_right (by omega)).symm
  clear hq5 ht5 ht4 hq4 x5 hg4 hl4 hrd4 hone4 hcs hll
  rcases Nat.lt_or_ge (i + 1) cp with hlc | hlc
  · have hne2 : cp ≠ i + 1 := by omega
    go_region_law (refine step_copy_rows rfl (.tmp 22) (.tmp 28) 102 102 rfl 63 3 Try.underlying102 size_mark _ _ _ _ _ _ (by rfl) (by rfl) g ((i + 1) * 3) cur 63 HG4.out cs (qs.length - i) HMIN.out HL4.out (fun _ => ⟨rfl, _, rfl, HR4.out⟩) hfit4 HO4.out ?_)
    all_goals
      obtain ⟨hq5, ht5⟩ := HD5.out
      have x5 := HX5.out
      clear HD5 HX5 HG4 HL4 HR4 HO4 HMIN c4 s4
      generalize W4.drew.setRow g (cur.toList.take ((i + 1) * 3) ++ (cs ++ cur.toList.drop ((i + 1) * 3 + cs.length))).toArray = W5 at *
      have HQ5 := Lib.hid hq5
      have HT5 := Lib.hid ht5
      have HX5 := Lib.hid x5
      have HA5 : Hid (AttrsP P W5 (.slice pa x.attrs.length ca) x.attrs) := Lib.hid ((HA.out.kept (.of_below HW.out.1)).kept (ht5.kept fun b _ k => HP.out b k))
      have d5 : Below W5.heap.size W5 W5.drew := (Below.refl _ _).drew
      have c5 := (hq5.below d5).cell
      have s5 := (hq5.below d5).lt
      have y0 := (block_cell ((d5.block _ (heap_lt x5)).trans x5) 0).1
      have y1 := (block_cell ((d5.block _ (heap_lt x5)).trans x5) 1).1
      have y2 := (block_cell ((d5.block _ (heap_lt x5)).trans x5) 2).1
      simp at y0 y1 y2
      have HC : Hid (∀ W, Below W5.heap.size W5 W → Calls Try.prog 93 #[.agg #[.int .i64 x.node, .string NM, .slice pa x.attrs.length ca]] W (CopyN x NM W)) := Lib.hid fun W b => mcopiedN x NM HNM.out P pa ca W (HA5.out.kept (.of_below b)) hx
      clear hq5 ht5 x5 HA
      have HE : Hid (∀ W6 : World, Below W5.heap.size W5 W6 → _) := Lib.hid fun W6 b => HQ5.out.cells_at i (by simp; omega) b
      go_wp2_with fail
      go_region_with (go_at_call 93; refine (HC.out _ d5).mono ?_; rintro e W6 ⟨p6, c6, rfl, ha6, hb6⟩; obtain ⟨uk, us, uv, e0, e1, e2, e3, e4, e5, e6, e7, e8⟩ := HE.out W6 (d5.trans hb6); have HA6 := Lib.hid ha6; have HB6 := Lib.hid hb6; clear ha6 hb6)
      all_goals
        go_wp2_with fail
        have HEND := (MarkQ.insert_end (q := (x, .slice p6 x.attrs.length c6)) (by omega) HQ5.out HT5.out HW.out.1 (d5.trans HB6.out) (HA6.out.mono fun b k _ => k))
        rw [← HNM.out] at HEND
        exact bodyPost_end (results_none rfl _ _ _) rfl ⟨rfl, HEND.1, HEND.2⟩
  · obtain rfl : cp = i + 1 := by omega
    have HMN : Hid (0 = Nat.min (qs.length + 1 - i) 0) := Lib.hid (Nat.min_eq_right (Nat.zero_le _)).symm
    have HM0 : Hid (cs.length = 0 * 3) := Lib.hid (by have := HL4.out; omega)
    go_region_law (refine step_copy_rows rfl (.tmp 22) (.tmp 28) 102 102 rfl 63 3 Try.underlying102 size_mark _ _ _ _ _ _ (by rfl) (by rfl) g ((i + 1) * 3) cur 63 HG4.out cs 0 HMN.out HM0.out (fun q => absurd q (by omega)) hfit4 HO4.out ?_)
    all_goals
      obtain ⟨hq5, ht5⟩ := HD5.out
      have x5 := HX5.out
      clear HD5 HX5 HG4 HL4 HR4 HO4 HMIN HMN HM0 c4 s4
      generalize W4.drew.setRow g (cur.toList.take ((i + 1) * 3) ++ (cs ++ cur.toList.drop ((i + 1) * 3 + cs.length))).toArray = W5 at *
      have HQ5 := Lib.hid hq5
      have HT5 := Lib.hid ht5
      have HX5 := Lib.hid x5
      have HA5 : Hid (AttrsP P W5 (.slice pa x.attrs.length ca) x.attrs) := Lib.hid ((HA.out.kept (.of_below HW.out.1)).kept (ht5.kept fun b _ k => HP.out b k))
      have d5 : Below W5.heap.size W5 W5.drew := (Below.refl _ _).drew
      have c5 := (hq5.below d5).cell
      have s5 := (hq5.below d5).lt
      have y0 := (block_cell ((d5.block _ (heap_lt x5)).trans x5) 0).1
      have y1 := (block_cell ((d5.block _ (heap_lt x5)).trans x5) 1).1
      have y2 := (block_cell ((d5.block _ (heap_lt x5)).trans x5) 2).1
      simp at y0 y1 y2
      have HC : Hid (∀ W, Below W5.heap.size W5 W → Calls Try.prog 93 #[.agg #[.int .i64 x.node, .string NM, .slice pa x.attrs.length ca]] W (CopyN x NM W)) := Lib.hid fun W b => mcopiedN x NM HNM.out P pa ca W (HA5.out.kept (.of_below b)) hx
      clear hq5 ht5 x5 HA
      have HE : Hid (∀ W6 : World, Below W5.heap.size W5 W6 → _) := Lib.hid fun W6 b => HQ5.out.cells_at i (by simp; omega) b
      go_wp2_with fail
      go_region_with (go_at_call 93; refine (HC.out _ d5).mono ?_; rintro e W6 ⟨p6, c6, rfl, ha6, hb6⟩; obtain ⟨uk, us, uv, e0, e1, e2, e3, e4, e5, e6, e7, e8⟩ := HE.out W6 (d5.trans hb6); have HA6 := Lib.hid ha6; have HB6 := Lib.hid hb6; clear ha6 hb6)
      all_goals
        go_wp2_with fail
        have HEND := (MarkQ.insert_end (q := (x, .slice p6 x.attrs.length c6)) (by omega) HQ5.out HT5.out HW.out.1 (d5.trans HB6.out) (HA6.out.mono fun b k _ => k))
        rw [← HNM.out] at HEND
        exact bodyPost_end (results_none rfl _ _ _) rfl ⟨rfl, HEND.1, HEND.2⟩
end Go.Proofs.Ytbadckkcjjfnoaa
