/-
  A mark more, a mark set: what they leave in memory. No program is walked.
  The walk of the program's insert. Any marks, not too many.
  The walks of the program's Set, At, All. Any marks, not too many.
  The walks of the program's Wall, Drop, Put. Any marks, not too many.
  The walks of the program's Find, Of, Clear. Any marks, not too many.
  The walks of the program's Index, Contains, same, alike. Any attributes, not too many.
  The walks of the program's alike, Push. Any marks, not too many.
  The walk of the program's All. Any marks, not too many.
  Rows of marks beside Marks; the walk of the reference's Same for marks. Any rows, not too many.
  Marks behind calls; the walks of the laws' known, within, Name, Attrs (chapter 7).
  The walks of the laws' own, without what chapters 1 to 4 need: within, a tape of numbers. Any slice of numbers.
  The walks of the laws' Name, Attrs (chapter 7).
-/
import Derived.Test.YtmhjfbdldpehdaaMW4
import Derived.Test.YtmhjfbdldpehdaaMSame
import Derived.StillTailTactics
import Derived.Test.YtmhjfbdldpehdaaDTape
import Derived.Test.YtmhjfbdldpehdaaMMem
namespace Go.Proofs.Ytmhjfbdldpehdaa
open Go.RowKit

/-- One mark more behind the others. -/
theorem MarkQ.add {M : Nat → Prop} {w w1 : World} {B : Nat} {v v1 : Value} {qs : List (MK × Value)} {q : MK × Value} (h : MarkQ M w B v qs) (ha : ∀ W, AttrsP (fun _ => False) W q.2 q.1.attrs)
    (hg : w.grownBy w1 v.ownBlock) (hr : w1.ownsRow 0 64 3 v1 (qs.length + 1) (mkCells qs ++ mkCell q)) (hat : ∀ g, v1.ownBlock = some g → v.ownBlock = some g ∨ w.heap.size ≤ g) :
    MarkQ (New M w) (w1.setCell ⟨B, 0, none⟩ v1) B v1 (qs ++ [q]) ∧ Turns M w (w1.setCell ⟨B, 0, none⟩ v1) := by
  have hT : Turns (fun b => some b = v.ownBlock) w w1 := .of_grown hg (fun x e => e.symm)
  have hTM : Turns M w w1 := hT.mono (fun b _ e => (h.rowM b e.symm).1)
  have hT2 : Turns M w (w1.setCell ⟨B, 0, none⟩ v1) := hTM.setCell (.inl h.inM) 0 v1
  have hT3 : Turns (fun b => some b = v.ownBlock ∨ b = B) w (w1.setCell ⟨B, 0, none⟩ v1) := (hT.mono (L := fun b => some b = v.ownBlock ∨ b = B) (fun b _ e => .inl e)).setCell (.inl (.inr rfl)) 0 v1
  have hBv : some B ≠ v.ownBlock := fun e => (h.rowM B e.symm).2 rfl
  have hB1 : w1.heap[B]? = w.heap[B]? := hT.block B h.lt hBv
  have hBv1 : ∀ g, v1.ownBlock = some g → g ≠ B := by
    rintro g e rfl
    rcases hat _ e with h1 | h1
    · exact hBv h1.symm
    · exact absurd h.lt (by omega)
  have hc1 : w1.cell? ⟨B, 0, none⟩ = some v := by rw [World.cell?_of_block (w := w) hB1]; exact h.cell
  have hnew : ∀ g, v1.ownBlock = some g → New M w g := by
    intro g e
    rcases hat g e with h1 | h1
    · exact .inl (h.rowM g h1).1
    · exact .inr h1
  have hv1 : ∀ b, b < w.heap.size → (some b ≠ v.ownBlock) → some b ≠ v1.ownBlock := by
    intro b hb hne e
    rcases hat b e.symm with h1 | h1
    · exact hne h1.symm
    · omega
  refine ⟨⟨.inl h.inM, ?_, ?_, ?_, ?_, fun g e => ⟨hnew g e, hBv1 g e⟩, ?_⟩, hT2⟩
  · have := hT.size; have := h.lt; simp; omega
  · exact World.cell?_setCell_same _ _ _ hc1
  · rw [World.frozen?_setCell, World.frozen?_of_block (w := w) hB1]; exact h.free
  · rw [List.length_append, List.length_singleton, mkCells_snoc]
    refine hr.kept (row := some B) ⟨rfl, rfl, rfl, by simp, fun k _ hk => heap_setCell_other w1 ⟨B, 0, none⟩ k v1 (by rintro rfl; exact hk rfl)⟩ ?_
    cases hv : v1.ownBlock with
    | none => exact .inl rfl
    | some g => exact .inr (by intro e; injection e with e; exact hBv1 g hv e)
  · intro x hx
    rcases List.mem_append.1 hx with hx | hx
    · refine (((h.attrs x hx).mono (Q := fun b => (M b ∧ b ≠ B ∧ some b ≠ v.ownBlock) ∧ b < w.heap.size) (fun b k hb => ⟨k, hb⟩)).kept (hT3.kept ?_)).mono ?_
      · rintro b _ ⟨⟨_, h2, h3⟩, _⟩ (e | e)
        · exact h3 e
        · exact h2 e
      · rintro b ⟨⟨h1, h2, h3⟩, hb⟩ _
        exact ⟨.inl h1, h2, hv1 b hb h3⟩
    · rw [List.mem_singleton] at hx
      subst hx
      exact (ha _).mono (fun b k _ => k.elim)
/-- A mark in place of another. -/
theorem MarkQ.setq {M : Nat → Prop} {w : World} {B g n cap : Nat} {qs : List (MK × Value)} (h : MarkQ M w B (.slice (some ⟨g, 0, none⟩) n cap) qs) (j : Nat) (hj : j < qs.length) (q : MK × Value) (ha : AttrsP (fun b => M b ∧ b ≠ B ∧ b ≠ g) w q.2 q.1.attrs) :
    MarkQ M (((w.setCell ⟨g, j * 3, none⟩ (.int .i64 q.1.node)).setCell ⟨g, j * 3 + 1, none⟩ (.string ⟨q.1.name.toArray⟩)).setCell ⟨g, j * 3 + 2, none⟩ q.2) B (.slice (some ⟨g, 0, none⟩) n cap) (qs.set j q) ∧ Turns M w (((w.setCell ⟨g, j * 3, none⟩ (.int .i64 q.1.node)).setCell ⟨g, j * 3 + 1, none⟩ (.string ⟨q.1.name.toArray⟩)).setCell ⟨g, j * 3 + 2, none⟩ q.2) := by
  obtain ⟨hn, cur, hg, h1, h2, h3, h4⟩ := h.row_at
  have hgm := h.rowM g rfl
  have hT : Turns (fun b => b = g) w (((w.setCell ⟨g, j * 3, none⟩ (.int .i64 q.1.node)).setCell ⟨g, j * 3 + 1, none⟩ (.string ⟨q.1.name.toArray⟩)).setCell ⟨g, j * 3 + 2, none⟩ q.2) := (((Turns.refl (fun b => b = g) w).setCell (B := g) (.inl rfl) _ _).setCell (B := g) (.inl rfl) _ _).setCell (B := g) (.inl rfl) _ _
  have hB := hT.block B h.lt (fun e => hgm.2 e.symm)
  have e0 := heap_setCell_same w g (j * 3) _ _ (.int .i64 q.1.node) hg
  have e1 := heap_setCell_same _ g (j * 3 + 1) _ _ (.string ⟨q.1.name.toArray⟩) e0
  have e2 := heap_setCell_same _ g (j * 3 + 2) _ _ q.2 e1
  have hrow : mkCells (qs.set j q) = (((mkCells qs).set (j * 3) (.int .i64 q.1.node)).set (j * 3 + 1) (.string ⟨q.1.name.toArray⟩)).set (j * 3 + 2) q.2 := by
    have s0 := mkCells_set qs j 0 (.int .i64 q.1.node) (⟨q.1.node, qs[j].1.name, qs[j].1.attrs⟩, qs[j].2) hj (by omega) rfl
    have s1 := mkCells_set (qs.set j (⟨q.1.node, qs[j].1.name, qs[j].1.attrs⟩, qs[j].2)) j 1 (.string ⟨q.1.name.toArray⟩) (⟨q.1.node, q.1.name, qs[j].1.attrs⟩, qs[j].2) (by simpa using hj) (by omega) (by rw [List.getElem_set_self]; rfl)
    have s2 := mkCells_set ((qs.set j (⟨q.1.node, qs[j].1.name, qs[j].1.attrs⟩, qs[j].2)).set j (⟨q.1.node, q.1.name, qs[j].1.attrs⟩, qs[j].2)) j 2 q.2 q (by simpa using hj) (by omega) (by rw [List.getElem_set_self]; rfl)
    rw [Nat.add_zero] at s0
    rw [s0, s1, s2, List.set_set, List.set_set]
  refine ⟨⟨h.inM, Nat.lt_of_lt_of_le h.lt hT.size, by rw [World.cell?_of_block (w := w) hB]; exact h.cell, by rw [World.frozen?_of_block (w := w) hB]; exact h.free, ⟨mkCells_len _, .inr ⟨g, cap, _, by rw [List.length_set, hn], Nat.zero_le _, e2, by rw [List.length_set]; exact h1, h2, by simpa using h3, ?_⟩⟩, h.rowM, ?_⟩, hT.mono (fun b _ e => by rw [e]; exact hgm.1)⟩
  · rw [List.length_set, hrow, ← h4]
    simp only [Array.toList_setIfInBounds]
    rw [List.take_set, List.take_set, List.take_set]
  · intro x hx
    have hax : AttrsP (fun b => M b ∧ b ≠ B ∧ b ≠ g) w x.2 x.1.attrs := by
      rcases List.mem_or_eq_of_mem_set hx with hx | rfl
      · exact h.attrs_at x hx
      · exact ha
    exact (hax.kept (hT.kept (fun b _ k => k.2.2))).mono (fun b k _ => ⟨k.1, k.2.1, fun e => k.2.2 (by injection e)⟩)
end Go.Proofs.Ytmhjfbdldpehdaa
namespace Go.Proofs.Ytmhjfbdldpehdaa
open Go.RowKit

def mIns (S : List MK) (i : Nat) (x : MK) : List MK := S.take i ++ x :: S.drop i
/-- What copied tells, the name by itself. -/
def CopyN (x : MK) (NM : ByteArray) (w : World) (e : Ending) (w' : World) : Prop := ∃ p c, e = .returned (.agg #[.int .i64 x.node, .string NM, .slice p x.attrs.length c]) ∧ AttrsP (fun b => w.heap.size ≤ b) w' (.slice p x.attrs.length c) x.attrs ∧ Below w.heap.size w w'
theorem mcopiedN (x : MK) (NM : ByteArray) (hNM : NM = ⟨x.name.toArray⟩) (P : Nat → Prop) (pa : Option Addr) (ca : Nat) (w : World) (ha : AttrsP P w (.slice pa x.attrs.length ca) x.attrs) (hs : x.attrs.length ≤ 4294967296) : Calls Try.prog 109 #[.agg #[.int .i64 x.node, .string NM, .slice pa x.attrs.length ca]] w (CopyN x NM w) := by
  subst hNM
  exact mcopiedP x P pa ca w ha hs
theorem MarkQ.shift {M : Nat → Prop} {w : World} {B g n cap : Nat} {rs : List (MK × Value)} (h : MarkQ M w B (.slice (some ⟨g, 0, none⟩) n cap) rs) (i : Nat) (hi : i + 1 ≤ rs.length) (cs : List Value) (hcs : cs = mkCells ((rs.drop i).take (rs.length - (i + 1)))) :
    ∃ cur, w.heap[g]? = some (.cells cur 64 (0, 0)) ∧ cs.length = (rs.length - (i + 1)) * 3 ∧ (i + 1) * 3 + cs.length ≤ cur.size ∧ rs.length ≤ cap ∧ (∀ j v, cs[j]? = some v → w.cell? ((⟨g, i * 3, none⟩ : Addr).add j) = some v) ∧ (∀ v ∈ cs, v.oneCell' = true) ∧
      MarkQ M (w.setRow g (cur.toList.take ((i + 1) * 3) ++ (cs ++ cur.toList.drop ((i + 1) * 3 + cs.length))).toArray) B (.slice (some ⟨g, 0, none⟩) n cap) (rs.take (i + 1) ++ (rs.drop i).take (rs.length - (i + 1))) ∧ Turns M w (w.setRow g (cur.toList.take ((i + 1) * 3) ++ (cs ++ cur.toList.drop ((i + 1) * 3 + cs.length))).toArray) := by
  obtain ⟨hn, cur, hg, h1, h2, h3, h4⟩ := h.row_at
  have hl : cs.length = (rs.length - (i + 1)) * 3 := by rw [hcs, mkCells_len, List.length_take, List.length_drop]; congr 1; omega
  have hc1 : cur.toList.length = cap * 3 := by rw [Array.length_toList]; exact h3
  have hmem : ∀ q ∈ rs.take (i + 1) ++ (rs.drop i).take (rs.length - (i + 1)), q ∈ rs := by
    intro q hm
    rcases List.mem_append.1 hm with hm | hm
    · exact List.mem_of_mem_take hm
    · exact List.mem_of_mem_drop (List.mem_of_mem_take hm)
  have hlist : (rs.take (i + 1) ++ (rs.drop i).take (rs.length - (i + 1))).length = n := by simp; omega
  refine ⟨cur, hg, hl, by omega, h1, ?_, ?_, ?_⟩
  · intro j v hv
    refine h.from i j v ?_
    have e : mkCells (rs.drop i) = cs ++ mkCells ((rs.drop i).drop (rs.length - (i + 1))) := by rw [hcs, ← mkCells_app, List.take_append_drop]
    rw [e, List.getElem?_append_left (lt_of_some hv)]
    exact hv
  · rw [hcs]
    exact mkCells_one _ (fun q hm => h.ones q (List.mem_of_mem_drop (List.mem_of_mem_take hm)))
  · refine h.relaid_same _ _ ?_ hlist ?_ (fun q hm => h.attrs_at q (hmem q hm))
    · rw [List.size_toArray, List.length_append, List.length_append, List.length_take, List.length_drop, hc1, hl]
      omega
    · have e1 : cur.toList.take ((i + 1) * 3) = mkCells (rs.take (i + 1)) := by rw [← mkCells_take, ← h4, List.take_take, Nat.min_eq_left (by omega)]
      have e3 : (mkCells (rs.take (i + 1)) ++ cs).length = n * 3 := by rw [List.length_append, mkCells_len, List.length_take, hl]; omega
      rw [hlist, List.toList_toArray, ← List.append_assoc, e1, mkCells_app, ← hcs, List.take_append_of_le_length (by omega), List.take_of_length_le (by omega)]
theorem shift_set (qs : List (MK × Value)) (z q : MK × Value) (i : Nat) (hi : i ≤ qs.length) : ((((qs ++ [z]).take (i + 1) ++ ((qs ++ [z]).drop i).take ((qs ++ [z]).length - (i + 1))).set i q).map (·.1)) = mIns (qs.map (·.1)) i q.1 := by
  have e1 : ((qs ++ [z]).take (i + 1) ++ ((qs ++ [z]).drop i).take ((qs ++ [z]).length - (i + 1))).set i q = qs.take i ++ q :: qs.drop i := by
    have e2 : ((qs ++ [z]).drop i).take ((qs ++ [z]).length - (i + 1)) = qs.drop i := by
      rw [List.drop_append_of_le_length hi, List.take_append_of_le_length (by simp), List.take_of_length_le (by simp)]
    have e4 : (qs ++ [z]).take (i + 1) = qs.take i ++ [(qs ++ [z])[i]'(by simp; omega)] := by
      rw [List.take_succ_eq_append_getElem (by simp; omega), List.take_append_of_le_length hi]
    rw [e2, e4, List.append_assoc, List.set_append_right _ _ (by simp; omega)]
    simp [Nat.min_eq_left hi]
  rw [e1]
  simp [mIns]
/-- What stands behind the append. -/
theorem MarkQ.room {M : Nat → Prop} {w WA W3 : World} {B g cp cap : Nat} {p : Option Addr} {o : Obj} {qs : List (MK × Value)} (hq : MarkQ M w B (.slice p qs.length cap) qs) (bA : Below w.heap.size w WA) (sA : WA.heap.size = w.heap.size + 2) (hX : WA.heap[w.heap.size]? = some o)
    (hg3 : WA.grownBy W3 (Value.slice p qs.length cap).ownBlock) (hr3 : W3.ownsRow 0 64 3 (.slice (some ⟨g, 0, none⟩) (qs.length + 1) cp) (qs.length + 1) (mkCells qs ++ [.int .i64 0, .string ⟨#[]⟩, .slice none 0 0])) (hor : (Value.slice p qs.length cap).ownBlock = some g ∨ g = w.heap.size + 2) :
    W3.cell? ⟨B, 0, none⟩ = some (.slice p qs.length cap) ∧ W3.frozen? ⟨B, 0, none⟩ = false ∧ B < W3.heap.size ∧ (MarkQ (New M WA) (W3.setCell ⟨B, 0, none⟩ (.slice (some ⟨g, 0, none⟩) (qs.length + 1) cp)) B (.slice (some ⟨g, 0, none⟩) (qs.length + 1) cp) (qs ++ [(mZero, (Value.slice none 0 0 : Value))]) ∧ Turns M WA (W3.setCell ⟨B, 0, none⟩ (.slice (some ⟨g, 0, none⟩) (qs.length + 1) cp))) ∧
      W3.heap[w.heap.size]? = some o ∧ g ≠ w.heap.size := by
  have hB := hq.lt
  have fb : some B ≠ (Value.slice p qs.length cap).ownBlock := fun e => (hq.rowM B e.symm).2 rfl
  have hBA : B < WA.heap.size := by omega
  have hlt : ∀ g', (Value.slice p qs.length cap).ownBlock = some g' → g' < w.heap.size := fun g' e => (hq.row.lt g' e).2
  refine ⟨?_, ?_, ?_, ?_, ?_, ?_⟩
  · exact (hg3.cell_far ⟨B, 0, none⟩ hBA fb).trans ((bA.cell (p := ⟨B, 0, none⟩) hB).trans hq.cell)
  · exact (hg3.frozen_far ⟨B, 0, none⟩ hBA fb).trans ((bA.frozen (p := ⟨B, 0, none⟩) hB).trans hq.free)
  · have := hg3.size
    omega
  · refine MarkQ.add (q := (mZero, (Value.slice none 0 0 : Value))) (hq.below bA) (fun W => AttrsP.nil _ _ _ _) hg3 hr3 ?_
    intro g' e
    injection e with e
    subst e
    exact hor.imp id (fun k => by show _ ≤ g; omega)
  · refine (hg3.block w.heap.size (by omega) (fun e => ?_)).trans hX
    exact absurd (hlt _ e.symm) (by omega)
  · rintro rfl
    exact hor.elim (fun e => absurd (hlt _ e) (by omega)) (fun e => by omega)
theorem MarkQ.cells_at {M : Nat → Prop} {w w' : World} {B g n cap : Nat} {rs : List (MK × Value)} (h : MarkQ M w B (.slice (some ⟨g, 0, none⟩) n cap) rs) (i : Nat) (hi : i < rs.length) (b : Below w.heap.size w w') :
    ∃ (k : Int) (s : ByteArray) (u : Value), w'.cell? ⟨B, 0, none⟩ = some (.slice (some ⟨g, 0, none⟩) n cap) ∧ B < w'.heap.size ∧ g < w'.heap.size ∧ w'.cell? ⟨g, i * 3, none⟩ = some (.int .i64 k) ∧ w'.cell? ⟨g, i * 3 + 1, none⟩ = some (.string s) ∧ w'.cell? ⟨g, i * 3 + 2, none⟩ = some u ∧
      w'.frozen? ⟨g, i * 3, none⟩ = false ∧ w'.frozen? ⟨g, i * 3 + 1, none⟩ = false ∧ w'.frozen? ⟨g, i * 3 + 2, none⟩ = false := by
  have h' := h.below b
  obtain ⟨_, cur, hg, _⟩ := h'.row_at
  have f := fun i => (block_cell hg i).2
  exact ⟨_, _, _, h'.cell, h'.lt, heap_lt hg, h'.at i 0 hi (by omega), h'.at i 1 hi (by omega), h'.at i 2 hi (by omega), f _, f _, f _⟩
theorem MarkQ.insert_end {M : Nat → Prop} {w WA W5 W6 : World} {B g n cp : Nat} {qs : List (MK × Value)} {i : Nat} {q : MK × Value} (hi : i ≤ qs.length) (hq5 : MarkQ (New M WA) W5 B (.slice (some ⟨g, 0, none⟩) n cp) ((qs ++ [(mZero, (Value.slice none 0 0 : Value))]).take (i + 1) ++ ((qs ++ [(mZero, (Value.slice none 0 0 : Value))]).drop i).take ((qs ++ [(mZero, (Value.slice none 0 0 : Value))]).length - (i + 1))))
    (ht5 : Turns M WA W5) (bA : Below w.heap.size w WA) (hb6 : Below W5.heap.size W5 W6) (ha6 : AttrsP (fun b => W5.heap.size ≤ b) W6 q.2 q.1.attrs) :
    MarksM (New M w) (((W6.setCell ⟨g, i * 3, none⟩ (.int .i64 q.1.node)).setCell ⟨g, i * 3 + 1, none⟩ (.string ⟨q.1.name.toArray⟩)).setCell ⟨g, i * 3 + 2, none⟩ q.2) B (mIns (qs.map (·.1)) i q.1) ∧ Turns M w (((W6.setCell ⟨g, i * 3, none⟩ (.int .i64 q.1.node)).setCell ⟨g, i * 3 + 1, none⟩ (.string ⟨q.1.name.toArray⟩)).setCell ⟨g, i * 3 + 2, none⟩ q.2) := by
  have hg := (hq5.row.lt g rfl).2
  have hB := hq5.lt
  have h6 : MarkQ (New (New M WA) W5) W6 B _ _ := (hq5.below hb6).mono (fun b _ k => .inl k)
  obtain ⟨r1, r2⟩ := h6.setq i (by simp; omega) q (ha6.mono (fun b k _ => ⟨.inr k, by omega, by omega⟩))
  have z1 := bA.size
  have z5 := ht5.size
  have hm : ∀ b, New (New M WA) W5 b → New M w b := by
    rintro b ((k | k) | k)
    · exact .inl k
    · exact .inr (by omega)
    · exact .inr (by omega)
  exact ⟨⟨_, _, shift_set qs _ q i hi, r1.mono fun b _ k => hm b k⟩, (Turns.of_below (M := M) bA).trans ((ht5.mono fun b _ k => .inl k).trans (((Turns.of_below hb6).trans (r2.mono fun b _ k => .inl k)).mono fun b _ k => .inl (hm b k)))⟩
set_option maxHeartbeats 1000000 in
set_option maxRecDepth 100000 in
theorem minsertP (S : List MK) (B : Nat) (M P : Nat → Prop) (w : World) (i : Nat) (x : MK) (pa : Option Addr) (ca : Nat) (h : MarksM M w B S) (hi : i ≤ S.length) (hs : S.length ≤ 4294967296) (ha : AttrsP P w (.slice pa x.attrs.length ca) x.attrs) (hP : ∀ b, P b → ¬ M b) (hx : x.attrs.length ≤ 4294967296) :
    Calls Try.prog 103 #[.pointer (some ⟨B, 0, none⟩), .int .i64 (i : Int), markV x (.slice pa x.attrs.length ca)] w (fun e w' => e = .returned (.tuple #[]) ∧ MarksM (New M w) w' B (mIns S i x) ∧ Turns M w w') := by
  obtain ⟨v, qs, rfl, hq⟩ := h
  obtain ⟨p, cap, rfl, _⟩ := hq.reads
  rw [List.length_map] at hi hs
  have h0 := hq.cell
  have hB := hq.lt
  have hf := hq.free
  have HQ := Lib.hid hq
  have HA := Lib.hid ha
  have HP := Lib.hid hP
  obtain ⟨i0, hi0, hz0, hz1, hz2⟩ := info_mark
  have HI := Lib.hid (And.intro hi0 (And.intro hz0 (And.intro hz1 hz2)))
  have fb : some B ≠ (Value.slice p qs.length cap).ownBlock := fun e => (hq.rowM B e.symm).2 rfl
  clear hi0 hz0 hz1 hz2 hq ha hP
  unfold markV
  obtain ⟨NM, hNM⟩ : ∃ NM : ByteArray, NM = (⟨x.name.toArray⟩ : ByteArray) := ⟨_, rfl⟩
  rw [← hNM]
  have HNM := Lib.hid hNM
  clear hNM
  obtain ⟨WA, hWA⟩ : ∃ WA, WA = (w.alloc (.cells #[.int .i64 x.node, .string NM, .slice pa x.attrs.length ca] 64)).alloc (.cells #[.int .i64 0, .string ⟨#[]⟩, .slice none 0 0] 64) := ⟨_, rfl⟩
  have bA : Below w.heap.size w WA := by rw [hWA]; exact ((Below.refl _ w).alloc (Nat.le_refl _) _).alloc (by simp) _
  have szA : WA.heap.size = w.heap.size + 2 := by rw [hWA]; simp
  have hhA : WA.heap[w.heap.size]? = some (.cells #[.int .i64 x.node, .string NM, .slice pa x.attrs.length ca] 64 (0, 0)) := by
    rw [hWA, ((Below.refl _ (w.alloc (.cells #[.int .i64 x.node, .string NM, .slice pa x.attrs.length ca] 64))).alloc (Nat.le_refl _) (.cells #[.int .i64 0, .string ⟨#[]⟩, .slice none 0 0] 64)).block w.heap.size (by simp)]
    exact heap_alloc_new w _
  have hhZ : WA.heap[w.heap.size + 1]? = some (.cells #[.int .i64 0, .string ⟨#[]⟩, .slice none 0 0] 64 (0, 0)) := by
    rw [hWA]
    have := heap_alloc_new (w.alloc (.cells #[.int .i64 x.node, .string NM, .slice pa x.attrs.length ca] 64)) (.cells #[.int .i64 0, .string ⟨#[]⟩, .slice none 0 0] 64)
    simpa using this
  have HW := Lib.hid (And.intro bA (And.intro szA (And.intro hhA hhZ)))
  have HWA := Lib.hid hWA
  have HQA := Lib.hid (HQ.out.below bA)
  clear hWA bA szA hhA hhZ
  go_enter Try.func103, Try.ntmps103
  go_wp2_with (first
    | (at_builtin; (rw [← HWA.out]; refine wpList_append_lies _ rfl _ _ 83 rfl 0 64 i0 (.agg #[.int .i64 0, .string ByteArray.empty, .slice none 0 0]) 3 48 Try.underlying83 HI.out.1 HI.out.2.1 HI.out.2.2.1 HI.out.2.2.2 rfl (by omega) (.slice p qs.length cap) qs.length (mkCells qs) rfl HQA.out.row ⟨w.heap.size + 1, 0, none⟩ 1 1 [.int .i64 0, .string ⟨#[]⟩, .slice none 0 0] rfl rfl (World.news_of_block (cs := #[.int .i64 0, .string ⟨#[]⟩, .slice none 0 0]) HW.out.2.2.2) (by simp [Value.oneCell']) (by omega) (by unfold maxLen; omega) (by omega) (by omega) (w.heap.size + 2) HW.out.2.1 ?_; intro g cp W3 hr3 hg3 hor3 hlt3; obtain ⟨k3, f3, s3, hd3, hx3, hn3⟩ := MarkQ.room HQ.out HW.out.1 HW.out.2.1 HW.out.2.2.1 hg3 hr3 hor3; have HD := Lib.hid hd3; have HX3 := Lib.hid hx3; have HN3 := Lib.hid hn3; clear hr3 hg3 hor3 hd3 hx3 hn3))
    | fail)
  obtain ⟨hq4, ht4⟩ := HD.out
  have x4 : (W3.setCell ⟨B, 0, none⟩ (.slice (some ⟨g, 0, none⟩) (qs.length + 1) cp)).heap[w.heap.size]? = some (.cells #[.int .i64 x.node, .string NM, .slice pa x.attrs.length ca] 64 (0, 0)) := by
    rw [heap_setCell_other _ _ _ _ (by show w.heap.size ≠ B; omega)]; exact HX3.out
  clear HD HX3 k3 f3 s3 HWA HQA
  generalize W3.setCell ⟨B, 0, none⟩ (.slice (some ⟨g, 0, none⟩) (qs.length + 1) cp) = W4 at *
  clear hlt3
  have d4 : Below W4.heap.size W4 W4.drew := (Below.refl _ _).drew
  have c4 := (hq4.below d4).cell
  have s4 := (hq4.below d4).lt
  obtain ⟨cs, hcs⟩ : ∃ cs, cs = mkCells (((qs ++ [(mZero, (Value.slice none 0 0 : Value))]).drop i).take ((qs ++ [(mZero, (Value.slice none 0 0 : Value))]).length - (i + 1))) := ⟨_, rfl⟩
  obtain ⟨cur, hg4, hl4, hfit4, hcap4, hrd4, hone4, hq5, ht5⟩ := (hq4.below d4).shift i (by simp; omega) cs hcs
  have c5 := hq5.cell
  have s5 := hq5.lt
  have f5 := hq5.free
  have x5 : (W4.drew.setRow g (cur.toList.take ((i + 1) * 3) ++ (cs ++ cur.toList.drop ((i + 1) * 3 + cs.length))).toArray).heap[w.heap.size]? = some (.cells #[.int .i64 x.node, .string NM, .slice pa x.attrs.length ca] 64 (0, 0)) := by
    rw [setRow_other _ _ _ _ (fun e => HN3.out e.symm), d4.block _ (heap_lt x4)]; exact x4
  have hll : (qs ++ [(mZero, (Value.slice none 0 0 : Value))]).length = qs.length + 1 := by simp
  rw [hll, show qs.length + 1 - (i + 1) = qs.length - i by omega] at hl4
  rw [hll] at hcap4
  have HD5 := Lib.hid (And.intro hq5 (ht4.trans (((Turns.of_below d4).trans (ht5.mono fun b _ k => .inl k)))))
  have HX5 := Lib.hid x5
  have HG4 := Lib.hid hg4
  have HL4 := Lib.hid hl4
  have HR4 := Lib.hid hrd4
  have HO4 := Lib.hid hone4
  have HCS := Lib.hid hcs
  have hic : i ≤ cp := by omega
  have hil : i ≤ qs.length + 1 := by omega
  have hil1 : i + 1 ≤ qs.length + 1 := by omega
  have hz0 : (0 : Int) ≤ (i : Int) + 1 := by omega
  have hw1 : IntKind.i64.wrap ((i : Int) + 1) = ((i + 1 : Nat) : Int) := by rw [IntWalk.i64_in _ (by omega)]; omega
  have hic1 : i + 1 ≤ cp := by omega
  have hne : cp ≠ i := by omega
  have hz4 : (i : Int) < (qs.length : Int) + 1 := by omega
  have hz5 : (0 : Int) ≤ (i : Int) := by omega
  have hz3 : (i : Int) ≤ (qs.length : Int) + 1 := by omega
  have HMIN : Hid (qs.length - i = Nat.min (qs.length + 1 - i) (qs.length - i)) := Lib.hid (Nat.min_eq_right (by omega)).symm
  clear hq5 ht5 ht4 hq4 x5 hg4 hl4 hrd4 hone4 hcs hll
  rcases Nat.lt_or_ge (i + 1) cp with hlc | hlc
  · have hne2 : cp ≠ i + 1 := by omega
    go_region_law (refine step_copy_rows rfl (.tmp 22) (.tmp 28) 83 83 rfl 64 3 Try.underlying83 size_mark _ _ _ _ _ _ (by rfl) (by rfl) g ((i + 1) * 3) cur 64 HG4.out cs (qs.length - i) HMIN.out HL4.out (fun _ => ⟨rfl, _, rfl, HR4.out⟩) hfit4 HO4.out ?_)
    all_goals
      obtain ⟨hq5, ht5⟩ := HD5.out
      have x5 := HX5.out
      clear HD5 HX5 HG4 HL4 HR4 HO4 HMIN c4 s4
      generalize W4.drew.setRow g (cur.toList.take ((i + 1) * 3) ++ (cs ++ cur.toList.drop ((i + 1) * 3 + cs.length))).toArray = W5 at *
      have HQ5 := Lib.hid hq5
      have HT5 := Lib.hid ht5
      have HX5 := Lib.hid x5
      have HA5 : Hid (AttrsP P W5 (.slice pa x.attrs.length ca) x.attrs) := Lib.hid ((HA.out.kept (.of_below HW.out.1)).kept (ht5.kept fun b _ k => HP.out b k))
      have d5 : Below W5.heap.size W5 W5.drew := (Below.refl _ _).drew
      have c5 := (hq5.below d5).cell
      have s5 := (hq5.below d5).lt
      have y0 := (block_cell ((d5.block _ (heap_lt x5)).trans x5) 0).1
      have y1 := (block_cell ((d5.block _ (heap_lt x5)).trans x5) 1).1
      have y2 := (block_cell ((d5.block _ (heap_lt x5)).trans x5) 2).1
      simp at y0 y1 y2
      have HC : Hid (∀ W, Below W5.heap.size W5 W → Calls Try.prog 109 #[.agg #[.int .i64 x.node, .string NM, .slice pa x.attrs.length ca]] W (CopyN x NM W)) := Lib.hid fun W b => mcopiedN x NM HNM.out P pa ca W (HA5.out.kept (.of_below b)) hx
      clear hq5 ht5 x5 HA
      have HE : Hid (∀ W6 : World, Below W5.heap.size W5 W6 → _) := Lib.hid fun W6 b => HQ5.out.cells_at i (by simp; omega) b
      go_wp2_with fail
      go_region_with (go_at_call 109; refine (HC.out _ d5).mono ?_; rintro e W6 ⟨p6, c6, rfl, ha6, hb6⟩; obtain ⟨uk, us, uv, e0, e1, e2, e3, e4, e5, e6, e7, e8⟩ := HE.out W6 (d5.trans hb6); have HA6 := Lib.hid ha6; have HB6 := Lib.hid hb6; clear ha6 hb6)
      all_goals
        go_wp2_with fail
        have HEND := (MarkQ.insert_end (q := (x, .slice p6 x.attrs.length c6)) (by omega) HQ5.out HT5.out HW.out.1 (d5.trans HB6.out) (HA6.out.mono fun b k _ => k))
        rw [← HNM.out] at HEND
        exact bodyPost_end (results_none rfl _ _ _) rfl ⟨rfl, HEND.1, HEND.2⟩
  · obtain rfl : cp = i + 1 := by omega
    have HMN : Hid (0 = Nat.min (qs.length + 1 - i) 0) := Lib.hid (Nat.min_eq_right (Nat.zero_le _)).symm
    have HM0 : Hid (cs.length = 0 * 3) := Lib.hid (by have := HL4.out; omega)
    go_region_law (refine step_copy_rows rfl (.tmp 22) (.tmp 28) 83 83 rfl 64 3 Try.underlying83 size_mark _ _ _ _ _ _ (by rfl) (by rfl) g ((i + 1) * 3) cur 64 HG4.out cs 0 HMN.out HM0.out (fun q => absurd q (by omega)) hfit4 HO4.out ?_)
    all_goals
      obtain ⟨hq5, ht5⟩ := HD5.out
      have x5 := HX5.out
      clear HD5 HX5 HG4 HL4 HR4 HO4 HMIN HMN HM0 c4 s4
      generalize W4.drew.setRow g (cur.toList.take ((i + 1) * 3) ++ (cs ++ cur.toList.drop ((i + 1) * 3 + cs.length))).toArray = W5 at *
      have HQ5 := Lib.hid hq5
      have HT5 := Lib.hid ht5
      have HX5 := Lib.hid x5
      have HA5 : Hid (AttrsP P W5 (.slice pa x.attrs.length ca) x.attrs) := Lib.hid ((HA.out.kept (.of_below HW.out.1)).kept (ht5.kept fun b _ k => HP.out b k))
      have d5 : Below W5.heap.size W5 W5.drew := (Below.refl _ _).drew
      have c5 := (hq5.below d5).cell
      have s5 := (hq5.below d5).lt
      have y0 := (block_cell ((d5.block _ (heap_lt x5)).trans x5) 0).1
      have y1 := (block_cell ((d5.block _ (heap_lt x5)).trans x5) 1).1
      have y2 := (block_cell ((d5.block _ (heap_lt x5)).trans x5) 2).1
      simp at y0 y1 y2
      have HC : Hid (∀ W, Below W5.heap.size W5 W → Calls Try.prog 109 #[.agg #[.int .i64 x.node, .string NM, .slice pa x.attrs.length ca]] W (CopyN x NM W)) := Lib.hid fun W b => mcopiedN x NM HNM.out P pa ca W (HA5.out.kept (.of_below b)) hx
      clear hq5 ht5 x5 HA
      have HE : Hid (∀ W6 : World, Below W5.heap.size W5 W6 → _) := Lib.hid fun W6 b => HQ5.out.cells_at i (by simp; omega) b
      go_wp2_with fail
      go_region_with (go_at_call 109; refine (HC.out _ d5).mono ?_; rintro e W6 ⟨p6, c6, rfl, ha6, hb6⟩; obtain ⟨uk, us, uv, e0, e1, e2, e3, e4, e5, e6, e7, e8⟩ := HE.out W6 (d5.trans hb6); have HA6 := Lib.hid ha6; have HB6 := Lib.hid hb6; clear ha6 hb6)
      all_goals
        go_wp2_with fail
        have HEND := (MarkQ.insert_end (q := (x, .slice p6 x.attrs.length c6)) (by omega) HQ5.out HT5.out HW.out.1 (d5.trans HB6.out) (HA6.out.mono fun b k _ => k))
        rw [← HNM.out] at HEND
        exact bodyPost_end (results_none rfl _ _ _) rfl ⟨rfl, HEND.1, HEND.2⟩
end Go.Proofs.Ytmhjfbdldpehdaa
namespace Go.Proofs.Ytmhjfbdldpehdaa
open Go.RowKit

def mSetS (S : List MK) (i : Int) (x : MK) : List MK := if mHas S i = true then S.set i.toNat x else S
theorem MarkQ.set_end {M : Nat → Prop} {w W5 W6 : World} {B g n cp : Nat} {rs : List (MK × Value)} {i : Nat} {q : MK × Value} (hi : i < rs.length) (hq5 : MarkQ M W5 B (.slice (some ⟨g, 0, none⟩) n cp) rs)
    (b5 : Below w.heap.size w W5) (hb6 : Below W5.heap.size W5 W6) (ha6 : AttrsP (fun b => W5.heap.size ≤ b) W6 q.2 q.1.attrs) :
    MarksM (New M w) (((W6.setCell ⟨g, i * 3, none⟩ (.int .i64 q.1.node)).setCell ⟨g, i * 3 + 1, none⟩ (.string ⟨q.1.name.toArray⟩)).setCell ⟨g, i * 3 + 2, none⟩ q.2) B ((rs.map (·.1)).set i q.1) ∧ Turns M w (((W6.setCell ⟨g, i * 3, none⟩ (.int .i64 q.1.node)).setCell ⟨g, i * 3 + 1, none⟩ (.string ⟨q.1.name.toArray⟩)).setCell ⟨g, i * 3 + 2, none⟩ q.2) := by
  have hg := (hq5.row.lt g rfl).2
  have hB := hq5.lt
  have h6 : MarkQ (New M W5) W6 B _ _ := (hq5.below hb6).mono (fun b _ k => .inl k)
  obtain ⟨r1, r2⟩ := h6.setq i hi q (ha6.mono (fun b k _ => ⟨.inr k, by omega, by omega⟩))
  have z5 := b5.size
  have hm : ∀ b, New M W5 b → New M w b := by
    rintro b (k | k)
    · exact .inl k
    · exact .inr (by omega)
  exact ⟨⟨_, _, by rw [List.map_set], r1.mono fun b _ k => hm b k⟩, (Turns.of_below (M := M) b5).trans (((Turns.of_below (M := M) hb6).trans r2).mono fun b _ k => .inl k)⟩
set_option maxHeartbeats 1000000 in
set_option maxRecDepth 100000 in
theorem msetP (S : List MK) (B : Nat) (M P : Nat → Prop) (w : World) (i : Int) (x : MK) (pa : Option Addr) (ca : Nat) (h : MarksM M w B S) (hs : S.length ≤ 4294967296) (ha : AttrsP P w (.slice pa x.attrs.length ca) x.attrs) (hx : x.attrs.length ≤ 4294967296) :
    Calls Try.prog 38 #[.pointer (some ⟨B, 0, none⟩), .int .i64 i, markV x (.slice pa x.attrs.length ca)] w (fun e w' => e = .returned (.bool (mHas S i)) ∧ MarksM (New M w) w' B (mSetS S i x) ∧ Turns M w w') := by
  unfold markV
  obtain ⟨NM, hNM⟩ : ∃ NM : ByteArray, NM = (⟨x.name.toArray⟩ : ByteArray) := ⟨_, rfl⟩
  rw [← hNM]
  have HNM := Lib.hid hNM
  obtain ⟨W1, hW1⟩ : ∃ W1, W1 = w.alloc (.cells #[.int .i64 x.node, .string NM, .slice pa x.attrs.length ca] 64) := ⟨_, rfl⟩
  have b1 : Below w.heap.size w W1 := by rw [hW1]; exact (Below.refl _ w).alloc (Nat.le_refl _) _
  have hx1 : W1.heap[w.heap.size]? = some (.cells #[.int .i64 x.node, .string NM, .slice pa x.attrs.length ca] 64 (0, 0)) := by rw [hW1]; exact heap_alloc_new w _
  have HW1 := Lib.hid hW1
  have h1 := h.below b1
  have HH := Lib.hid (mhasP S B M W1 i h1)
  have HM := Lib.hid (h1.mono (L := New M w) fun b _ k => .inl k)
  have HB1 := Lib.hid b1
  by_cases c : mHas S i = true
  · have hc : 0 ≤ i ∧ i < S.length := by unfold mHas at c; simpa using c
    have HS : Hid (mSetS S i x = S.set i.toNat x) := Lib.hid (if_pos c)
    rw [HS.out, c]
    rw [c] at HH
    obtain ⟨k, hk⟩ : ∃ k : Nat, k = i.toNat := ⟨_, rfl⟩
    rw [← hk]
    obtain rfl : i = (k : Int) := by omega
    obtain ⟨v, qs, rfl, hq⟩ := id h1
    rw [List.length_map] at hc hs
    rcases hq.form with ⟨rfl, rfl⟩ | ⟨g, cap, rfl⟩
    · exact absurd hc.2 (by simp)
    have HQ := Lib.hid hq
    have d1 : Below W1.heap.size W1 W1.drew := (Below.refl _ _).drew
    have c0 := (hq.below d1).cell
    have s0 := (hq.below d1).lt
    have y0 := (block_cell ((d1.block _ (heap_lt hx1)).trans hx1) 0).1
    have y1 := (block_cell ((d1.block _ (heap_lt hx1)).trans hx1) 1).1
    have y2 := (block_cell ((d1.block _ (heap_lt hx1)).trans hx1) 2).1
    simp at y0 y1 y2
    have HC : Hid (∀ W, Below W1.heap.size W1 W → Calls Try.prog 109 #[.agg #[.int .i64 x.node, .string NM, .slice pa x.attrs.length ca]] W (CopyN x NM W)) := Lib.hid fun W b => mcopiedN x NM HNM.out P pa ca W ((ha.kept (.of_below b1)).kept (.of_below b)) hx
    have HE : Hid (∀ W6 : World, Below W1.heap.size W1 W6 → _) := Lib.hid fun W6 b => HQ.out.cells_at k (by omega) b
    have j0 : (0 : Int) ≤ (k : Int) := by omega
    have j1 : (k : Int) < (qs.length : Int) := by omega
    clear h h1 hq hW1 hx1 c hk ha b1 hNM HM HS
    go_enter Try.func38, Try.ntmps38
    go_wp2_with fail
    rw [← HW1.out]
    refine HH.out.mono ?_
    rintro e w1 ⟨rfl, rfl⟩
    go_wp2_with fail
    go_region_with (go_at_call 109; refine (HC.out _ d1).mono ?_; rintro e W6 ⟨p6, c6, rfl, ha6, hb6⟩; obtain ⟨uk, us, uv, e0, e1, e2, e3, e4, e5, e6, e7, e8⟩ := HE.out W6 (d1.trans hb6); have HA6 := Lib.hid ha6; have HB6 := Lib.hid hb6; clear ha6 hb6)
    all_goals
      go_wp2_with fail
      go_ret
      have HEND := (MarkQ.set_end (i := k) (q := (x, .slice p6 x.attrs.length c6)) (by omega) HQ.out HB1.out (d1.trans HB6.out) (HA6.out.mono fun b k _ => k))
      rw [← HNM.out] at HEND
      exact ⟨rfl, HEND.1, HEND.2⟩
  · have c' : mHas S i = false := by simpa using c
    have HS : Hid (mSetS S i x = S) := Lib.hid (if_neg c)
    rw [HS.out, c']
    rw [c'] at HH
    clear h h1 hW1 hx1 c c' ha b1 hNM
    go_enter Try.func38, Try.ntmps38
    go_wp2_with fail
    rw [← HW1.out]
    refine HH.out.mono ?_
    rintro e w1 ⟨rfl, rfl⟩
    go_wp2_with fail
    go_ret
    exact ⟨rfl, HM.out, Turns.of_below HB1.out⟩

/-- What At tells. -/
def AtM (S : List MK) (i : Int) (w : World) (e : Ending) (w' : World) : Prop :=
  (mHas S i = false ∧ e = .returned (.tuple #[markV mZero (.slice none 0 0), .bool false]) ∨
    mHas S i = true ∧ ∃ p c, e = .returned (.tuple #[markV (S.getD i.toNat mZero) (.slice p (S.getD i.toNat mZero).attrs.length c), .bool true]) ∧ AttrsP (fun b => w.heap.size ≤ b) w' (.slice p (S.getD i.toNat mZero).attrs.length c) (S.getD i.toNat mZero).attrs) ∧ Below w.heap.size w w'
set_option maxHeartbeats 1000000 in
set_option maxRecDepth 100000 in
theorem matP (S : List MK) (B : Nat) (M : Nat → Prop) (w : World) (i : Int) (h : MarksM M w B S) (hs : S.length ≤ 4294967296) (hx : ∀ x ∈ S, x.attrs.length ≤ 4294967296) :
    Calls Try.prog 113 #[.pointer (some ⟨B, 0, none⟩), .int .i64 i] w (AtM S i w) := by
  obtain ⟨W1, hW1⟩ : ∃ W1, W1 = w.alloc (.cells #[.int .i64 0, .string ⟨#[]⟩, .slice none 0 0] 64) := ⟨_, rfl⟩
  have b1 : Below w.heap.size w W1 := by rw [hW1]; exact (Below.refl _ w).alloc (Nat.le_refl _) _
  have hx1 : W1.heap[w.heap.size]? = some (.cells #[.int .i64 0, .string ⟨#[]⟩, .slice none 0 0] 64 (0, 0)) := by rw [hW1]; exact heap_alloc_new w _
  have HW1 := Lib.hid hW1
  have h1 := h.below b1
  have HH := Lib.hid (mhasP S B M W1 i h1)
  have HB1 := Lib.hid b1
  have HX1 := Lib.hid hx1
  have y0 := (block_cell hx1 0).1
  have y1 := (block_cell hx1 1).1
  have y2 := (block_cell hx1 2).1
  have z0 := (block_cell hx1 0).2
  have z1 := (block_cell hx1 1).2
  have z2 := (block_cell hx1 2).2
  simp at y0 y1 y2
  have ys := heap_lt hx1
  by_cases c : mHas S i = true
  · have hc : 0 ≤ i ∧ i < S.length := by unfold mHas at c; simpa using c
    have HMH := Lib.hid c
    rw [c] at HH
    obtain ⟨k, hk⟩ : ∃ k : Nat, k = i.toNat := ⟨_, rfl⟩
    obtain rfl : i = (k : Int) := by omega
    obtain ⟨v, qs, rfl, hq⟩ := id h1
    rw [List.length_map] at hc hs
    rcases hq.form with ⟨rfl, rfl⟩ | ⟨g, cap, rfl⟩
    · exact absurd hc.2 (by simp)
    have hkl : k < qs.length := by omega
    have HQ := Lib.hid hq
    have c0 := hq.cell
    have s0 := hq.lt
    have sg := (hq.row.lt g rfl).2
    have r0 := hq.at k 0 hkl (by omega)
    have r1 := hq.at k 1 hkl (by omega)
    have r2 := hq.at k 2 hkl (by omega)
    have hat := hq.attrs qs[k] (List.getElem_mem hkl)
    have hxk := hx qs[k].1 (List.mem_map_of_mem (List.getElem_mem hkl))
    have HGD : Hid ((qs.map (·.1)).getD ((k : Int)).toNat mZero = qs[k].1) := Lib.hid (by rw [show ((k : Int)).toNat = k by omega, getD_at (by simpa using hkl)]; simp)
    obtain ⟨x, hxx⟩ : ∃ x, x = qs[k].1 := ⟨_, rfl⟩
    obtain ⟨va, hva⟩ : ∃ va, va = qs[k].2 := ⟨_, rfl⟩
    rw [← hxx] at hat hxk HGD
    rw [← hva] at hat
    obtain ⟨pa, ca, rfl, hat2⟩ := id hat
    rw [show (mkCell qs[k])[0]? = some (.int .i64 x.node) by rw [hxx]; rfl] at r0
    rw [show (mkCell qs[k])[1]? = some (.string ⟨x.name.toArray⟩) by rw [hxx]; rfl] at r1
    rw [show (mkCell qs[k])[2]? = some (.slice pa x.attrs.length ca) by rw [hva]; rfl] at r2
    obtain ⟨NM, hNM⟩ : ∃ NM : ByteArray, NM = (⟨x.name.toArray⟩ : ByteArray) := ⟨_, rfl⟩
    rw [← hNM] at r1
    have HNM := Lib.hid hNM
    have HC : Hid (Calls Try.prog 109 #[.agg #[.int .i64 x.node, .string NM, .slice pa x.attrs.length ca]] W1 (CopyN x NM W1)) := Lib.hid (mcopiedN x NM hNM _ pa ca W1 hat hxk)
    have j0 : (0 : Int) ≤ (k : Int) := by omega
    have j1 : (k : Int) < (qs.length : Int) := by omega
    rw [Nat.add_zero] at r0
    clear h h1 hq hW1 hx1 c hk b1 hat hat2 hx hxx hva hNM y0 y1 y2 z0 z1 z2
    go_enter Try.func113, Try.ntmps113
    go_wp2_with fail
    rw [← HW1.out]
    refine HH.out.mono ?_
    rintro e w1 ⟨rfl, rfl⟩
    go_wp2_with fail
    refine HC.out.mono ?_
    rintro e W6 ⟨p6, c6, rfl, ha6, hb6⟩
    have HA6 := Lib.hid ha6
    have HB6 := Lib.hid hb6
    have hx6 := (hb6.block _ ys).trans HX1.out
    have HX6 := Lib.hid hx6
    have y0 := (block_cell hx6 0).1
    have y1 := (block_cell hx6 1).1
    have y2 := (block_cell hx6 2).1
    have z0 := (block_cell hx6 0).2
    have z1 := (block_cell hx6 1).2
    have z2 := (block_cell hx6 2).2
    simp at y0 y1 y2
    have y6 := heap_lt hx6
    clear hx6 ha6 hb6
    go_wp2_with fail
    have hb4 := set3 (w3 := W6) (g := w.heap.size) (.int .i64 x.node) (.string NM) (.slice p6 x.attrs.length c6) HX6.out
    have q0 := (block_cell hb4 0).1
    have q1 := (block_cell hb4 1).1
    have q2 := (block_cell hb4 2).1
    simp at q0 q1 q2
    have HEND : AtM (qs.map (·.1)) (k : Int) w (.returned (.tuple #[.agg #[.int .i64 x.node, .string NM, .slice p6 x.attrs.length c6], .bool true])) (((W6.setCell ⟨w.heap.size, 0, none⟩ (.int .i64 x.node)).setCell ⟨w.heap.size, 1, none⟩ (.string NM)).setCell ⟨w.heap.size, 2, none⟩ (.slice p6 x.attrs.length c6)) := by
      refine ⟨.inr ⟨HMH.out, p6, c6, ?_, ?_⟩, ?_⟩
      · rw [HGD.out, HNM.out]; rfl
      · rw [HGD.out]
        refine (HA6.out.kept ⟨by simp, fun b q _ => ?_⟩).mono (fun b k _ => by have := HB1.out.size; omega)
        rw [heap_setCell_other _ _ _ _ (by show b ≠ w.heap.size; omega), heap_setCell_other _ _ _ _ (by show b ≠ w.heap.size; omega), heap_setCell_other _ _ _ _ (by show b ≠ w.heap.size; omega)]
      · iterate 3 refine Below.setCell ?_ (by simp) _
        exact HB1.out.trans (HB6.out.mono HB1.out.size)
    have HE := Lib.hid HEND
    clear HEND
    refine bodyPost_ret (v := .tuple #[.agg #[.int .i64 x.node, .string NM, .slice p6 x.attrs.length c6], .bool true]) (by simp [results, Try.results113, go_sem, *]) rfl HE.out
  · have c' : mHas S i = false := by simpa using c
    have HC := Lib.hid c'
    rw [c'] at HH
    clear h h1 hW1 hx1 c c' b1
    go_enter Try.func113, Try.ntmps113
    go_wp2_with fail
    rw [← HW1.out]
    refine HH.out.mono ?_
    rintro e w1 ⟨rfl, rfl⟩
    go_wp2_with fail
    have hb4 := set3 (w3 := W1) (g := w.heap.size) (.int .i64 0) (.string ⟨#[]⟩) (.slice none 0 0) HX1.out
    have q0 := (block_cell hb4 0).1
    have q1 := (block_cell hb4 1).1
    have q2 := (block_cell hb4 2).1
    simp at q0 q1 q2
    refine bodyPost_ret (v := .tuple #[.agg #[.int .i64 0, .string ⟨#[]⟩, .slice none 0 0], .bool false]) (by simp [results, Try.results113, go_sem, *]) rfl ⟨.inl ⟨HC.out, rfl⟩, ?_⟩
    iterate 3 refine Below.setCell ?_ (by simp) _
    exact HB1.out
end Go.Proofs.Ytmhjfbdldpehdaa
namespace Go.Proofs.Ytmhjfbdldpehdaa
open Go.RowKit

theorem mIns_end (S : List MK) (x : MK) : mIns S S.length x = S ++ [x] := by simp [mIns]
theorem markV_wall : markV mWall (.slice none 0 0) = .agg #[.int .i64 (-1), .string ⟨#[]⟩, .slice none 0 0] := rfl
set_option maxHeartbeats 1000000 in
set_option maxRecDepth 100000 in
theorem mwallP (S : List MK) (B : Nat) (M : Nat → Prop) (w : World) (h : MarksM M w B S) (hs : S.length ≤ 4294967296) :
    Calls Try.prog 32 #[.pointer (some ⟨B, 0, none⟩)] w (fun e w' => e = .returned (.tuple #[]) ∧ MarksM (New M w) w' B (S ++ [mWall]) ∧ Turns M w w') := by
  have HI := Lib.hid (minsertP S B M (fun _ => False) w S.length mWall none 0 h (Nat.le_refl _) hs (AttrsP.nil _ _ _ _) (fun _ k => k.elim) (by decide))
  rw [mIns_end, show (mWall.attrs.length) = 0 from rfl, markV_wall] at HI
  obtain ⟨v, qs, rfl, hq⟩ := h
  obtain ⟨p, cap, rfl, _⟩ := hq.reads
  have h0 := hq.cell
  have hB := hq.lt
  have HL : Hid (((qs.map (·.1)).length : Int) = (qs.length : Int)) := Lib.hid (by simp)
  rw [HL.out] at HI
  clear hq
  go_enter Try.func32, Try.ntmps32
  go_wp2_with fail
  refine HI.out.mono ?_
  rintro e w2 ⟨rfl, d2, t2⟩
  have HD := Lib.hid d2
  have HT := Lib.hid t2
  clear d2 t2
  go_wp2_with fail
  exact bodyPost_end (results_none rfl _ _ _) rfl ⟨rfl, HD.out, HT.out⟩

def mDropS (S : List MK) (i : Int) : List MK := if mHas S i = true then S.eraseIdx i.toNat else S
set_option maxHeartbeats 1000000 in
set_option maxRecDepth 100000 in
theorem mdropP (S : List MK) (B : Nat) (M : Nat → Prop) (w : World) (i : Int) (h : MarksM M w B S) (hs : S.length ≤ 4294967296) :
    Calls Try.prog 36 #[.pointer (some ⟨B, 0, none⟩), .int .i64 i] w (fun e w' => e = .returned (.bool (mHas S i)) ∧ MarksM M w' B (mDropS S i) ∧ Turns M w w') := by
  have HH := Lib.hid (mhasP S B M w i h)
  have HM := Lib.hid h
  by_cases c : mHas S i = true
  · have hc : 0 ≤ i ∧ i < S.length := by unfold mHas at c; simpa using c
    have HR := Lib.hid (mremoveP S B M w i.toNat h (by omega) hs)
    have ei : ((i.toNat : Nat) : Int) = i := by omega
    rw [ei] at HR
    have HS : Hid (mDropS S i = S.eraseIdx i.toNat) := Lib.hid (if_pos c)
    rw [HS.out, c]
    rw [c] at HH
    clear h c hc ei
    go_enter Try.func36, Try.ntmps36
    go_wp2_with fail
    refine HH.out.mono ?_
    rintro e w1 ⟨rfl, rfl⟩
    go_wp2_with fail
    refine HR.out.mono ?_
    rintro e w2 ⟨rfl, d2, t2⟩
    have HD := Lib.hid d2
    have HT := Lib.hid t2
    clear d2 t2
    go_wp2_with fail
    go_ret
    exact ⟨rfl, HD.out, HT.out⟩
  · have c' : mHas S i = false := by simpa using c
    have HS : Hid (mDropS S i = S) := Lib.hid (if_neg c)
    rw [HS.out, c']
    rw [c'] at HH
    clear h c c'
    go_enter Try.func36, Try.ntmps36
    go_wp2_with fail
    refine HH.out.mono ?_
    rintro e w1 ⟨rfl, rfl⟩
    go_wp2_with fail
    go_ret
    exact ⟨rfl, HM.out, Turns.refl _ _⟩

def mPutB (S : List MK) (i : Int) : Bool := mHas S i || decide (i = S.length)
def mPutS (S : List MK) (i : Int) (x : MK) : List MK := if mPutB S i = true then mIns S i.toNat x else S
set_option maxHeartbeats 1000000 in
set_option maxRecDepth 100000 in
theorem mputP (S : List MK) (B : Nat) (M P : Nat → Prop) (w : World) (i : Int) (x : MK) (pa : Option Addr) (ca : Nat) (h : MarksM M w B S) (hs : S.length ≤ 4294967296) (ha : AttrsP P w (.slice pa x.attrs.length ca) x.attrs) (hP : ∀ b, P b → ¬ M b) (hx : x.attrs.length ≤ 4294967296) :
    Calls Try.prog 40 #[.pointer (some ⟨B, 0, none⟩), .int .i64 i, markV x (.slice pa x.attrs.length ca)] w (fun e w' => e = .returned (.bool (mPutB S i)) ∧ MarksM (New M w) w' B (mPutS S i x) ∧ Turns M w w') := by
  unfold markV
  obtain ⟨NM, hNM⟩ : ∃ NM : ByteArray, NM = (⟨x.name.toArray⟩ : ByteArray) := ⟨_, rfl⟩
  rw [← hNM]
  obtain ⟨W1, hW1⟩ : ∃ W1, W1 = w.alloc (.cells #[.int .i64 x.node, .string NM, .slice pa x.attrs.length ca] 64) := ⟨_, rfl⟩
  have b1 : Below w.heap.size w W1 := by rw [hW1]; exact (Below.refl _ w).alloc (Nat.le_refl _) _
  have hx1 : W1.heap[w.heap.size]? = some (.cells #[.int .i64 x.node, .string NM, .slice pa x.attrs.length ca] 64 (0, 0)) := by rw [hW1]; exact heap_alloc_new w _
  have h1 := h.below b1
  have HH := Lib.hid (mhasP S B M W1 i h1)
  have HM := Lib.hid (h1.mono (L := New M w) fun b _ k => .inl k)
  have HB1 := Lib.hid (Turns.of_below (M := M) b1)
  have y0 := (block_cell hx1 0).1
  have y1 := (block_cell hx1 1).1
  have y2 := (block_cell hx1 2).1
  simp at y0 y1 y2
  have ys := heap_lt hx1
  have HW1 := Lib.hid hW1
  have hlen : Hid (∀ v qs, qs.map (·.1) = S → MarkQ M W1 B v qs → ∃ p cap, v = .slice p S.length cap ∧ W1.cell? ⟨B, 0, none⟩ = some v) := Lib.hid fun v qs e hq => by
    obtain ⟨p, cap, e2, _⟩ := hq.reads
    refine ⟨p, cap, ?_, hq.cell⟩
    rw [e2, ← e]; simp
  obtain ⟨v, qs, eS, hq⟩ := id h1
  obtain ⟨p, cap, rfl, h0⟩ := hlen.out v qs eS hq
  have hB := hq.lt
  by_cases c : mPutB S i = true
  · have hc : 0 ≤ i ∧ i ≤ S.length := by unfold mPutB mHas at c; simp at c; omega
    have hins := minsertP S B M P W1 i.toNat x pa ca h1 (by omega) hs (ha.kept (.of_below b1)) hP hx
    unfold markV at hins
    have ei : ((i.toNat : Nat) : Int) = i := by omega
    rw [ei, ← hNM] at hins
    have HINS : Hid (Calls Try.prog 103 #[.pointer (some ⟨B, 0, none⟩), .int .i64 i, .agg #[.int .i64 x.node, .string NM, .slice pa x.attrs.length ca]] W1 (fun e w' => e = .returned (.tuple #[]) ∧ MarksM (New M w) w' B (mIns S i.toNat x) ∧ Turns M w w')) := by
      refine Lib.hid (hins.mono ?_)
      rintro e w' ⟨q1, q2, q3⟩
      exact ⟨q1, q2.mono (fun b _ k => k.imp id (fun k => Nat.le_trans b1.size k)), HB1.out.trans (q3.mono fun b _ k => .inl k)⟩
    have HS : Hid (mPutS S i x = mIns S i.toNat x) := Lib.hid (if_pos c)
    rw [HS.out, c]
    by_cases c2 : mHas S i = true
    · rw [c2] at HH
      clear h h1 hq eS hlen hx1 hW1 c c2 hc ei hins ha hP b1 hNM HM
      go_enter Try.func40, Try.ntmps40
      go_wp2_with fail
      rw [← HW1.out]
      refine HH.out.mono ?_
      rintro e w1 ⟨rfl, rfl⟩
      go_wp2_with fail
      refine HINS.out.mono ?_
      rintro e w2 ⟨rfl, d2, t2⟩
      have HD := Lib.hid d2
      have HT := Lib.hid t2
      clear d2 t2
      go_wp2_with fail
      go_ret
      exact ⟨rfl, HD.out, HT.out⟩
    · have c2' : mHas S i = false := by simpa using c2
      have q1 : (i != (S.length : Int)) = false := by
        unfold mPutB at c
        rw [c2', Bool.false_or, decide_eq_true_eq] at c
        simp [c]
      rw [c2'] at HH
      clear h h1 hq eS hlen hx1 hW1 c c2 c2' hc ei hins ha hP b1 hNM HM
      go_enter Try.func40, Try.ntmps40
      go_wp2_with fail
      rw [← HW1.out]
      refine HH.out.mono ?_
      rintro e w1 ⟨rfl, rfl⟩
      go_wp2_with fail
      refine HINS.out.mono ?_
      rintro e w2 ⟨rfl, d2, t2⟩
      have HD := Lib.hid d2
      have HT := Lib.hid t2
      clear d2 t2
      go_wp2_with fail
      go_ret
      exact ⟨rfl, HD.out, HT.out⟩
  · have c' : mPutB S i = false := by simpa using c
    have hcc : mHas S i = false ∧ i ≠ S.length := by unfold mPutB at c'; simpa using c'
    have q1 : (i != (S.length : Int)) = true := by simpa using hcc.2
    have HS : Hid (mPutS S i x = S) := Lib.hid (if_neg c)
    rw [HS.out, c']
    rw [hcc.1] at HH
    clear h h1 hq eS hlen hx1 hW1 c c' hcc ha hP b1 hNM
    go_enter Try.func40, Try.ntmps40
    go_wp2_with fail
    rw [← HW1.out]
    refine HH.out.mono ?_
    rintro e w1 ⟨rfl, rfl⟩
    go_wp2_with fail
    go_ret
    exact ⟨rfl, HM.out, HB1.out⟩
end Go.Proofs.Ytmhjfbdldpehdaa
namespace Go.Proofs.Ytmhjfbdldpehdaa
open Go.RowKit

theorem mFind_step (S : List MK) (n : List UInt8) (j : Nat) (h : j < S.length) : mFind S n (j + 1) = if S[j].node = -1 then -1 else if S[j].name = n then (j : Int) else mFind S n j := by
  rw [mFind, getD_at h]
set_option maxHeartbeats 1000000 in
set_option maxRecDepth 100000 in
theorem mfindP (S : List MK) (B : Nat) (M : Nat → Prop) (w : World) (n : List UInt8) (h : MarksM M w B S) (hs : S.length ≤ 4294967296) :
    Calls Try.prog 102 #[.pointer (some ⟨B, 0, none⟩), .string ⟨n.toArray⟩] w (Gives (.int .i64 (mFind S n S.length)) w) := by
  obtain ⟨v, qs, rfl, hq⟩ := h
  obtain ⟨p, cap, rfl, hr⟩ := hq.reads
  have h0 := hq.cell
  have hB := hq.lt
  rw [List.length_map] at hs
  have HR := Lib.hid hr
  have HL : Hid ((qs.map (·.1)).length = qs.length) := Lib.hid (by simp)
  clear hq hr
  rw [HL.out]
  obtain ⟨R, hR⟩ : ∃ R, R = mFind (qs.map (·.1)) n qs.length := ⟨_, rfl⟩
  rw [← hR]
  have HRR := Lib.hid hR
  clear hR
  go_enter Try.func102, Try.ntmps102
  go_wp2_with fail
  go_loop [5] (fun i => ∃ k : Nat, k ≤ qs.length ∧ i = .int .i64 ((k : Int) - 1) ∧ R = mFind (qs.map (·.1)) n k) (fun i => (intOf i + 1).toNat)
  case atStart => exact ⟨qs.length, Nat.le_refl _, rfl, HRR.out⟩
  case round =>
    obtain ⟨k, hk, rfl, hf⟩ := hrel
    have HF := Lib.hid hf
    clear hf
    rcases k with _ | j
    · rw [show (((0 : Nat) : Int) - 1) = -1 by omega]
      have HZ : Hid (R = -1) := Lib.hid HF.out
      go_wp2_with fail
      go_ret
      exact ⟨ret_is HZ.out.symm, rfl⟩
    · rw [show (((j + 1 : Nat) : Int) - 1) = (j : Int) by omega]
      have hj : j < qs.length := by omega
      obtain ⟨g, rfl, hg, n0, n1, n2⟩ := HR.out j hj
      have HST : Hid (R = if qs[j].1.node = -1 then -1 else if qs[j].1.name = n then (j : Int) else mFind (qs.map (·.1)) n j) := by
        refine Lib.hid ?_
        rw [HF.out, mFind_step _ _ _ (by simpa using hj)]
        simp
      have j0 : (0 : Int) ≤ (j : Int) := by omega
      have j1 : (j : Int) < (qs.length : Int) := by omega
      clear n2
      by_cases c1 : qs[j].1.node = -1
      · have q1 : (qs[j].1.node != (-1 : Int)) = false := by rw [c1]; rfl
        have HZ : Hid (R = -1) := Lib.hid (by rw [HST.out, if_pos c1])
        rw [c1] at n0 q1
        clear c1 HST
        go_wp2_with fail
        go_ret
        exact ⟨ret_is HZ.out.symm, rfl⟩
      · have q1 : (qs[j].1.node != (-1 : Int)) = true := by simpa using c1
        by_cases c2 : qs[j].1.name = n
        · have q2 := str_is c2
          have HZ : Hid (R = (j : Int)) := Lib.hid (by rw [HST.out, if_neg c1, if_pos c2])
          clear c1 c2 HST
          generalize qs[j].1.node = N at *
          generalize (⟨qs[j].1.name.toArray⟩ : ByteArray) = NA at *
          generalize (⟨n.toArray⟩ : ByteArray) = NB at *
          go_wp2_with fail
          go_ret
          exact ⟨ret_is HZ.out.symm, rfl⟩
        · have q2 := str_ne c2
          have HZ : Hid (R = mFind (qs.map (·.1)) n j) := Lib.hid (by rw [HST.out, if_neg c1, if_neg c2])
          clear c1 c2 HST
          generalize qs[j].1.node = N at *
          generalize (⟨qs[j].1.name.toArray⟩ : ByteArray) = NA at *
          generalize (⟨n.toArray⟩ : ByteArray) = NB at *
          go_wp2_with fail
          exact ⟨⟨j, by omega, rfl, HZ.out⟩, by simp [intOf]⟩

/-- The place of the first mark of that node, from a place on. -/
def mOfA : List MK → Int → Nat → Int
  | [], _, _ => -1
  | q :: r, n, i => if q.node = n then (i : Int) else mOfA r n (i + 1)
set_option maxHeartbeats 1000000 in
set_option maxRecDepth 100000 in
theorem mofP (S : List MK) (B : Nat) (M : Nat → Prop) (w : World) (n : Int) (h : MarksM M w B S) (hs : S.length ≤ 4294967296) :
    Calls Try.prog 45 #[.pointer (some ⟨B, 0, none⟩), .int .i64 n] w (Gives (.int .i64 (mOfA S n 0)) w) := by
  obtain ⟨v, qs, rfl, hq⟩ := h
  obtain ⟨p, cap, rfl, hr⟩ := hq.reads
  have h0 := hq.cell
  have hB := hq.lt
  rw [List.length_map] at hs
  have HR := Lib.hid hr
  clear hq hr
  obtain ⟨R, hR⟩ : ∃ R, R = mOfA (qs.map (·.1)) n 0 := ⟨_, rfl⟩
  rw [← hR]
  have HRR := Lib.hid hR
  clear hR
  go_enter Try.func45, Try.ntmps45
  go_wp2_with fail
  go_loop [11] (fun i => ∃ k : Nat, k ≤ qs.length ∧ i = .int .i64 (k : Int) ∧ R = mOfA ((qs.drop k).map (·.1)) n k) (fun i => qs.length - (intOf i).toNat)
  case atStart => exact ⟨0, Nat.zero_le _, rfl, HRR.out⟩
  case round =>
    obtain ⟨k, hk, rfl, hf⟩ := hrel
    have HF := Lib.hid hf
    clear hf
    by_cases hlt : k < qs.length
    · obtain ⟨g, rfl, hg, n0, n1, n2⟩ := HR.out k hlt
      have HST : Hid (R = if qs[k].1.node = n then (k : Int) else mOfA ((qs.drop (k + 1)).map (·.1)) n (k + 1)) := by
        refine Lib.hid ?_
        rw [HF.out, List.drop_eq_getElem_cons hlt]
        rfl
      have j0 : (0 : Int) ≤ (k : Int) := by omega
      have j1 : (k : Int) < (qs.length : Int) := by omega
      clear n1 n2
      by_cases c1 : qs[k].1.node = n
      · have q1 : (qs[k].1.node == n) = true := by simpa using c1
        have HZ : Hid (R = (k : Int)) := Lib.hid (by rw [HST.out, if_pos c1])
        clear c1 HST
        generalize qs[k].1.node = N at *
        go_wp2_with fail
        go_ret
        exact ⟨ret_is HZ.out.symm, rfl⟩
      · have q1 : (qs[k].1.node == n) = false := by simpa using c1
        have HZ : Hid (R = mOfA ((qs.drop (k + 1)).map (·.1)) n (k + 1)) := Lib.hid (by rw [HST.out, if_neg c1])
        clear c1 HST
        generalize qs[k].1.node = N at *
        go_wp2_with fail
        exact ⟨⟨k + 1, by omega, by go_num, HZ.out⟩, by simp [intOf]; omega⟩
    · have HZ : Hid (R = -1) := Lib.hid (by rw [HF.out, List.drop_eq_nil_of_le (by omega)]; rfl)
      go_wp2_with fail
      go_ret
      exact ⟨ret_is HZ.out.symm, rfl⟩

theorem mLast_step (S : List MK) (j : Nat) (h : j < S.length) (h1 : 0 < j) : mLast S j = if S[j].node = -1 then j else mLast S (j - 1) := by
  obtain ⟨m, rfl⟩ : ∃ m, j = m + 1 := ⟨j - 1, by omega⟩
  rw [mLast, getD_at h]
  rfl
set_option maxHeartbeats 1000000 in
set_option maxRecDepth 100000 in
theorem mclearP (S : List MK) (B : Nat) (M : Nat → Prop) (w : World) (h : MarksM M w B S) (hs : S.length ≤ 4294967296) :
    Calls Try.prog 34 #[.pointer (some ⟨B, 0, none⟩)] w (fun e w' => e = .returned (.tuple #[]) ∧ MarksM M w' B (mClear S) ∧ Turns M w w') := by
  have HCUT : Hid (∀ k : Nat, k ≤ S.length → k = mLast S (S.length - 1) → Calls Try.prog 104 #[.pointer (some ⟨B, 0, none⟩), .int .i64 (k : Int)] w (fun e w' => e = .returned (.tuple #[]) ∧ MarksM M w' B (mClear S) ∧ Turns M w w')) := by
    refine Lib.hid fun k hk e => ?_
    unfold mClear
    rw [← e]
    exact mcutP S B M w k h hk
  obtain ⟨v, qs, rfl, hq⟩ := h
  obtain ⟨p, cap, rfl, hr⟩ := hq.reads
  have h0 := hq.cell
  have hB := hq.lt
  have HL : Hid ((qs.map (·.1)).length = qs.length) := Lib.hid (by simp)
  rw [HL.out] at hs HCUT
  have HR := Lib.hid hr
  clear hq hr
  obtain ⟨T, hT⟩ : ∃ T, T = mClear (qs.map (·.1)) := ⟨_, rfl⟩
  rw [← hT] at HCUT
  rw [← hT]
  obtain ⟨R, hR⟩ : ∃ R, R = mLast (qs.map (·.1)) (qs.length - 1) := ⟨_, rfl⟩
  rw [← hR] at HCUT
  have HRR := Lib.hid hR
  clear hR hT
  go_enter Try.func34, Try.ntmps34
  go_wp2_with fail
  go_loop [2] (fun i => ∃ k : Nat, k ≤ qs.length ∧ i = .int .i64 ((k : Int) - 1) ∧ R = mLast (qs.map (·.1)) (k - 1) ∧ (k = 0 → qs.length = 0)) (fun i => (intOf i + 1).toNat)
  case atStart => exact ⟨qs.length, Nat.le_refl _, rfl, HRR.out, id⟩
  case round =>
    obtain ⟨k, hk, rfl, hf, hz⟩ := hrel
    have HF := Lib.hid hf
    clear hf
    rcases k with _ | j
    · rw [show (((0 : Nat) : Int) - 1) = -1 by omega]
      have hmx : max (-1 : Int) 0 = ((0 : Nat) : Int) := by omega
      have HC := Lib.hid (HCUT.out 0 (Nat.zero_le _) HF.out.symm)
      clear hz
      go_wp2_with fail
      refine HC.out.mono ?_
      rintro e w2 ⟨rfl, d2, t2⟩
      have HD := Lib.hid d2
      have HT := Lib.hid t2
      clear d2 t2
      go_wp2_with fail
      exact bodyPost_end (results_none rfl _ _ _) rfl ⟨rfl, HD.out, HT.out⟩
    · rw [show (((j + 1 : Nat) : Int) - 1) = (j : Int) by omega]
      have hj : j < qs.length := by omega
      have hmx : max (j : Int) 0 = (j : Int) := by omega
      obtain ⟨g, rfl, hg, n0, n1, n2⟩ := HR.out j hj
      have j0 : (0 : Int) ≤ (j : Int) := by omega
      have j1 : (j : Int) < (qs.length : Int) := by omega
      clear n1 n2 hz
      rw [Nat.add_sub_cancel] at HF
      rcases Nat.eq_zero_or_pos j with rfl | jp
      · have HC := Lib.hid (HCUT.out 0 (Nat.zero_le _) HF.out.symm)
        clear n0 hmx
        go_wp2_with fail
        refine HC.out.mono ?_
        rintro e w2 ⟨rfl, d2, t2⟩
        have HD := Lib.hid d2
        have HT := Lib.hid t2
        clear d2 t2
        go_wp2_with fail
        exact bodyPost_end (results_none rfl _ _ _) rfl ⟨rfl, HD.out, HT.out⟩
      · have HST : Hid (R = if qs[j].1.node = -1 then j else mLast (qs.map (·.1)) (j - 1)) := by
          refine Lib.hid ?_
          rw [HF.out, mLast_step _ _ (by simpa using hj) jp]
          simp
        have j2 : (0 : Int) < (j : Int) := by omega
        by_cases c1 : qs[j].1.node = -1
        · have q1 : (qs[j].1.node != (-1 : Int)) = false := by rw [c1]; rfl
          have HC := Lib.hid (HCUT.out j (by omega) (by rw [HST.out, if_pos c1]))
          rw [c1] at n0 q1
          clear c1 HST HF
          go_wp2_with fail
          refine HC.out.mono ?_
          rintro e w2 ⟨rfl, d2, t2⟩
          have HD := Lib.hid d2
          have HT := Lib.hid t2
          clear d2 t2
          go_wp2_with fail
          exact bodyPost_end (results_none rfl _ _ _) rfl ⟨rfl, HD.out, HT.out⟩
        · have q1 : (qs[j].1.node != (-1 : Int)) = true := by simpa using c1
          have HZ : Hid (R = mLast (qs.map (·.1)) (j - 1)) := Lib.hid (by rw [HST.out, if_neg c1])
          clear c1 HST HF
          generalize qs[j].1.node = N at *
          go_wp2_with fail
          exact ⟨⟨j, by omega, rfl, HZ.out, fun q => absurd q (by omega)⟩, by simp [intOf]⟩
end Go.Proofs.Ytmhjfbdldpehdaa
namespace Go.Proofs.Ytmhjfbdldpehdaa
open Go.RowKit

/-- A number that tells whether x is among xs. -/
def IdxB (x : List UInt8 × List UInt8) (xs : List (List UInt8 × List UInt8)) (w : World) (e : Ending) (w' : World) : Prop := ∃ n : Int, e = .returned (.int .i64 n) ∧ (0 ≤ n ↔ x ∈ xs) ∧ Below w.heap.size w w'
theorem IdxB.yes {x : List UInt8 × List UInt8} {xs : List (List UInt8 × List UInt8)} {w w' : World} (n : Int) (h0 : 0 ≤ n) (h : x ∈ xs) (hb : Below w.heap.size w w') : IdxB x xs w (.returned (.int .i64 n)) w' := ⟨n, rfl, ⟨fun _ => h, fun _ => h0⟩, hb⟩
theorem IdxB.no {x : List UInt8 × List UInt8} {xs : List (List UInt8 × List UInt8)} {w w' : World} (h : x ∉ xs) (hb : Below w.heap.size w w') : IdxB x xs w (.returned (.int .i64 (-1))) w' := ⟨-1, rfl, ⟨fun q => absurd q (by omega), fun q => absurd q h⟩, hb⟩
theorem not_in_step {α : Type} {xs : List α} {x : α} {k : Nat} (h : ∀ j (hj : j < xs.length), j < k → xs[j] ≠ x) (hk : k < xs.length) (hn : xs[k] ≠ x) : ∀ j (hj : j < xs.length), j < k + 1 → xs[j] ≠ x := by
  intro j hj hjk
  rcases Nat.lt_or_ge j k with q | q
  · exact h j hj q
  · have : j = k := by omega
    subst this
    exact hn
theorem not_in_all {α : Type} {xs : List α} {x : α} {k : Nat} (h : ∀ j (hj : j < xs.length), j < k → xs[j] ≠ x) (hk : xs.length ≤ k) : x ∉ xs := by
  intro hm
  obtain ⟨j, hj, e⟩ := List.mem_iff_getElem.1 hm
  exact h j hj (by omega) e
set_option maxHeartbeats 1000000 in
set_option maxRecDepth 100000 in
theorem mindexP (a : Value) (xs : List (List UInt8 × List UInt8)) (x : List UInt8 × List UInt8) (w : World) (ha : AttrsIn w a xs) (hN : xs.length ≤ 4294967296) : Calls Try.prog 171 #[a, .agg #[.string ⟨x.1.toArray⟩, .string ⟨x.2.toArray⟩]] w (IdxB x xs w) := by
  obtain ⟨⟨p, cap, rfl, hc⟩, _⟩ := ha
  have HC := Lib.hid hc
  clear hc
  obtain ⟨A, hA⟩ : ∃ A : ByteArray, A = ⟨x.1.toArray⟩ := ⟨_, rfl⟩
  obtain ⟨V, hV⟩ : ∃ V : ByteArray, V = ⟨x.2.toArray⟩ := ⟨_, rfl⟩
  rw [← hA, ← hV]
  have HAV := Lib.hid (And.intro hA hV)
  clear hA hV
  obtain ⟨W1, hW1⟩ : ∃ W1, W1 = w.alloc (.cells #[.string A, .string V] 46) := ⟨_, rfl⟩
  have hx1 : W1.heap[w.heap.size]? = some (.cells #[.string A, .string V] 46 (0, 0)) := by rw [hW1]; exact heap_alloc_new w _
  have y0 : W1.cell? ⟨w.heap.size, 0, none⟩ = some (.string A) := by simp [World.cell?, hx1]
  have y1 : W1.cell? ⟨w.heap.size, 1, none⟩ = some (.string V) := by simp [World.cell?, hx1]
  have ys := heap_lt hx1
  have HB1 : Hid (Below w.heap.size w W1) := Lib.hid (by rw [hW1]; exact (Below.refl _ w).alloc (Nat.le_refl _) _)
  have HW1 := Lib.hid hW1
  clear hW1 hx1
  go_enter Try.func171, Try.ntmps171
  go_wp2_with fail
  rw [← HW1.out]
  go_loopw [8] (fun i wr => ∃ (k q : Nat), k ≤ xs.length ∧ i = .int .i64 k ∧ wr = W1.drewN q ∧ ∀ j (h1 : j < xs.length), j < k → xs[j] ≠ x) (fun i _ => xs.length - (intOf i).toNat)
  case atStart => exact ⟨0, 0, Nat.zero_le _, rfl, rfl, fun j _ h => absurd h (by omega)⟩
  case round =>
    obtain ⟨k, q, hk, rfl, rfl, hall⟩ := hrel
    have HALL := Lib.hid hall
    clear hall
    by_cases hlt : k < xs.length
    · obtain ⟨g, o, rfl, hg, h0, h1⟩ := HC.out k hlt
      have g0 := (HB1.out.cell (p := ⟨g, o + k * 2, none⟩) hg).trans h0
      have g1 := (HB1.out.cell (p := ⟨g, o + k * 2 + 1, none⟩) hg).trans h1
      have hgs : g < W1.heap.size := Nat.lt_of_lt_of_le hg HB1.out.size
      have k0 : (0 : Int) ≤ (k : Int) := by omega
      have k1 : (k : Int) < (xs.length : Int) := by omega
      clear h0 h1
      by_cases c1 : x.1 = xs[k].1
      · have q1 : (A.toList == (⟨xs[k].1.toArray⟩ : ByteArray).toList) = true := by rw [HAV.out.1]; exact str_is c1
        by_cases c2 : x.2 = xs[k].2
        · have q2 : (V.toList == (⟨xs[k].2.toArray⟩ : ByteArray).toList) = true := by rw [HAV.out.2]; exact str_is c2
          have HE : Hid (x ∈ xs) := Lib.hid (by rw [Prod.ext c1 c2]; exact List.getElem_mem hlt)
          clear c1 c2
          generalize (⟨xs[k].1.toArray⟩ : ByteArray) = C at *
          generalize (⟨xs[k].2.toArray⟩ : ByteArray) = D at *
          go_wp2
          go_quiet (fail)
          go_wp2
          go_ret
          exact IdxB.yes _ k0 HE.out (below_drewN (below_drewN HB1.out _) _)
        · have q2 : (V.toList == (⟨xs[k].2.toArray⟩ : ByteArray).toList) = false := by rw [HAV.out.2]; exact str_ne c2
          have HE : Hid (∀ j (h1 : j < xs.length), j < k + 1 → xs[j] ≠ x) := Lib.hid (not_in_step HALL.out hlt (fun e => c2 (by rw [e])))
          clear c1 c2
          generalize (⟨xs[k].1.toArray⟩ : ByteArray) = C at *
          generalize (⟨xs[k].2.toArray⟩ : ByteArray) = D at *
          go_wp2
          go_quiet (fail)
          go_wp2
          exact ⟨⟨k + 1, _, by omega, by go_num, rfl, HE.out⟩, by simp [intOf]; omega⟩
      · have q1 : (A.toList == (⟨xs[k].1.toArray⟩ : ByteArray).toList) = false := by rw [HAV.out.1]; exact str_ne c1
        have HE : Hid (∀ j (h1 : j < xs.length), j < k + 1 → xs[j] ≠ x) := Lib.hid (not_in_step HALL.out hlt (fun e => c1 (by rw [e])))
        clear c1
        generalize (⟨xs[k].1.toArray⟩ : ByteArray) = C at *
        generalize (⟨xs[k].2.toArray⟩ : ByteArray) = D at *
        go_wp2
        go_quiet (fail)
        go_wp2
        exact ⟨⟨k + 1, _, by omega, by go_num, rfl, HE.out⟩, by simp [intOf]; omega⟩
    · have HE : Hid (x ∉ xs) := Lib.hid (not_in_all HALL.out (by omega))
      go_wp2
      go_ret
      exact IdxB.no HE.out (below_drewN HB1.out _)
set_option maxHeartbeats 1000000 in
set_option maxRecDepth 100000 in
theorem scontP (a : Value) (xs : List (List UInt8 × List UInt8)) (x : List UInt8 × List UInt8) (w : World) (ha : AttrsIn w a xs) (hN : xs.length ≤ 4294967296) : Calls Try.prog 161 #[a, .agg #[.string ⟨x.1.toArray⟩, .string ⟨x.2.toArray⟩]] w (Brings (.bool (decide (x ∈ xs))) w) := by
  have hw := (Below.refl _ w).alloc (Nat.le_refl _) (.cells #[.string ⟨x.1.toArray⟩, .string ⟨x.2.toArray⟩] 46)
  have HI := Lib.hid (mindexP a xs x _ (ha.below hw) hN)
  have HW := Lib.hid hw
  clear hw ha
  generalize (⟨x.1.toArray⟩ : ByteArray) = A at *
  generalize (⟨x.2.toArray⟩ : ByteArray) = V at *
  by_cases c : x ∈ xs
  · have HD : Hid (decide (x ∈ xs) = true) := Lib.hid (decide_eq_true c)
    rw [HD.out]
    have HX := Lib.hid c
    clear c
    go_enter Try.func161, Try.ntmps161
    go_wp2_with fail
    refine HI.out.mono ?_
    rintro e w1 ⟨n, rfl, hn, hb⟩
    have h0 : 0 ≤ n := hn.2 HX.out
    have HB := Lib.hid hb
    clear hn hb
    go_wp2_with fail
    go_ret
    exact ⟨rfl, HW.out.trans (HB.out.mono HW.out.size)⟩
  · have HD : Hid (decide (x ∈ xs) = false) := Lib.hid (decide_eq_false c)
    rw [HD.out]
    have HX := Lib.hid c
    clear c
    go_enter Try.func161, Try.ntmps161
    go_wp2_with fail
    refine HI.out.mono ?_
    rintro e w1 ⟨n, rfl, hn, hb⟩
    have h0 : n < 0 := Int.not_le.1 (fun q => HX.out (hn.1 q))
    have HB := Lib.hid hb
    clear hn hb
    go_wp2_with fail
    go_ret
    exact ⟨bool_is (decide_eq_false (by omega)), HW.out.trans (HB.out.mono HW.out.size)⟩

theorem sameV_eq {xs ys : List (List UInt8 × List UInt8)} (h : xs = ys) : sameV xs ys = true := by
  subst h
  unfold sameV
  rw [decide_eq_true rfl, Bool.and_true, List.all_eq_true]
  exact fun a ha => List.any_eq_true.2 ⟨a, ha, beq_self_eq_true _⟩
theorem sameV_len {xs ys : List (List UInt8 × List UInt8)} (h : xs.length ≠ ys.length) : sameV xs ys = false := by
  unfold sameV
  rw [decide_eq_false h, Bool.and_false]
theorem sameV_not_in {xs ys : List (List UInt8 × List UInt8)} {k : Nat} (hk : k < xs.length) (h : xs[k] ∉ ys) : sameV xs ys = false := by
  refine sameV_no xs ys k hk ?_
  rw [List.any_eq_false]
  intro b hb q
  rw [beq_iff_eq] at q
  exact h (q ▸ hb)
set_option maxHeartbeats 1000000 in
set_option maxRecDepth 100000 in
theorem msameP (a b : Value) (xs ys : List (List UInt8 × List UInt8)) (w : World) (ha : AttrsIn w a xs) (hb : AttrsIn w b ys) (hN : xs.length ≤ 30) : Calls Try.prog 146 #[a, b] w (Brings (.bool (sameV xs ys)) w) := by
  obtain ⟨⟨p, cap, rfl, hc⟩, _⟩ := id ha
  obtain ⟨⟨p2, cap2, rfl, hc2⟩, _⟩ := id hb
  have HC := Lib.hid hc
  have HC2 := Lib.hid hc2
  have HA := Lib.hid ha
  have HB := Lib.hid hb
  clear hc hc2 ha hb
  by_cases hl : xs.length = ys.length
  · have q0 : ((xs.length : Int) != (ys.length : Int)) = false := by simp [hl]
    have HL := Lib.hid hl
    have hl2 : xs.length ≤ ys.length := by omega
    clear hl
    go_enter Try.func146, Try.ntmps146
    go_wp2_with fail
    go_loopw [14] (fun i wr => ∃ (k : Nat), k ≤ xs.length ∧ i = .int .i64 k ∧ Below w.heap.size w wr ∧ ∀ j (h1 : j < k) (h2 : j < xs.length) (h3 : j < ys.length), xs[j] = ys[j]) (fun i _ => xs.length - (intOf i).toNat)
    case atStart => exact ⟨0, Nat.zero_le _, rfl, Below.refl _ _, fun j h => absurd h (by omega)⟩
    case round =>
      obtain ⟨k, hk, rfl, hbw, hall⟩ := hrel
      have HALL := Lib.hid hall
      have HBW := Lib.hid hbw
      clear hall hbw
      by_cases hlt : k < xs.length
      · have hlt2 : k < ys.length := by omega
        obtain ⟨g, o, rfl, hg, h0, h1⟩ := HC.out k hlt
        obtain ⟨g2, o2, rfl, hg2, e0, e1⟩ := HC2.out k hlt2
        have n0 := (HBW.out.cell (p := ⟨g, o + k * 2, none⟩) hg).trans h0
        have n1 := (HBW.out.cell (p := ⟨g, o + k * 2 + 1, none⟩) hg).trans h1
        have m0 := (HBW.out.cell (p := ⟨g2, o2 + k * 2, none⟩) hg2).trans e0
        have m1 := (HBW.out.cell (p := ⟨g2, o2 + k * 2 + 1, none⟩) hg2).trans e1
        have gs : g < wr.heap.size := Nat.lt_of_lt_of_le hg HBW.out.size
        have gs2 : g2 < wr.heap.size := Nat.lt_of_lt_of_le hg2 HBW.out.size
        have k0 : (0 : Int) ≤ (k : Int) := by omega
        have k1 : (k : Int) < (xs.length : Int) := by omega
        have k2 : (k : Int) < (ys.length : Int) := by omega
        have HCO : Hid (∀ W, Below w.heap.size w W → Calls Try.prog 161 #[.slice (some ⟨g2, o2, none⟩) ys.length cap2, .agg #[.string ⟨xs[k].1.toArray⟩, .string ⟨xs[k].2.toArray⟩]] W (Brings (.bool (decide (xs[k] ∈ ys))) W)) := Lib.hid fun W b => scontP _ ys xs[k] W (HB.out.below b) (by have := HL.out; omega)
        have HSA : Hid (∀ W, Below w.heap.size w W → Calls Try.prog 162 #[.slice (some ⟨g, o, none⟩) xs.length cap, .slice (some ⟨g2, o2, none⟩) ys.length cap2] W (Brings (.bool (sameV xs ys)) W)) := Lib.hid fun W b => same_in _ _ xs ys W (HA.out.below b) (HB.out.below b) hN
        have HNI : Hid (xs[k] ∉ ys → sameV xs ys = false) := Lib.hid (sameV_not_in hlt)
        clear h0 h1 e0 e1
        by_cases c1 : xs[k].1 = ys[k].1
        · have q1 := str_is c1
          by_cases c2 : xs[k].2 = ys[k].2
          · have q2 := str_is c2
            have HE := Lib.hid (Prod.ext c1 c2)
            clear c1 c2 HCO HSA HNI
            generalize (⟨xs[k].1.toArray⟩ : ByteArray) = A at *
            generalize (⟨xs[k].2.toArray⟩ : ByteArray) = B at *
            generalize (⟨ys[k].1.toArray⟩ : ByteArray) = C at *
            generalize (⟨ys[k].2.toArray⟩ : ByteArray) = D at *
            have HW1 : Hid (Below w.heap.size w (wr.alloc (.cells #[.string A, .string B] 46))) := Lib.hid (HBW.out.alloc HBW.out.size _)
            go_wp2
            go_quiet (fail)
            go_wp2
            refine ⟨⟨k + 1, by omega, by go_num, below_drewN HW1.out _, fun j h1 h2 h3 => ?_⟩, by simp [intOf]; omega⟩
            rcases Nat.lt_or_ge j k with h | h
            · exact HALL.out j h h2 h3
            · have : j = k := by omega
              subst this
              exact HE.out
          · have q2 := str_ne c2
            clear c1 c2
            generalize (⟨xs[k].1.toArray⟩ : ByteArray) = A at *
            generalize (⟨xs[k].2.toArray⟩ : ByteArray) = B at *
            generalize (⟨ys[k].1.toArray⟩ : ByteArray) = C at *
            generalize (⟨ys[k].2.toArray⟩ : ByteArray) = D at *
            have HW1 : Hid (Below w.heap.size w (wr.alloc (.cells #[.string A, .string B] 46))) := Lib.hid (HBW.out.alloc HBW.out.size _)
            by_cases c3 : xs[k] ∈ ys
            · rw [decide_eq_true c3] at HCO
              clear c3 HNI
              go_wp2
              go_quiet (fail)
              go_wp2_with fail
              refine (HCO.out _ (below_drewN HW1.out _)).mono ?_
              rintro e w1 ⟨rfl, b2⟩
              have HB2 := Lib.hid ((below_drewN HW1.out _).trans (b2.mono (below_drewN HW1.out _).size))
              clear b2
              go_wp2_with fail
              refine (HSA.out _ HB2.out).mono ?_
              rintro e w2 ⟨rfl, b3⟩
              have HB3 := Lib.hid (HB2.out.trans (b3.mono HB2.out.size))
              clear b3
              go_wp2_with fail
              go_ret
              exact ⟨rfl, HB3.out⟩
            · rw [decide_eq_false c3] at HCO
              have HZ : Hid (sameV xs ys = false) := Lib.hid (HNI.out c3)
              clear c3 HNI HSA
              go_wp2
              go_quiet (fail)
              go_wp2_with fail
              refine (HCO.out _ (below_drewN HW1.out _)).mono ?_
              rintro e w1 ⟨rfl, b2⟩
              have HB2 := Lib.hid ((below_drewN HW1.out _).trans (b2.mono (below_drewN HW1.out _).size))
              clear b2
              go_wp2_with fail
              go_ret
              exact ⟨bool_is HZ.out.symm, HB2.out⟩
        · have q1 := str_ne c1
          clear c1
          generalize (⟨xs[k].1.toArray⟩ : ByteArray) = A at *
          generalize (⟨xs[k].2.toArray⟩ : ByteArray) = B at *
          generalize (⟨ys[k].1.toArray⟩ : ByteArray) = C at *
          generalize (⟨ys[k].2.toArray⟩ : ByteArray) = D at *
          have HW1 : Hid (Below w.heap.size w (wr.alloc (.cells #[.string A, .string B] 46))) := Lib.hid (HBW.out.alloc HBW.out.size _)
          by_cases c3 : xs[k] ∈ ys
          · rw [decide_eq_true c3] at HCO
            clear c3 HNI
            go_wp2
            go_quiet (fail)
            go_wp2_with fail
            refine (HCO.out _ (below_drewN HW1.out _)).mono ?_
            rintro e w1 ⟨rfl, b2⟩
            have HB2 := Lib.hid ((below_drewN HW1.out _).trans (b2.mono (below_drewN HW1.out _).size))
            clear b2
            go_wp2_with fail
            refine (HSA.out _ HB2.out).mono ?_
            rintro e w2 ⟨rfl, b3⟩
            have HB3 := Lib.hid (HB2.out.trans (b3.mono HB2.out.size))
            clear b3
            go_wp2_with fail
            go_ret
            exact ⟨rfl, HB3.out⟩
          · rw [decide_eq_false c3] at HCO
            have HZ : Hid (sameV xs ys = false) := Lib.hid (HNI.out c3)
            clear c3 HNI HSA
            go_wp2
            go_quiet (fail)
            go_wp2_with fail
            refine (HCO.out _ (below_drewN HW1.out _)).mono ?_
            rintro e w1 ⟨rfl, b2⟩
            have HB2 := Lib.hid ((below_drewN HW1.out _).trans (b2.mono (below_drewN HW1.out _).size))
            clear b2
            go_wp2_with fail
            go_ret
            exact ⟨bool_is HZ.out.symm, HB2.out⟩
      · have HE : Hid (xs = ys) := Lib.hid (list_all HL.out fun j hj => HALL.out j (by omega) hj (by have := HL.out; omega))
        go_wp2_with fail
        go_ret
        exact ⟨bool_is (sameV_eq HE.out).symm, HBW.out⟩
  · have q0 : ((xs.length : Int) != (ys.length : Int)) = true := by simp; omega
    go_enter Try.func146, Try.ntmps146
    go_wp2_with fail
    go_ret
    exact ⟨bool_is (sameV_len hl).symm, Below.refl _ _⟩
end Go.Proofs.Ytmhjfbdldpehdaa
namespace Go.Proofs.Ytmhjfbdldpehdaa
open Go.RowKit

/-- A mark's name and attributes, in memory. -/
structure NameAt (w : World) (g o : Nat) (x : MK) (va : Value) : Prop where
  lt : g < w.heap.size
  name : w.cell? ⟨g, o + 1, none⟩ = some (.string ⟨x.name.toArray⟩)
  attrs : w.cell? ⟨g, o + 2, none⟩ = some va
  has : AttrsIn w va x.attrs
theorem NameAt.below {w w' : World} {g o : Nat} {x : MK} {va : Value} (h : NameAt w g o x va) (b : Below w.heap.size w w') : NameAt w' g o x va :=
  ⟨Nat.lt_of_lt_of_le h.lt b.size, (b.cell (p := ⟨g, o + 1, none⟩) h.lt).trans h.name, (b.cell (p := ⟨g, o + 2, none⟩) h.lt).trans h.attrs, h.has.below b⟩
set_option maxHeartbeats 1000000 in
set_option maxRecDepth 100000 in
theorem malikeP (x y : MK) (g o g2 o2 : Nat) (va vb : Value) (w : World) (h1 : NameAt w g o x va) (h2 : NameAt w g2 o2 y vb) (hN : x.attrs.length ≤ 30) : Calls Try.prog 110 #[.pointer (some ⟨g, o, none⟩), .pointer (some ⟨g2, o2, none⟩)] w (Brings (.bool (alikeM x y)) w) := by
  have hg := h1.lt
  have hg2 := h2.lt
  have d : Below w.heap.size w w.drew := (Below.refl _ _).drew
  have n1 := (h1.below d).name
  have a1 := (h1.below d).attrs
  have n2 := (h2.below d).name
  have a2 := (h2.below d).attrs
  have m1 := h1.name
  have m2 := h2.name
  have HS : Hid (∀ W, Below w.heap.size w W → Calls Try.prog 146 #[va, vb] W (Brings (.bool (sameV x.attrs y.attrs)) W)) := Lib.hid fun W b => msameP va vb x.attrs y.attrs W (h1.has.below b) (h2.has.below b) hN
  have HV : Hid (alikeM x y = (decide (x.name = y.name) && sameV x.attrs y.attrs)) := Lib.hid (by unfold alikeM; congr 1; rw [Bool.eq_iff_iff, beq_iff_eq, decide_eq_true_iff])
  rw [HV.out]
  clear h1 h2 d
  by_cases c : x.name = y.name
  · have q := str_is c
    have HD : Hid ((decide (x.name = y.name) && sameV x.attrs y.attrs) = sameV x.attrs y.attrs) := Lib.hid (by rw [decide_eq_true c, Bool.true_and])
    rw [HD.out]
    clear c
    generalize (⟨x.name.toArray⟩ : ByteArray) = A at *
    generalize (⟨y.name.toArray⟩ : ByteArray) = B at *
    go_enter Try.func110, Try.ntmps110
    go_wp2_with fail
    go_still_tail 18, (by kernel_rfl)
    have HW := Lib.hid (show Below w.heap.size w w.drew from (Below.refl _ _).drew)
    change wpList _ _ _ _ _ w.drew
    generalize w.drew = w2 at *
    go_wp2_with fail
    refine (HS.out _ HW.out).mono ?_
    rintro e w1 ⟨rfl, b2⟩
    have HB2 := Lib.hid (HW.out.trans (b2.mono HW.out.size))
    clear b2
    go_wp2_with fail
    go_ret
    exact ⟨rfl, HB2.out⟩
  · have q := str_ne c
    have HD : Hid ((decide (x.name = y.name) && sameV x.attrs y.attrs) = false) := Lib.hid (by rw [decide_eq_false c, Bool.false_and])
    rw [HD.out]
    clear c
    generalize (⟨x.name.toArray⟩ : ByteArray) = A at *
    generalize (⟨y.name.toArray⟩ : ByteArray) = B at *
    go_enter Try.func110, Try.ntmps110
    go_wp2_with fail
    go_quiet (fail)
    go_wp2_with fail
    go_ret
    exact ⟨rfl, below_drewN (Below.refl _ _) _⟩

theorem mIns_last (S : List MK) (x : MK) : mIns S S.length x = S ++ [x] := by simp [mIns]
theorem mScan_step (S : List MK) (x : MK) (j : Nat) (f : Int) (n : Nat) (h : j < S.length) : mScan S x (j + 1) f n = if S[j].node = -1 then (f, n) else if alikeM S[j] x then mScan S x j j (n + 1) else mScan S x j f n := by
  rw [mScan, getD_at h]
theorem MarkQ.named {M : Nat → Prop} {w : World} {B g n cap : Nat} {qs : List (MK × Value)} (h : MarkQ M w B (.slice (some ⟨g, 0, none⟩) n cap) qs) (hf : ∀ x ∈ qs.map (·.1), x.fits) (j : Nat) (hj : j < qs.length) : NameAt w g (j * 3) qs[j].1 qs[j].2 :=
  ⟨(h.row.lt g rfl).2, h.at j 1 hj (by omega), h.at j 2 hj (by omega), (h.attrs qs[j] (List.getElem_mem hj)).has (hf qs[j].1 (List.mem_map_of_mem (List.getElem_mem hj))).2⟩
/-- What is done behind the scan: room, and the mark last. -/
def PushOut (M : Nat → Prop) (S : List MK) (x : MK) (B : Nat) (w : World) (e : Ending) (w' : World) : Prop := e = .returned (.tuple #[]) ∧ MarksM (New M w) w' B (mPush S x) ∧ Turns M w w'
set_option maxHeartbeats 2000000 in
set_option maxRecDepth 100000 in
theorem mpushP (S : List MK) (B : Nat) (M P : Nat → Prop) (w : World) (x : MK) (pa : Option Addr) (ca : Nat) (h : MarksM M w B S) (hs : S.length ≤ 4294967296) (hf : ∀ y ∈ S, y.fits) (ha : AttrsP P w (.slice pa x.attrs.length ca) x.attrs) (hP : ∀ b, P b → ¬ M b) (hMw : ∀ b, M b → b < w.heap.size) (hx : x.fits) :
    Calls Try.prog 42 #[.pointer (some ⟨B, 0, none⟩), markV x (.slice pa x.attrs.length ca)] w (PushOut M S x B w) := by
  unfold markV
  obtain ⟨NM, hNM⟩ : ∃ NM : ByteArray, NM = (⟨x.name.toArray⟩ : ByteArray) := ⟨_, rfl⟩
  rw [← hNM]
  obtain ⟨W1, hW1⟩ : ∃ W1, W1 = w.alloc (.cells #[.int .i64 x.node, .string NM, .slice pa x.attrs.length ca] 64) := ⟨_, rfl⟩
  have b1 : Below w.heap.size w W1 := by rw [hW1]; exact (Below.refl _ w).alloc (Nat.le_refl _) _
  have hx1 : W1.heap[w.heap.size]? = some (.cells #[.int .i64 x.node, .string NM, .slice pa x.attrs.length ca] 64 (0, 0)) := by rw [hW1]; exact heap_alloc_new w _
  have hn2 : NameAt W1 w.heap.size 0 x (.slice pa x.attrs.length ca) := ⟨heap_lt hx1, by rw [hNM] at hx1; simp [World.cell?, hx1], by simp [World.cell?, hx1], (ha.kept (.of_below b1)).has hx.2⟩
  have HN2 := Lib.hid hn2
  have HX1 := Lib.hid hx1
  have HB1 := Lib.hid b1
  have HW1 := Lib.hid hW1
  have HNM := Lib.hid hNM
  have HA := Lib.hid ha
  have HP := Lib.hid hP
  have HX := Lib.hid hx
  have h1 := h.below b1
  have HM := Lib.hid h1
  have HROOM : Hid (3 ≤ (mScan S x S.length (-1) 0).2 → 0 ≤ (mScan S x S.length (-1) 0).1 ∧ (mScan S x S.length (-1) 0).1 < S.length) := Lib.hid (mScan_room S x)
  have HMR : Hid (mRoom S x = if 3 ≤ (mScan S x S.length (-1) 0).2 then S.eraseIdx (mScan S x S.length (-1) 0).1.toNat else S) := Lib.hid rfl
  obtain ⟨v, qs, eS, hq0⟩ := id h
  have hq := hq0.below b1
  obtain ⟨p, cap, rfl, hr⟩ := hq.reads
  have h0 := hq0.cell
  have hB := hq0.lt
  have c0 := hq.cell
  have s0 := hq.lt
  have hql : qs.length = S.length := by rw [← eS]; simp
  have HQL := Lib.hid hql
  have hs2 : qs.length ≤ 4294967296 := by omega
  have HR := Lib.hid hr
  have hnamed : ∀ j (hj : j < qs.length) g, p = some ⟨g, 0, none⟩ → NameAt W1 g (j * 3) qs[j].1 qs[j].2 := by
    intro j hj g hp
    subst hp
    exact hq.named (by rw [eS]; exact hf) j hj
  have HNA := Lib.hid hnamed
  have HFI : Hid (∀ j (hj : j < qs.length), qs[j].1.attrs.length ≤ 30) := Lib.hid fun j hj => (hf qs[j].1 (by rw [← eS]; exact List.mem_map_of_mem (List.getElem_mem hj))).1
  have HST : Hid (∀ j (hj : j < qs.length) (f : Int) (n : Nat), mScan S x (j + 1) f n = if qs[j].1.node = -1 then (f, n) else if alikeM qs[j].1 x then mScan S x j j (n + 1) else mScan S x j f n) := Lib.hid fun j hj f n => by
    rw [mScan_step S x j f n (by omega)]
    have : S[j]'(by omega) = qs[j].1 := by subst eS; simp
    rw [this]
  have HINS : Hid (∀ (W : World) (S' : List MK) (k : Nat), k = S'.length → MarksM M W B S' → Turns M w W → k ≤ 4294967296 → mRoom S x = S' → Calls Try.prog 103 #[.pointer (some ⟨B, 0, none⟩), .int .i64 (k : Int), .agg #[.int .i64 x.node, .string NM, .slice pa x.attrs.length ca]] W (PushOut M S x B w)) := by
    refine Lib.hid fun W S' k hk hm ht hl hr => ?_
    subst hk
    have := minsertP S' B M P W S'.length x pa ca hm (Nat.le_refl _) hl (ha.kept (ht.kept fun b _ q => hP b q)) hP (Nat.le_trans hx.1 (by decide))
    unfold markV at this
    rw [← hNM, mIns_last] at this
    refine this.mono ?_
    rintro e w' ⟨q1, q2, q3⟩
    refine ⟨q1, ?_, ht.trans (q3.mono fun b _ k => .inl k)⟩
    unfold mPush
    rw [hr]
    exact q2.mono fun b _ k => k.imp id (fun k => Nat.le_trans ht.size k)
  have HMW := Lib.hid hMw
  clear h h1 hq hq0 eS hql hr hnamed hW1 hx1 b1 hn2 hNM ha hP hx hf hMw
  obtain ⟨R, hR⟩ : ∃ R, R = mScan S x S.length (-1) 0 := ⟨_, rfl⟩
  rw [← hR] at HROOM HMR
  have HRR : Hid (R = mScan S x qs.length (-1) 0) := Lib.hid (by rw [hR, HQL.out])
  clear hR
  go_enter Try.func42, Try.ntmps42
  go_wp2_with fail
  rw [← HW1.out]
  go_loopw [4, 5, 6] (fun fv nv i wr => ∃ (k : Nat) (f : Int) (n : Nat), k ≤ qs.length ∧ n + k ≤ qs.length ∧ fv = .int .i64 f ∧ nv = .int .i64 (n : Int) ∧ i = .int .i64 ((k : Int) - 1) ∧ R = mScan S x k f n ∧ Below W1.heap.size W1 wr) (fun _ _ i _ => (intOf i + 1).toNat)
  case atStart => exact ⟨qs.length, -1, 0, Nat.le_refl _, by omega, rfl, rfl, rfl, HRR.out, Below.refl _ _⟩
  case round =>
    obtain ⟨k, f, n, hk, hnk, rfl, rfl, rfl, hsc, hbw⟩ := hrel
    have HSC := Lib.hid hsc
    have HBW := Lib.hid hbw
    have d0 := (hbw.cell (p := ⟨B, 0, none⟩) s0).trans c0
    have t0 := Nat.lt_of_lt_of_le s0 hbw.size
    clear hsc hbw
    rcases k with _ | j
    · rw [show (((0 : Nat) : Int) - 1) = -1 by omega]
      have HZ : Hid (R = (f, n)) := Lib.hid HSC.out
      have hbx := (HBW.out.block _ HN2.out.lt).trans HX1.out
      have HBX := Lib.hid hbx
      rcases Nat.lt_or_ge n 3 with hn3 | hn3
      · have n3 : (n : Int) < 3 := by omega
        have x0 := (block_cell hbx 0).1
        have x1 := (block_cell hbx 1).1
        have x2 := (block_cell hbx 2).1
        simp at x0 x1 x2
        have xl := heap_lt hbx
        have HRM : Hid (mRoom S x = S) := Lib.hid (by rw [HMR.out, if_neg (by rw [HZ.out]; omega)])
        clear hbx
        go_wp2_with fail
        go_still_tail 7, (by kernel_rfl)
        have HW := Lib.hid (show Below W1.heap.size W1 wr.drew from HBW.out.trans ((Below.refl _ wr).drew.mono HBW.out.size))
        change wpList _ _ _ _ _ wr.drew
        generalize wr.drew = w2 at *
        go_wp2_with fail
        refine (HINS.out w2 S _ HQL.out (HM.out.below HW.out) (Turns.of_below (HB1.out.trans (HW.out.mono HB1.out.size))) hs2 HRM.out).mono ?_
        rintro e w3 ⟨rfl, d3, t3⟩
        have HD3 := Lib.hid d3
        have HT3 := Lib.hid t3
        clear d3 t3
        go_wp2_with fail
        exact bodyPost_end (results_none rfl _ _ _) rfl ⟨rfl, HD3.out, HT3.out⟩
      · have n3 : (3 : Int) ≤ (n : Int) := by omega
        have hrm := HROOM.out (by rw [HZ.out]; exact hn3)
        rw [HZ.out] at hrm
        have hf0 : 0 ≤ f := hrm.1
        have hf1 : f < S.length := hrm.2
        have HREM := Lib.hid (mremoveP S B M wr f.toNat (HM.out.below HBW.out) (by omega) hs)
        rw [show ((f.toNat : Nat) : Int) = f by omega] at HREM
        have HRM : Hid (mRoom S x = S.eraseIdx f.toNat) := Lib.hid (by rw [HMR.out, if_pos (by rw [HZ.out]; exact hn3), HZ.out])
        clear hbx hrm
        go_wp2_with fail
        refine HREM.out.mono ?_
        rintro e w1 ⟨rfl, d1, t1⟩
        obtain ⟨v1, q1s, eq1, hq1⟩ := id d1
        obtain ⟨p1, cap1, rfl, _⟩ := hq1.reads
        have dc1 := hq1.cell
        have dl1 := hq1.lt
        have hb1 := (t1.block _ (heap_lt HBX.out) (fun q => absurd (HMW.out _ q) (by omega))).trans HBX.out
        have x0 := (block_cell hb1 0).1
        have x1 := (block_cell hb1 1).1
        have x2 := (block_cell hb1 2).1
        simp at x0 x1 x2
        have xl := heap_lt hb1
        have hlq : q1s.length ≤ 4294967296 := by
          have := congrArg List.length eq1
          rw [List.length_map, List.length_eraseIdx] at this
          split at this <;> omega
        have HLQ : Hid (q1s.length = (S.eraseIdx f.toNat).length) := Lib.hid (by rw [← eq1]; simp)
        have HD1 := Lib.hid d1
        have HT1 := Lib.hid ((Turns.of_below (M := M) (HB1.out.trans (HBW.out.mono HB1.out.size))).trans (t1.mono fun b _ k => .inl k))
        clear eq1 hq1 hb1 d1 t1
        go_wp2_with fail
        go_still_tail 7, (by kernel_rfl)
        have HW := Lib.hid (show Below w1.heap.size w1 w1.drew from (Below.refl _ _).drew)
        change wpList _ _ _ _ _ w1.drew
        generalize w1.drew = w2 at *
        go_wp2_with fail
        refine (HINS.out w2 _ _ HLQ.out (HD1.out.below HW.out) (HT1.out.trans (Turns.of_below HW.out)) hlq HRM.out).mono ?_
        rintro e w3 ⟨rfl, d3, t3⟩
        have HD3 := Lib.hid d3
        have HT3 := Lib.hid t3
        clear d3 t3
        go_wp2_with fail
        exact bodyPost_end (results_none rfl _ _ _) rfl ⟨rfl, HD3.out, HT3.out⟩
    · rw [show (((j + 1 : Nat) : Int) - 1) = (j : Int) by omega]
      have hj : j < qs.length := by omega
      obtain ⟨g, rfl, hg, n0, n1, n2⟩ := HR.out j hj
      have m0 := (HBW.out.cell (p := ⟨g, j * 3, none⟩) hg).trans n0
      have gs : g < wr.heap.size := Nat.lt_of_lt_of_le hg HBW.out.size
      have j0 : (0 : Int) ≤ (j : Int) := by omega
      have j1 : (j : Int) < (qs.length : Int) := by omega
      have HAL : Hid (∀ W, Below W1.heap.size W1 W → Calls Try.prog 110 #[.pointer (some ⟨g, j * 3, none⟩), .pointer (some ⟨w.heap.size, 0, none⟩)] W (Brings (.bool (alikeM qs[j].1 x)) W)) := Lib.hid fun W b => malikeP qs[j].1 x g (j * 3) w.heap.size 0 qs[j].2 _ W ((HNA.out j hj g rfl).below b) (HN2.out.below b) (HFI.out j hj)
      have HS2 : Hid (R = if qs[j].1.node = -1 then (f, n) else if alikeM qs[j].1 x then mScan S x j j (n + 1) else mScan S x j f n) := Lib.hid (by rw [HSC.out, HST.out j hj])
      clear n0 n1 n2
      by_cases e1 : qs[j].1.node = -1
      · have q1 : (qs[j].1.node != (-1 : Int)) = false := by rw [e1]; rfl
        have HZ : Hid (R = (f, n)) := Lib.hid (by rw [HS2.out, if_pos e1])
        clear e1 HS2 HSC HAL
        generalize qs[j].1.node = N at *
        have hbx := (HBW.out.block _ HN2.out.lt).trans HX1.out
        have HBX := Lib.hid hbx
        rcases Nat.lt_or_ge n 3 with hn3 | hn3
        · have n3 : (n : Int) < 3 := by omega
          have x0 := (block_cell hbx 0).1
          have x1 := (block_cell hbx 1).1
          have x2 := (block_cell hbx 2).1
          simp at x0 x1 x2
          have xl := heap_lt hbx
          have HRM : Hid (mRoom S x = S) := Lib.hid (by rw [HMR.out, if_neg (by rw [HZ.out]; omega)])
          clear hbx
          go_wp2_with fail
          go_still_tail 7, (by kernel_rfl)
          have HW := Lib.hid (show Below W1.heap.size W1 wr.drew from HBW.out.trans ((Below.refl _ wr).drew.mono HBW.out.size))
          change wpList _ _ _ _ _ wr.drew
          generalize wr.drew = w2 at *
          go_wp2_with fail
          refine (HINS.out w2 S _ HQL.out (HM.out.below HW.out) (Turns.of_below (HB1.out.trans (HW.out.mono HB1.out.size))) hs2 HRM.out).mono ?_
          rintro e w3 ⟨rfl, d3, t3⟩
          have HD3 := Lib.hid d3
          have HT3 := Lib.hid t3
          clear d3 t3
          go_wp2_with fail
          exact bodyPost_end (results_none rfl _ _ _) rfl ⟨rfl, HD3.out, HT3.out⟩
        · have n3 : (3 : Int) ≤ (n : Int) := by omega
          have hrm := HROOM.out (by rw [HZ.out]; exact hn3)
          rw [HZ.out] at hrm
          have hf0 : 0 ≤ f := hrm.1
          have hf1 : f < S.length := hrm.2
          have HREM := Lib.hid (mremoveP S B M wr f.toNat (HM.out.below HBW.out) (by omega) hs)
          rw [show ((f.toNat : Nat) : Int) = f by omega] at HREM
          have HRM : Hid (mRoom S x = S.eraseIdx f.toNat) := Lib.hid (by rw [HMR.out, if_pos (by rw [HZ.out]; exact hn3), HZ.out])
          clear hbx hrm
          go_wp2_with fail
          refine HREM.out.mono ?_
          rintro e w1 ⟨rfl, d1, t1⟩
          obtain ⟨v1, q1s, eq1, hq1⟩ := id d1
          obtain ⟨p1, cap1, rfl, _⟩ := hq1.reads
          have dc1 := hq1.cell
          have dl1 := hq1.lt
          have hb1 := (t1.block _ (heap_lt HBX.out) (fun q => absurd (HMW.out _ q) (by omega))).trans HBX.out
          have x0 := (block_cell hb1 0).1
          have x1 := (block_cell hb1 1).1
          have x2 := (block_cell hb1 2).1
          simp at x0 x1 x2
          have xl := heap_lt hb1
          have hlq : q1s.length ≤ 4294967296 := by
            have := congrArg List.length eq1
            rw [List.length_map, List.length_eraseIdx] at this
            split at this <;> omega
          have HLQ : Hid (q1s.length = (S.eraseIdx f.toNat).length) := Lib.hid (by rw [← eq1]; simp)
          have HD1 := Lib.hid d1
          have HT1 := Lib.hid ((Turns.of_below (M := M) (HB1.out.trans (HBW.out.mono HB1.out.size))).trans (t1.mono fun b _ k => .inl k))
          clear eq1 hq1 hb1 d1 t1
          go_wp2_with fail
          go_still_tail 7, (by kernel_rfl)
          have HW := Lib.hid (show Below w1.heap.size w1 w1.drew from (Below.refl _ _).drew)
          change wpList _ _ _ _ _ w1.drew
          generalize w1.drew = w2 at *
          go_wp2_with fail
          refine (HINS.out w2 _ _ HLQ.out (HD1.out.below HW.out) (HT1.out.trans (Turns.of_below HW.out)) hlq HRM.out).mono ?_
          rintro e w3 ⟨rfl, d3, t3⟩
          have HD3 := Lib.hid d3
          have HT3 := Lib.hid t3
          clear d3 t3
          go_wp2_with fail
          exact bodyPost_end (results_none rfl _ _ _) rfl ⟨rfl, HD3.out, HT3.out⟩
      · have q1 : (qs[j].1.node != (-1 : Int)) = true := by simpa using e1
        by_cases e2 : alikeM qs[j].1 x = true
        · have HZ : Hid (R = mScan S x j j (n + 1)) := Lib.hid (by rw [HS2.out, if_neg e1, if_pos e2])
          rw [e2] at HAL
          clear e1 e2 HS2 HSC
          generalize qs[j].1.node = N at *
          go_wp2_with fail
          refine (HAL.out _ HBW.out).mono ?_
          rintro e w1 ⟨rfl, b2⟩
          have HB2 := Lib.hid (HBW.out.trans (b2.mono HBW.out.size))
          clear b2
          go_wp2_with fail
          exact ⟨⟨j, j, n + 1, by omega, by omega, rfl, by go_num, rfl, HZ.out, HB2.out⟩, by simp [intOf]⟩
        · have HZ : Hid (R = mScan S x j f n) := Lib.hid (by rw [HS2.out, if_neg e1, if_neg e2])
          have e3 : alikeM qs[j].1 x = false := by simpa using e2
          rw [e3] at HAL
          clear e1 e2 e3 HS2 HSC
          generalize qs[j].1.node = N at *
          go_wp2_with fail
          refine (HAL.out _ HBW.out).mono ?_
          rintro e w1 ⟨rfl, b2⟩
          have HB2 := Lib.hid (HBW.out.trans (b2.mono HBW.out.size))
          clear b2
          go_wp2_with fail
          exact ⟨⟨j, f, n, by omega, by omega, rfl, rfl, rfl, HZ.out, HB2.out⟩, by simp [intOf]⟩
end Go.Proofs.Ytmhjfbdldpehdaa
namespace Go.Proofs.Ytmhjfbdldpehdaa
open Go.RowKit

/-- A row of marks that a call makes. -/
structure OutRow (B0 : Nat) (w : World) (v : Value) (rs : List (MK × Value)) : Prop where
  row : w.ownsRow B0 64 3 v rs.length (mkCells rs)
  attrs : ∀ q ∈ rs, AttrsP (fun b => B0 ≤ b ∧ some b ≠ v.ownBlock) w q.2 q.1.attrs
theorem OutRow.nil (B0 : Nat) (w : World) : OutRow B0 w (.slice none 0 0) [] := ⟨World.ownsRow_nil _ _ _ _, fun q hq => absurd hq (by simp)⟩
theorem OutRow.below {B0 : Nat} {w w' : World} {v : Value} {rs : List (MK × Value)} (h : OutRow B0 w v rs) (hb : Below w.heap.size w w') : OutRow B0 w' v rs :=
  ⟨ownsRow_kept h.row (.of_below (M := fun _ => False) hb) (fun _ _ k => k), fun q hq => (h.attrs q hq).kept (.of_below hb)⟩
/-- One more behind. -/
theorem OutRow.more {B0 : Nat} {w w1 : World} {v : Value} {rs : List (MK × Value)} {g cp : Nat} {q : MK × Value} (h : OutRow B0 w v rs) (hg : w.grownBy w1 v.ownBlock) (hr : w1.ownsRow B0 64 3 (.slice (some ⟨g, 0, none⟩) (rs.length + 1) cp) (rs.length + 1) (mkCells rs ++ mkCell q)) (hor : v.ownBlock = some g ∨ g = w.heap.size)
    (ha : AttrsP (fun b => B0 ≤ b ∧ some b ≠ v.ownBlock) w q.2 q.1.attrs) : OutRow B0 w1 (.slice (some ⟨g, 0, none⟩) (rs.length + 1) cp) (rs ++ [q]) := by
  refine ⟨?_, ?_⟩
  · rw [List.length_append, List.length_singleton, mkCells_snoc]
    exact hr
  · intro x hx
    have hax : AttrsP (fun b => B0 ≤ b ∧ some b ≠ v.ownBlock) w x.2 x.1.attrs := by
      rcases List.mem_append.1 hx with hx | hx
      · exact h.attrs x hx
      · rw [List.mem_singleton] at hx; subst hx; exact ha
    refine ((hax.mono (Q := fun b => (B0 ≤ b ∧ some b ≠ v.ownBlock) ∧ b < w.heap.size) (fun b k hb => ⟨k, hb⟩)).kept (.of_grown hg fun b k => k.1.2)).mono ?_
    rintro b ⟨⟨k1, k2⟩, k3⟩ _
    refine ⟨k1, fun e => ?_⟩
    injection e with e
    rcases hor with h1 | h1
    · exact k2 (by rw [h1, e])
    · have e' : b = g := e
      omega
theorem allM_ready {B0 : Nat} {wr W6 : World} {v : Value} {rs : List (MK × Value)} {q : MK × Value} (h : OutRow B0 wr v rs) (hb : Below wr.heap.size wr W6) (ha : AttrsP (fun b => wr.heap.size ≤ b) W6 q.2 q.1.attrs) (hB : B0 ≤ wr.heap.size) :
    OutRow B0 (W6.alloc (.cells #[.int .i64 q.1.node, .string ⟨q.1.name.toArray⟩, q.2] 64)) v rs ∧ AttrsP (fun b => B0 ≤ b ∧ some b ≠ v.ownBlock) (W6.alloc (.cells #[.int .i64 q.1.node, .string ⟨q.1.name.toArray⟩, q.2] 64)) q.2 q.1.attrs ∧ B0 ≤ (W6.alloc (.cells #[.int .i64 q.1.node, .string ⟨q.1.name.toArray⟩, q.2] 64)).heap.size ∧ Below wr.heap.size wr (W6.alloc (.cells #[.int .i64 q.1.node, .string ⟨q.1.name.toArray⟩, q.2] 64)) := by
  have b2 : Below W6.heap.size W6 (W6.alloc (.cells #[.int .i64 q.1.node, .string ⟨q.1.name.toArray⟩, q.2] 64)) := (Below.refl _ _).alloc (Nat.le_refl _) _
  have hs := hb.size
  refine ⟨(h.below hb).below b2, (ha.kept (.of_below b2)).mono (fun b k _ => ⟨by omega, fun e => ?_⟩), by simp; omega, hb.trans (b2.mono hs)⟩
  have := (h.row.lt b e.symm).2
  omega
def AllM (S : List MK) (w : World) (e : Ending) (w' : World) : Prop := ∃ v rs, e = .returned v ∧ rs.map (·.1) = S ∧ OutRow w.heap.size w' v rs ∧ Below w.heap.size w w'
set_option maxHeartbeats 1000000 in
set_option maxRecDepth 100000 in
theorem mallP (S : List MK) (B : Nat) (M : Nat → Prop) (w : World) (h : MarksM M w B S) (hs : S.length ≤ 4294967296) (hx : ∀ x ∈ S, x.attrs.length ≤ 4294967296) :
    Calls Try.prog 63 #[.pointer (some ⟨B, 0, none⟩)] w (AllM S w) := by
  obtain ⟨v, qs, rfl, hq⟩ := h
  obtain ⟨p, cap, rfl, hr⟩ := hq.reads
  have h0 := hq.cell
  have hB := hq.lt
  rw [List.length_map] at hs
  have HQ := Lib.hid hq
  have HR := Lib.hid hr
  have HX := Lib.hid hx
  obtain ⟨i0, hi0, hz0, hz1, hz2⟩ := info_mark
  have HI := Lib.hid (And.intro hi0 (And.intro hz0 (And.intro hz1 hz2)))
  clear hq hr hi0 hz0 hz1 hz2 hx
  go_enter Try.func63, Try.ntmps63
  go_wp2_with fail
  go_loopw [3, 11] (fun o i wr => ∃ (k : Nat) (rs : List (MK × Value)), k ≤ qs.length ∧ i = .int .i64 (k : Int) ∧ rs.map (·.1) = (qs.take k).map (·.1) ∧ OutRow w.heap.size wr o rs ∧ Below w.heap.size w wr) (fun _ i _ => qs.length - (intOf i).toNat)
  case atStart => exact ⟨0, [], Nat.zero_le _, rfl, rfl, OutRow.nil _ _, Below.refl _ _⟩
  case round =>
    obtain ⟨k, rs, hk, rfl, hm, ho, hb⟩ := hrel
    have HM := Lib.hid hm
    have HO := Lib.hid ho
    have HB := Lib.hid hb
    have hlen : rs.length = k := by
      have := congrArg List.length hm
      rw [List.length_map, List.length_map, List.length_take] at this
      omega
    have HLN := Lib.hid hlen
    have hkl : rs.length ≤ 4294967296 := by omega
    clear hm ho hb hlen
    by_cases hlt : k < qs.length
    · obtain ⟨g, rfl, hg, n0, n1, n2⟩ := HR.out k hlt
      have hbs := HB.out.size
      have m0 := (HB.out.cell (p := ⟨g, k * 3, none⟩) hg).trans n0
      have m1 := (HB.out.cell (p := ⟨g, k * 3 + 1, none⟩) hg).trans n1
      have m2 := (HB.out.cell (p := ⟨g, k * 3 + 2, none⟩) hg).trans n2
      have hgr : g < wr.heap.size := by omega
      have hat := HQ.out.attrs qs[k] (List.getElem_mem hlt)
      have hxk := HX.out qs[k].1 (List.mem_map_of_mem (List.getElem_mem hlt))
      obtain ⟨x, hxx⟩ : ∃ x, x = qs[k].1 := ⟨_, rfl⟩
      obtain ⟨va, hva⟩ : ∃ va, va = qs[k].2 := ⟨_, rfl⟩
      rw [← hxx] at m0 m1 hat hxk
      rw [← hva] at m2 hat
      obtain ⟨pa, ca, rfl, hat2⟩ := id hat
      obtain ⟨NM, hNM⟩ : ∃ NM : ByteArray, NM = (⟨x.name.toArray⟩ : ByteArray) := ⟨_, rfl⟩
      rw [← hNM] at m1
      have HNM := Lib.hid hNM
      have HAT := Lib.hid hat
      have HXX := Lib.hid hxx
      have hxn : rs.length + 1 ≤ maxLen := by unfold maxLen; omega
      clear n0 n1 n2 hat hat2 hxx hva hNM
      have b1 : Below wr.heap.size wr (wr.alloc (.cells #[.int .i64 x.node, .string NM, .slice pa x.attrs.length ca] 64)) := (Below.refl _ wr).alloc (Nat.le_refl _) _
      have HC : Hid (Calls Try.prog 109 #[.agg #[.int .i64 x.node, .string NM, .slice pa x.attrs.length ca]] (wr.alloc (.cells #[.int .i64 x.node, .string NM, .slice pa x.attrs.length ca] 64)) (CopyN x NM (wr.alloc (.cells #[.int .i64 x.node, .string NM, .slice pa x.attrs.length ca] 64)))) := Lib.hid (mcopiedN x NM HNM.out _ pa ca _ ((HAT.out.kept (.of_below HB.out)).kept (.of_below b1)) hxk)
      have HB1 := Lib.hid b1
      clear b1
      go_wp2_with (first
        | (go_at_call 109; refine HC.out.mono ?_; rintro e W6 ⟨p6, c6, rfl, ha6, hb6⟩; have HA6 := Lib.hid ha6; have HB6 := Lib.hid (HB1.out.trans (hb6.mono HB1.out.size)); have HN7 := Lib.hid (allM_ready HO.out HB6.out (q := (x, .slice p6 x.attrs.length c6)) (ha6.mono (fun b k _ => Nat.le_trans HB1.out.size k)) HB.out.size); rw [← HNM.out] at HN7; clear ha6 hb6)
        | (at_builtin; refine wpList_append_lies _ rfl _ _ 83 rfl w.heap.size 64 i0 (.agg #[.int .i64 0, .string ByteArray.empty, .slice none 0 0]) 3 48 Try.underlying83 HI.out.1 HI.out.2.1 HI.out.2.2.1 HI.out.2.2.2 rfl (by omega) _ rs.length (mkCells rs) rfl HN7.out.1.row ⟨W6.heap.size, 0, none⟩ 1 1 [.int .i64 x.node, .string NM, .slice p6 x.attrs.length c6] rfl rfl (World.news_of_block (cs := #[.int .i64 x.node, .string NM, .slice p6 x.attrs.length c6]) (heap_alloc_new W6 _)) (by simp [Value.oneCell']) (by omega) (by omega) (by omega) HN7.out.2.2.1 (W6.heap.size + 1) (by simp) ?_; intro g8 c8 W8 hr8 hg8 hor8 hlt8; have HO8 := Lib.hid (HN7.out.1.more (q := (x, .slice p6 x.attrs.length c6)) hg8 (by unfold mkCell; rw [← HNM.out]; exact hr8) (hor8.imp id (fun k => by simpa using k)) HN7.out.2.1); have HB8 := Lib.hid ((HB.out.trans (HN7.out.2.2.2.mono HB.out.size)).grown hg8 HN7.out.2.2.1 (fun g' e => (HN7.out.1.row.lt g' e).1)); clear hr8 hg8 hor8 hlt8)
        | fail)
      refine ⟨⟨k + 1, rs ++ [(x, .slice p6 x.attrs.length c6)], by omega, by go_num, ?_, ?_, ?_⟩, by simp [intOf]; omega⟩
      · rw [List.map_append, HM.out, List.take_succ_eq_append_getElem hlt, List.map_append, HXX.out]
        rfl
      · exact HO8.out
      · exact HB8.out
    · go_wp2_with fail
      go_ret
      refine ⟨_, rs, rfl, ?_, HO.out, HB.out⟩
      rw [HM.out, List.take_of_length_le (by omega)]
end Go.Proofs.Ytmhjfbdldpehdaa
namespace Go.Proofs.Ytmhjfbdldpehdaa
open Go.RowKit

/-- The slice v holds the marks qs, all of it in blocks of P. -/
def RowP (P : Nat → Prop) (w : World) (v : Value) (qs : List (MK × Value)) : Prop :=
  ∃ p cap, v = .slice p qs.length cap ∧ qs.length ≤ cap ∧ (∀ j (hj : j < qs.length), ∃ g o, p = some ⟨g, o, none⟩ ∧ P g ∧ g < w.heap.size ∧ w.cell? ⟨g, o + j * 3, none⟩ = some (.int .i64 qs[j].1.node) ∧ w.cell? ⟨g, o + j * 3 + 1, none⟩ = some (.string ⟨qs[j].1.name.toArray⟩) ∧ w.cell? ⟨g, o + j * 3 + 2, none⟩ = some qs[j].2) ∧ ∀ q ∈ qs, AttrsP P w q.2 q.1.attrs
theorem RowP.kept {P : Nat → Prop} {w w' : World} {v : Value} {qs : List (MK × Value)} (h : RowP P w v qs) (hk : Kept P w w') : RowP P w' v qs := by
  obtain ⟨p, cap, rfl, hl, h, ha⟩ := h
  refine ⟨p, cap, rfl, hl, fun j hj => ?_, fun q hq => (ha q hq).kept hk⟩
  obtain ⟨g, o, rfl, hp, hg, h0, h1, h2⟩ := h j hj
  exact ⟨g, o, rfl, hp, Nat.lt_of_lt_of_le hg hk.size, (hk.cell hp hg).trans h0, (hk.cell hp hg).trans h1, (hk.cell hp hg).trans h2⟩
theorem RowP.mono {P Q : Nat → Prop} {w : World} {v : Value} {qs : List (MK × Value)} (h : RowP P w v qs) (hq : ∀ b, P b → b < w.heap.size → Q b) : RowP Q w v qs := by
  obtain ⟨p, cap, rfl, hl, h, ha⟩ := h
  refine ⟨p, cap, rfl, hl, fun j hj => ?_, fun q hm => (ha q hm).mono hq⟩
  obtain ⟨g, o, rfl, hp, hg, h3⟩ := h j hj
  exact ⟨g, o, rfl, hq g hp hg, hg, h3⟩
theorem OutRow.row' {B0 : Nat} {w : World} {v : Value} {rs : List (MK × Value)} (h : OutRow B0 w v rs) : RowP (fun b => B0 ≤ b ∧ b < w.heap.size) w v rs := by
  have hr := h.row
  have ha : ∀ q ∈ rs, AttrsP (fun b => B0 ≤ b ∧ b < w.heap.size) w q.2 q.1.attrs := fun q hq => (h.attrs q hq).mono fun b k hb => ⟨k.1, hb⟩
  rcases hr.2 with ⟨e, h0⟩ | ⟨g, cap, _, e, hg0, hg, hc, _⟩
  · have : rs = [] := List.eq_nil_of_length_eq_zero h0
    subst this
    exact ⟨none, 0, e, Nat.le_refl _, fun j hj => absurd hj (by simp), ha⟩
  · subst e
    have hg1 := (hr.lt g rfl).2
    have key : ∀ j i (hj : j < rs.length), i < 3 → w.cell? ⟨g, 0 + j * 3 + i, none⟩ = (mkCell rs[j])[i]? := by
      intro j i hj hi
      rw [show 0 + j * 3 + i = j * 3 + i by omega, hr.cellAt (j * 3 + i) (by omega), mkCells_at rs j i hj hi]
    exact ⟨_, cap, rfl, hc, fun j hj => ⟨g, 0, rfl, ⟨hg0, hg1⟩, hg1, key j 0 hj (by omega), key j 1 hj (by omega), key j 2 hj (by omega)⟩, ha⟩
theorem fst_ne {xs ys : List (MK × Value)} {k : Nat} (ha : k < xs.length) (hb : k < ys.length) (h : xs[k].1 ≠ ys[k].1) : xs.map (·.1) ≠ ys.map (·.1) := by
  intro e
  apply h
  have := congrArg (fun l => l[k]?) e
  simpa [ha, hb] using this
theorem fst_eq {xs ys : List (MK × Value)} (hl : xs.length = ys.length) (h : ∀ j (h1 : j < xs.length) (h2 : j < ys.length), xs[j].1 = ys[j].1) : xs.map (·.1) = ys.map (·.1) := by
  refine List.ext_getElem (by simpa using hl) fun j h1 h2 => ?_
  simp only [List.getElem_map]
  exact h j (by simpa using h1) (by simpa using h2)
theorem eq_step {xs ys : List (MK × Value)} {k : Nat} (h : ∀ j (_ : j < k) (h1 : j < xs.length) (h2 : j < ys.length), xs[j].1 = ys[j].1) (ha : k < xs.length) (hb : k < ys.length) (e : xs[k].1 = ys[k].1) : ∀ j (_ : j < k + 1) (h1 : j < xs.length) (h2 : j < ys.length), xs[j].1 = ys[j].1 := by
  intro j hj h1 h2
  rcases Nat.lt_or_ge j k with q | q
  · exact h j q h1 h2
  · have : j = k := by omega
    subst this
    exact e
set_option maxHeartbeats 2000000 in
set_option maxRecDepth 100000 in
theorem rsameM (a b : Value) (xs ys : List (MK × Value)) (P Q : Nat → Prop) (w : World) (ha : RowP P w a xs) (hb : RowP Q w b ys) (hN : xs.length ≤ 4294967296) (hA : ∀ q ∈ xs, q.1.attrs.length ≤ 4294967296) : Calls Try.prog 112 #[a, b] w (Brings (.bool (decide (xs.map (·.1) = ys.map (·.1)))) w) := by
  obtain ⟨p, cap, rfl, _, hc, haa⟩ := ha
  obtain ⟨p2, cap2, rfl, _, hc2, hab⟩ := hb
  have HC := Lib.hid hc
  have HC2 := Lib.hid hc2
  have HAA := Lib.hid haa
  have HAB := Lib.hid hab
  have HAL := Lib.hid hA
  clear hc hc2 haa hab hA
  by_cases hl : xs.length = ys.length
  · have q0 : ((xs.length : Int) != (ys.length : Int)) = false := by simp [hl]
    have HL := Lib.hid hl
    have hl2 : xs.length ≤ ys.length := by omega
    clear hl
    go_enter Try.func112, Try.ntmps112
    go_wp2_with fail
    go_loopw [5] (fun i wr => ∃ (k : Nat), k ≤ xs.length ∧ i = .int .i64 k ∧ Below w.heap.size w wr ∧ ∀ j (_ : j < k) (h1 : j < xs.length) (h2 : j < ys.length), xs[j].1 = ys[j].1) (fun i _ => xs.length - (intOf i).toNat)
    case atStart => exact ⟨0, Nat.zero_le _, rfl, Below.refl _ _, fun j h => absurd h (by omega)⟩
    case round =>
      obtain ⟨k, hk, rfl, hbw, hall⟩ := hrel
      have HALL := Lib.hid hall
      have HBW := Lib.hid hbw
      clear hall hbw
      by_cases hlt : k < xs.length
      · have hlt2 : k < ys.length := by omega
        obtain ⟨g, o, rfl, _, hg, h0, h1, h2⟩ := HC.out k hlt
        obtain ⟨g2, o2, rfl, _, hg2, e0, e1, e2⟩ := HC2.out k hlt2
        have d : Below wr.heap.size wr wr.drew := (Below.refl _ _).drew
        have bd := HBW.out.trans (d.mono HBW.out.size)
        have HBD := Lib.hid bd
        have m0 := (bd.cell (p := ⟨g, o + k * 3, none⟩) hg).trans h0
        have m1 := (bd.cell (p := ⟨g, o + k * 3 + 1, none⟩) hg).trans h1
        have m2 := (bd.cell (p := ⟨g, o + k * 3 + 2, none⟩) hg).trans h2
        have n0 := (bd.cell (p := ⟨g2, o2 + k * 3, none⟩) hg2).trans e0
        have n1 := (bd.cell (p := ⟨g2, o2 + k * 3 + 1, none⟩) hg2).trans e1
        have n2 := (bd.cell (p := ⟨g2, o2 + k * 3 + 2, none⟩) hg2).trans e2
        have i0 := (HBW.out.cell (p := ⟨g, o + k * 3, none⟩) hg).trans h0
        have i1 := (HBW.out.cell (p := ⟨g, o + k * 3 + 1, none⟩) hg).trans h1
        have j0 := (HBW.out.cell (p := ⟨g2, o2 + k * 3, none⟩) hg2).trans e0
        have j1 := (HBW.out.cell (p := ⟨g2, o2 + k * 3 + 1, none⟩) hg2).trans e1
        have gs : g < wr.heap.size := Nat.lt_of_lt_of_le hg HBW.out.size
        have gs2 : g2 < wr.heap.size := Nat.lt_of_lt_of_le hg2 HBW.out.size
        have k0 : (0 : Int) ≤ (k : Int) := by omega
        have k1 : (k : Int) < (xs.length : Int) := by omega
        have k2 : (k : Int) < (ys.length : Int) := by omega
        have HAK : Hid (∀ W, Below w.heap.size w W → Calls Try.prog 141 #[xs[k].2, ys[k].2] W (Brings (.bool (decide (xs[k].1.attrs = ys[k].1.attrs))) W)) := Lib.hid fun W b => ralikeP _ _ _ _ P Q W ((HAA.out xs[k] (List.getElem_mem hlt)).kept (.of_below b)) ((HAB.out ys[k] (List.getElem_mem hlt2)).kept (.of_below b)) (HAL.out xs[k] (List.getElem_mem hlt))
        have HNE : Hid (xs[k].1 ≠ ys[k].1 → decide (xs.map (·.1) = ys.map (·.1)) = false) := Lib.hid fun e => decide_eq_false (fst_ne hlt hlt2 e)
        clear h0 h1 h2 e0 e1 e2 bd d
        by_cases c0 : xs[k].1.node = ys[k].1.node
        · have q1 : (xs[k].1.node != ys[k].1.node) = false := by simpa using c0
          by_cases c1 : xs[k].1.name = ys[k].1.name
          · have q2 := str_is c1
            by_cases c2 : xs[k].1.attrs = ys[k].1.attrs
            · have HE : Hid (∀ j (_ : j < k + 1) (h1 : j < xs.length) (h2 : j < ys.length), xs[j].1 = ys[j].1) := Lib.hid (eq_step HALL.out hlt hlt2 (by
                cases hx : xs[k].1
                cases hy : ys[k].1
                rw [hx, hy] at c0 c1 c2
                cases c0; cases c1; cases c2; rfl))
              rw [decide_eq_true c2] at HAK
              clear c0 c1 c2 HNE i0 i1 j0 j1
              generalize xs[k].1.node = NA at *
              generalize ys[k].1.node = NB at *
              generalize (⟨xs[k].1.name.toArray⟩ : ByteArray) = SA at *
              generalize (⟨ys[k].1.name.toArray⟩ : ByteArray) = SB at *
              generalize xs[k].2 = VA at *
              generalize ys[k].2 = VB at *
              go_wp2_with fail
              go_still_tail 35, (by kernel_rfl)
              change wpList _ _ _ _ _ wr.drew
              generalize wr.drew = w2 at *
              go_wp2_with fail
              refine (HAK.out w2 HBD.out).mono ?_
              rintro e w3 ⟨rfl, b3⟩
              have HB3 := Lib.hid (HBD.out.trans (b3.mono HBD.out.size))
              clear b3
              go_wp2_with fail
              exact ⟨⟨k + 1, by omega, by go_num, HB3.out, HE.out⟩, by simp [intOf]; omega⟩
            · have HZ := Lib.hid (HNE.out fun e => c2 (by rw [e]))
              rw [decide_eq_false c2] at HAK
              clear c0 c1 c2 HNE i0 i1 j0 j1
              generalize xs[k].1.node = NA at *
              generalize ys[k].1.node = NB at *
              generalize (⟨xs[k].1.name.toArray⟩ : ByteArray) = SA at *
              generalize (⟨ys[k].1.name.toArray⟩ : ByteArray) = SB at *
              generalize xs[k].2 = VA at *
              generalize ys[k].2 = VB at *
              go_wp2_with fail
              go_still_tail 35, (by kernel_rfl)
              change wpList _ _ _ _ _ wr.drew
              generalize wr.drew = w2 at *
              go_wp2_with fail
              refine (HAK.out w2 HBD.out).mono ?_
              rintro e w3 ⟨rfl, b3⟩
              have HB3 := Lib.hid (HBD.out.trans (b3.mono HBD.out.size))
              clear b3
              go_wp2_with fail
              go_ret
              exact ⟨by rw [HZ.out]; rfl, HB3.out⟩
          · have q2 := str_ne c1
            have HZ := Lib.hid (HNE.out fun e => c1 (by rw [e]))
            clear c0 c1 HNE HAK m0 m1 m2 n0 n1 n2
            generalize xs[k].1.node = NA at *
            generalize ys[k].1.node = NB at *
            generalize (⟨xs[k].1.name.toArray⟩ : ByteArray) = SA at *
            generalize (⟨ys[k].1.name.toArray⟩ : ByteArray) = SB at *
            go_wp2_with fail
            go_quiet (fail)
            go_wp2_with fail
            go_ret
            exact ⟨by rw [HZ.out]; rfl, below_drewN HBW.out _⟩
        · have q1 : (xs[k].1.node != ys[k].1.node) = true := by simpa using c0
          have HZ := Lib.hid (HNE.out fun e => c0 (by rw [e]))
          clear c0 HNE HAK m0 m1 m2 n0 n1 n2
          generalize xs[k].1.node = NA at *
          generalize ys[k].1.node = NB at *
          generalize (⟨xs[k].1.name.toArray⟩ : ByteArray) = SA at *
          generalize (⟨ys[k].1.name.toArray⟩ : ByteArray) = SB at *
          go_wp2_with fail
          go_quiet (fail)
          go_wp2_with fail
          go_ret
          exact ⟨by rw [HZ.out]; rfl, below_drewN HBW.out _⟩
      · have HE : Hid (xs.map (·.1) = ys.map (·.1)) := Lib.hid (fst_eq HL.out fun j h1 h2 => HALL.out j (by omega) h1 h2)
        go_wp2_with fail
        go_ret
        exact ⟨by rw [decide_eq_true HE.out]; rfl, HBW.out⟩
  · have q0 : ((xs.length : Int) != (ys.length : Int)) = true := by simp; omega
    have HE : Hid (xs.map (·.1) ≠ ys.map (·.1)) := Lib.hid (fun e => hl (by simpa using congrArg List.length e))
    clear hl
    go_enter Try.func112, Try.ntmps112
    go_wp2_with fail
    go_ret
    exact ⟨by rw [decide_eq_false HE.out]; rfl, Below.refl _ _⟩
end Go.Proofs.Ytmhjfbdldpehdaa
namespace Go.Proofs.Ytmhjfbdldpehdaa
open Go.RowKit

/-- Marks that were made since w0, in blocks of M, none of which is newer than W. -/
structure MarkB (w0 W : World) (M : Nat → Prop) (B : Nat) (S : List MK) : Prop where
  marks : MarksM M W B S
  inn : ∀ b, M b → w0.heap.size ≤ b ∧ b < W.heap.size
  below : Below w0.heap.size w0 W
  fit : ∀ y ∈ S, y.fits
/-- Behind a call: the marks, in what they had, and in what is new; nothing else has turned. -/
def Stepd (w0 W : World) (M : Nat → Prop) (B : Nat) (S' : List MK) (w' : World) : Prop := ∃ M', MarkB w0 w' M' B S' ∧ (∀ b, b < W.heap.size → M' b → M b) ∧ Turns M W w'
theorem MarkB.step {w0 W w' : World} {M : Nat → Prop} {B : Nat} {S S' : List MK} (h : MarkB w0 W M B S) (hm : MarksM (New M W) w' B S') (ht : Turns M W w') (hf : ∀ y ∈ S', y.fits) : Stepd w0 W M B S' w' := by
  have z0 := h.below.size
  have z1 := ht.size
  refine ⟨fun b => (M b ∨ W.heap.size ≤ b) ∧ b < w'.heap.size, ⟨hm.mono fun b hb k => ⟨k, hb⟩, ?_, h.below.trans (ht.below z0 fun b hb k => by have := (h.inn b k).1; omega), hf⟩, ?_, ht⟩
  · rintro b ⟨k | k, hb⟩
    · exact ⟨(h.inn b k).1, hb⟩
    · exact ⟨by omega, hb⟩
  · rintro b hb ⟨k | k, _⟩
    · exact k
    · omega
theorem MarkB.on {w0 W w' : World} {M : Nat → Prop} {B : Nat} {S : List MK} (h : MarkB w0 W M B S) (hb : Below W.heap.size W w') : MarkB w0 w' M B S :=
  ⟨h.marks.below hb, fun b k => ⟨(h.inn b k).1, Nat.lt_of_lt_of_le (h.inn b k).2 hb.size⟩, h.below.trans (hb.mono h.below.size), h.fit⟩
/-- A row that stands beside the marks. -/
def RowK (W : World) (M : Nat → Prop) (v : Value) (qs : List (MK × Value)) : Prop := ∃ P, RowP P W v qs ∧ ∀ b, P b → b < W.heap.size ∧ ¬ M b
theorem RowK.turns {W w' : World} {M M' : Nat → Prop} {v : Value} {qs : List (MK × Value)} (h : RowK W M v qs) (hs : ∀ b, b < W.heap.size → M' b → M b) (ht : Turns M W w') : RowK w' M' v qs := by
  obtain ⟨P, hr, hp⟩ := h
  exact ⟨P, hr.kept (ht.kept fun b _ k => (hp b k).2), fun b k => ⟨Nat.lt_of_lt_of_le (hp b k).1 ht.size, fun q => (hp b k).2 (hs b (hp b k).1 q)⟩⟩
theorem RowK.on {W w' : World} {M : Nat → Prop} {v : Value} {qs : List (MK × Value)} (h : RowK W M v qs) (hb : Below W.heap.size W w') : RowK w' M v qs := by
  obtain ⟨P, hr, hp⟩ := h
  exact ⟨P, hr.kept (.of_below hb), fun b k => ⟨Nat.lt_of_lt_of_le (hp b k).1 hb.size, (hp b k).2⟩⟩
/-- Attributes that stand beside the marks. -/
def AttrsK (W : World) (M : Nat → Prop) (v : Value) (l : List (List UInt8 × List UInt8)) : Prop := ∃ P, AttrsP P W v l ∧ ∀ b, P b → b < W.heap.size ∧ ¬ M b
theorem AttrsK.nil (W : World) (M : Nat → Prop) : AttrsK W M (.slice none 0 0) [] := ⟨fun _ => False, AttrsP.nil _ _ _ _, fun _ k => k.elim⟩
theorem AttrsK.on {W w' : World} {M : Nat → Prop} {v : Value} {l : List (List UInt8 × List UInt8)} (h : AttrsK W M v l) (hb : Below W.heap.size W w') : AttrsK w' M v l := by
  obtain ⟨P, hr, hp⟩ := h
  exact ⟨P, hr.kept (.of_below hb), fun b k => ⟨Nat.lt_of_lt_of_le (hp b k).1 hb.size, (hp b k).2⟩⟩

theorem mRoom_mem {S : List MK} {x y : MK} (h : y ∈ mRoom S x) : y ∈ S := by
  unfold mRoom at h
  split at h
  · exact List.mem_of_mem_eraseIdx h
  · exact h
theorem mPush_mem {S : List MK} {x y : MK} (h : y ∈ mPush S x) : y ∈ S ∨ y = x := by
  unfold mPush at h
  rcases List.mem_append.1 h with h | h
  · exact .inl (mRoom_mem h)
  · exact .inr (List.mem_singleton.1 h)
theorem mPush_len (S : List MK) (x : MK) : (mPush S x).length ≤ S.length + 1 := by
  unfold mPush mRoom
  split
  · simp [List.length_eraseIdx]; split <;> omega
  · simp
theorem fits_of {a : MK} (h : a.attrs = []) : a.fits := by
  unfold MK.fits
  rw [h]
  exact ⟨by decide, fun a h => absurd h (by simp)⟩

theorem mkB_new (w : World) : Calls Try.prog 26 #[] w (fun e w' => ∃ M B, e = .returned (.pointer (some ⟨B, 0, none⟩)) ∧ MarkB w w' M B []) := by
  refine (mnewP w).mono ?_
  rintro e w1 ⟨rfl, d, b⟩
  exact ⟨fun x => w.heap.size ≤ x ∧ x < w1.heap.size, _, rfl, ⟨d.mono (fun _ hx k => ⟨k, hx⟩), fun _ k => k, b, fun y hy => absurd hy (by simp)⟩⟩
theorem mkB_push {w0 W : World} {M : Nat → Prop} {B : Nat} {S : List MK} (h : MarkB w0 W M B S) (x : MK) (pa : Option Addr) (ca : Nat) (hs : S.length ≤ 4294967296) (ha : AttrsK W M (.slice pa x.attrs.length ca) x.attrs) (hx : x.fits) :
    Calls Try.prog 42 #[.pointer (some ⟨B, 0, none⟩), markV x (.slice pa x.attrs.length ca)] W (fun e w' => e = .returned (.tuple #[]) ∧ Stepd w0 W M B (mPush S x) w') := by
  obtain ⟨P, ha, hp⟩ := ha
  refine (mpushP S B M P W x pa ca h.marks hs h.fit ha (fun b k => (hp b k).2) (fun b k => (h.inn b k).2) hx).mono ?_
  rintro e w' ⟨rfl, q2, q3⟩
  exact ⟨rfl, h.step q2 q3 fun y hy => (mPush_mem hy).elim (h.fit y) (fun e => by rw [e]; exact hx)⟩
theorem wall_fits : mWall.fits := fits_of rfl
theorem mkB_wall {w0 W : World} {M : Nat → Prop} {B : Nat} {S : List MK} (h : MarkB w0 W M B S) (hs : S.length ≤ 4294967296) : Calls Try.prog 32 #[.pointer (some ⟨B, 0, none⟩)] W (fun e w' => e = .returned (.tuple #[]) ∧ Stepd w0 W M B (S ++ [mWall]) w') := by
  refine (mwallP S B M W h.marks hs).mono ?_
  rintro e w' ⟨rfl, q2, q3⟩
  refine ⟨rfl, h.step q2 q3 fun y hy => ?_⟩
  rcases List.mem_append.1 hy with hy | hy
  · exact h.fit y hy
  · rw [List.mem_singleton.1 hy]; exact wall_fits
theorem New.of {M : Nat → Prop} {W w' : World} {B : Nat} {S : List MK} (h : MarksM M w' B S) : MarksM (New M W) w' B S := h.mono fun _ _ k => .inl k
theorem mkB_clear {w0 W : World} {M : Nat → Prop} {B : Nat} {S : List MK} (h : MarkB w0 W M B S) (hs : S.length ≤ 4294967296) : Calls Try.prog 34 #[.pointer (some ⟨B, 0, none⟩)] W (fun e w' => e = .returned (.tuple #[]) ∧ Stepd w0 W M B (mClear S) w') := by
  refine (mclearP S B M W h.marks hs).mono ?_
  rintro e w' ⟨rfl, q2, q3⟩
  exact ⟨rfl, h.step (New.of q2) q3 fun y hy => h.fit y (List.mem_of_mem_take hy)⟩
theorem mkB_drop {w0 W : World} {M : Nat → Prop} {B : Nat} {S : List MK} (h : MarkB w0 W M B S) (i : Int) (hs : S.length ≤ 4294967296) : Calls Try.prog 36 #[.pointer (some ⟨B, 0, none⟩), .int .i64 i] W (fun e w' => e = .returned (.bool (mHas S i)) ∧ Stepd w0 W M B (mDropS S i) w') := by
  refine (mdropP S B M W i h.marks hs).mono ?_
  rintro e w' ⟨rfl, q2, q3⟩
  refine ⟨rfl, h.step (New.of q2) q3 fun y hy => h.fit y ?_⟩
  unfold mDropS at hy
  split at hy
  · exact List.mem_of_mem_eraseIdx hy
  · exact hy
theorem mkB_find {w0 W : World} {M : Nat → Prop} {B : Nat} {S : List MK} (h : MarkB w0 W M B S) (n : List UInt8) (hs : S.length ≤ 4294967296) : Calls Try.prog 102 #[.pointer (some ⟨B, 0, none⟩), .string ⟨n.toArray⟩] W (Gives (.int .i64 (mFind S n S.length)) W) := mfindP S B M W n h.marks hs
theorem mkB_of {w0 W : World} {M : Nat → Prop} {B : Nat} {S : List MK} (h : MarkB w0 W M B S) (n : Int) (hs : S.length ≤ 4294967296) : Calls Try.prog 45 #[.pointer (some ⟨B, 0, none⟩), .int .i64 n] W (Gives (.int .i64 (mOfA S n 0)) W) := mofP S B M W n h.marks hs
theorem mkB_len {w0 W : World} {M : Nat → Prop} {B : Nat} {S : List MK} (h : MarkB w0 W M B S) : Calls Try.prog 101 #[.pointer (some ⟨B, 0, none⟩)] W (Gives (.int .i64 (S.length : Int)) W) := mlenP S B M W h.marks
/-- What All tells, beside the marks. -/
def AllK (w0 W : World) (M : Nat → Prop) (B : Nat) (S : List MK) (e : Ending) (w' : World) : Prop := ∃ v rs, e = .returned v ∧ rs.map (·.1) = S ∧ RowP (fun b => W.heap.size ≤ b ∧ b < w'.heap.size) w' v rs ∧ Below W.heap.size W w' ∧ MarkB w0 w' M B S ∧ RowK w' M v rs
theorem mkB_all {w0 W : World} {M : Nat → Prop} {B : Nat} {S : List MK} (h : MarkB w0 W M B S) (hs : S.length ≤ 4294967296) : Calls Try.prog 63 #[.pointer (some ⟨B, 0, none⟩)] W (AllK w0 W M B S) := by
  refine (mallP S B M W h.marks hs fun x hx => Nat.le_trans (h.fit x hx).1 (by decide)).mono ?_
  rintro e w' ⟨v, rs, rfl, q1, q2, q3⟩
  exact ⟨v, rs, rfl, q1, q2.row', q3, h.on q3, _, q2.row', fun b k => ⟨k.2, fun q => by have := (h.inn b q).2; omega⟩⟩

def kn7 : Nat → List MK
  | 0 => []
  | k + 1 => mPush (kn7 k) ⟨(k : Int) + 1, [98], []⟩
theorem kn7_len : ∀ k, (kn7 k).length ≤ k
  | 0 => Nat.le_refl _
  | k + 1 => Nat.le_trans (mPush_len _ _) (by have := kn7_len k; omega)
set_option maxHeartbeats 1000000 in
set_option maxRecDepth 100000 in
theorem known7_yes (w : World) : Calls Try.prog 25 #[] w (Yes w) := by
  have HN := Lib.hid (mkB_new w)
  have HP : Hid (∀ W M B (k : Nat), k < 4 → MarkB w W M B (kn7 k) → Calls Try.prog 42 #[.pointer (some ⟨B, 0, none⟩), .agg #[.int .i64 ((k : Int) + 1), .string ⟨#[98]⟩, .slice none 0 0]] W (fun e w' => e = .returned (.tuple #[]) ∧ Stepd w W M B (kn7 (k + 1)) w')) := Lib.hid fun W M B k hk h => mkB_push h ⟨(k : Int) + 1, [98], []⟩ none 0 (by have := kn7_len k; omega) (AttrsK.nil _ _) (fits_of rfl)
  have HL : Hid (∀ W M B, MarkB w W M B (kn7 4) → Calls Try.prog 101 #[.pointer (some ⟨B, 0, none⟩)] W (Gives (.int .i64 3) W)) := Lib.hid fun W M B h => mkB_len h
  have HWL : Hid (∀ W M B, MarkB w W M B (kn7 4) → Calls Try.prog 32 #[.pointer (some ⟨B, 0, none⟩)] W (fun e w' => e = .returned (.tuple #[]) ∧ Stepd w W M B (kn7 4 ++ [mWall]) w')) := Lib.hid fun W M B h => mkB_wall h (by decide)
  have HF : Hid (∀ W M B, MarkB w W M B (kn7 4 ++ [mWall]) → Calls Try.prog 102 #[.pointer (some ⟨B, 0, none⟩), .string ⟨#[98]⟩] W (Gives (.int .i64 (-1)) W)) := Lib.hid fun W M B h => mkB_find h [98] (by decide)
  have HO4 : Hid (∀ W M B, MarkB w W M B (kn7 4 ++ [mWall]) → Calls Try.prog 45 #[.pointer (some ⟨B, 0, none⟩), .int .i64 4] W (Gives (.int .i64 2) W)) := Lib.hid fun W M B h => mkB_of h 4 (by decide)
  have HO1 : Hid (∀ W M B, MarkB w W M B (kn7 4 ++ [mWall]) → Calls Try.prog 45 #[.pointer (some ⟨B, 0, none⟩), .int .i64 1] W (Gives (.int .i64 (-1)) W)) := Lib.hid fun W M B h => mkB_of h 1 (by decide)
  go_enter Try.func25, Try.ntmps25
  go_wp2_with fail
  refine HN.out.mono ?_
  rintro e w1 ⟨M1, B, rfl, h1⟩
  have H1 := Lib.hid h1
  clear h1
  go_wp2_with fail
  go_loopw [2] (fun i wr => ∃ (k : Nat) (M : Nat → Prop), k ≤ 4 ∧ i = .int .i64 (k : Int) ∧ MarkB w wr M B (kn7 k)) (fun i _ => 4 - (intOf i).toNat)
  case atStart => exact ⟨0, M1, by omega, rfl, H1.out⟩
  case round =>
    obtain ⟨k, M, hk, rfl, hm⟩ := hrel
    have HM := Lib.hid hm
    clear hm
    by_cases hlt : k < 4
    · go_wp2_with fail
      refine (HP.out _ _ _ k hlt HM.out).mono ?_
      rintro e w2 ⟨rfl, M2, h2, _, _⟩
      have H2 := Lib.hid h2
      clear h2
      go_wp2_with fail
      exact ⟨⟨k + 1, M2, by omega, by go_num, H2.out⟩, by simp [intOf]; omega⟩
    · obtain rfl : k = 4 := by omega
      go_wp2_with fail
      refine (HL.out _ _ _ HM.out).mono ?_
      rintro e w2 ⟨rfl, rfl⟩
      go_wp2_with fail
      refine (HWL.out _ _ _ HM.out).mono ?_
      rintro e w2 ⟨rfl, M2, h2, _, _⟩
      have H2 := Lib.hid h2
      clear h2
      go_wp2_with fail
      refine (HF.out _ _ _ H2.out).mono ?_
      rintro e w3 ⟨rfl, rfl⟩
      go_wp2_with fail
      refine (HO4.out _ _ _ H2.out).mono ?_
      rintro e w3 ⟨rfl, rfl⟩
      go_wp2_with fail
      refine (HO1.out _ _ _ H2.out).mono ?_
      rintro e w3 ⟨rfl, rfl⟩
      go_wp2_with fail
      go_ret
      exact ⟨rfl, H2.out.below⟩
end Go.Proofs.Ytmhjfbdldpehdaa
namespace Go.Proofs.Ytmhjfbdldpehdaa
open Go.RowKit

set_option maxHeartbeats 1000000 in
theorem within7 (n : Int) (m : Nat) (w : World) (h0 : -9223372036854775808 ≤ n) (h1 : n ≤ 9223372036854775807) (hm1 : 1 ≤ m) (hm2 : m ≤ 2147483647) :
    Calls Try.prog 30 #[.int .i64 n, .int .i64 (m : Int)] w (Gives (.int .i64 ((Within n m : Nat) : Int)) w) := by
  have HW := Lib.hid (within_lt n m hm1).2
  by_cases hn : 0 ≤ n
  · have g1 := Int.emod_nonneg n (show (m : Int) ≠ 0 by omega)
    go_enter Try.func30, Try.ntmps30
    go_wp2
    go_ret
    exact ⟨ret_is HW.out.symm, rfl⟩
  · obtain ⟨g1, g2, g3, g4⟩ := tmod_facts n m (by omega) hm1
    have G3 := Lib.hid g3
    have G4 := Lib.hid g4
    clear g3 g4
    by_cases hz : n.tmod m < 0
    · go_enter Try.func30, Try.ntmps30
      go_wp2
      go_ret
      exact ⟨ret_is ((G3.out hz).trans HW.out.symm), rfl⟩
    · go_enter Try.func30, Try.ntmps30
      go_wp2
      go_ret
      exact ⟨ret_is ((G4.out hz).trans HW.out.symm), rfl⟩



end Go.Proofs.Ytmhjfbdldpehdaa
namespace Go.Proofs.Ytmhjfbdldpehdaa
open Go.RowKit

def nm7 : Nat → List UInt8
  | 0 => [98]
  | 1 => [105]
  | 2 => [97]
  | 3 => [101, 109]
  | _ => [110, 111, 98, 114]
def TellsN (l : List UInt8) (w : World) (e : Ending) (w' : World) : Prop := e = .returned (.string ⟨l.toArray⟩) ∧ Below w.heap.size w w'
set_option maxHeartbeats 1000000 in
set_option maxRecDepth 100000 in
theorem name7 (n : Int) (w : World) (h0 : -9223372036854775808 ≤ n) (h1 : n ≤ 9223372036854775807) : Calls Try.prog 28 #[.int .i64 n] w (TellsN (nm7 (Within n 5)) w) := by
  have HW : Hid (∀ W, Calls Try.prog 30 #[.int .i64 n, .int .i64 5] W (Gives (.int .i64 ((Within n 5 : Nat) : Int)) W)) := Lib.hid fun W => within7 n 5 W h0 h1 (by omega) (by omega)
  have hl := (within_lt n 5 (by omega)).1
  have HB : Hid (Below w.heap.size w (w.alloc (.cells #[.string ⟨#[98]⟩, .string ⟨#[105]⟩, .string ⟨#[97]⟩, .string ⟨#[101, 109]⟩, .string ⟨#[110, 111, 98, 114]⟩] 9))) := Lib.hid ((Below.refl _ w).alloc (Nat.le_refl _) _)
  generalize Within n 5 = r at *
  clear h0 h1
  match r, hl with
  | 0, _ =>
    go_enter Try.func28, Try.ntmps28
    go_wp2_with fail
    refine (HW.out _).mono ?_
    rintro e w1 ⟨rfl, rfl⟩
    go_wp2_with fail
    go_ret
    exact ⟨rfl, HB.out⟩
  | 1, _ =>
    go_enter Try.func28, Try.ntmps28
    go_wp2_with fail
    refine (HW.out _).mono ?_
    rintro e w1 ⟨rfl, rfl⟩
    go_wp2_with fail
    go_ret
    exact ⟨rfl, HB.out⟩
  | 2, _ =>
    go_enter Try.func28, Try.ntmps28
    go_wp2_with fail
    refine (HW.out _).mono ?_
    rintro e w1 ⟨rfl, rfl⟩
    go_wp2_with fail
    go_ret
    exact ⟨rfl, HB.out⟩
  | 3, _ =>
    go_enter Try.func28, Try.ntmps28
    go_wp2_with fail
    refine (HW.out _).mono ?_
    rintro e w1 ⟨rfl, rfl⟩
    go_wp2_with fail
    go_ret
    exact ⟨rfl, HB.out⟩
  | 4, _ =>
    go_enter Try.func28, Try.ntmps28
    go_wp2_with fail
    refine (HW.out _).mono ?_
    rintro e w1 ⟨rfl, rfl⟩
    go_wp2_with fail
    go_ret
    exact ⟨rfl, HB.out⟩
def at7 : Nat → List (List UInt8 × List UInt8)
  | 1 => [([97], [49])]
  | 2 => [([97], [49]), ([98], [50])]
  | 3 => [([98], [50]), ([97], [49])]
  | 4 => [([97], [50])]
  | _ => []
def AttrsOut (l : List (List UInt8 × List UInt8)) (w : World) (e : Ending) (w' : World) : Prop := ∃ p c, e = .returned (.slice p l.length c) ∧ AttrsP (fun b => w.heap.size ≤ b) w' (.slice p l.length c) l ∧ Below w.heap.size w w'
theorem AttrsP.block {w : World} {g c : Nat} {l : List (List UInt8 × List UInt8)} {cs : Array Value} {T : TypeId} {P : Nat → Prop} (h : w.heap[g]? = some (.cells cs T (0, 0))) (hc : cs.toList = atCells l) (hp : P g) : AttrsP P w (.slice (some ⟨g, 0, none⟩) l.length c) l := by
  refine ⟨_, c, rfl, fun _ => ⟨g, 0, rfl, hp, heap_lt h, fun j hj => ?_⟩⟩
  have key : ∀ i, i < 2 → w.cell? ⟨g, 0 + j * 2 + i, none⟩ = (atCell l[j])[i]? := by
    intro i hi
    rw [(block_cell h _).1, ← Array.getElem?_toList, hc, show 0 + j * 2 + i = j * 2 + i by omega, atCells_at l j i hj hi]
  exact ⟨key 0 (by omega), key 1 (by omega)⟩
theorem made3 (w : World) (o1 o2 : Obj) (cs : Array Value) (T : TypeId) : (((w.alloc o1).alloc o2).alloc (.cells cs T)).heap[w.heap.size + 1 + 1]? = some (.cells cs T (0, 0)) := by
  have := heap_alloc_new ((w.alloc o1).alloc o2) (.cells cs T)
  simpa using this
theorem below2 (w : World) (o1 o2 : Obj) : Below w.heap.size w ((w.alloc o1).alloc o2) := ((Below.refl _ w).alloc (Nat.le_refl _) _).alloc (by simp) _
theorem below3 (w : World) (o1 o2 o3 : Obj) : Below w.heap.size w (((w.alloc o1).alloc o2).alloc o3) := (below2 w o1 o2).alloc (by simp; omega) _
set_option maxHeartbeats 1000000 in
set_option maxRecDepth 100000 in
theorem attrs7 (n : Int) (w : World) (h0 : -9223372036854775808 ≤ n) (h1 : n ≤ 9223372036854775807) : Calls Try.prog 29 #[.int .i64 n] w (AttrsOut (at7 (Within n 7)) w) := by
  have HW : Hid (∀ W, Calls Try.prog 30 #[.int .i64 n, .int .i64 7] W (Gives (.int .i64 ((Within n 7 : Nat) : Int)) W)) := Lib.hid fun W => within7 n 7 W h0 h1 (by omega) (by omega)
  have hl := (within_lt n 7 (by omega)).1
  generalize Within n 7 = r at *
  clear h0 h1
  match r, hl with
  | 0, _ =>
    go_enter Try.func29, Try.ntmps29
    go_wp2_with fail
    refine (HW.out _).mono ?_
    rintro e w1 ⟨rfl, rfl⟩
    go_wp2_with fail
    go_ret
    exact ⟨none, 0, rfl, AttrsP.nil _ _ _ _, below2 _ _ _⟩
  | 1, _ =>
    go_enter Try.func29, Try.ntmps29
    go_wp2_with fail
    refine (HW.out _).mono ?_
    rintro e w1 ⟨rfl, rfl⟩
    go_wp2_with fail
    go_ret
    exact ⟨some ⟨w.heap.size + 1 + 1, 0, none⟩, _, rfl, AttrsP.block (l := at7 1) (made3 _ _ _ _ _) rfl (by omega), below3 _ _ _ _⟩
  | 2, _ =>
    go_enter Try.func29, Try.ntmps29
    go_wp2_with fail
    refine (HW.out _).mono ?_
    rintro e w1 ⟨rfl, rfl⟩
    go_wp2_with fail
    go_ret
    exact ⟨some ⟨w.heap.size + 1 + 1, 0, none⟩, _, rfl, AttrsP.block (l := at7 2) (made3 _ _ _ _ _) rfl (by omega), below3 _ _ _ _⟩
  | 3, _ =>
    go_enter Try.func29, Try.ntmps29
    go_wp2_with fail
    refine (HW.out _).mono ?_
    rintro e w1 ⟨rfl, rfl⟩
    go_wp2_with fail
    go_ret
    exact ⟨some ⟨w.heap.size + 1 + 1, 0, none⟩, _, rfl, AttrsP.block (l := at7 3) (made3 _ _ _ _ _) rfl (by omega), below3 _ _ _ _⟩
  | 4, _ =>
    go_enter Try.func29, Try.ntmps29
    go_wp2_with fail
    refine (HW.out _).mono ?_
    rintro e w1 ⟨rfl, rfl⟩
    go_wp2_with fail
    go_ret
    exact ⟨some ⟨w.heap.size + 1 + 1, 0, none⟩, _, rfl, AttrsP.block (l := at7 4) (made3 _ _ _ _ _) rfl (by omega), below3 _ _ _ _⟩
  | 5, _ =>
    go_enter Try.func29, Try.ntmps29
    go_wp2_with fail
    refine (HW.out _).mono ?_
    rintro e w1 ⟨rfl, rfl⟩
    go_wp2_with fail
    go_ret
    exact ⟨none, 0, rfl, AttrsP.nil _ _ _ _, below2 _ _ _⟩
  | 6, _ =>
    go_enter Try.func29, Try.ntmps29
    go_wp2_with fail
    refine (HW.out _).mono ?_
    rintro e w1 ⟨rfl, rfl⟩
    go_wp2_with fail
    go_ret
    exact ⟨none, 0, rfl, AttrsP.nil _ _ _ _, below2 _ _ _⟩
end Go.Proofs.Ytmhjfbdldpehdaa
