/-
  The walk of the program's cut. Any marks, not too many.
-/
import Derived.Test.YtbadckkcjjfnoaaMW2
namespace Go.Proofs.Ytbadckkcjjfnoaa
open Go.RowKit

theorem zero_mark (w : World) : (zeroValue 63).run Try.prog w = .ok (.agg #[.int .i64 0, .string ByteArray.empty, .slice none 0 0]) w := by kernel_rfl
theorem info_mark : ∃ i, Try.prog.info? 63 = some i ∧ i.zero = some (.agg #[.int .i64 0, .string ByteArray.empty, .slice none 0 0]) ∧ i.size = 3 ∧ i.bytes = 48 := by
  have hi9 : (Try.prog.info? 63).map (fun i => (i.zero, i.size, i.bytes)) = some (some (.agg #[.int .i64 0, .string ByteArray.empty, .slice none 0 0]), 3, 48) := by kernel_rfl
  obtain ⟨i0, hi, hx⟩ := Option.map_eq_some_iff.1 hi9
  simp only [Prod.mk.injEq] at hx
  exact ⟨i0, hi, hx.1, hx.2.1, hx.2.2⟩
/-- What is cleared of a row. -/
theorem run_clear_row (w : World) (t ty e : TypeId) (z : Value) (ht : Try.prog.underlying t = some (.slice e)) (hv : ∀ w, (zeroValue e).run Try.prog w = .ok z w) (g o n c : Nat) (cur : Array Value) (T : TypeId) (hg : w.heap[g]? = some (.cells cur T (0, 0))) (hn : 0 < n)
    (hfit : o + (Builtin.zeroCells z.cells n).size ≤ cur.size) (h1 : ∀ v ∈ (Builtin.zeroCells z.cells n).toList, v.oneCell' = true) :
    (Builtin.clear_ #[t] ty #[.slice (some ⟨g, o, none⟩) n c]).run Try.prog w = .ok (.tuple #[]) (w.setRow g (cur.toList.take o ++ (Builtin.zeroCells z.cells n).toList ++ cur.toList.drop (o + (Builtin.zeroCells z.cells n).toList.length)).toArray) := by
  have hst := run_storeCells_at Try.prog g o T (Builtin.zeroCells z.cells n).toList 0 cur w hg (by simpa using hfit) h1
  simp only [Nat.add_zero] at hst
  obtain ⟨m, rfl⟩ : ∃ m, n = m + 1 := ⟨n - 1, by omega⟩
  simp [Builtin.clear_, run_underlying ht, hv, hst]
theorem run_clear_none (w : World) (t ty e : TypeId) (ht : Try.prog.underlying t = some (.slice e)) (p : Option Addr) (c : Nat) : (Builtin.clear_ #[t] ty #[.slice p 0 c]).run Try.prog w = .ok (.tuple #[]) w := by
  cases p <;> simp [Builtin.clear_, run_underlying ht]
theorem MarkQ.row_at {M : Nat → Prop} {w : World} {B g n cap : Nat} {qs : List (MK × Value)} (h : MarkQ M w B (.slice (some ⟨g, 0, none⟩) n cap) qs) : n = qs.length ∧ ∃ cur, w.heap[g]? = some (.cells cur 63 (0, 0)) ∧ qs.length ≤ cap ∧ cap ≤ maxLen ∧ cur.size = cap * 3 ∧ cur.toList.take (qs.length * 3) = mkCells qs := by
  rcases h.row.2 with ⟨e, _⟩ | ⟨g', cap', cur, e, _, hg, h1, h2, h3, h4⟩
  · cases e
  · injection e with e1 e2 e3
    injection e1 with e1
    injection e1 with e1
    subst e1 e3
    exact ⟨e2, cur, hg, h1, h2, h3, h4⟩
/-- The row laid anew, and the list's own cell. -/
theorem MarkQ.relaid {M : Nat → Prop} {w : World} {B g n cap : Nat} {qs : List (MK × Value)} (h : MarkQ M w B (.slice (some ⟨g, 0, none⟩) n cap) qs) (cur' : Array Value) (qs' : List (MK × Value)) (hc : cur'.size = cap * 3) (hl : qs'.length ≤ cap) (ht : cur'.toList.take (qs'.length * 3) = mkCells qs') (ha : ∀ q ∈ qs', AttrsP (fun b => M b ∧ b ≠ B ∧ b ≠ g) w q.2 q.1.attrs) :
    MarkQ M ((w.setRow g cur').setCell ⟨B, 0, none⟩ (.slice (some ⟨g, 0, none⟩) qs'.length cap)) B (.slice (some ⟨g, 0, none⟩) qs'.length cap) qs' ∧ Turns M w ((w.setRow g cur').setCell ⟨B, 0, none⟩ (.slice (some ⟨g, 0, none⟩) qs'.length cap)) := by
  obtain ⟨_, cur, hg, h1, h2, h3, h4⟩ := h.row_at
  have hgm := h.rowM g rfl
  have hgl := heap_lt hg
  have hB : (w.setRow g cur').heap[B]? = w.heap[B]? := setRow_other w g B cur' (fun e => hgm.2 e.symm)
  have hsz : (w.setRow g cur').heap.size = w.heap.size := by simp [World.setRow]
  have hg' : (w.setRow g cur').heap[g]? = some (.cells cur' 63 (0, 0)) := setRow_heap w g cur cur' _ _ hg
  have ho : ∀ b, b ≠ g → b ≠ B → ((w.setRow g cur').setCell ⟨B, 0, none⟩ (.slice (some ⟨g, 0, none⟩) qs'.length cap)).heap[b]? = w.heap[b]? := fun b q1 q2 => by
    rw [heap_setCell_other _ _ _ _ q2, setRow_other w g b cur' q1]
  refine ⟨⟨h.inM, by simpa [World.setRow] using h.lt, World.cell?_setCell_same _ _ (u := .slice (some ⟨g, 0, none⟩) n cap) _ (by rw [World.cell?_of_block (w := w) hB]; exact h.cell), ?_, ?_, fun g' e => ?_, fun q hq => ?_⟩, ?_⟩
  · rw [World.frozen?_setCell, World.frozen?_of_block (w := w) hB]; exact h.free
  · refine ⟨mkCells_len _, .inr ⟨g, cap, cur', rfl, Nat.zero_le _, ?_, hl, h2, hc, ht⟩⟩
    rw [heap_setCell_other _ _ _ _ hgm.2]
    exact hg'
  · injection e with e
    subst e
    exact hgm
  · refine ((ha q hq).kept ⟨by simp [World.setRow], fun b q1 _ => ho b q1.2.2 q1.2.1⟩).mono (fun b q1 _ => ⟨q1.1, q1.2.1, fun e => q1.2.2 (by injection e)⟩)
  · refine ⟨rfl, rfl, rfl, by simp [World.setRow], fun b _ hm => ho b ?_ ?_⟩
    · rintro rfl; exact hm hgm.1
    · rintro rfl; exact hm h.inM
/-- The same where the list keeps its length. -/
theorem MarkQ.relaid_same {M : Nat → Prop} {w : World} {B g n cap : Nat} {qs : List (MK × Value)} (h : MarkQ M w B (.slice (some ⟨g, 0, none⟩) n cap) qs) (cur' : Array Value) (qs' : List (MK × Value)) (hc : cur'.size = cap * 3) (hl : qs'.length = n) (ht : cur'.toList.take (qs'.length * 3) = mkCells qs') (ha : ∀ q ∈ qs', AttrsP (fun b => M b ∧ b ≠ B ∧ b ≠ g) w q.2 q.1.attrs) :
    MarkQ M (w.setRow g cur') B (.slice (some ⟨g, 0, none⟩) n cap) qs' ∧ Turns M w (w.setRow g cur') := by
  obtain ⟨hn, cur, hg, h1, h2, h3, h4⟩ := h.row_at
  have hgm := h.rowM g rfl
  have hB : (w.setRow g cur').heap[B]? = w.heap[B]? := setRow_other w g B cur' (fun e => hgm.2 e.symm)
  have hg' : (w.setRow g cur').heap[g]? = some (.cells cur' 63 (0, 0)) := setRow_heap w g cur cur' _ _ hg
  have ho : ∀ b, b ≠ g → (w.setRow g cur').heap[b]? = w.heap[b]? := fun b q1 => setRow_other w g b cur' q1
  refine ⟨⟨h.inM, by simpa [World.setRow] using h.lt, by rw [World.cell?_of_block (w := w) hB]; exact h.cell, ?_, ?_, fun g' e => ?_, fun q hq => ?_⟩, ?_⟩
  · rw [World.frozen?_of_block (w := w) hB]; exact h.free
  · refine ⟨mkCells_len _, .inr ⟨g, cap, cur', by rw [hl], Nat.zero_le _, hg', by omega, h2, hc, ht⟩⟩
  · injection e with e
    subst e
    exact hgm
  · refine ((ha q hq).kept ⟨by simp [World.setRow], fun b q1 _ => ho b q1.2.2⟩).mono (fun b q1 _ => ⟨q1.1, q1.2.1, fun e => q1.2.2 (by injection e)⟩)
  · refine ⟨rfl, rfl, rfl, by simp [World.setRow], fun b _ hm => ho b ?_⟩
    rintro rfl; exact hm hgm.1
theorem MarkQ.attrs_at {M : Nat → Prop} {w : World} {B g n cap : Nat} {qs : List (MK × Value)} (h : MarkQ M w B (.slice (some ⟨g, 0, none⟩) n cap) qs) : ∀ q ∈ qs, AttrsP (fun b => M b ∧ b ≠ B ∧ b ≠ g) w q.2 q.1.attrs := fun q hq => (h.attrs q hq).mono (fun b k _ => ⟨k.1, k.2.1, fun e => k.2.2 (by rw [e]; rfl)⟩)
/-- The same slice stored once more. -/
theorem MarkQ.restore {M : Nat → Prop} {w : World} {B : Nat} {v : Value} {qs : List (MK × Value)} (h : MarkQ M w B v qs) : MarkQ M (w.setCell ⟨B, 0, none⟩ v) B v qs ∧ Turns M w (w.setCell ⟨B, 0, none⟩ v) := by
  have ho : ∀ b, b ≠ B → (w.setCell ⟨B, 0, none⟩ v).heap[b]? = w.heap[b]? := fun b q => heap_setCell_other _ _ _ _ q
  have hT : Turns (fun b => b = B) w (w.setCell ⟨B, 0, none⟩ v) := ⟨rfl, rfl, rfl, by simp, fun b _ hm => ho b hm⟩
  refine ⟨⟨h.inM, by simpa using h.lt, World.cell?_setCell_same _ _ _ h.cell, by rw [World.frozen?_setCell]; exact h.free, ownsRow_kept h.row hT (fun g e => (h.rowM g e).2), h.rowM, fun q hq => (h.attrs q hq).kept (hT.kept (fun b _ k => k.2.1))⟩, hT.mono (fun b _ e => by rw [e]; exact h.inM)⟩
/-- Cells laid over a row. -/
theorem take_lay (c cs : List Value) (o k : Nat) (hk : k ≤ o) (ho : o + cs.length ≤ c.length) : (c.take o ++ cs ++ c.drop (o + cs.length)).take k = c.take k := by
  rw [List.append_assoc, List.take_append_of_le_length (by rw [List.length_take]; omega), List.take_take, Nat.min_eq_left hk]
theorem zero_len (n : Nat) : (Builtin.zeroCells (Value.agg #[.int .i64 0, .string ByteArray.empty, .slice none 0 0]).cells n).size = n * 3 := by
  simp [Builtin.zeroCells, Value.cells]
theorem zero_one (n : Nat) : ∀ v ∈ (Builtin.zeroCells (Value.agg #[.int .i64 0, .string ByteArray.empty, .slice none 0 0]).cells n).toList, v.oneCell' = true := by
  intro v hv
  simp [Builtin.zeroCells, Value.cells] at hv
  obtain ⟨i, _, rfl⟩ := hv
  have : i % 3 < 3 := Nat.mod_lt _ (by omega)
  match i % 3, this with
  | 0, _ => rfl
  | 1, _ => rfl
  | 2, _ => rfl
set_option maxHeartbeats 1000000 in
set_option maxRecDepth 100000 in
theorem mcutP (S : List MK) (B : Nat) (M : Nat → Prop) (w : World) (i : Nat) (h : MarksM M w B S) (hi : i ≤ S.length) :
    Calls Try.prog 88 #[.pointer (some ⟨B, 0, none⟩), .int .i64 (i : Int)] w (fun e w' => e = .returned (.tuple #[]) ∧ MarksM M w' B (S.take i) ∧ Turns M w w') := by
  obtain ⟨v, qs, rfl, hq⟩ := h
  have h0 := hq.cell
  have hB := hq.lt
  have hf := hq.free
  rw [List.length_map] at hi
  rcases hq.form with ⟨rfl, rfl⟩ | ⟨g, cap, rfl⟩
  · obtain rfl : i = 0 := by simpa using hi
    have HQ := Lib.hid hq
    have hcl := fun ty w => run_clear_none w 102 ty 63 Try.underlying102 none 0
    have HN : Hid (MarkQ M (w.setCell ⟨B, 0, none⟩ (.slice none 0 0)) B (.slice none 0 0) [] ∧ Turns M w (w.setCell ⟨B, 0, none⟩ (.slice none 0 0))) := by
      refine Lib.hid ⟨⟨hq.inM, by simpa using hB, World.cell?_setCell_same _ _ _ h0, by rw [World.frozen?_setCell]; exact hf, ⟨rfl, .inl ⟨rfl, rfl⟩⟩, fun g e => (by cases e), fun q hq => absurd hq (by simp)⟩, ⟨rfl, rfl, rfl, by simp, fun b _ hm => heap_setCell_other _ _ _ _ (by rintro rfl; exact hm hq.inM)⟩⟩
    clear hq hi
    go_enter Try.func88, Try.ntmps88
    go_wp2_with fail
    exact bodyPost_end (results_none rfl _ _ _) rfl ⟨rfl, ⟨_, _, rfl, HN.out.1⟩, HN.out.2⟩
  · obtain ⟨_, cur, hg, h1, h2, h3, h4⟩ := hq.row_at
    have hc1 : cur.toList.length = cap * 3 := by rw [Array.length_toList]; exact h3
    have HTM : Hid ((qs.map (·.1)).take i = (qs.take i).map (·.1)) := Lib.hid (by rw [List.map_take])
    have HLT : Hid ((qs.take i).length = i) := Lib.hid (by rw [List.length_take]; omega)
    have htk : cur.toList.take (i * 3) = mkCells (qs.take i) := by rw [← mkCells_take, ← h4, List.take_take, Nat.min_eq_left (by omega)]
    rw [HTM.out]
    rcases Nat.lt_or_ge i qs.length with hlt | hge
    · have hzl : (Builtin.zeroCells (Value.agg #[.int .i64 0, .string ByteArray.empty, .slice none 0 0]).cells (qs.length - i)).toList.length = (qs.length - i) * 3 := by rw [Array.length_toList]; exact zero_len _
      have hrun := fun ty => run_clear_row w 102 ty 63 _ Try.underlying102 zero_mark g (i * 3) (qs.length - i) (cap - i) cur 63 hg (by omega) (by rw [zero_len]; omega) (zero_one _)
      obtain ⟨cur', hcur'⟩ : ∃ cur', cur' = (cur.toList.take (i * 3) ++ (Builtin.zeroCells (Value.agg #[.int .i64 0, .string ByteArray.empty, .slice none 0 0]).cells (qs.length - i)).toList ++ cur.toList.drop (i * 3 + (Builtin.zeroCells (Value.agg #[.int .i64 0, .string ByteArray.empty, .slice none 0 0]).cells (qs.length - i)).toList.length)).toArray := ⟨_, rfl⟩
      rw [← hcur'] at hrun
      have hcs : cur'.size = cap * 3 := by
        rw [hcur', List.size_toArray, List.length_append, List.length_append, List.length_take, List.length_drop, hzl, hc1]
        omega
      have hct : cur'.toList.take ((qs.take i).length * 3) = mkCells (qs.take i) := by
        rw [HLT.out, hcur', List.toList_toArray, take_lay _ _ _ _ (Nat.le_refl _) (by rw [hzl, hc1]; omega)]
        exact htk
      have HN := Lib.hid (hq.relaid cur' (qs.take i) hcs (by rw [HLT.out]; omega) hct (fun q hm => hq.attrs_at q (List.mem_of_mem_take hm)))
      rw [HLT.out] at HN
      have k0 : (w.setRow g cur').cell? ⟨B, 0, none⟩ = some (.slice (some ⟨g, 0, none⟩) qs.length cap) := by rw [World.cell?_of_block (w := w) (setRow_other w g B cur' (fun e => (hq.rowM g rfl).2 e.symm))]; exact h0
      have kf : (w.setRow g cur').frozen? ⟨B, 0, none⟩ = false := by rw [World.frozen?_of_block (w := w) (setRow_other w g B cur' (fun e => (hq.rowM g rfl).2 e.symm))]; exact hf
      have ks : B < (w.setRow g cur').heap.size := by simpa [World.setRow] using hB
      have hic : i ≤ cap := by omega
      have hne : cap ≠ i := by omega
      clear hq hi hg h3 h4 hc1 htk hcur' hcs hct hzl
      go_enter Try.func88, Try.ntmps88
      go_wp2_with fail
      exact bodyPost_end (results_none rfl _ _ _) rfl ⟨rfl, ⟨_, _, HTM.out.symm, HN.out.1⟩, HN.out.2⟩
    · obtain rfl : i = qs.length := by omega
      have HN := Lib.hid hq.restore
      have HTL : Hid (qs.take qs.length = qs) := Lib.hid List.take_length
      have hcl := fun ty p c w => run_clear_none w 102 ty 63 Try.underlying102 p c
      rw [HTL.out]
      clear hq hi hg h3 h4 hc1 htk HLT
      rcases Nat.lt_or_ge qs.length cap with hlc | hlc
      · have hne : cap ≠ qs.length := by omega
        go_enter Try.func88, Try.ntmps88
        go_wp2_with fail
        exact bodyPost_end (results_none rfl _ _ _) rfl ⟨rfl, ⟨_, _, rfl, HN.out.1⟩, HN.out.2⟩
      · obtain rfl : cap = qs.length := by omega
        go_enter Try.func88, Try.ntmps88
        go_wp2_with fail
        exact bodyPost_end (results_none rfl _ _ _) rfl ⟨rfl, ⟨_, _, rfl, HN.out.1⟩, HN.out.2⟩
end Go.Proofs.Ytbadckkcjjfnoaa
