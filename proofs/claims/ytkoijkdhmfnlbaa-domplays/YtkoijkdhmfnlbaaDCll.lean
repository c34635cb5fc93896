/-
  The walks of the program's copied, of attributes. Any attributes, not too many.
  The walks of the program's Elem, Note, New. Any nodes, not too many.
  The walks of the program's Note, Write. Any nodes, not too many.
  The walk of the program's Write. Any nodes, not too many.
  The walks of the program's Put, Take. Any nodes, not too many.
  The walks of the program's withKids, Kids, piece. Any nodes, not too many.
  The walks of the program's Kids, piece, Node. Any nodes, not too many.
-/
import Derived.Test.YtkoijkdhmfnlbaaDAll
import Derived.Laws.AppendOwnNone
import Derived.Test.YtkoijkdhmfnlbaaDBll
import Derived.Deep.RegionLaw
import Derived.Deep.AppendLies
namespace Go.Proofs.Ytkoijkdhmfnlbaa
open Go.RowKit

/-- 'append(nil, l...)' of an empty l. -/
theorem run_append_empty {P : Program} (w : World) (t ty e : TypeId) (i : TypeInfo) (ht : P.underlying t = some (.slice e)) (hi : P.info? e = some i) (p : Option Addr) (c : Nat) :
    (Builtin.append_ #[t, t] ty #[.slice none 0 0, .slice p 0 c]).run P w = .ok (.slice none 0 0) w := by
  cases p <;> simp [Builtin.append_, run_underlying ht, sizeOf, typeInfo, hi, Builtin.lenOf, Builtin.firstCells, loadCells, loadCellsFrom]
theorem wpList_append_empty {P : Program} {w : World} {ops : Array Oper} {rest : List Oper} {o : Oper} {a : Act} {Q : Exit → Act → World → Prop} (hgd : o.guard = none) (s x : Operand) (t : TypeId)
    (ho : o.op = .call { callee := .builtin .append, args := #[s, x], argTypes := #[t, t] })
    (e : TypeId) (i : TypeInfo) (ht : P.underlying t = some (.slice e)) (hi : P.info? e = some i) (p : Option Addr) (c : Nat) (hs : a.eval s = .slice none 0 0) (hx : a.eval x = .slice p 0 c)
    (h : wpList P ops Q rest (a.put o.dst (.slice none 0 0)) w) : wpList P ops Q (o :: rest) a w := by
  refine wpList_plain hgd fun K hK => ?_
  have hrun := run_append_empty (P := P) w t o.type e i ht hi p c
  unfold Oper.wp
  simp [execOp, ho, resolve, invoke, builtin, hs, hx, hrun, Result.andThen]
  exact hK _ _ h
theorem info_at : ∃ i, Try.prog.info? 53 = some i ∧ i.zero = some (.agg #[.string ByteArray.empty, .string ByteArray.empty]) ∧ i.size = 2 ∧ i.bytes = 32 := by
  have hi9 : (Try.prog.info? 53).map (fun i => (i.zero, i.size, i.bytes)) = some (some (.agg #[.string ByteArray.empty, .string ByteArray.empty]), 2, 32) := by kernel_rfl
  obtain ⟨i0, hi, hx⟩ := Option.map_eq_some_iff.1 hi9
  simp only [Prod.mk.injEq] at hx
  exact ⟨i0, hi, hx.1, hx.2.1, hx.2.2⟩
def atCell (a : List UInt8 × List UInt8) : List Value := [.string ⟨a.1.toArray⟩, .string ⟨a.2.toArray⟩]
def atCells (l : List (List UInt8 × List UInt8)) : List Value := l.flatMap atCell
theorem atCells_len (l : List (List UInt8 × List UInt8)) : (atCells l).length = l.length * 2 := by
  induction l with
  | nil => rfl
  | cons q r ih => show (atCell q ++ atCells r).length = _; rw [List.length_append, ih, List.length_cons]; simp [atCell]; omega
theorem atCells_at : ∀ (l : List (List UInt8 × List UInt8)) (j i : Nat) (hj : j < l.length), i < 2 → (atCells l)[j * 2 + i]? = (atCell l[j])[i]?
  | [], j, _, hj, _ => absurd hj (by simp)
  | q :: r, 0, i, _, hi => by
    show (atCell q ++ atCells r)[0 * 2 + i]? = _
    rw [List.getElem?_append_left (by simp [atCell]; omega), Nat.zero_mul, Nat.zero_add]
    rfl
  | q :: r, j + 1, i, hj, hi => by
    have h := atCells_at r j i (by simpa using hj) hi
    show (atCell q ++ atCells r)[(j + 1) * 2 + i]? = _
    rw [List.getElem?_append_right (by simp [atCell]; omega), show (j + 1) * 2 + i - (atCell q).length = j * 2 + i by simp [atCell]; omega, h]
    rfl
theorem atCells_read {P : Nat → Prop} {w : World} {g o cap : Nat} {l : List (List UInt8 × List UInt8)} (h : AttrsP P w (.slice (some ⟨g, o, none⟩) l.length cap) l) : ∀ j u, (atCells l)[j]? = some u → w.cell? ((⟨g, o, none⟩ : Addr).add j) = some u := by
  intro j u hu
  have hj : j < l.length * 2 := by rw [← atCells_len]; exact lt_of_some hu
  obtain ⟨p, cap', e, hc⟩ := h
  injection e with e1 e2 e3
  obtain ⟨g', o', e', _, _, hcell⟩ := hc (by omega)
  rw [← e1] at e'
  injection e' with e'
  injection e' with e4 e5
  subst e4 e5
  have hk : j / 2 < l.length := by omega
  obtain ⟨h0, h1⟩ := hcell (j / 2) hk
  have hr := atCells_at l (j / 2) (j % 2) hk (by omega)
  rw [show j / 2 * 2 + j % 2 = j by omega, hu] at hr
  rw [show (⟨g, o, none⟩ : Addr).add j = ⟨g, o + j, none⟩ by simp [Addr.add]]
  rcases Nat.mod_two_eq_zero_or_one j with hm | hm
  · rw [hm] at hr
    rw [show o + j = o + j / 2 * 2 by omega, h0]
    exact hr.symm
  · rw [hm] at hr
    rw [show o + j = o + j / 2 * 2 + 1 by omega, h1]
    exact hr.symm
theorem atCells_one (l : List (List UInt8 × List UInt8)) : ∀ u ∈ atCells l, u.oneCell' = true := by
  intro u hu
  obtain ⟨a, _, ha⟩ := List.mem_flatMap.1 hu
  simp only [atCell, List.mem_cons, List.not_mem_nil, or_false] at ha
  rcases ha with rfl | rfl <;> rfl
/-- A row of one's own holds attributes. -/
theorem AttrsP.of_row {B : Nat} {w : World} {v : Value} {l : List (List UInt8 × List UInt8)} (h : w.ownsRow B 53 2 v l.length (atCells l)) : AttrsP (fun b => B ≤ b) w v l := by
  rcases Joins.ownsRow_forms h with ⟨rfl, h0⟩ | ⟨g, cap, rfl⟩
  · have : l = [] := List.eq_nil_of_length_eq_zero h0
    subst this
    exact AttrsP.nil _ _ _ _
  · refine ⟨some ⟨g, 0, none⟩, cap, rfl, fun _ => ⟨g, 0, rfl, (h.lt g rfl).1, (h.lt g rfl).2, fun j hj => ?_⟩⟩
    have key : ∀ i, i < 2 → w.cell? ⟨g, 0 + j * 2 + i, none⟩ = (atCell l[j])[i]? := by
      intro i hi
      rw [show 0 + j * 2 + i = j * 2 + i by omega, h.cellAt (j * 2 + i) (by omega), atCells_at l j i hj hi]
    exact ⟨key 0 (by omega), key 1 (by omega)⟩
/-- New memory with the same attributes in it. -/
def CopyA (l : List (List UInt8 × List UInt8)) (w : World) (e : Ending) (w' : World) : Prop := ∃ p c, e = .returned (.slice p l.length c) ∧ AttrsP (fun b => w.heap.size ≤ b) w' (.slice p l.length c) l ∧ Below w.heap.size w w'

set_option maxHeartbeats 1000000 in
set_option maxRecDepth 100000 in
theorem dcopyA (l : List (List UInt8 × List UInt8)) (P : Nat → Prop) (v : Value) (w : World) (h : AttrsP P w v l) (hs : l.length ≤ 4294967296) : Calls Try.prog 42 #[v] w (CopyA l w) := by
  obtain ⟨i0, hi0, hz0, hz1, hz2⟩ := info_at
  obtain ⟨p, cap, rfl, hc⟩ := id h
  rcases Nat.eq_zero_or_pos l.length with h0 | h0
  · have : l = [] := List.eq_nil_of_length_eq_zero h0
    subst this
    have HI := Lib.hid hi0
    clear hc h hz0 hz1 hz2 hi0
    go_enter Try.func42, Try.ntmps42
    go_wp2_with (first
      | (at_builtin; refine wpList_append_empty rfl _ _ 41 rfl 53 i0 Try.underlying41 HI.out p cap rfl rfl ?_)
      | fail)
    go_ret
    exact ⟨none, 0, rfl, AttrsP.nil _ _ _ _, Below.refl _ _⟩
  · obtain ⟨g, o, rfl, _, hg, _⟩ := hc h0
    have HN := Lib.hid (atCells_read h)
    have HO := Lib.hid (World.ownsRow_nil w w.heap.size 53 2)
    have HI := Lib.hid (And.intro hi0 (And.intro hz0 (And.intro hz1 hz2)))
    clear hc h hz0 hz1 hz2 hi0
    go_enter Try.func42, Try.ntmps42
    go_wp2_with (first
      | (at_builtin; refine wpList_append_own _ rfl _ _ 41 rfl w.heap.size 53 i0 (.agg #[.string ByteArray.empty, .string ByteArray.empty]) 2 32 Try.underlying41 HI.out.1 HI.out.2.1 HI.out.2.2.1 HI.out.2.2.2 rfl (by omega) (.slice none 0 0) 0 [] rfl HO.out ⟨g, o, none⟩ l.length cap (atCells l) rfl (atCells_len l) HN.out (atCells_one l) (by unfold maxLen; omega) (by omega) (Nat.le_refl _) ?_; intro v1 w1 hr1 hg1 _)
      | fail)
    rw [Nat.zero_add, List.nil_append] at hr1
    have hb : Below w.heap.size w w1 := ⟨hg1.os, hg1.tape, hg1.output, hg1.size, fun k hk => hg1.block k hk (by simp [Value.ownBlock])⟩
    have hA := AttrsP.of_row hr1
    rcases Joins.ownsRow_forms hr1 with ⟨_, h1⟩ | ⟨g1, c1, rfl⟩
    · omega
    · go_ret
      exact ⟨_, _, rfl, hA, hb⟩
end Go.Proofs.Ytkoijkdhmfnlbaa
namespace Go.Proofs.Ytkoijkdhmfnlbaa
open Go.RowKit

/-- What a call does that makes a node. -/
def Adds (M : Nat → Prop) (w : World) (B : Nat) (S : List PN) (v : Value) (e : Ending) (w' : World) : Prop := e = .returned v ∧ DocM (New M w) w' B S ∧ Turns M w w'
theorem DocM.mono {M L : Nat → Prop} {w : World} {B : Nat} {S : List PN} (h : DocM M w B S) (hm : ∀ b, b < w.heap.size → M b → L b) : DocM L w B S := by
  obtain ⟨v, qs, e, hq⟩ := h
  exact ⟨v, qs, e, hq.mono hm⟩
def elemPN (sp : Int) (nm : List UInt8) (l : List (List UInt8 × List UInt8)) : PN := ⟨1, sp, nm, l, [], -1, -1, -1, -1, -1⟩
def notePN (k : Int) (s : List UInt8) : PN := ⟨k, 0, [], [], s, -1, -1, -1, -1, -1⟩

set_option maxHeartbeats 1000000 in
set_option maxRecDepth 100000 in
theorem delemNewP (S : List PN) (B : Nat) (M P : Nat → Prop) (w : World) (sp : Int) (nm : List UInt8) (l : List (List UInt8 × List UInt8)) (v : Value) (h : DocM M w B S) (hM : ∀ b, M b → b < w.heap.size) (hs : S.length ≤ 4294967296) (ha : AttrsP P w v l) (hl : l.length ≤ 4294967296) :
    Calls Try.prog 14 #[.pointer (some ⟨B, 0, none⟩), .int .i64 sp, .string ⟨nm.toArray⟩, v] w (Adds M w B (S ++ [elemPN sp nm l]) (.int .i64 (S.length : Int))) := by
  have HC := Lib.hid (dcopyA l P v w ha hl)
  have HAD : Hid (∀ (w1 : World) (p : Option Addr) (c : Nat), AttrsP (fun b => w.heap.size ≤ b) w1 (.slice p l.length c) l → Below w.heap.size w w1 → Calls Try.prog 37 #[.pointer (some ⟨B, 0, none⟩), .agg #[.int .i64 1, .int .i64 sp, .string ⟨nm.toArray⟩, .slice p l.length c, .slice none 0 0, .int .i64 0, .int .i64 0, .int .i64 0, .int .i64 0, .int .i64 0]] w1 (Adds M w B (S ++ [elemPN sp nm l]) (.int .i64 (S.length : Int)))) := by
    refine Lib.hid fun w1 p c hA hb => ?_
    refine (daddP S B M (fun b => w.heap.size ≤ b) w1 ⟨1, sp, nm, l, [], 0, 0, 0, 0, 0⟩ p none l.length c 0 0 (h.below hb) hs (fun b k q => absurd (hM b q) (by omega)) (hA.mono (fun b k _ => ⟨k, by simp [Value.ownBlock]⟩)) (.nil _) (fun g e => by cases e)).mono ?_
    rintro e w2 ⟨rfl, d2, t2⟩
    refine ⟨rfl, d2.mono ?_, (Turns.of_below hb).trans (t2.mono fun b _ k => .inl k)⟩
    rintro b _ (k | k | k)
    · exact .inl k
    · exact .inr k
    · exact .inr (Nat.le_trans hb.size k)
  obtain ⟨p0, c0, rfl, _⟩ := ha
  generalize (⟨nm.toArray⟩ : ByteArray) = NM at *
  clear h hM
  go_enter Try.func14, Try.ntmps14
  go_wp2_with fail
  refine HC.out.mono ?_
  rintro e w1 ⟨p, c, rfl, hA, hb⟩
  have HAD2 := Lib.hid (HAD.out w1 p c hA hb)
  clear hA hb
  go_wp2_with fail
  refine HAD2.out.mono ?_
  rintro e w2 ⟨rfl, d2, t2⟩
  have HD := Lib.hid d2
  have HT := Lib.hid t2
  clear d2 t2
  go_wp2_with fail
  go_ret
  exact ⟨rfl, HD.out, HT.out⟩
set_option maxHeartbeats 1000000 in
set_option maxRecDepth 100000 in
theorem dnewP (w : World) : Calls Try.prog 5 #[] w (fun e w' => ∃ B, e = .returned (.pointer (some ⟨B, 0, none⟩)) ∧ DocM (fun b => w.heap.size ≤ b) w' B [elemPN 1 [] []] ∧ Below w.heap.size w w') := by
  have HE := Lib.hid (delemNewP [] w.heap.size (fun b => b = w.heap.size) (fun _ => True) (w.alloc (.cells #[.slice none 0 0] 48)) 1 [] [] (.slice none 0 0) ⟨.slice none 0 0, [], rfl, rfl, by simp, World.cell?_alloc_mark w _ _ (0, 0) 0, by rw [World.frozen?_alloc_mark]; rfl, ⟨rfl, .inl ⟨rfl, rfl⟩⟩, fun g e => (by cases e), fun q hq => absurd hq (by simp), fun q hq => absurd hq (by simp), fun q hq => absurd hq (by simp), fun i j hi => absurd hi (by simp)⟩ (fun b e => by simp [e]) (by simp) (AttrsP.nil _ _ _ _) (by simp))
  go_enter Try.func5, Try.ntmps5
  go_wp2_with fail
  refine HE.out.mono ?_
  rintro e w2 ⟨rfl, d2, t2⟩
  have HD := Lib.hid d2
  have HT := Lib.hid t2
  clear d2 t2
  go_wp2_with fail
  go_ret
  refine ⟨_, rfl, HD.out.mono ?_, ((Below.refl _ w).alloc (Nat.le_refl _) _).trans (HT.out.below (by simp) (fun b hb e => by omega))⟩
  rintro b _ (rfl | k)
  · exact Nat.le_refl _
  · simp at k; omega
end Go.Proofs.Ytkoijkdhmfnlbaa
namespace Go.Proofs.Ytkoijkdhmfnlbaa
open Go.RowKit
theorem DocM.reads_pos {M : Nat → Prop} {w : World} {B : Nat} {S : List PN} (h : DocM M w B S) (h0 : 0 < S.length) : ∃ g cap, Reads w B S (some ⟨g, 0, none⟩) cap := by
  obtain ⟨p, cap, hr⟩ := h.reads
  obtain ⟨g, _, _, e, _⟩ := hr.at_ 0 h0
  subst e
  exact ⟨g, cap, hr⟩
/-- A new node with a text, in memory. -/
theorem daddTextP (S : List PN) (B : Nat) (M : Nat → Prop) (w : World) (k : Int) (s : List UInt8) (h : DocM M w B S) (hM : ∀ b, M b → b < w.heap.size) (hs : S.length ≤ 4294967296) (c : Nat) (W : World) (hO : OwnsB W (.slice (some ⟨w.heap.size, 0, none⟩) s.length c) s) (hb : Below w.heap.size w W) :
    Calls Try.prog 37 #[.pointer (some ⟨B, 0, none⟩), .agg #[.int .i64 k, .int .i64 0, .string ⟨#[]⟩, .slice none 0 0, .slice (some ⟨w.heap.size, 0, none⟩) s.length c, .int .i64 0, .int .i64 0, .int .i64 0, .int .i64 0, .int .i64 0]] W (Adds M w B (S ++ [notePN k s]) (.int .i64 (S.length : Int))) := by
  refine (daddP S B M (fun b => b = w.heap.size) W ⟨k, 0, [], [], s, 0, 0, 0, 0, 0⟩ none (some ⟨w.heap.size, 0, none⟩) 0 0 s.length c (h.below hb) hs (fun b e q => absurd (hM b q) (by omega)) (AttrsP.nil _ _ _ _) hO (fun g e => by injection e with e; exact e.symm)).mono ?_
  rintro e w2 ⟨rfl, d2, t2⟩
  refine ⟨rfl, d2.mono ?_, (Turns.of_below hb).trans (t2.mono fun b _ k => .inl k)⟩
  rintro b _ (k | k | k)
  · exact .inl k
  · exact .inr (Nat.le_of_eq k.symm)
  · exact .inr (Nat.le_trans hb.size k)
set_option maxHeartbeats 1000000 in
set_option maxRecDepth 100000 in
theorem dnoteP (S : List PN) (B : Nat) (M : Nat → Prop) (w : World) (s : List UInt8) (h : DocM M w B S) (hM : ∀ b, M b → b < w.heap.size) (hs : S.length ≤ 4294967296) (hl : s.length ≤ 4294967296) :
    Calls Try.prog 17 #[.pointer (some ⟨B, 0, none⟩), .string ⟨s.toArray⟩] w (Adds M w B (S ++ [notePN 3 s]) (.int .i64 (S.length : Int))) := by
  obtain ⟨c, W, hr, hO, hb⟩ := conv_owns w s (by omega)
  have HA := Lib.hid (daddTextP S B M w 3 s h hM hs c W hO hb)
  clear h hM hO hb
  generalize (⟨s.toArray⟩ : ByteArray) = SB at *
  go_enter Try.func17, Try.ntmps17
  go_wp2_with fail
  refine HA.out.mono ?_
  rintro e w2 ⟨rfl, d2, t2⟩
  have HD := Lib.hid d2
  have HT := Lib.hid t2
  clear d2 t2
  go_wp2_with fail
  go_ret
  exact ⟨rfl, HD.out, HT.out⟩

/-- A text of a node, in memory: it can grow. -/
theorem DocM.text {M : Nat → Prop} {w : World} {B g cap : Nat} {S : List PN} (h : DocM M w B S) (hr : Reads w B S (some ⟨g, 0, none⟩) cap) (j : Nat) (hj : j < S.length) :
    ∃ p c, w.cell? ⟨g, j * 10 + 4, none⟩ = some (.slice p S[j].text.length c) ∧ OwnsB w (.slice p S[j].text.length c) S[j].text ∧
      ∀ (s : List UInt8) (v1 : Value) (w1 : World), OwnsB w1 v1 (S[j].text ++ s) → w.grownBy w1 (Value.slice p S[j].text.length c).ownBlock → (∀ x, v1.ownBlock = some x → (Value.slice p S[j].text.length c).ownBlock = some x ∨ w.heap.size ≤ x) →
        DocM (New M w) (w1.setCell ⟨g, j * 10 + 4, none⟩ v1) B (S.set j { S[j] with text := S[j].text ++ s }) ∧ Turns M w (w1.setCell ⟨g, j * 10 + 4, none⟩ v1) ∧ w1.cell? ⟨g, j * 10 + 4, none⟩ = some (.slice p S[j].text.length c) ∧ w1.frozen? ⟨g, j * 10 + 4, none⟩ = false := by
  obtain ⟨v, qs, rfl, hq⟩ := h
  have hv := hq.cell.symm.trans hr.cell
  rw [List.length_map] at hv
  injection hv with hv
  subst hv
  have hj' : j < qs.length := by simpa using hj
  rw [List.getElem_map]
  obtain ⟨p, c, hf⟩ := (hq.texts _ (List.getElem_mem hj')).form
  have hO := hq.texts _ (List.getElem_mem hj')
  have hc := hq.at j 4 hj' (by omega)
  have hc2 : w.cell? ⟨g, j * 10 + 4, none⟩ = some qs[j].2.2 := hc
  rw [hf] at hO hc2
  refine ⟨p, c, hc2, hO, fun s v1 w1 h1 h2 h3 => ?_⟩
  rw [← hf] at h2 h3
  obtain ⟨d1, t1⟩ := hq.grow j hj' s v1 h2 h1 h3
  have hne : some g ≠ qs[j].2.2.ownBlock := fun e => (hq.textM _ (List.getElem_mem hj') g e.symm).2.2 rfl
  have hb := h2.block g (hq.row.lt g rfl).2 hne
  refine ⟨⟨_, _, ?_, d1⟩, t1, ?_, ?_⟩
  · rw [List.map_set]
  · rw [World.cell?_of_block (w := w) hb]; exact hc2
  · rw [World.frozen?_of_block (w := w) hb]; exact hq.row.frozenAt _

def pText (S : List PN) (k : Int) (s : List UInt8) : List PN := pset S k (fun x => { x with text := x.text ++ s })
def inText (S : List PN) (k : Int) : Bool := !decide (k = -1) && decide ((pget S k).kind = 2)
def pWrite (S : List PN) (s : List UInt8) (up ahead : Int) : List PN × Bool :=
  if pPlace S up ahead then
    if s = [] then (S, true)
    else if inText S (pBefore S up ahead) then (pText S (pBefore S up ahead) s, true)
    else (pLink (S ++ [notePN 2 s]) (S.length : Int) up ahead, true)
  else (S, false)
def okWrite (S : List PN) (s : List UInt8) (up ahead : Int) : Bool :=
  !pPlace S up ahead || decide (s = []) || ((decide (pBefore S up ahead = -1) || pHas S (pBefore S up ahead)) && (inText S (pBefore S up ahead) || okLink (S ++ [notePN 2 s]) (S.length : Int) up ahead))
theorem place_has {S : List PN} {up ahead : Int} (h : pPlace S up ahead = true) : pHas S up = true ∧ (ahead = -1 ∨ pHas S ahead = true) := by
  unfold pPlace pElem at h
  simp only [Bool.and_eq_true, Bool.or_eq_true, decide_eq_true_eq] at h
  exact ⟨h.1.1, h.2.imp id (·.1)⟩
end Go.Proofs.Ytkoijkdhmfnlbaa
namespace Go.Proofs.Ytkoijkdhmfnlbaa
open Go.RowKit

/-- 'append(b, s...)' where b owns its bytes, as a step in a region whose order is drawn. -/
theorem step_append_bytes {w : World} {ops : Array Oper} {o : Oper} {a : Act} {K : Act → World → Prop} {Q : Exit → Act → World → Prop} {E : Prop} (hgd : o.guard = none) (sl x : Operand)
    (ho : o.op = .call { callee := .builtin .append, args := #[sl, x], argTypes := #[ 62, 9 ] })
    (v : Value) (l s : List UInt8) (SB : ByteArray) (hSB : (⟨s.toArray⟩ : ByteArray) = SB) (hs : a.eval sl = v) (hx : a.eval x = .string SB) (h : OwnsB w v l) (hm : l.length + s.length ≤ 140737488355328)
    (hk : ∀ v' w', OwnsB w' v' (l ++ s) → w.grownBy w' v.ownBlock → (∀ g, v'.ownBlock = some g → v.ownBlock = some g ∨ w.heap.size ≤ g) → K (a.put o.dst v') w') :
    if Region.wanted o (yielded ops a.tmps) = true then Oper.wp Try.prog o a w K Q else E := by
  have hw : Region.wanted o (yielded ops a.tmps) = true := by simp [Region.wanted, hgd]
  rw [if_pos hw]
  subst hSB
  obtain ⟨i0, hi0, hz0, hz1, hz2⟩ := info_u8
  obtain ⟨v', w', hr, h1, h2, h3⟩ := run_append_bytes (P := Try.prog) w 62 9 o.type i0 Try.underlying62 Try.underlying9 hi0 hz0 hz1 hz2 v l s h hm
  unfold Oper.wp
  simp [execOp, ho, resolve, invoke, builtin, hs, hx, hr, Result.andThen]
  exact hk v' w' h1 h2 h3
theorem DocM.text_ne {M : Nat → Prop} {w : World} {B g cap : Nat} {S : List PN} (h : DocM M w B S) (hr : Reads w B S (some ⟨g, 0, none⟩) cap) (j : Nat) (hj : j < S.length) (p : Option Addr) (c : Nat) (hc : w.cell? ⟨g, j * 10 + 4, none⟩ = some (.slice p S[j].text.length c)) : some B ≠ (Value.slice p S[j].text.length c).ownBlock := by
  obtain ⟨v, qs, rfl, hq⟩ := h
  have hv := hq.cell.symm.trans hr.cell
  rw [List.length_map] at hv
  injection hv with hv
  subst hv
  have hj' : j < qs.length := by simpa using hj
  have hc2 := hq.at j 4 hj' (by omega)
  rw [hc] at hc2
  have e : some (Value.slice p _ c) = some qs[j].2.2 := hc2
  rw [Option.some.inj e]
  exact fun q => (hq.textM _ (List.getElem_mem hj') B q.symm).2.1 rfl
theorem grown_from {w w2 w3 : World} {row : Option Nat} (hb : Below w.heap.size w w2) (hh : w2.heap = w.heap) (h : w2.grownBy w3 row) : w.grownBy w3 row :=
  ⟨h.os.trans hb.os, h.tape.trans hb.tape, h.output.trans hb.output, by have := h.size; rw [hh] at this; exact this, fun k hk hne => by have := h.block k (by rw [hh]; exact hk) hne; rw [hh] at this; exact this⟩
set_option maxHeartbeats 1000000 in
set_option maxRecDepth 100000 in
theorem dwriteP (S : List PN) (B : Nat) (M : Nat → Prop) (w : World) (s : List UInt8) (up ahead : Int) (h : DocM M w B S) (hM : ∀ b, M b → b < w.heap.size) (hs : S.length ≤ 4294967296) (hl : s.length ≤ 4294967296) (ht : ∀ x ∈ S, x.text.length ≤ 4294967296) (h0 : 0 < S.length) (ho : okWrite S s up ahead = true) :
    Calls Try.prog 10 #[.pointer (some ⟨B, 0, none⟩), .string ⟨s.toArray⟩, .int .i64 up, .int .i64 ahead] w (Adds M w B (pWrite S s up ahead).1 (.bool (pWrite S s up ahead).2)) := by
  obtain ⟨g, cap, hr⟩ := h.reads_pos h0
  have HP := Lib.hid (dplaceP S B w _ cap up ahead hr)
  unfold okWrite at ho
  unfold pWrite
  have hup : DocM (New M w) w B S := h.mono (fun b _ k => .inl k)
  cases hp : pPlace S up ahead
  · rw [hp] at HP
    rw [if_neg (by simp)]
    have HD := Lib.hid hup
    clear h hM hr ho hup
    generalize (⟨s.toArray⟩ : ByteArray) = SB at *
    go_enter Try.func10, Try.ntmps10
    go_wp2_with fail
    refine HP.out.mono ?_
    rintro e w1 ⟨rfl, rfl⟩
    go_wp2_with fail
    go_ret
    exact ⟨rfl, HD.out, Turns.refl _ _⟩
  · rw [hp] at HP ho
    rw [if_pos rfl]
    by_cases he : s = []
    · rw [if_pos he]
      have HD := Lib.hid hup
      have q1 : ((⟨s.toArray⟩ : ByteArray).toList == []) = true := by rw [Lib.toList_data, he]; rfl
      clear h hM hr ho hup he
      generalize (⟨s.toArray⟩ : ByteArray) = SB at *
      go_enter Try.func10, Try.ntmps10
      go_wp2_with fail
      refine HP.out.mono ?_
      rintro e w1 ⟨rfl, rfl⟩
      go_wp2_with fail
      go_ret
      exact ⟨rfl, HD.out, Turns.refl _ _⟩
    · rw [if_neg he]
      have q1 : ((⟨s.toArray⟩ : ByteArray).toList == []) = false := by
        rw [Lib.toList_data]
        cases s with
        | nil => exact absurd rfl he
        | cons _ _ => rfl
      rw [decide_eq_false he] at ho
      simp only [Bool.not_true, Bool.false_or, Bool.and_eq_true, Bool.or_eq_true, decide_eq_true_eq] at ho
      obtain ⟨ob, ol⟩ := ho
      obtain ⟨pu, pa⟩ := place_has hp
      have HB := Lib.hid (dbeforeP S B w _ cap up ahead hr pu pa)
      have hc0 := hr.cell
      generalize hk : pBefore S up ahead = k at *
      cases hi : inText S k
      · rw [if_neg (by simp)]
        rw [hi] at ol
        have ol2 : okLink (S ++ [notePN 2 s]) (S.length : Int) up ahead = true := by simpa using ol
        obtain ⟨c, W, hcv, hO, hb⟩ := conv_owns w s (by omega)
        have HA := Lib.hid (daddTextP S B M w 2 s h hM hs c W hO hb)
        have HL : Hid (∀ w2, DocM (New M w) w2 B (S ++ [notePN 2 s]) → Turns M w w2 → Calls Try.prog 36 #[.pointer (some ⟨B, 0, none⟩), .int .i64 (S.length : Int), .int .i64 up, .int .i64 ahead] w2 (Adds M w B (pLink (S ++ [notePN 2 s]) (S.length : Int) up ahead) (.tuple #[]))) := by
          refine Lib.hid fun w2 d2 t2 => ?_
          obtain ⟨g2, cap2, hr2⟩ := d2.reads_pos (by simp)
          refine (dlinkP _ B (New M w) w2 g2 cap2 _ up ahead d2 hr2 ol2).mono ?_
          rintro e w3 ⟨rfl, d3, _, t3⟩
          exact ⟨rfl, d3, t2.trans t3⟩
        by_cases k1 : k = -1
        · have q2 : (k != -1) = false := by simp [k1]
          clear h hM hr ol ol2 hO hb hup hk ob he k1 hi
          generalize (⟨s.toArray⟩ : ByteArray) = SB at *
          go_enter Try.func10, Try.ntmps10
          go_wp2_with fail
          refine HP.out.mono ?_
          rintro e w1 ⟨rfl, rfl⟩
          go_wp2_with fail
          refine HB.out.mono ?_
          rintro e w1 ⟨rfl, rfl⟩
          go_wp2_with fail
          refine HA.out.mono ?_
          rintro e w2 ⟨rfl, d2, t2⟩
          have HL2 := Lib.hid (HL.out w2 d2 t2)
          clear d2 t2
          go_wp2_with fail
          refine HL2.out.mono ?_
          rintro e w3 ⟨rfl, d3, t3⟩
          have HD := Lib.hid d3
          have HT := Lib.hid t3
          clear d3 t3
          go_wp2_with fail
          go_ret
          exact ⟨rfl, HD.out, HT.out⟩
        · have q2 : (k != -1) = true := by simp [k1]
          obtain ⟨j, rfl, hj⟩ := pHas_nat (ob.resolve_left k1)
          obtain ⟨_, va, vt, e, hg, hc⟩ := hr.node j hj
          injection e with e; injection e with e; subst e
          have c0 := hc.c0
          have q3 : (S[j].kind == 2) = false := by
            unfold inText at hi
            rw [pget_nat hj, decide_eq_false k1] at hi
            rw [beq_eq_false_iff_ne]
            simpa using hi
          have j0 : (0 : Int) ≤ (j : Int) := by omega
          have j1 : (j : Int) < (S.length : Int) := by omega
          clear h hM hr ol ol2 hO hb hup hk ob he k1 hi hc
          generalize (⟨s.toArray⟩ : ByteArray) = SB at *
          go_enter Try.func10, Try.ntmps10
          go_wp2_with fail
          refine HP.out.mono ?_
          rintro e w1 ⟨rfl, rfl⟩
          go_wp2_with fail
          refine HB.out.mono ?_
          rintro e w1 ⟨rfl, rfl⟩
          go_wp2_with fail
          refine HA.out.mono ?_
          rintro e w2 ⟨rfl, d2, t2⟩
          have HL2 := Lib.hid (HL.out w2 d2 t2)
          clear d2 t2
          go_wp2_with fail
          refine HL2.out.mono ?_
          rintro e w3 ⟨rfl, d3, t3⟩
          have HD := Lib.hid d3
          have HT := Lib.hid t3
          clear d3 t3
          go_wp2_with fail
          go_ret
          exact ⟨rfl, HD.out, HT.out⟩
      · rw [if_pos rfl]
        have k1 : k ≠ -1 := by
          intro e
          unfold inText at hi
          rw [decide_eq_true e] at hi
          cases hi
        have q2 : (k != -1) = true := by simp [k1]
        obtain ⟨j, rfl, hj⟩ := pHas_nat (ob.resolve_left k1)
        obtain ⟨_, va, vt, e, hg, hc⟩ := hr.node j hj
        injection e with e; injection e with e; subst e
        have c0 := hc.c0
        have q3 : (S[j].kind == 2) = true := by
          unfold inText at hi
          rw [pget_nat hj, decide_eq_false k1] at hi
          rw [beq_iff_eq]
          simpa using hi
        have hBl := hr.lt
        have hnB : ∀ p c, w.cell? ⟨g, j * 10 + 4, none⟩ = some (.slice p S[j].text.length c) → some B ≠ (Value.slice p S[j].text.length c).ownBlock := h.text_ne hr j hj
        obtain ⟨p, c, c4, hO, hgrow⟩ := h.text hr j hj
        have htj := ht S[j] (List.getElem_mem hj)
        have hpt : pText S (j : Int) s = S.set j { S[j] with text := S[j].text ++ s } := by unfold pText; rw [pset_nat hj]
        rw [hpt]
        have HG := Lib.hid hgrow
        have HO := Lib.hid hO
        have j0 : (0 : Int) ≤ (j : Int) := by omega
        have j1 : (j : Int) < (S.length : Int) := by omega
        have HSB : Hid (∀ W, Below w.heap.size w W → OwnsB W (.slice p S[j].text.length c) S[j].text) := Lib.hid fun W b => hO.block (fun x e => b.block x (hO.lt x e))
        clear h hM hr ol hO hup hk ob he k1 hi hc hgrow hpt
        obtain ⟨SB, hSB⟩ : ∃ SB : ByteArray, (⟨s.toArray⟩ : ByteArray) = SB := ⟨_, rfl⟩
        rw [hSB] at q1 ⊢
        have HSE := Lib.hid hSB
        have HW := Lib.hid (show Below w.heap.size w w.drew from (Below.refl _ _).drew)
        have hwd : w.drew.heap = w.heap := rfl
        have HC0 := Lib.hid hc0
        have HBL := Lib.hid hBl
        have HNB := Lib.hid (hnB p c c4)
        clear hnB
        have HHP := Lib.hid hwd
        clear hSB hwd
        go_enter Try.func10, Try.ntmps10
        go_wp2_with fail
        refine HP.out.mono ?_
        rintro e w1 ⟨rfl, rfl⟩
        go_wp2_with fail
        refine HB.out.mono ?_
        rintro e w1 ⟨rfl, rfl⟩
        go_wp2_with fail
        go_region_law (refine step_append_bytes (by rfl) _ _ (by rfl) (.slice p S[j].text.length c) S[j].text s SB HSE.out (by rfl) (by rfl) (HSB.out _ HW.out) (by omega) ?_; intro v1 w3 h1 h2 h3; obtain ⟨p1, c1, rfl⟩ := h1.form; obtain ⟨hd3, ht3, hc3, hf3⟩ := HG.out s _ w3 h1 (grown_from HW.out HHP.out h2) (by rw [HHP.out] at h3; exact h3); rw [List.length_append] at hd3 ht3; have HD := Lib.hid hd3; have HT := Lib.hid ht3; have hB3 : w3.cell? ⟨B, 0, none⟩ = some (.slice (some ⟨g, 0, none⟩) S.length cap) := (World.cell?_of_block (h2.block B (by rw [HHP.out]; exact HBL.out) HNB.out)).trans ((World.cell?_of_block (w := w) (by rw [HHP.out])).trans HC0.out); rw [List.length_append]; clear h1 h2 h3 hd3 ht3)
        all_goals
          go_wp2
          go_ret
          exact ⟨rfl, HD.out, HT.out⟩
end Go.Proofs.Ytkoijkdhmfnlbaa
namespace Go.Proofs.Ytkoijkdhmfnlbaa
open Go.RowKit

/-- What a call does that turns links alone. -/
def Ties (M : Nat → Prop) (w : World) (B : Nat) (S : List PN) (v : Value) (e : Ending) (w' : World) : Prop := e = .returned v ∧ DocM M w' B S ∧ Turns M w w'
def pPut (S : List PN) (n up ahead : Int) (b : Bool) : List PN × Bool :=
  if pHas S n && !decide (n = 0) && decide ((pget S n).up = -1) && pPlace S up ahead && !b then (pLink S n up ahead, true) else (S, false)
def okPut (S : List PN) (f : Nat) (n up ahead : Int) (b : Bool) : Bool :=
  !(pHas S n && !decide (n = 0) && decide ((pget S n).up = -1) && pPlace S up ahead) || (decide (pWithin S f up n = some b) && (b || okLink S n up ahead))
set_option maxHeartbeats 1000000 in
set_option maxRecDepth 100000 in
theorem dput_1 (S : List PN) (B : Nat) (M : Nat → Prop) (w : World) (g cap : Nat) (n up ahead : Int) (b : Bool) (h : DocM M w B S) (hr : Reads w B S (some ⟨g, 0, none⟩) cap) (a1 : pHas S n = false) : Calls Try.prog 12 #[.pointer (some ⟨B, 0, none⟩), .int .i64 n, .int .i64 up, .int .i64 ahead] w (Ties M w B (pPut S n up ahead b).1 (.bool (pPut S n up ahead b).2)) := by
  have HH := Lib.hid (dhasP S B w _ cap n hr)
  rw [a1] at HH
  have he : pPut S n up ahead b = (S, false) := by unfold pPut; rw [a1]; rfl
  rw [he]
  have HD := Lib.hid h
  clear h hr
  go_enter Try.func12, Try.ntmps12
  go_wp2_with fail
  refine HH.out.mono ?_
  rintro e w1 ⟨rfl, rfl⟩
  go_wp2_with fail
  go_ret
  exact ⟨rfl, HD.out, Turns.refl _ _⟩
set_option maxHeartbeats 1000000 in
set_option maxRecDepth 100000 in
theorem dput_2 (S : List PN) (B : Nat) (M : Nat → Prop) (w : World) (g cap : Nat) (n up ahead : Int) (b : Bool) (h : DocM M w B S) (hr : Reads w B S (some ⟨g, 0, none⟩) cap) (a1 : pHas S n = true) (a2 : n = 0) : Calls Try.prog 12 #[.pointer (some ⟨B, 0, none⟩), .int .i64 n, .int .i64 up, .int .i64 ahead] w (Ties M w B (pPut S n up ahead b).1 (.bool (pPut S n up ahead b).2)) := by
  have HH := Lib.hid (dhasP S B w _ cap n hr)
  rw [a1] at HH
  have he : pPut S n up ahead b = (S, false) := by unfold pPut; rw [a1, decide_eq_true a2]; rfl
  rw [he]
  have HD := Lib.hid h
  have q2 : (n == 0) = true := beq_iff_eq.2 a2
  clear h hr a2 a1
  go_enter Try.func12, Try.ntmps12
  go_wp2_with fail
  refine HH.out.mono ?_
  rintro e w1 ⟨rfl, rfl⟩
  go_wp2_with fail
  go_ret
  exact ⟨rfl, HD.out, Turns.refl _ _⟩
set_option maxHeartbeats 1000000 in
set_option maxRecDepth 100000 in
theorem dput_3 (S : List PN) (B : Nat) (M : Nat → Prop) (w : World) (g cap : Nat) (n up ahead : Int) (b : Bool) (h : DocM M w B S) (hr : Reads w B S (some ⟨g, 0, none⟩) cap) (a1 : pHas S n = true) (a2 : ¬ n = 0) (a3 : ¬ (pget S n).up = -1) : Calls Try.prog 12 #[.pointer (some ⟨B, 0, none⟩), .int .i64 n, .int .i64 up, .int .i64 ahead] w (Ties M w B (pPut S n up ahead b).1 (.bool (pPut S n up ahead b).2)) := by
  have HH := Lib.hid (dhasP S B w _ cap n hr)
  rw [a1] at HH
  have he : pPut S n up ahead b = (S, false) := by unfold pPut; rw [a1, decide_eq_false a2, decide_eq_false a3]; rfl
  rw [he]
  have HD := Lib.hid h
  have q2 : (n == 0) = false := beq_eq_false_iff_ne.2 a2
  obtain ⟨j, rfl, hj⟩ := pHas_nat a1
  obtain ⟨_, va, vt, e, hg, hc⟩ := hr.node j hj
  injection e with e; injection e with e; subst e
  have h0 := hr.cell
  have c5 := hc.c5
  rw [pget_nat hj] at a3
  have j0 : (0 : Int) ≤ (j : Int) := by omega
  have j1 : (j : Int) < (S.length : Int) := by omega
  have q3 : (S[j].up != -1) = true := by simp [a3]
  clear h hr a2 a1 a3 hc he
  go_enter Try.func12, Try.ntmps12
  go_wp2_with fail
  refine HH.out.mono ?_
  rintro e w1 ⟨rfl, rfl⟩
  go_wp2_with fail
  go_ret
  exact ⟨rfl, HD.out, Turns.refl _ _⟩
set_option maxHeartbeats 1000000 in
set_option maxRecDepth 100000 in
theorem dput_4 (S : List PN) (B : Nat) (M : Nat → Prop) (w : World) (g cap : Nat) (n up ahead : Int) (b : Bool) (h : DocM M w B S) (hr : Reads w B S (some ⟨g, 0, none⟩) cap) (a1 : pHas S n = true) (a2 : ¬ n = 0) (a3 : (pget S n).up = -1) (a4 : pPlace S up ahead = false) : Calls Try.prog 12 #[.pointer (some ⟨B, 0, none⟩), .int .i64 n, .int .i64 up, .int .i64 ahead] w (Ties M w B (pPut S n up ahead b).1 (.bool (pPut S n up ahead b).2)) := by
  have HH := Lib.hid (dhasP S B w _ cap n hr)
  rw [a1] at HH
  have HP := Lib.hid (dplaceP S B w _ cap up ahead hr)
  rw [a4] at HP
  have he : pPut S n up ahead b = (S, false) := by unfold pPut; rw [a1, decide_eq_false a2, decide_eq_true a3, a4]; rfl
  rw [he]
  have HD := Lib.hid h
  have q2 : (n == 0) = false := beq_eq_false_iff_ne.2 a2
  obtain ⟨j, rfl, hj⟩ := pHas_nat a1
  obtain ⟨_, va, vt, e, hg, hc⟩ := hr.node j hj
  injection e with e; injection e with e; subst e
  have h0 := hr.cell
  have c5 := hc.c5
  rw [pget_nat hj] at a3
  have j0 : (0 : Int) ≤ (j : Int) := by omega
  have j1 : (j : Int) < (S.length : Int) := by omega
  have q3 : (S[j].up != -1) = false := by simp [a3]
  clear h hr a2 a1 a3 hc he
  go_enter Try.func12, Try.ntmps12
  go_wp2_with fail
  refine HH.out.mono ?_
  rintro e w1 ⟨rfl, rfl⟩
  go_wp2_with fail
  refine HP.out.mono ?_
  rintro e w1 ⟨rfl, rfl⟩
  go_wp2_with fail
  go_ret
  exact ⟨rfl, HD.out, Turns.refl _ _⟩
set_option maxHeartbeats 1000000 in
set_option maxRecDepth 100000 in
theorem dput_5 (S : List PN) (B : Nat) (M : Nat → Prop) (w : World) (g cap : Nat) (n up ahead : Int) (b : Bool) (h : DocM M w B S) (hr : Reads w B S (some ⟨g, 0, none⟩) cap) (f : Nat) (a1 : pHas S n = true) (a2 : ¬ n = 0) (a3 : (pget S n).up = -1) (a4 : pPlace S up ahead = true) (a5 : pWithin S f up n = some b) (a6 : b = true) : Calls Try.prog 12 #[.pointer (some ⟨B, 0, none⟩), .int .i64 n, .int .i64 up, .int .i64 ahead] w (Ties M w B (pPut S n up ahead b).1 (.bool (pPut S n up ahead b).2)) := by
  have HH := Lib.hid (dhasP S B w _ cap n hr)
  rw [a1] at HH
  have HP := Lib.hid (dplaceP S B w _ cap up ahead hr)
  rw [a4] at HP
  have HW := Lib.hid (dwithinP S B w _ cap f up n b hr a1 a5)
  rw [a6] at HW
  have he : pPut S n up ahead b = (S, false) := by unfold pPut; rw [a1, decide_eq_false a2, decide_eq_true a3, a4, a6]; rfl
  rw [he]
  have HD := Lib.hid h
  have q2 : (n == 0) = false := beq_eq_false_iff_ne.2 a2
  obtain ⟨j, rfl, hj⟩ := pHas_nat a1
  obtain ⟨_, va, vt, e, hg, hc⟩ := hr.node j hj
  injection e with e; injection e with e; subst e
  have h0 := hr.cell
  have c5 := hc.c5
  rw [pget_nat hj] at a3
  have j0 : (0 : Int) ≤ (j : Int) := by omega
  have j1 : (j : Int) < (S.length : Int) := by omega
  have q3 : (S[j].up != -1) = false := by simp [a3]
  clear h hr a2 a1 a3 hc he a5 a6
  go_enter Try.func12, Try.ntmps12
  go_wp2_with fail
  refine HH.out.mono ?_
  rintro e w1 ⟨rfl, rfl⟩
  go_wp2_with fail
  refine HP.out.mono ?_
  rintro e w1 ⟨rfl, rfl⟩
  go_wp2_with fail
  refine HW.out.mono ?_
  rintro e w1 ⟨rfl, rfl⟩
  go_wp2_with fail
  go_ret
  exact ⟨rfl, HD.out, Turns.refl _ _⟩
set_option maxHeartbeats 1000000 in
set_option maxRecDepth 100000 in
theorem dput_6 (S : List PN) (B : Nat) (M : Nat → Prop) (w : World) (g cap : Nat) (n up ahead : Int) (b : Bool) (h : DocM M w B S) (hr : Reads w B S (some ⟨g, 0, none⟩) cap) (f : Nat) (a1 : pHas S n = true) (a2 : ¬ n = 0) (a3 : (pget S n).up = -1) (a4 : pPlace S up ahead = true) (a5 : pWithin S f up n = some b) (a6 : b = false) (a7 : okLink S n up ahead = true) : Calls Try.prog 12 #[.pointer (some ⟨B, 0, none⟩), .int .i64 n, .int .i64 up, .int .i64 ahead] w (Ties M w B (pPut S n up ahead b).1 (.bool (pPut S n up ahead b).2)) := by
  have HH := Lib.hid (dhasP S B w _ cap n hr)
  rw [a1] at HH
  have HP := Lib.hid (dplaceP S B w _ cap up ahead hr)
  rw [a4] at HP
  have HW := Lib.hid (dwithinP S B w _ cap f up n b hr a1 a5)
  rw [a6] at HW
  have he : pPut S n up ahead b = (pLink S n up ahead, true) := by unfold pPut; rw [a1, decide_eq_false a2, decide_eq_true a3, a4, a6]; rfl
  rw [he]
  have HL := Lib.hid (dlinkP S B M w g cap n up ahead h hr a7)
  have q2 : (n == 0) = false := beq_eq_false_iff_ne.2 a2
  obtain ⟨j, rfl, hj⟩ := pHas_nat a1
  obtain ⟨_, va, vt, e, hg, hc⟩ := hr.node j hj
  injection e with e; injection e with e; subst e
  have h0 := hr.cell
  have c5 := hc.c5
  rw [pget_nat hj] at a3
  have j0 : (0 : Int) ≤ (j : Int) := by omega
  have j1 : (j : Int) < (S.length : Int) := by omega
  have q3 : (S[j].up != -1) = false := by simp [a3]
  clear h hr a2 a1 a3 hc he a5 a6 a7
  go_enter Try.func12, Try.ntmps12
  go_wp2_with fail
  refine HH.out.mono ?_
  rintro e w1 ⟨rfl, rfl⟩
  go_wp2_with fail
  refine HP.out.mono ?_
  rintro e w1 ⟨rfl, rfl⟩
  go_wp2_with fail
  refine HW.out.mono ?_
  rintro e w1 ⟨rfl, rfl⟩
  go_wp2_with fail
  refine HL.out.mono ?_
  rintro e w2 ⟨rfl, d2, _, t2⟩
  have HD := Lib.hid d2
  have HT := Lib.hid t2
  clear d2 t2
  go_wp2_with fail
  go_ret
  exact ⟨rfl, HD.out, HT.out⟩
theorem dputP (S : List PN) (B : Nat) (M : Nat → Prop) (w : World) (f : Nat) (n up ahead : Int) (b : Bool) (h : DocM M w B S) (h0 : 0 < S.length) (ho : okPut S f n up ahead b = true) : Calls Try.prog 12 #[.pointer (some ⟨B, 0, none⟩), .int .i64 n, .int .i64 up, .int .i64 ahead] w (Ties M w B (pPut S n up ahead b).1 (.bool (pPut S n up ahead b).2)) := by
  obtain ⟨g, cap, hr⟩ := h.reads_pos h0
  cases a1 : pHas S n
  · exact dput_1 S B M w g cap n up ahead b h hr a1
  by_cases a2 : n = 0
  · exact dput_2 S B M w g cap n up ahead b h hr a1 a2
  by_cases a3 : (pget S n).up = -1
  case neg => exact dput_3 S B M w g cap n up ahead b h hr a1 a2 a3
  cases a4 : pPlace S up ahead
  · exact dput_4 S B M w g cap n up ahead b h hr a1 a2 a3 a4
  unfold okPut at ho
  rw [a1, decide_eq_false a2, decide_eq_true a3, a4] at ho
  simp only [Bool.not_false, Bool.and_true, Bool.not_true, Bool.false_or, Bool.and_eq_true, decide_eq_true_eq, Bool.or_eq_true] at ho
  cases a6 : b
  · rw [a6] at ho
    exact dput_6 S B M w g cap n up ahead false h hr f a1 a2 a3 a4 ho.1 rfl (ho.2.resolve_left (by simp))
  · rw [a6] at ho
    exact dput_5 S B M w g cap n up ahead true h hr f a1 a2 a3 a4 ho.1 rfl
def pTake (S : List PN) (n : Int) : List PN × Bool := if pUp S n = -1 then (S, false) else (pUnlink S n, true)
set_option maxHeartbeats 1000000 in
set_option maxRecDepth 100000 in
theorem dtakeP (S : List PN) (B : Nat) (M : Nat → Prop) (w : World) (n : Int) (h : DocM M w B S) (h0 : 0 < S.length) (ho : pUp S n = -1 ∨ okUnlink S n = true) : Calls Try.prog 19 #[.pointer (some ⟨B, 0, none⟩), .int .i64 n] w (Ties M w B (pTake S n).1 (.bool (pTake S n).2)) := by
  obtain ⟨g, cap, hr⟩ := h.reads_pos h0
  have HU := Lib.hid (dupP S B w _ cap n hr)
  unfold pTake
  by_cases a : pUp S n = -1
  · rw [if_pos a]
    have HD := Lib.hid h
    have q1 : (pUp S n == -1) = true := beq_iff_eq.2 a
    clear h hr a ho
    generalize pUp S n = u at *
    go_enter Try.func19, Try.ntmps19
    go_wp2_with fail
    refine HU.out.mono ?_
    rintro e w1 ⟨rfl, rfl⟩
    go_wp2_with fail
    go_ret
    exact ⟨rfl, HD.out, Turns.refl _ _⟩
  · rw [if_neg a]
    have HL := Lib.hid (dunlinkP S B M w g cap n h hr (ho.resolve_left a))
    have q1 : (pUp S n == -1) = false := beq_eq_false_iff_ne.2 a
    clear h hr a ho
    generalize pUp S n = u at *
    go_enter Try.func19, Try.ntmps19
    go_wp2_with fail
    refine HU.out.mono ?_
    rintro e w1 ⟨rfl, rfl⟩
    go_wp2_with fail
    refine HL.out.mono ?_
    rintro e w2 ⟨rfl, d2, _, t2⟩
    have HD := Lib.hid d2
    have HT := Lib.hid t2
    clear d2 t2
    go_wp2_with fail
    go_ret
    exact ⟨rfl, HD.out, HT.out⟩
end Go.Proofs.Ytkoijkdhmfnlbaa
namespace Go.Proofs.Ytkoijkdhmfnlbaa
open Go.RowKit

/-- From k on, behind one another. -/
def pRow (S : List PN) : Nat → Int → Option (List Int)
  | 0, _ => none
  | f + 1, k => if k = -1 then some [] else if pHas S k then (pRow S f (pget S k).behind).map (k :: ·) else none
def pKids (S : List PN) (f : Nat) (n : Int) : Option (List Int) := pRow S f (pget S n).first
def vlen : Value → Nat
  | .slice _ n _ => n
  | _ => 0
def intCells (l : List Int) : List Value := l.map fun k => .int .i64 k
theorem intCells_len (l : List Int) : (intCells l).length = l.length := by simp [intCells]
theorem info_int : ∃ i, Try.prog.info? 3 = some i ∧ i.zero = some (.int .i64 0) ∧ i.size = 1 ∧ i.bytes = 8 := by
  have hi9 : (Try.prog.info? 3).map (fun i => (i.zero, i.size, i.bytes)) = some (some (.int .i64 0), 1, 8) := by kernel_rfl
  obtain ⟨i0, hi, hx⟩ := Option.map_eq_some_iff.1 hi9
  simp only [Prod.mk.injEq] at hx
  exact ⟨i0, hi, hx.1, hx.2.1, hx.2.2⟩
/-- A row of numbers of one's own, beside what was there: L0 the block that it began in. -/
structure RowI (w : World) (v0 : Value) (w' : World) (v : Value) (ks : List Int) : Prop where
  row : w'.ownsRow 0 3 1 v ks.length (intCells ks)
  turns : Turns (fun b => some b = v0.ownBlock) w w'
  own : ∀ g, v.ownBlock = some g → v0.ownBlock = some g ∨ w.heap.size ≤ g
theorem DocM.on {M L : Nat → Prop} {w w' : World} {B : Nat} {S : List PN} (h : DocM M w B S) (ht : Turns L w w') (hm : ∀ b, b < w.heap.size → M b → ¬ L b) : DocM M w' B S := by
  obtain ⟨v, qs, e, hq⟩ := h
  exact ⟨v, qs, e, hq.on ht hm⟩
theorem row_form {w : World} {v : Value} {n : Nat} {xs : List Value} {e : TypeId} {s : Nat} {B : Nat} (h : w.ownsRow B e s v n xs) : ∃ p c, v = .slice p n c := by
  rcases h.2 with ⟨rfl, rfl⟩ | ⟨g, cap, _, rfl, _⟩
  · exact ⟨none, 0, rfl⟩
  · exact ⟨_, cap, rfl⟩

theorem RowI.more {w wr w3 : World} {v0 : Value} {p1 : Option Addr} {c1 g3 c3 : Nat} {ks : List Int} {x : Int} (h : RowI w v0 wr (.slice p1 ks.length c1) ks) (hr : w3.ownsRow 0 3 1 (.slice (some ⟨g3, 0, none⟩) (ks.length + 1) c3) (ks.length + 1) (intCells ks ++ [.int .i64 x])) (hg : (wr.alloc (.cells #[.int .i64 x] 3)).grownBy w3 (Value.slice p1 ks.length c1).ownBlock) (ho : (Value.slice p1 ks.length c1).ownBlock = some g3 ∨ g3 = wr.heap.size + 1) :
    RowI w v0 w3 (.slice (some ⟨g3, 0, none⟩) (ks.length + 1) c3) (ks ++ [x]) := by
  refine ⟨?_, ?_, ?_⟩
  · rw [List.length_append]
    have : intCells (ks ++ [x]) = intCells ks ++ [.int .i64 x] := by simp [intCells]
    rw [this]
    exact hr
  · refine h.turns.trans ((Turns.of_below ((Below.refl _ wr).alloc (Nat.le_refl _) (.cells #[.int .i64 x] 3))).trans (M := New (fun b => some b = v0.ownBlock) w) ((Turns.of_grown hg ?_).mono (fun b _ k => .inl k)))
    intro g e
    rcases h.own g e with k | k
    · exact .inl k.symm
    · exact .inr k
  · intro g e
    injection e with e
    subst e
    rcases ho with k | k
    · exact h.own _ k
    · have := h.turns.size
      exact .inr (by show w.heap.size ≤ g3; omega)
set_option maxHeartbeats 1000000 in
set_option maxRecDepth 100000 in
theorem dwithKidsP (S : List PN) (B : Nat) (M : Nat → Prop) (w : World) (f : Nat) (n : Int) (v : Value) (ks r : List Int) (h : DocM M w B S) (hM : ∀ b, M b → b < w.heap.size) (h0 : pHas S n = true) (hk : pKids S f n = some r) (hrow : w.ownsRow 0 3 1 v ks.length (intCells ks)) (hv : ∀ g, v.ownBlock = some g → ¬ M g) (hs : ks.length + r.length ≤ 4294967296) :
    Calls Try.prog 38 #[.pointer (some ⟨B, 0, none⟩), v, .int .i64 n] w (fun e w' => ∃ v', e = .returned v' ∧ RowI w v w' v' (ks ++ r)) := by
  obtain ⟨pv, cv, hfv⟩ := row_form hrow
  subst hfv
  obtain ⟨j, rfl, hj⟩ := pHas_nat h0
  obtain ⟨g, cap, hr⟩ := h.reads_pos (by omega)
  unfold pKids at hk
  rw [pget_nat hj] at hk
  obtain ⟨_, va, vt, e, hg, hc⟩ := hr.node j hj
  injection e with e; injection e with e; subst e
  have hc0 := hr.cell
  have c8 := hc.c8
  have j0 : (0 : Int) ≤ (j : Int) := by omega
  have j1 : (j : Int) < (S.length : Int) := by omega
  have HDM := Lib.hid h
  have HM := Lib.hid hM
  have HV := Lib.hid hv
  have HR0 : Hid (RowI w (.slice pv ks.length cv) w (.slice pv ks.length cv) ks) := Lib.hid ⟨hrow, Turns.refl _ _, fun _ e => .inl e⟩
  have HK := Lib.hid hk
  obtain ⟨i0, hi0, hz0, hz1, hz2⟩ := info_int
  have HI := Lib.hid (And.intro hi0 (And.intro hz0 (And.intro hz1 hz2)))
  clear hr hc h hM h0 hk hrow hv hi0 hz0 hz1 hz2
  generalize S[j].first = k0 at *
  go_enter Try.func38, Try.ntmps38
  go_wp2_with fail
  go_loopw [1, 7] (fun l i wr => ∃ (ks' r' : List Int) (k : Int) (m : Nat), i = .int .i64 k ∧ pRow S m k = some r' ∧ ks ++ r = ks' ++ r' ∧ RowI w (.slice pv ks.length cv) wr l ks') (fun l _ _ => (ks ++ r).length - vlen l)
  case atStart => exact ⟨ks, r, k0, f, rfl, HK.out, rfl, HR0.out⟩
  case round =>
    obtain ⟨ks', r', k, m, rfl, hk, hks, hR⟩ := hrel
    have HR := Lib.hid hR
    have HKS := Lib.hid hks
    obtain ⟨p1, c1, hf1⟩ := row_form hR.row
    subst hf1
    clear hks
    cases m with
    | zero => cases hk
    | succ m =>
      unfold pRow at hk
      by_cases a : k = -1
      · rw [if_pos a] at hk
        have hre := Option.some.inj hk
        have q1 : (k != -1) = false := by simp [a]
        have HRE := Lib.hid hre
        clear hk hre a hR
        go_wp2_with fail
        go_ret
        refine ⟨_, rfl, ?_⟩
        rw [HKS.out, ← HRE.out, List.append_nil]
        exact HR.out
      · rw [if_neg a] at hk
        have q1 : (k != -1) = true := by simp [a]
        cases hp : pHas S k
        · rw [hp] at hk; cases hk
        · rw [hp, if_pos rfl] at hk
          obtain ⟨r2, hk2, hr2⟩ := Option.map_eq_some_iff.1 hk
          have HK2 := Lib.hid hk2
          have HR2 := Lib.hid hr2
          obtain ⟨x, rfl, hx⟩ := pHas_nat hp
          have hln : ks'.length + r'.length ≤ 4294967296 := by
            have := congrArg List.length HKS.out
            simp at this
            omega
          have hrl : 0 < r'.length := by rw [← hr2]; simp
          rw [pget_nat hx] at HK2
          have x0 : (0 : Int) ≤ (x : Int) := by omega
          have x1 : (x : Int) < (S.length : Int) := by omega
          -- behind the append: the Doc stands
          have HN : Hid (∀ W, Turns (fun b => some b = (Value.slice pv ks.length cv).ownBlock) w W → ∃ g va vt cap, W.cell? ⟨B, 0, none⟩ = some (.slice (some ⟨g, 0, none⟩) S.length cap) ∧ Cells10 W g (x * 10) S[x] va vt) := by
            refine Lib.hid fun W t => ?_
            have d := HDM.out.on t (fun b _ k e => HV.out b e.symm k)
            obtain ⟨g2, cap2, hr2⟩ := d.reads_pos (by omega)
            obtain ⟨_, va2, vt2, e2, _, hc2⟩ := hr2.node x hx
            injection e2 with e2; injection e2 with e2; subst e2
            exact ⟨g2, va2, vt2, cap2, hr2.cell, hc2⟩
          clear hk hk2 hr2 hp a hR
          go_wp2_with (first
            | (at_builtin; refine wpList_append_lies _ rfl _ _ 32 rfl 0 3 i0 (.int .i64 0) 1 8 Try.underlying32 HI.out.1 HI.out.2.1 HI.out.2.2.1 HI.out.2.2.2 rfl (by omega) (.slice p1 ks'.length c1) ks'.length (intCells ks') rfl (HR.out.row.alloc _) ⟨wr.heap.size, 0, none⟩ 1 1 [.int .i64 (x : Int)] rfl rfl (World.news_of_block (cs := #[.int .i64 (x : Int)]) (t := 3) (fr := (0, 0)) (heap_alloc_new wr _)) (by simp [Value.oneCell']) (by omega) (by unfold maxLen; omega) (by omega) (Nat.zero_le _) (wr.heap.size + 1) (by simp) ?_; intro g3 c3 w3 hr3 hg3 hor3 _; have HR3 := Lib.hid (RowI.more (x := (x : Int)) HR.out hr3 hg3 hor3); obtain ⟨g4, va4, vt4, cap4, c0', hc4⟩ := HN.out w3 HR3.out.turns; have c7 := hc4.c7; clear hr3 hg3 hor3 hc4)
            | fail)
          refine ⟨⟨ks' ++ [(x : Int)], r2, _, m, rfl, HK2.out, ?_, ?_⟩, ?_⟩
          · rw [HKS.out, ← HR2.out]; simp
          · exact HR3.out
          · simp [vlen]
            have := congrArg List.length HKS.out
            simp at this
            omega
end Go.Proofs.Ytkoijkdhmfnlbaa
namespace Go.Proofs.Ytkoijkdhmfnlbaa
open Go.RowKit
def pKidsA (S : List PN) (f : Nat) (n : Int) : Option (List Int) := if pHas S n then pKids S f n else some []
set_option maxHeartbeats 1000000 in
set_option maxRecDepth 100000 in
theorem dkidsP (S : List PN) (B : Nat) (M : Nat → Prop) (w : World) (f : Nat) (n : Int) (r : List Int) (h : DocM M w B S) (hM : ∀ b, M b → b < w.heap.size) (hk : pKidsA S f n = some r) (hs : r.length ≤ 4294967296) :
    Calls Try.prog 27 #[.pointer (some ⟨B, 0, none⟩), .int .i64 n] w (fun e w' => ∃ v', e = .returned v' ∧ RowI w (.slice none 0 0) w' v' r) := by
  obtain ⟨p, cap, hr⟩ := h.reads
  have HH := Lib.hid (dhasP S B w p cap n hr)
  unfold pKidsA at hk
  cases hn : pHas S n
  · rw [hn] at HH hk
    have hre : [] = r := Option.some.inj hk
    subst hre
    clear h hr hM hk
    go_enter Try.func27, Try.ntmps27
    go_wp2_with fail
    refine HH.out.mono ?_
    rintro e w1 ⟨rfl, rfl⟩
    go_wp2_with fail
    go_ret
    exact ⟨_, rfl, ⟨rfl, .inl ⟨rfl, rfl⟩⟩, Turns.refl _ _, fun _ e => .inl e⟩
  · rw [hn] at HH hk
    rw [if_pos rfl] at hk
    have HK := Lib.hid (dwithKidsP S B M w f n (.slice none 0 0) [] r h hM hn hk ⟨rfl, .inl ⟨rfl, rfl⟩⟩ (fun g e => by cases e) (by simpa using hs))
    clear h hr hM hk
    go_enter Try.func27, Try.ntmps27
    go_wp2_with fail
    refine HH.out.mono ?_
    rintro e w1 ⟨rfl, rfl⟩
    go_wp2_with fail
    refine HK.out.mono ?_
    rintro e w2 ⟨v2, rfl, hR⟩
    have HR := Lib.hid hR
    obtain ⟨p2, c2, rfl⟩ := row_form hR.row
    clear hR
    go_wp2_with fail
    go_ret
    exact ⟨_, rfl, HR.out⟩
/-- Seven cells of a block are set. -/
theorem set7 (w w3 : World) (T : TypeId) (x0 x1 x2 x3 x4 x5 x6 v0 v1 v2 v3 v4 v5 v6 : Value) (h : w3.heap[w.heap.size]? = some (.cells #[x0, x1, x2, x3, x4, x5, x6] T (0, 0))) (hb : Below w.heap.size w w3) :
    ∃ w4, (((((((w3.setCell ⟨w.heap.size, 0, none⟩ v0).setCell ⟨w.heap.size, 1, none⟩ v1).setCell ⟨w.heap.size, 2, none⟩ v2).setCell ⟨w.heap.size, 3, none⟩ v3).setCell ⟨w.heap.size, 4, none⟩ v4).setCell ⟨w.heap.size, 5, none⟩ v5).setCell ⟨w.heap.size, 6, none⟩ v6) = w4 ∧ w4.heap[w.heap.size]? = some (.cells #[v0, v1, v2, v3, v4, v5, v6] T (0, 0)) ∧ Below w.heap.size w w4 ∧ ∀ (P : Nat → Prop), (∀ b, P b → b ≠ w.heap.size) → Kept P w3 w4 := by
  have stp : ∀ (a : World) (cs : Array Value) (k : Nat) (v : Value), a.heap[w.heap.size]? = some (.cells cs T (0, 0)) ∧ Below w.heap.size w a ∧ (∀ (P : Nat → Prop), (∀ b, P b → b ≠ w.heap.size) → Kept P w3 a) → (a.setCell ⟨w.heap.size, k, none⟩ v).heap[w.heap.size]? = some (.cells (cs.setIfInBounds k v) T (0, 0)) ∧ Below w.heap.size w (a.setCell ⟨w.heap.size, k, none⟩ v) ∧ ∀ (P : Nat → Prop), (∀ b, P b → b ≠ w.heap.size) → Kept P w3 (a.setCell ⟨w.heap.size, k, none⟩ v) := by
    rintro a cs k v ⟨h1, h2, h3⟩
    refine ⟨heap_setCell_same a _ k cs T v h1, h2.setCell (Nat.le_refl _) v, fun P hP => ⟨by have := (h3 P hP).size; simpa using this, fun b hb' hl => ?_⟩⟩
    rw [heap_setCell_other a ⟨w.heap.size, k, none⟩ b v (hP b hb')]
    exact (h3 P hP).block b hb' hl
  have e0 := stp w3 _ 0 v0 ⟨h, hb, fun P _ => ⟨Nat.le_refl _, fun _ _ _ => rfl⟩⟩
  have e1 := stp _ _ 1 v1 e0
  have e2 := stp _ _ 2 v2 e1
  have e3 := stp _ _ 3 v3 e2
  have e4 := stp _ _ 4 v4 e3
  have e5 := stp _ _ 5 v5 e4
  have e6 := stp _ _ 6 v6 e5
  refine ⟨_, rfl, ?_, e6.2.1, e6.2.2⟩
  rw [e6.1]
  simp
/-- What Node tells: a node without kids, with attributes of its own. -/
def NodeOut (n : PN) (w : World) (e : Ending) (w' : World) : Prop := ∃ p c, e = .returned (.agg #[.int .i64 n.kind, .int .i64 n.space, .string ⟨n.name.toArray⟩, .slice p n.attrs.length c, .string ⟨n.text.toArray⟩, .int .i64 0, .slice none 0 0]) ∧ AttrsP (fun b => w.heap.size ≤ b) w' (.slice p n.attrs.length c) n.attrs ∧ Below w.heap.size w w'
/-- What Node reads of a node. -/
theorem DocM.node {M : Nat → Prop} {w : World} {B g cap : Nat} {S : List PN} (h : DocM M w B S) (hr : Reads w B S (some ⟨g, 0, none⟩) cap) (j : Nat) (hj : j < S.length) :
    g < w.heap.size ∧ ∃ pa ca pt ct, Cells10 w g (j * 10) S[j] (.slice pa S[j].attrs.length ca) (.slice pt S[j].text.length ct) ∧ AttrsP (fun _ => True) w (.slice pa S[j].attrs.length ca) S[j].attrs ∧ OwnsB w (.slice pt S[j].text.length ct) S[j].text := by
  obtain ⟨v, qs, rfl, hq⟩ := h
  have hv := hq.cell.symm.trans hr.cell
  rw [List.length_map] at hv
  injection hv with hv
  subst hv
  have hj' : j < qs.length := by simpa using hj
  have hm := List.getElem_mem hj'
  rw [List.getElem_map]
  obtain ⟨pt, ct, hf⟩ := (hq.texts _ hm).form
  have hO := hq.texts _ hm
  have hA := hq.attrs _ hm
  obtain ⟨pa, ca, ha, _⟩ := id hA
  have hc := fun i (hi : i < 10) => hq.at j i hj' hi
  refine ⟨(hq.row.lt g rfl).2, pa, ca, pt, ct, ?_, ?_, ?_⟩
  · rw [← ha, ← hf]
    exact ⟨hc 0 (by omega), hc 1 (by omega), hc 2 (by omega), hc 3 (by omega), hc 4 (by omega), hc 5 (by omega), hc 6 (by omega), hc 7 (by omega), hc 8 (by omega), hc 9 (by omega)⟩
  · rw [← ha]; exact hA.mono (fun _ _ _ => trivial)
  · rw [← hf]; exact hO
set_option maxHeartbeats 1000000 in
set_option maxRecDepth 100000 in
theorem dnodeP (S : List PN) (B : Nat) (M : Nat → Prop) (w : World) (j : Nat) (h : DocM M w B S) (hj : j < S.length) (ha : S[j].attrs.length ≤ 4294967296) :
    Calls Try.prog 32 #[.pointer (some ⟨B, 0, none⟩), .int .i64 (j : Int)] w (NodeOut S[j] w) := by
  obtain ⟨g, cap, hr⟩ := h.reads_pos (by omega)
  obtain ⟨hg, pa, ca, pt, ct, hc, hA, hO⟩ := h.node hr j hj
  have HH : Hid (∀ W, Below w.heap.size w W → Calls Try.prog 40 #[.pointer (some ⟨B, 0, none⟩), .int .i64 (j : Int)] W (Gives (.bool true) W)) := by
    refine Lib.hid fun W b => ?_
    have := dhasP S B W _ cap (j : Int) (hr.below b (fun g' e => by injection e with e; injection e with e; subst e; exact hg))
    rwa [(pHas_iff S (j : Int)).2 ⟨by omega, by omega⟩] at this
  unfold NodeOut
  obtain ⟨NM, hNM⟩ : ∃ NM : ByteArray, (⟨S[j].name.toArray⟩ : ByteArray) = NM := ⟨_, rfl⟩
  obtain ⟨TX, hTX⟩ : ∃ TX : ByteArray, (⟨S[j].text.toArray⟩ : ByteArray) = TX := ⟨_, rfl⟩
  have key : ∀ W cs, cs.size = 7 → W.heap[w.heap.size]? = some (.cells cs 43 (0, 0)) → Below w.heap.size w W → (fun w' => w'.cell? ⟨g, j * 10, none⟩ = some (.int .i64 S[j].kind) ∧ w'.cell? ⟨g, j * 10 + 1, none⟩ = some (.int .i64 S[j].space) ∧ w'.cell? ⟨g, j * 10 + 2, none⟩ = some (.string NM) ∧ w'.cell? ⟨g, j * 10 + 3, none⟩ = some (.slice pa S[j].attrs.length ca) ∧ w'.cell? ⟨g, j * 10 + 4, none⟩ = some (.slice pt S[j].text.length ct) ∧ (convert 62 9 (.slice pt S[j].text.length ct)).run Try.prog w' = .ok (.string TX) w' ∧ (∃ cs : Array Value, cs.size = 7 ∧ w'.heap[w.heap.size]? = some (.cells cs 43 (0, 0))) ∧ Below w.heap.size w w') W := by
    intro W cs h7 hb b
    refine ⟨(b.cell (p := ⟨g, j * 10, none⟩) hg).trans hc.c0, (b.cell (p := ⟨g, j * 10 + 1, none⟩) hg).trans hc.c1, ?_, (b.cell (p := ⟨g, j * 10 + 3, none⟩) hg).trans hc.c3, (b.cell (p := ⟨g, j * 10 + 4, none⟩) hg).trans hc.c4, ?_, ⟨cs, h7, hb⟩, b⟩
    · rw [← hNM]; exact (b.cell (p := ⟨g, j * 10 + 2, none⟩) hg).trans hc.c2
    · rw [← hTX]; exact conv_back W _ _ (hO.block (fun x e => b.block x (hO.lt x e)))
  have HKY := Lib.hid key
  have HC : Hid (∀ W, (fun w' => w'.cell? ⟨g, j * 10, none⟩ = some (.int .i64 S[j].kind) ∧ w'.cell? ⟨g, j * 10 + 1, none⟩ = some (.int .i64 S[j].space) ∧ w'.cell? ⟨g, j * 10 + 2, none⟩ = some (.string NM) ∧ w'.cell? ⟨g, j * 10 + 3, none⟩ = some (.slice pa S[j].attrs.length ca) ∧ w'.cell? ⟨g, j * 10 + 4, none⟩ = some (.slice pt S[j].text.length ct) ∧ (convert 62 9 (.slice pt S[j].text.length ct)).run Try.prog w' = .ok (.string TX) w' ∧ (∃ cs : Array Value, cs.size = 7 ∧ w'.heap[w.heap.size]? = some (.cells cs 43 (0, 0))) ∧ Below w.heap.size w w') W → Calls Try.prog 42 #[.slice pa S[j].attrs.length ca] W fun e w3 => ∃ p3 c3, e = .returned (.slice p3 S[j].attrs.length c3) ∧ AttrsP (fun b => w.heap.size < b) w3 (.slice p3 S[j].attrs.length c3) S[j].attrs ∧ (fun w' => w'.cell? ⟨g, j * 10, none⟩ = some (.int .i64 S[j].kind) ∧ w'.cell? ⟨g, j * 10 + 1, none⟩ = some (.int .i64 S[j].space) ∧ w'.cell? ⟨g, j * 10 + 2, none⟩ = some (.string NM) ∧ w'.cell? ⟨g, j * 10 + 3, none⟩ = some (.slice pa S[j].attrs.length ca) ∧ w'.cell? ⟨g, j * 10 + 4, none⟩ = some (.slice pt S[j].text.length ct) ∧ (convert 62 9 (.slice pt S[j].text.length ct)).run Try.prog w' = .ok (.string TX) w' ∧ (∃ cs : Array Value, cs.size = 7 ∧ w'.heap[w.heap.size]? = some (.cells cs 43 (0, 0))) ∧ Below w.heap.size w w') w3) := by
    refine Lib.hid fun W hS => ?_
    obtain ⟨_, _, _, _, _, _, ⟨cs, h7, hb⟩, b⟩ := hS
    have hR := heap_lt hb
    refine (dcopyA S[j].attrs _ _ W (hA.kept (.of_below b)) ha).mono ?_
    rintro e w3 ⟨p3, c3, rfl, hA3, b3⟩
    exact ⟨p3, c3, rfl, hA3.mono (fun x k _ => by omega), key w3 cs h7 ((b3.block _ hR).trans hb) (b.trans (b3.mono b.size))⟩
  have hS0 : (fun w' => w'.cell? ⟨g, j * 10, none⟩ = some (.int .i64 S[j].kind) ∧ w'.cell? ⟨g, j * 10 + 1, none⟩ = some (.int .i64 S[j].space) ∧ w'.cell? ⟨g, j * 10 + 2, none⟩ = some (.string NM) ∧ w'.cell? ⟨g, j * 10 + 3, none⟩ = some (.slice pa S[j].attrs.length ca) ∧ w'.cell? ⟨g, j * 10 + 4, none⟩ = some (.slice pt S[j].text.length ct) ∧ (convert 62 9 (.slice pt S[j].text.length ct)).run Try.prog w' = .ok (.string TX) w' ∧ (∃ cs : Array Value, cs.size = 7 ∧ w'.heap[w.heap.size]? = some (.cells cs 43 (0, 0))) ∧ Below w.heap.size w w') (w.alloc (.cells #[.int .i64 0, .int .i64 0, .string ⟨#[]⟩, .slice none 0 0, .string ⟨#[]⟩, .int .i64 0, .slice none 0 0] 43)).drew := key _ _ rfl (heap_alloc_new w _) (((Below.refl _ w).alloc (Nat.le_refl _) _).drew)
  have h0 := hr.cell
  have hB := hr.lt
  have j0 : (0 : Int) ≤ (j : Int) := by omega
  have j1 : (j : Int) < (S.length : Int) := by omega
  rw [hNM, hTX]
  clear hr hc hA hO h hNM hTX key
  go_enter Try.func32, Try.ntmps32
  go_wp2_with fail
  refine (HH.out _ ((Below.refl _ w).alloc (Nat.le_refl _) _)).mono ?_
  rintro e w1 ⟨rfl, rfl⟩
  go_wp2_with fail
  refine wp_region_held_drew (S := (fun w' => w'.cell? ⟨g, j * 10, none⟩ = some (.int .i64 S[j].kind) ∧ w'.cell? ⟨g, j * 10 + 1, none⟩ = some (.int .i64 S[j].space) ∧ w'.cell? ⟨g, j * 10 + 2, none⟩ = some (.string NM) ∧ w'.cell? ⟨g, j * 10 + 3, none⟩ = some (.slice pa S[j].attrs.length ca) ∧ w'.cell? ⟨g, j * 10 + 4, none⟩ = some (.slice pt S[j].text.length ct) ∧ (convert 62 9 (.slice pt S[j].text.length ct)).run Try.prog w' = .ok (.string TX) w' ∧ (∃ cs : Array Value, cs.size = 7 ∧ w'.heap[w.heap.size]? = some (.cells cs 43 (0, 0))) ∧ Below w.heap.size w w')) (by kernel_rfl) (by exact hS0) (fun hHeld => ?_)
  refine wpAnyH_take (i := 0) (oi := { dst := some 17, op := Op.move (Operand.tmp 5), type := 73, pos := "dom.go:182", after := #[], guard := none }) (v := ?_) rfl (by kernel_rfl) (by kernel_rfl) (by kernel_rfl) (fun _ _ _ h => h) (Or.inl ⟨by rfl, ?_⟩) (by assumption) ?_
  rotate_left
  focus (intro w hSw; (try dsimp only at hSw); go_simp; (try with_reducible rfl))
  try simp only [Act.put, List.setIfInBounds_toArray, List.set_cons_zero, List.set_cons_succ]
  refine wpAnyH_take (i := 1) (oi := { dst := some 18, op := Op.nilCheck (Operand.tmp 17), type := 0, pos := "dom.go:182", after := #[{ on := 0, ground := Ground.data }], guard := none }) (v := ?_) rfl (by kernel_rfl) (by kernel_rfl) (by kernel_rfl) (fun _ _ _ h => h) (Or.inl ⟨by rfl, ?_⟩) (by assumption) ?_
  rotate_left
  focus (intro w hSw; (try dsimp only at hSw); go_simp; (try with_reducible rfl))
  try simp only [Act.put, List.setIfInBounds_toArray, List.set_cons_zero, List.set_cons_succ]
  refine wpAnyH_take (i := 2) (oi := { dst := some 19, op := Op.fieldAddr 64 (Operand.tmp 18) 0, type := 0, pos := "dom.go:182", after := #[{ on := 1, ground := Ground.data }], guard := none }) (v := ?_) rfl (by kernel_rfl) (by kernel_rfl) (by kernel_rfl) (fun _ _ _ h => h) (Or.inl ⟨by rfl, ?_⟩) (by assumption) ?_
  rotate_left
  focus (intro w hSw; (try dsimp only at hSw); go_simp; (try with_reducible rfl))
  try simp only [Act.put, List.setIfInBounds_toArray, List.set_cons_zero, List.set_cons_succ]
  refine wpAnyH_take (i := 3) (oi := { dst := some 20, op := Op.load 3 (Operand.tmp 19), type := 3, pos := "dom.go:182", after := #[{ on := 2, ground := Ground.data }], guard := none }) (v := ?_) rfl (by kernel_rfl) (by kernel_rfl) (by kernel_rfl) (fun _ _ _ h => h) (Or.inl ⟨by rfl, ?_⟩) (by assumption) ?_
  rotate_left
  focus (intro w hSw; (try dsimp only at hSw); go_simp; (try with_reducible rfl))
  try simp only [Act.put, List.setIfInBounds_toArray, List.set_cons_zero, List.set_cons_succ]
  refine wpAnyH_take (i := 4) (oi := { dst := some 21, op := Op.move (Operand.tmp 5), type := 73, pos := "dom.go:182", after := #[], guard := none }) (v := ?_) rfl (by kernel_rfl) (by kernel_rfl) (by kernel_rfl) (fun _ _ _ h => h) (Or.inl ⟨by rfl, ?_⟩) (by assumption) ?_
  rotate_left
  focus (intro w hSw; (try dsimp only at hSw); go_simp; (try with_reducible rfl))
  try simp only [Act.put, List.setIfInBounds_toArray, List.set_cons_zero, List.set_cons_succ]
  refine wpAnyH_take (i := 5) (oi := { dst := some 22, op := Op.nilCheck (Operand.tmp 21), type := 0, pos := "dom.go:182", after := #[{ on := 4, ground := Ground.data }], guard := none }) (v := ?_) rfl (by kernel_rfl) (by kernel_rfl) (by kernel_rfl) (fun _ _ _ h => h) (Or.inl ⟨by rfl, ?_⟩) (by assumption) ?_
  rotate_left
  focus (intro w hSw; (try dsimp only at hSw); go_simp; (try with_reducible rfl))
  try simp only [Act.put, List.setIfInBounds_toArray, List.set_cons_zero, List.set_cons_succ]
  refine wpAnyH_take (i := 6) (oi := { dst := some 23, op := Op.fieldAddr 64 (Operand.tmp 22) 1, type := 0, pos := "dom.go:182", after := #[{ on := 5, ground := Ground.data }], guard := none }) (v := ?_) rfl (by kernel_rfl) (by kernel_rfl) (by kernel_rfl) (fun _ _ _ h => h) (Or.inl ⟨by rfl, ?_⟩) (by assumption) ?_
  rotate_left
  focus (intro w hSw; (try dsimp only at hSw); go_simp; (try with_reducible rfl))
  try simp only [Act.put, List.setIfInBounds_toArray, List.set_cons_zero, List.set_cons_succ]
  refine wpAnyH_take (i := 7) (oi := { dst := some 24, op := Op.load 3 (Operand.tmp 23), type := 3, pos := "dom.go:182", after := #[{ on := 6, ground := Ground.data }], guard := none }) (v := ?_) rfl (by kernel_rfl) (by kernel_rfl) (by kernel_rfl) (fun _ _ _ h => h) (Or.inl ⟨by rfl, ?_⟩) (by assumption) ?_
  rotate_left
  focus (intro w hSw; (try dsimp only at hSw); go_simp; (try with_reducible rfl))
  try simp only [Act.put, List.setIfInBounds_toArray, List.set_cons_zero, List.set_cons_succ]
  refine wpAnyH_take (i := 8) (oi := { dst := some 25, op := Op.move (Operand.tmp 5), type := 73, pos := "dom.go:182", after := #[], guard := none }) (v := ?_) rfl (by kernel_rfl) (by kernel_rfl) (by kernel_rfl) (fun _ _ _ h => h) (Or.inl ⟨by rfl, ?_⟩) (by assumption) ?_
  rotate_left
  focus (intro w hSw; (try dsimp only at hSw); go_simp; (try with_reducible rfl))
  try simp only [Act.put, List.setIfInBounds_toArray, List.set_cons_zero, List.set_cons_succ]
  refine wpAnyH_take (i := 9) (oi := { dst := some 26, op := Op.nilCheck (Operand.tmp 25), type := 0, pos := "dom.go:182", after := #[{ on := 8, ground := Ground.data }], guard := none }) (v := ?_) rfl (by kernel_rfl) (by kernel_rfl) (by kernel_rfl) (fun _ _ _ h => h) (Or.inl ⟨by rfl, ?_⟩) (by assumption) ?_
  rotate_left
  focus (intro w hSw; (try dsimp only at hSw); go_simp; (try with_reducible rfl))
  try simp only [Act.put, List.setIfInBounds_toArray, List.set_cons_zero, List.set_cons_succ]
  refine wpAnyH_take (i := 10) (oi := { dst := some 27, op := Op.fieldAddr 64 (Operand.tmp 26) 2, type := 0, pos := "dom.go:182", after := #[{ on := 9, ground := Ground.data }], guard := none }) (v := ?_) rfl (by kernel_rfl) (by kernel_rfl) (by kernel_rfl) (fun _ _ _ h => h) (Or.inl ⟨by rfl, ?_⟩) (by assumption) ?_
  rotate_left
  focus (intro w hSw; (try dsimp only at hSw); go_simp; (try with_reducible rfl))
  try simp only [Act.put, List.setIfInBounds_toArray, List.set_cons_zero, List.set_cons_succ]
  refine wpAnyH_take (i := 11) (oi := { dst := some 28, op := Op.load 9 (Operand.tmp 27), type := 9, pos := "dom.go:182", after := #[{ on := 10, ground := Ground.data }], guard := none }) (v := ?_) rfl (by kernel_rfl) (by kernel_rfl) (by kernel_rfl) (fun _ _ _ h => h) (Or.inl ⟨by rfl, ?_⟩) (by assumption) ?_
  rotate_left
  focus (intro w hSw; (try dsimp only at hSw); go_simp; (try with_reducible rfl))
  try simp only [Act.put, List.setIfInBounds_toArray, List.set_cons_zero, List.set_cons_succ]
  refine wpAnyH_take (i := 12) (oi := { dst := some 29, op := Op.move (Operand.tmp 5), type := 73, pos := "dom.go:182", after := #[], guard := none }) (v := ?_) rfl (by kernel_rfl) (by kernel_rfl) (by kernel_rfl) (fun _ _ _ h => h) (Or.inl ⟨by rfl, ?_⟩) (by assumption) ?_
  rotate_left
  focus (intro w hSw; (try dsimp only at hSw); go_simp; (try with_reducible rfl))
  try simp only [Act.put, List.setIfInBounds_toArray, List.set_cons_zero, List.set_cons_succ]
  refine wpAnyH_take (i := 13) (oi := { dst := some 30, op := Op.nilCheck (Operand.tmp 29), type := 0, pos := "dom.go:182", after := #[{ on := 12, ground := Ground.data }], guard := none }) (v := ?_) rfl (by kernel_rfl) (by kernel_rfl) (by kernel_rfl) (fun _ _ _ h => h) (Or.inl ⟨by rfl, ?_⟩) (by assumption) ?_
  rotate_left
  focus (intro w hSw; (try dsimp only at hSw); go_simp; (try with_reducible rfl))
  try simp only [Act.put, List.setIfInBounds_toArray, List.set_cons_zero, List.set_cons_succ]
  refine wpAnyH_take (i := 14) (oi := { dst := some 31, op := Op.fieldAddr 64 (Operand.tmp 30) 3, type := 0, pos := "dom.go:182", after := #[{ on := 13, ground := Ground.data }], guard := none }) (v := ?_) rfl (by kernel_rfl) (by kernel_rfl) (by kernel_rfl) (fun _ _ _ h => h) (Or.inl ⟨by rfl, ?_⟩) (by assumption) ?_
  rotate_left
  focus (intro w hSw; (try dsimp only at hSw); go_simp; (try with_reducible rfl))
  try simp only [Act.put, List.setIfInBounds_toArray, List.set_cons_zero, List.set_cons_succ]
  refine wpAnyH_take (i := 15) (oi := { dst := some 32, op := Op.load 41 (Operand.tmp 31), type := 41, pos := "dom.go:182", after := #[{ on := 14, ground := Ground.data }], guard := none }) (v := ?_) rfl (by kernel_rfl) (by kernel_rfl) (by kernel_rfl) (fun _ _ _ h => h) (Or.inl ⟨by rfl, ?_⟩) (by assumption) ?_
  rotate_left
  focus (intro w hSw; (try dsimp only at hSw); go_simp; (try with_reducible rfl))
  try simp only [Act.put, List.setIfInBounds_toArray, List.set_cons_zero, List.set_cons_succ]
  refine wpAnyH_take (i := 17) (oi := { dst := some 34, op := Op.move (Operand.tmp 5), type := 73, pos := "dom.go:182", after := #[], guard := none }) (v := ?_) rfl (by kernel_rfl) (by kernel_rfl) (by kernel_rfl) (fun _ _ _ h => h) (Or.inl ⟨by rfl, ?_⟩) (by assumption) ?_
  rotate_left
  focus (intro w hSw; (try dsimp only at hSw); go_simp; (try with_reducible rfl))
  try simp only [Act.put, List.setIfInBounds_toArray, List.set_cons_zero, List.set_cons_succ]
  refine wpAnyH_take (i := 18) (oi := { dst := some 35, op := Op.nilCheck (Operand.tmp 34), type := 0, pos := "dom.go:182", after := #[{ on := 17, ground := Ground.data }], guard := none }) (v := ?_) rfl (by kernel_rfl) (by kernel_rfl) (by kernel_rfl) (fun _ _ _ h => h) (Or.inl ⟨by rfl, ?_⟩) (by assumption) ?_
  rotate_left
  focus (intro w hSw; (try dsimp only at hSw); go_simp; (try with_reducible rfl))
  try simp only [Act.put, List.setIfInBounds_toArray, List.set_cons_zero, List.set_cons_succ]
  refine wpAnyH_take (i := 19) (oi := { dst := some 36, op := Op.fieldAddr 64 (Operand.tmp 35) 4, type := 0, pos := "dom.go:182", after := #[{ on := 18, ground := Ground.data }], guard := none }) (v := ?_) rfl (by kernel_rfl) (by kernel_rfl) (by kernel_rfl) (fun _ _ _ h => h) (Or.inl ⟨by rfl, ?_⟩) (by assumption) ?_
  rotate_left
  focus (intro w hSw; (try dsimp only at hSw); go_simp; (try with_reducible rfl))
  try simp only [Act.put, List.setIfInBounds_toArray, List.set_cons_zero, List.set_cons_succ]
  refine wpAnyH_take (i := 20) (oi := { dst := some 37, op := Op.load 62 (Operand.tmp 36), type := 62, pos := "dom.go:182", after := #[{ on := 19, ground := Ground.data }], guard := none }) (v := ?_) rfl (by kernel_rfl) (by kernel_rfl) (by kernel_rfl) (fun _ _ _ h => h) (Or.inl ⟨by rfl, ?_⟩) (by assumption) ?_
  rotate_left
  focus (intro w hSw; (try dsimp only at hSw); go_simp; (try with_reducible rfl))
  try simp only [Act.put, List.setIfInBounds_toArray, List.set_cons_zero, List.set_cons_succ]
  refine wpAnyH_take (i := 21) (oi := { dst := some 38, op := Op.convert 62 9 (Operand.tmp 37), type := 9, pos := "dom.go:182", after := #[{ on := 20, ground := Ground.data }], guard := none }) (v := ?_) rfl (by kernel_rfl) (by kernel_rfl) (by kernel_rfl) (fun _ _ _ h => h) (Or.inl ⟨by rfl, ?_⟩) (by assumption) ?_
  rotate_left
  focus (intro w hSw; (try dsimp only at hSw); go_simp; (try with_reducible rfl))
  try simp only [Act.put, List.setIfInBounds_toArray, List.set_cons_zero, List.set_cons_succ]
  refine wpAnyH_ready (rs := [16]) (by kernel_rfl) (by simp) ?_
  refine AllReadyH.cons (o := { dst := some 33, op := Op.call { callee := Callee.value (Operand.func 42), args := #[Operand.tmp 32], argTypes := #[ 41 ] }, type := 41, pos := "dom.go:182", after := #[{ on := 15, ground := Ground.data }], guard := none }) rfl (fun K hK => ?_) AllReadyH.nil
  go_simp
  refine (HC.out _ hHeld).mono ?_; rintro e w3 ⟨p3, c3, rfl, hA3, hS3⟩
  go_wp2_with fail
  refine hK.out _ _ (by exact hS3) (fun hHeld => ?_)
  clear hK K
  try simp only [Act.put, List.setIfInBounds_toArray, List.set_cons_zero, List.set_cons_succ]
  refine wpAnyH_take (i := 22) (oi := { dst := some 39, op := Op.build 43 #[(0, Operand.tmp 20), (1, Operand.tmp 24), (2, Operand.tmp 28), (3, Operand.tmp 33), (4, Operand.tmp 38)], type := 43, pos := "dom.go:182", after := #[{ on := 3, ground := Ground.data }, { on := 7, ground := Ground.data }, { on := 11, ground := Ground.data }, { on := 16, ground := Ground.data }, { on := 21, ground := Ground.data }], guard := none }) (v := ?_) rfl (by kernel_rfl) (by kernel_rfl) (by kernel_rfl) (fun _ _ _ h => h) (Or.inl ⟨by rfl, ?_⟩) (by assumption) ?_
  rotate_left
  focus (intro w hSw; (try dsimp only at hSw); go_simp; (try with_reducible rfl))
  try simp only [Act.put, List.setIfInBounds_toArray, List.set_cons_zero, List.set_cons_succ]
  refine wpAnyH_ready (rs := [23]) (by kernel_rfl) (by simp) ?_
  refine AllReadyH.cons (o := { dst := none, op := Op.store 43 (Operand.tmp 4) (Operand.tmp 39), type := 0, pos := "dom.go:182", after := #[{ on := 22, ground := Ground.data }, { on := 16, ground := Ground.chain }, { on := 0, ground := Ground.phase }, { on := 1, ground := Ground.phase }, { on := 2, ground := Ground.phase }, { on := 3, ground := Ground.phase }, { on := 4, ground := Ground.phase }, { on := 5, ground := Ground.phase }, { on := 6, ground := Ground.phase }, { on := 7, ground := Ground.phase }, { on := 8, ground := Ground.phase }, { on := 9, ground := Ground.phase }, { on := 10, ground := Ground.phase }, { on := 11, ground := Ground.phase }, { on := 12, ground := Ground.phase }, { on := 13, ground := Ground.phase }, { on := 14, ground := Ground.phase }, { on := 15, ground := Ground.phase }, { on := 16, ground := Ground.phase }, { on := 17, ground := Ground.phase }, { on := 18, ground := Ground.phase }, { on := 19, ground := Ground.phase }, { on := 20, ground := Ground.phase }, { on := 21, ground := Ground.phase }, { on := 22, ground := Ground.phase }], guard := none }) rfl (fun K hK => ?_) AllReadyH.nil
  have hS3' := hS3
  obtain ⟨_, _, _, _, _, _, ⟨cs, h7, hb3⟩, hB3⟩ := hS3
  obtain ⟨x0, x1, x2, x3, x4, x5, x6, rfl⟩ : ∃ x0 x1 x2 x3 x4 x5 x6, cs = #[x0, x1, x2, x3, x4, x5, x6] := by
    obtain ⟨l⟩ := cs
    match l, h7 with
    | [a, b, c, d, e, f, g], _ => exact ⟨a, b, c, d, e, f, g, rfl⟩
  have k0 : ∀ i, w3.cell? ⟨w.heap.size, i, none⟩ = #[x0, x1, x2, x3, x4, x5, x6][i]? := fun i => by simp [World.cell?, hb3]
  have k1 : ∀ i, w3.frozen? ⟨w.heap.size, i, none⟩ = false := fun i => by simp [World.frozen?, hb3]
  go_simp
  obtain ⟨w4, hw4, hb4, hB4, hK4⟩ := set7 w w3 _ x0 x1 x2 x3 x4 x5 x6 (.int .i64 S[j].kind) (.int .i64 S[j].space) (.string NM) (.slice p3 S[j].attrs.length c3) (.string TX) (.int .i64 0) (.slice none 0 0) hb3 hB3
  rw [hw4]
  have hA4 := hA3.kept (hK4 (fun b => w.heap.size < b) (fun b k => by omega))
  have HA4 := Lib.hid hA4
  have HB4 := Lib.hid hB4
  have HS4 := Lib.hid (HKY.out w4 _ rfl hb4 hB4)
  clear hA4 hA3 hB4 hK4 hS3' hB3 hw4
  refine hK.out _ _ (by exact HS4.out) (fun hHeld => ?_)
  clear hK K
  refine wpAnyH_done (by kernel_rfl) ?_ _
  go_wp2_with fail
  exact bodyPost_ret (results_cell_row rfl _ _ _ _ _ _ _ rfl hb4 Try.underlying43 rfl (by kernel_rfl)) rfl ⟨p3, c3, rfl, HA4.out.mono (fun x k _ => by omega), HB4.out⟩
end Go.Proofs.Ytkoijkdhmfnlbaa
