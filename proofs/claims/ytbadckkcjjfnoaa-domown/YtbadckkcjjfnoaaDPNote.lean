/-
  The walks of the program's Note, Write. Any nodes, not too many.
-/
import Derived.Test.YtbadckkcjjfnoaaDPElem
namespace Go.Proofs.Ytbadckkcjjfnoaa
open Go.RowKit
theorem DocM.reads_pos {M : Nat → Prop} {w : World} {B : Nat} {S : List PN} (h : DocM M w B S) (h0 : 0 < S.length) : ∃ g cap, Reads w B S (some ⟨g, 0, none⟩) cap := by
  obtain ⟨p, cap, hr⟩ := h.reads
  obtain ⟨g, _, _, e, _⟩ := hr.at_ 0 h0
  subst e
  exact ⟨g, cap, hr⟩
/-- A new node with a text, in memory. -/
theorem daddTextP (S : List PN) (B : Nat) (M : Nat → Prop) (w : World) (k : Int) (s : List UInt8) (h : DocM M w B S) (hM : ∀ b, M b → b < w.heap.size) (hs : S.length ≤ 4294967296) (c : Nat) (W : World) (hO : OwnsB W (.slice (some ⟨w.heap.size, 0, none⟩) s.length c) s) (hb : Below w.heap.size w W) :
    Calls Try.prog 72 #[.pointer (some ⟨B, 0, none⟩), .agg #[.int .i64 k, .int .i64 0, .string ⟨#[]⟩, .slice none 0 0, .slice (some ⟨w.heap.size, 0, none⟩) s.length c, .int .i64 0, .int .i64 0, .int .i64 0, .int .i64 0, .int .i64 0]] W (Adds M w B (S ++ [notePN k s]) (.int .i64 (S.length : Int))) := by
  refine (daddP S B M (fun b => b = w.heap.size) W ⟨k, 0, [], [], s, 0, 0, 0, 0, 0⟩ none (some ⟨w.heap.size, 0, none⟩) 0 0 s.length c (h.below hb) hs (fun b e q => absurd (hM b q) (by omega)) (AttrsP.nil _ _ _ _) hO (fun g e => by injection e with e; exact e.symm)).mono ?_
  rintro e w2 ⟨rfl, d2, t2⟩
  refine ⟨rfl, d2.mono ?_, (Turns.of_below hb).trans (t2.mono fun b _ k => .inl k)⟩
  rintro b _ (k | k | k)
  · exact .inl k
  · exact .inr (Nat.le_of_eq k.symm)
  · exact .inr (Nat.le_trans hb.size k)
set_option maxHeartbeats 1000000 in
set_option maxRecDepth 100000 in
theorem dnoteP (S : List PN) (B : Nat) (M : Nat → Prop) (w : World) (s : List UInt8) (h : DocM M w B S) (hM : ∀ b, M b → b < w.heap.size) (hs : S.length ≤ 4294967296) (hl : s.length ≤ 4294967296) :
    Calls Try.prog 57 #[.pointer (some ⟨B, 0, none⟩), .string ⟨s.toArray⟩] w (Adds M w B (S ++ [notePN 3 s]) (.int .i64 (S.length : Int))) := by
  obtain ⟨c, W, hr, hO, hb⟩ := conv_owns w s (by omega)
  have HA := Lib.hid (daddTextP S B M w 3 s h hM hs c W hO hb)
  clear h hM hO hb
  generalize (⟨s.toArray⟩ : ByteArray) = SB at *
  go_enter Try.func57, Try.ntmps57
  go_wp2_with fail
  refine HA.out.mono ?_
  rintro e w2 ⟨rfl, d2, t2⟩
  have HD := Lib.hid d2
  have HT := Lib.hid t2
  clear d2 t2
  go_wp2_with fail
  go_ret
  exact ⟨rfl, HD.out, HT.out⟩

/-- A text of a node, in memory: it can grow. -/
theorem DocM.text {M : Nat → Prop} {w : World} {B g cap : Nat} {S : List PN} (h : DocM M w B S) (hr : Reads w B S (some ⟨g, 0, none⟩) cap) (j : Nat) (hj : j < S.length) :
    ∃ p c, w.cell? ⟨g, j * 10 + 4, none⟩ = some (.slice p S[j].text.length c) ∧ OwnsB w (.slice p S[j].text.length c) S[j].text ∧
      ∀ (s : List UInt8) (v1 : Value) (w1 : World), OwnsB w1 v1 (S[j].text ++ s) → w.grownBy w1 (Value.slice p S[j].text.length c).ownBlock → (∀ x, v1.ownBlock = some x → (Value.slice p S[j].text.length c).ownBlock = some x ∨ w.heap.size ≤ x) →
        DocM (New M w) (w1.setCell ⟨g, j * 10 + 4, none⟩ v1) B (S.set j { S[j] with text := S[j].text ++ s }) ∧ Turns M w (w1.setCell ⟨g, j * 10 + 4, none⟩ v1) ∧ w1.cell? ⟨g, j * 10 + 4, none⟩ = some (.slice p S[j].text.length c) ∧ w1.frozen? ⟨g, j * 10 + 4, none⟩ = false := by
  obtain ⟨v, qs, rfl, hq⟩ := h
  have hv := hq.cell.symm.trans hr.cell
  rw [List.length_map] at hv
  injection hv with hv
  subst hv
  have hj' : j < qs.length := by simpa using hj
  rw [List.getElem_map]
  obtain ⟨p, c, hf⟩ := (hq.texts _ (List.getElem_mem hj')).form
  have hO := hq.texts _ (List.getElem_mem hj')
  have hc := hq.at j 4 hj' (by omega)
  have hc2 : w.cell? ⟨g, j * 10 + 4, none⟩ = some qs[j].2.2 := hc
  rw [hf] at hO hc2
  refine ⟨p, c, hc2, hO, fun s v1 w1 h1 h2 h3 => ?_⟩
  rw [← hf] at h2 h3
  obtain ⟨d1, t1⟩ := hq.grow j hj' s v1 h2 h1 h3
  have hne : some g ≠ qs[j].2.2.ownBlock := fun e => (hq.textM _ (List.getElem_mem hj') g e.symm).2.2 rfl
  have hb := h2.block g (hq.row.lt g rfl).2 hne
  refine ⟨⟨_, _, ?_, d1⟩, t1, ?_, ?_⟩
  · rw [List.map_set]
  · rw [World.cell?_of_block (w := w) hb]; exact hc2
  · rw [World.frozen?_of_block (w := w) hb]; exact hq.row.frozenAt _

def pText (S : List PN) (k : Int) (s : List UInt8) : List PN := pset S k (fun x => { x with text := x.text ++ s })
def inText (S : List PN) (k : Int) : Bool := !decide (k = -1) && decide ((pget S k).kind = 2)
def pWrite (S : List PN) (s : List UInt8) (up ahead : Int) : List PN × Bool :=
  if pPlace S up ahead then
    if s = [] then (S, true)
    else if inText S (pBefore S up ahead) then (pText S (pBefore S up ahead) s, true)
    else (pLink (S ++ [notePN 2 s]) (S.length : Int) up ahead, true)
  else (S, false)
def okWrite (S : List PN) (s : List UInt8) (up ahead : Int) : Bool :=
  !pPlace S up ahead || decide (s = []) || ((decide (pBefore S up ahead = -1) || pHas S (pBefore S up ahead)) && (inText S (pBefore S up ahead) || okLink (S ++ [notePN 2 s]) (S.length : Int) up ahead))
theorem place_has {S : List PN} {up ahead : Int} (h : pPlace S up ahead = true) : pHas S up = true ∧ (ahead = -1 ∨ pHas S ahead = true) := by
  unfold pPlace pElem at h
  simp only [Bool.and_eq_true, Bool.or_eq_true, decide_eq_true_eq] at h
  exact ⟨h.1.1, h.2.imp id (·.1)⟩
end Go.Proofs.Ytbadckkcjjfnoaa
