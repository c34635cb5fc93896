/-
  The reference's Doc in memory behind lay. Any nodes by numbers, not too many.
  The reference's Elem, Note and New for nodes by numbers. Any nodes, not too many.
  The reference's Node for nodes by numbers. Any nodes, not too many.
  A row of numbers that is being made anew out of pieces, beside some blocks. No program is walked.
-/
import Derived.Test.YtkoijkdhmfnlbaaDRef2
import Derived.Deep.DeepCutAuto
import Derived.Deep.CutBlock
import Derived.Laws.AppendOwnNone
namespace Go.Proofs.Ytkoijkdhmfnlbaa
open Go.RowKit

def upsV (S : List Cl) : List Value := S.map fun c => .int .i64 (upI c.up)
/-- Block B leads to the nodes S: three rows in blocks of M, what they lead to in blocks of P. -/
structure RefQ6 (M P : Nat → Prop) (w : World) (B : Nat) (S : List Cl) (vN vU vR : Value) (qs : List (Nd × Value × Value)) (rv : List Value) : Prop where
  own : LayS M w w vN vU vR S.length S.length S.length (nodeCells qs) (upsV S) rv [(B, .cells #[vN, vU, vR] 35 (0, 0))]
  mB : M B
  min : ∀ b, M b → b < w.heap.size
  pin : ∀ b, P b → b < w.heap.size
  pM : ∀ b, P b → ¬ M b
  pos : 0 < S.length
  len : S.length ≤ 100000
  nodes : qs.map (·.1) = S.map (·.d)
  attrs : ∀ q ∈ qs, AttrsP P w q.2.1 q.1.attrs ∧ q.2.2 = .slice none 0 0
  rlen : rv.length = S.length
  rows : ∀ j (hj : j < S.length), ∃ v, rv[j]? = some v ∧ NumsP P w v S[j].row
def RefD (M P : Nat → Prop) (w : World) (B : Nat) (S : List Cl) : Prop := ∃ vN vU vR qs rv, RefQ6 M P w B S vN vU vR qs rv
theorem RefQ6.forms {M P : Nat → Prop} {w : World} {B : Nat} {S : List Cl} {vN vU vR : Value} {qs : List (Nd × Value × Value)} {rv : List Value} (h : RefQ6 M P w B S vN vU vR qs rv) :
    ∃ gN cN gU cU gR cR : Nat, vN = .slice (some ⟨gN, 0, none⟩) S.length cN ∧ vU = .slice (some ⟨gU, 0, none⟩) S.length cU ∧ vR = .slice (some ⟨gR, 0, none⟩) S.length cR := by
  have hp := h.pos
  rcases Joins.ownsRow_forms h.own.rN with ⟨_, k⟩ | ⟨gN, cN, e1⟩
  · omega
  rcases Joins.ownsRow_forms h.own.rU with ⟨_, k⟩ | ⟨gU, cU, e2⟩
  · omega
  rcases Joins.ownsRow_forms h.own.rR with ⟨_, k⟩ | ⟨gR, cR, e3⟩
  · omega
  exact ⟨gN, cN, gU, cU, gR, cR, e1, e2, e3⟩
theorem RefQ6.qlen {M P : Nat → Prop} {w : World} {B : Nat} {S : List Cl} {vN vU vR : Value} {qs : List (Nd × Value × Value)} {rv : List Value} (h : RefQ6 M P w B S vN vU vR qs rv) : qs.length = S.length := by
  have := congrArg List.length h.nodes
  simpa using this
theorem RefQ6.node {M P : Nat → Prop} {w : World} {B : Nat} {S : List Cl} {vN vU vR : Value} {qs : List (Nd × Value × Value)} {rv : List Value} (h : RefQ6 M P w B S vN vU vR qs rv) (i : Nat) (hi : i < S.length) : ∃ (hq : i < qs.length), qs[i].1 = S[i].d := by
  have hq : i < qs.length := by rw [h.qlen]; exact hi
  refine ⟨hq, ?_⟩
  have h1 : (qs.map (·.1))[i]? = (S.map (·.d))[i]? := by rw [h.nodes]
  rw [List.getElem?_map, List.getElem?_map, List.getElem?_eq_getElem hq, List.getElem?_eq_getElem hi] at h1
  exact Option.some.inj h1
theorem RefQ6.rdoc {M P : Nat → Prop} {w : World} {B : Nat} {S : List Cl} {vN vU vR : Value} {qs : List (Nd × Value × Value)} {rv : List Value} (h : RefQ6 M P w B S vN vU vR qs rv) : RDoc S B w := by
  obtain ⟨gN, cN, gU, cU, gR, cR, rfl, rfl, rfl⟩ := h.forms
  have hb := h.own.at_ (List.mem_singleton.2 rfl)
  have hl := h.len
  refine ⟨by omega, gN, cN, gU, cU, gR, cR, (block_cell6 hb 0).1, (block_cell6 hb 1).1, (block_cell6 hb 2).1, fun i hi => ?_⟩
  obtain ⟨hq, hd⟩ := h.node i hi
  refine ⟨⟨qs[i].2.1, ?_, (hd ▸ (h.attrs qs[i] (List.getElem_mem hq)).1).mono fun _ _ _ => trivial⟩, ?_, ?_⟩
  · have hn := h.own.rN
    have key : ∀ k, k < 7 → w.cell? ⟨gN, 0 + i * 7 + k, none⟩ = (nodeCell qs[i])[k]? := by
      intro k hk
      rw [Nat.zero_add, hn.cellAt (i * 7 + k) (by omega), nodeCells_at qs i k hq hk]
    rw [← hd]
    have e6 := (h.attrs qs[i] (List.getElem_mem hq)).2
    have k6 := key 6 (by omega)
    refine ⟨key 0 (by omega), key 1 (by omega), key 2 (by omega), key 3 (by omega), key 4 (by omega), key 5 (by omega), ?_⟩
    rw [k6]
    show some qs[i].2.2 = _
    rw [e6]
  · rw [Nat.zero_add, h.own.rU.cellAt i (by omega)]
    unfold upsV
    rw [List.getElem?_map, List.getElem?_eq_getElem hi]
    rfl
  · obtain ⟨v, hv, hr⟩ := h.rows i hi
    refine ⟨v, ?_, hr.at_⟩
    rw [Nat.zero_add, h.own.rR.cellAt i (by omega), hv]
theorem LayS.rebase {M M' : Nat → Prop} {w W : World} {vN vU vR : Value} {kN kU kR : Nat} {lN lU lR : List Value} {ex : List (Nat × Obj)} (h : LayS M w W vN vU vR kN kU kR lN lU lR ex) (hM : ∀ b, b < W.heap.size → New M w b → M' b) : LayS M' W W vN vU vR kN kU kR lN lU lR ex :=
  ⟨h.rN, h.rU, h.rR, h.nNU, h.nNR, h.nUR, h.ex, fun g e => .inl (hM g (h.rN.lt g e).2 (h.mN g e)), fun g e => .inl (hM g (h.rU.lt g e).2 (h.mU g e)), fun g e => .inl (hM g (h.rR.lt g e).2 (h.mR g e)), Turns.refl _ _⟩
theorem LayS.also {M : Nat → Prop} {w W : World} {vN vU vR : Value} {kN kU kR T : Nat} {lN lU lR : List Value} {ex : List (Nat × Obj)} {o : Obj} (h : LayS M w W vN vU vR kN kU kR lN lU lR ex) (hx : W.heap[T]? = some o) (h1 : vN.ownBlock ≠ some T) (h2 : vU.ownBlock ≠ some T) (h3 : vR.ownBlock ≠ some T) : LayS M w W vN vU vR kN kU kR lN lU lR ((T, o) :: ex) :=
  ⟨h.rN, h.rU, h.rR, h.nNU, h.nNR, h.nUR, fun p hp => by
    rcases List.mem_cons.1 hp with rfl | hp
    · exact ⟨hx, h1, h2, h3⟩
    · exact h.ex p hp, h.mN, h.mU, h.mR, h.turns⟩
/-- Nothing but what is new has turned. -/
theorem RefQ6.on {M P : Nat → Prop} {w w' : World} {B : Nat} {S : List Cl} {vN vU vR : Value} {qs : List (Nd × Value × Value)} {rv : List Value} (h : RefQ6 M P w B S vN vU vR qs rv) (hb : Below w.heap.size w w') : RefQ6 M P w' B S vN vU vR qs rv := by
  have hm : ∀ v : Value, (∀ g, v.ownBlock = some g → New M w g) → (∀ g, v.ownBlock = some g → g < w.heap.size) → ∀ g, v.ownBlock = some g → M g := fun v h1 h2 g e => by
    rcases h1 g e with k | k
    · exact k
    · have := h2 g e; omega
  have ho := h.own.on hb
  refine ⟨⟨ho.rN, ho.rU, ho.rR, ho.nNU, ho.nNR, ho.nUR, ho.ex, fun g e => .inl (hm vN h.own.mN (fun g e => (h.own.rN.lt g e).2) g e), fun g e => .inl (hm vU h.own.mU (fun g e => (h.own.rU.lt g e).2) g e), fun g e => .inl (hm vR h.own.mR (fun g e => (h.own.rR.lt g e).2) g e), Turns.refl _ _⟩, h.mB, fun b k => Nat.lt_of_lt_of_le (h.min b k) hb.size, fun b k => Nat.lt_of_lt_of_le (h.pin b k) hb.size, h.pM, h.pos, h.len, h.nodes, fun q hq => ⟨(h.attrs q hq).1.kept (.of_below hb), (h.attrs q hq).2⟩, h.rlen, fun j hj => ?_⟩
  obtain ⟨v, hv, hr⟩ := h.rows j hj
  exact ⟨v, hv, hr.kept (.of_below hb)⟩
theorem RefD.on {M P : Nat → Prop} {w w' : World} {B : Nat} {S : List Cl} (h : RefD M P w B S) (hb : Below w.heap.size w w') : RefD M P w' B S := by
  obtain ⟨vN, vU, vR, qs, rv, hq⟩ := h
  exact ⟨vN, vU, vR, qs, rv, hq.on hb⟩
/-- More that it leads to. -/
theorem RefD.wider {M P Q : Nat → Prop} {w : World} {B : Nat} {S : List Cl} (h : RefD M P w B S) (hq : ∀ b, P b → Q b) (hin : ∀ b, Q b → b < w.heap.size) (hM : ∀ b, Q b → ¬ M b) : RefD M Q w B S := by
  obtain ⟨vN, vU, vR, qs, rv, h⟩ := h
  refine ⟨vN, vU, vR, qs, rv, h.own, h.mB, h.min, hin, hM, h.pos, h.len, h.nodes, fun q k => ⟨(h.attrs q k).1.mono fun b p _ => hq b p, (h.attrs q k).2⟩, h.rlen, fun j hj => ?_⟩
  obtain ⟨v, hv, hr⟩ := h.rows j hj
  exact ⟨v, hv, hr.mono fun b p _ => hq b p⟩
theorem RefD.rdoc {M P : Nat → Prop} {w : World} {B : Nat} {S : List Cl} (h : RefD M P w B S) : RDoc S B w := by
  obtain ⟨vN, vU, vR, qs, rv, hq⟩ := h
  exact hq.rdoc
theorem RefD.facts {M P : Nat → Prop} {w : World} {B : Nat} {S : List Cl} (h : RefD M P w B S) : M B ∧ (∀ b, M b → b < w.heap.size) ∧ (∀ b, P b → b < w.heap.size) ∧ (∀ b, P b → ¬ M b) ∧ 0 < S.length ∧ S.length ≤ 100000 := by
  obtain ⟨vN, vU, vR, qs, rv, hq⟩ := h
  exact ⟨hq.mB, hq.min, hq.pin, hq.pM, hq.pos, hq.len⟩
/-- Behind a call that writes. -/
def RStep6 (w : World) (M P : Nat → Prop) (B : Nat) (S : List Cl) (w' : World) : Prop := ∃ M' P', RefD M' P' w' B S ∧ (∀ b, b < w.heap.size → M' b → M b) ∧ (∀ b, b < w.heap.size → P' b → P b) ∧ Turns M w w'
theorem upsV_lay (S : List Cl) (d : Nd) : upsV (lay S d) = upsV S ++ [.int .i64 (-1)] := by
  unfold upsV lay
  rw [List.map_append]
  rfl
theorem RefQ6.laid {M P : Nat → Prop} {w w1 w' : World} {B : Nat} {S : List Cl} {vN vU vR vN' vU' vR' va : Value} {qs : List (Nd × Value × Value)} {rv : List Value} {d : Nd} (h : RefQ6 M P w B S vN vU vR qs rv) (hb : Below w.heap.size w w1) (hs : S.length < 100000) (ha : AttrsP P w va d.attrs)
    (hl : LayS M w1 w' vN' vU' vR' (S.length + 1) (S.length + 1) (S.length + 1) (nodeCells qs ++ nodeCell (d, va, .slice none 0 0)) (upsV S ++ [.int .i64 (-1)]) (rv ++ [.slice none 0 0]) [(B, .cells #[vN', vU', vR'] 35 (0, 0))]) : RStep6 w M P B (lay S d) w' := by
  have z1 := hb.size
  have z2 := hl.turns.size
  have hk : Kept P w w' := by
    have k2 : Turns M w w' := (Turns.of_below hb).trans (hl.turns.mono fun b _ k => .inl k)
    exact k2.kept fun b _ k => h.pM b k
  refine ⟨fun b => New M w1 b ∧ b < w'.heap.size ∧ ¬ P b, P, ⟨vN', vU', vR', qs ++ [(d, va, .slice none 0 0)], rv ++ [.slice none 0 0], ?_, ⟨.inl h.mB, Nat.lt_of_lt_of_le (Nat.lt_of_lt_of_le (h.min B h.mB) z1) z2, fun k => h.pM B k h.mB⟩, fun b k => k.2.1, fun b k => Nat.lt_of_lt_of_le (h.pin b k) (Nat.le_trans z1 z2), fun b k q => q.2.2 k, by simp [lay], by rw [lay_len]; omega, ?_, ?_, ?_, ?_⟩, ?_, fun _ _ k => k, (Turns.of_below hb).trans (hl.turns.mono fun b _ k => .inl k)⟩
  · rw [lay_len, nodeCells_snoc, upsV_lay]
    refine hl.rebase fun b k1 k2 => ⟨k2, k1, fun k => ?_⟩
    rcases k2 with k2 | k2
    · exact h.pM b k k2
    · have := h.pin b k; omega
  · rw [List.map_append, h.nodes]
    simp [lay]
  · intro q hq
    rcases List.mem_append.1 hq with hq | hq
    · exact ⟨(h.attrs q hq).1.kept hk, (h.attrs q hq).2⟩
    · rw [List.mem_singleton.1 hq]
      exact ⟨ha.kept hk, rfl⟩
  · simp [lay, h.rlen]
  · intro j hj
    rw [lay_len] at hj
    by_cases hjs : j < S.length
    · obtain ⟨v, hv, hr⟩ := h.rows j hjs
      refine ⟨v, by rw [List.getElem?_append_left (by rw [h.rlen]; exact hjs)]; exact hv, ?_⟩
      have : (lay S d)[j]'(by rw [lay_len]; omega) = S[j] := by simp [lay, hjs]
      rw [this]
      exact hr.kept hk
    · have hj2 : j = S.length := by omega
      subst hj2
      refine ⟨.slice none 0 0, by rw [List.getElem?_append_right (by rw [h.rlen]; exact Nat.le_refl _), h.rlen]; simp, ?_⟩
      have : (lay S d)[S.length]'(by rw [lay_len]; omega) = ⟨d, none, []⟩ := by simp [lay]
      rw [this]
      exact .nil _ _
  · intro b hb2 k
    rcases k.1 with k1 | k1
    · exact k1
    · omega
set_option maxHeartbeats 2000000 in
set_option maxRecDepth 100000 in
theorem rlayP (S : List Cl) (B : Nat) (M P : Nat → Prop) (w : World) (d : Nd) (pa : Option Addr) (ca : Nat) (h : RefD M P w B S) (hs : S.length < 100000) (ha : AttrsP P w (.slice pa d.attrs.length ca) d.attrs) :
    Calls Try.prog 43 #[.pointer (some ⟨B, 0, none⟩), .agg #[.int .i64 d.kind, .int .i64 d.space, .string ⟨d.name.toArray⟩, .slice pa d.attrs.length ca, .string ⟨d.text.toArray⟩, .int .i64 d.frm, .slice none 0 0]] w (fun e w' => e = .returned (.int .i64 (S.length : Int)) ∧ RStep6 w M P B (lay S d) w') := by
  obtain ⟨vN, vU, vR, qs, rv, hq⟩ := h
  have HQ := Lib.hid hq
  have HA := Lib.hid ha
  obtain ⟨gN, cN, gU, cU, gR, cR, rfl, rfl, rfl⟩ := hq.forms
  obtain ⟨NM, hNM⟩ : ∃ NM : ByteArray, NM = ⟨d.name.toArray⟩ := ⟨_, rfl⟩
  obtain ⟨TX, hTX⟩ : ∃ TX : ByteArray, TX = ⟨d.text.toArray⟩ := ⟨_, rfl⟩
  rw [← hNM, ← hTX]
  have HNT := Lib.hid (And.intro hNM hTX)
  clear hq ha hNM hTX
  go_enter Try.func43, Try.ntmps43
  go_upto_region 1 with fail
  have HB1 : Hid (Below w.heap.size w (w.alloc (.cells #[.int .i64 d.kind, .int .i64 d.space, .string NM, .slice pa d.attrs.length ca, .string TX, .int .i64 d.frm, .slice none 0 0] 43))) := Lib.hid ((Below.refl _ _).alloc (Nat.le_refl _) _)
  have hX : (w.alloc (.cells #[.int .i64 d.kind, .int .i64 d.space, .string NM, .slice pa d.attrs.length ca, .string TX, .int .i64 d.frm, .slice none 0 0] 43)).heap[w.heap.size]? = some (.cells #[.int .i64 d.kind, .int .i64 d.space, .string NM, .slice pa d.attrs.length ca, .string TX, .int .i64 d.frm, .slice none 0 0] 43 (0, 0)) := heap_alloc_new w _
  generalize w.alloc (.cells #[.int .i64 d.kind, .int .i64 d.space, .string NM, .slice pa d.attrs.length ca, .string TX, .int .i64 d.frm, .slice none 0 0] 43) = w1 at *
  have HL : Hid (LayS M w1 w1 (.slice (some ⟨gN, 0, none⟩) S.length cN) (.slice (some ⟨gU, 0, none⟩) S.length cU) (.slice (some ⟨gR, 0, none⟩) S.length cR) S.length S.length S.length (nodeCells qs) (upsV S) rv [(w.heap.size, (.cells #[.int .i64 d.kind, .int .i64 d.space, .string NM, .slice pa d.attrs.length ca, .string TX, .int .i64 d.frm, .slice none 0 0] 43 (0, 0))), (B, .cells #[.slice (some ⟨gN, 0, none⟩) S.length cN, .slice (some ⟨gU, 0, none⟩) S.length cU, .slice (some ⟨gR, 0, none⟩) S.length cR] 35 (0, 0))]) := Lib.hid ((HQ.out.on HB1.out).own.also hX (fun e => Nat.lt_irrefl _ (HQ.out.own.rN.lt _ e).2) (fun e => Nat.lt_irrefl _ (HQ.out.own.rU.lt _ e).2) (fun e => Nat.lt_irrefl _ (HQ.out.own.rR.lt _ e).2))
  refine rlay_reg HL.out (.inl HQ.out.mB) (by omega) ?_
  intro y5 y6 y7 y8 y9 y10 y11 y12 y13 y14 y15 y16 y17 y18 y19 y20 y21 y22 y23 y24 y25 y26 y27 y28 y29 y30 y31 y32 vN vU vR w' hl
  obtain ⟨gn, cn, rfl⟩ : ∃ gn cn : Nat, vN = .slice (some ⟨gn, 0, none⟩) (S.length + 1) cn := by
    rcases Joins.ownsRow_forms hl.rN with ⟨_, k⟩ | ⟨g, c, e⟩
    · omega
    · exact ⟨g, c, e⟩
  have c0 := (block_cell6 (hl.at_ (List.mem_singleton.2 rfl)) 0).1
  simp at c0
  rw [HNT.out.1, HNT.out.2] at hl
  have HST := Lib.hid (HQ.out.laid HB1.out hs HA.out hl)
  clear hl hX HL HB1 HQ HA HNT
  go_wp2_with fail
  go_ret
  exact ⟨ret_is (by omega), HST.out⟩
end Go.Proofs.Ytkoijkdhmfnlbaa
namespace Go.Proofs.Ytkoijkdhmfnlbaa
open Go.RowKit

def NewP6 (P : Nat → Prop) (w w' : World) : Nat → Prop := fun b => P b ∨ (w.heap.size ≤ b ∧ b < w'.heap.size)
theorem RefD.news {M P : Nat → Prop} {w w' : World} {B : Nat} {S : List Cl} (h : RefD M P w B S) (hb : Below w.heap.size w w') : RefD M (NewP6 P w w') w' B S := by
  obtain ⟨_, f1, f2, f3, _, _⟩ := h.facts
  have z := hb.size
  refine (h.on hb).wider (fun b k => .inl k) (fun b k => ?_) (fun b k q => ?_)
  · rcases k with k | k
    · have := f2 b k; omega
    · exact k.2
  · rcases k with k | k
    · exact f3 b k q
    · have := f1 b q; omega
theorem RStep6.from_ {M P : Nat → Prop} {w w2 w' : World} {B : Nat} {S : List Cl} (hb : Below w.heap.size w w2) (h : RStep6 w2 M (NewP6 P w w2) B S w') : RStep6 w M P B S w' := by
  obtain ⟨M', P', h1, h2, h3, h4⟩ := h
  have z := hb.size
  refine ⟨M', P', h1, fun b k q => h2 b (by omega) q, fun b k q => ?_, (Turns.of_below hb).trans (h4.mono fun _ _ q => .inl q)⟩
  rcases h3 b (by omega) q with q | q
  · exact q
  · omega
def elemNd (sp : Int) (nm : List UInt8) (l : List (List UInt8 × List UInt8)) : Nd := ⟨1, sp, nm, l, [], 0⟩
def noteNd (s : List UInt8) : Nd := ⟨3, 0, [], [], s, 0⟩
theorem own_empty6 {w : World} {g base s : Nat} {e : TypeId} (h : w.heap[g]? = some (.cells #[] e (0, 0))) (hb : base ≤ g) : w.ownsRow base e s (.slice (some ⟨g, 0, none⟩) 0 0) 0 [] :=
  ⟨by simp, .inr ⟨g, 0, #[], rfl, hb, h, Nat.le_refl _, by unfold maxLen; omega, by simp, by simp⟩⟩
set_option maxHeartbeats 1000000 in
set_option maxRecDepth 100000 in
theorem relemNewP (S : List Cl) (B : Nat) (M P Q : Nat → Prop) (w : World) (sp : Int) (nm : List UInt8) (l : List (List UInt8 × List UInt8)) (v : Value) (h : RefD M P w B S) (hs : S.length < 100000) (ha : AttrsP Q w v l) (hl : l.length ≤ 4294967296) (hn : ∀ p c, v = .slice p l.length c → p = none → c = 0) :
    Calls Try.prog 16 #[.pointer (some ⟨B, 0, none⟩), .int .i64 sp, .string ⟨nm.toArray⟩, v] w (fun e w' => e = .returned (.int .i64 (S.length : Int)) ∧ RStep6 w M P B (lay S (elemNd sp nm l)) w') := by
  obtain ⟨i0, hi0, hz0, hz1, hz2⟩ := info_at
  have hb : Below w.heap.size w (w.alloc (.cells #[] 53)) := (Below.refl _ _).alloc (Nat.le_refl _) _
  have hE : (w.alloc (.cells #[] 53)).heap[w.heap.size]? = some (.cells #[] 53 (0, 0)) := heap_alloc_new w _
  have HL : Hid (∀ (w2 : World) (p : Option Addr) (c : Nat), Below w.heap.size w w2 → AttrsP (fun b => w.heap.size ≤ b) w2 (.slice p l.length c) l → Calls Try.prog 43 #[.pointer (some ⟨B, 0, none⟩), .agg #[.int .i64 1, .int .i64 sp, .string ⟨nm.toArray⟩, .slice p l.length c, .string ByteArray.empty, .int .i64 0, .slice none 0 0]] w2 (fun e w' => e = .returned (.int .i64 (S.length : Int)) ∧ RStep6 w M P B (lay S (elemNd sp nm l)) w')) := Lib.hid fun w2 p c b2 hA =>
    (rlayP S B M (NewP6 P w w2) w2 (elemNd sp nm l) p c (h.news b2) hs (AttrsP.mono hA fun b k hb => .inr ⟨k, hb⟩)).mono fun _ _ k => ⟨k.1, k.2.from_ b2⟩
  obtain ⟨p, cap, rfl, hc⟩ := id ha
  rcases p with _ | ad
  · have hcap : cap = 0 := hn none cap rfl rfl
    subst hcap
    have hl0 : l = [] := by
      rcases Nat.eq_zero_or_pos l.length with h0 | h0
      · exact List.eq_nil_of_length_eq_zero h0
      · obtain ⟨g, o, e, _⟩ := hc h0
        cases e
    subst hl0
    have HI := Lib.hid hi0
    have HO := Lib.hid (own_empty6 (base := w.heap.size) (s := 2) hE (Nat.le_refl _))
    have HC := Lib.hid (HL.out _ (some ⟨w.heap.size, 0, none⟩) 0 hb (AttrsP.nil _ _ _ _))
    obtain ⟨NM, hNM⟩ : ∃ NM : ByteArray, NM = ⟨nm.toArray⟩ := ⟨_, rfl⟩
    rw [← hNM] at HC ⊢
    clear hc h ha hz0 hz1 hz2 hi0 HL hNM hE hb hn
    go_enter Try.func16, Try.ntmps16
    go_wp2_with (first
      | (at_builtin; refine wpList_append_own_none rfl _ _ 41 rfl w.heap.size 53 i0 2 Try.underlying41 HI.out (.slice (some ⟨w.heap.size, 0, none⟩) 0 0) 0 [] rfl HO.out rfl ?_)
      | fail)
    refine HC.out.mono ?_
    rintro e w3 ⟨rfl, h3⟩
    have H3 := Lib.hid h3
    clear h3 HC
    go_wp2_with fail
    go_ret
    exact ⟨rfl, H3.out⟩
  · have HN : Hid (∀ j u, (atCells l)[j]? = some u → (w.alloc (.cells #[] 53)).cell? (ad.add j) = some u) := Lib.hid (by
      rcases Nat.eq_zero_or_pos l.length with h0 | h0
      · have hl0 : l = [] := List.eq_nil_of_length_eq_zero h0
        subst hl0
        intro j u hu
        simp [atCells] at hu
      · obtain ⟨g, o, e, _⟩ := hc h0
        injection e with e
        subst e
        exact atCells_read (ha.kept (.of_below hb)))
    have HO := Lib.hid (own_empty6 (base := w.heap.size) (s := 2) hE (Nat.le_refl _))
    have HI := Lib.hid (And.intro hi0 (And.intro hz0 (And.intro hz1 hz2)))
    have HB := Lib.hid hb
    obtain ⟨NM, hNM⟩ : ∃ NM : ByteArray, NM = ⟨nm.toArray⟩ := ⟨_, rfl⟩
    rw [← hNM] at HL ⊢
    clear hc h ha hz0 hz1 hz2 hi0 hNM hE hb hn
    go_enter Try.func16, Try.ntmps16
    go_wp2_with (first
      | (at_builtin; refine wpList_append_own _ rfl _ _ 41 rfl w.heap.size 53 i0 (.agg #[.string ByteArray.empty, .string ByteArray.empty]) 2 32 Try.underlying41 HI.out.1 HI.out.2.1 HI.out.2.2.1 HI.out.2.2.2 rfl (by omega) (.slice (some ⟨w.heap.size, 0, none⟩) 0 0) 0 [] rfl HO.out ad l.length cap (atCells l) rfl (atCells_len l) HN.out (atCells_one l) (by unfold maxLen; omega) (by omega) (by simp) ?_; intro v1 w1 hr1 hg1 _; rw [Nat.zero_add, List.nil_append] at hr1; have hbb : Below w.heap.size w w1 := ⟨hg1.os.trans HB.out.os, hg1.tape.trans HB.out.tape, hg1.output.trans HB.out.output, Nat.le_trans HB.out.size hg1.size, fun k hk => (hg1.block k (Nat.lt_of_lt_of_le hk HB.out.size) (by simp [Value.ownBlock]; omega)).trans (HB.out.block k hk)⟩; have hA1 := AttrsP.of_row hr1; obtain ⟨p1, c1, rfl⟩ : ∃ p1 c1, v1 = .slice p1 l.length c1 := (by obtain ⟨p1, c1, e1, _⟩ := hA1; exact ⟨p1, c1, e1⟩); have HC := Lib.hid (HL.out w1 p1 c1 hbb hA1); clear hr1 hg1 hbb hA1)
      | fail)
    refine HC.out.mono ?_
    rintro e w3 ⟨rfl, h3⟩
    have H3 := Lib.hid h3
    clear h3 HC
    go_wp2_with fail
    go_ret
    exact ⟨rfl, H3.out⟩
set_option maxHeartbeats 1000000 in
set_option maxRecDepth 100000 in
theorem rnoteNewP (S : List Cl) (B : Nat) (M P : Nat → Prop) (w : World) (s : List UInt8) (h : RefD M P w B S) (hs : S.length < 100000) :
    Calls Try.prog 18 #[.pointer (some ⟨B, 0, none⟩), .string ⟨s.toArray⟩] w (fun e w' => e = .returned (.int .i64 (S.length : Int)) ∧ RStep6 w M P B (lay S (noteNd s)) w') := by
  have HC := Lib.hid (show Calls Try.prog 43 #[.pointer (some ⟨B, 0, none⟩), .agg #[.int .i64 3, .int .i64 0, .string ByteArray.empty, .slice none 0 0, .string ⟨s.toArray⟩, .int .i64 0, .slice none 0 0]] w (fun e w' => e = .returned (.int .i64 (S.length : Int)) ∧ RStep6 w M P B (lay S (noteNd s)) w') from rlayP S B M P w (noteNd s) none 0 h hs (AttrsP.nil _ _ _ _))
  obtain ⟨NM, hNM⟩ : ∃ NM : ByteArray, NM = ⟨s.toArray⟩ := ⟨_, rfl⟩
  rw [← hNM] at HC ⊢
  clear h hNM
  go_enter Try.func18, Try.ntmps18
  go_wp2_with fail
  refine HC.out.mono ?_
  rintro e w3 ⟨rfl, h3⟩
  have H3 := Lib.hid h3
  clear h3 HC
  go_wp2_with fail
  go_ret
  exact ⟨rfl, H3.out⟩
theorem ref_new {w w1 w2 w3 w4 : World}
    (e1 : w1 = w.alloc (.cells #[.int .i64 1, .int .i64 1, .string ⟨#[]⟩, .slice none 0 0, .string ⟨#[]⟩, .int .i64 0, .slice none 0 0] 43))
    (e2 : w2 = w1.alloc (.cells #[.int .i64 (-1)] 3))
    (e3 : w3 = w2.alloc (.cells #[.slice none 0 0] 32))
    (e4 : w4 = w3.alloc (.cells #[.slice (some ⟨w.heap.size, 0, none⟩) 1 1, .slice (some ⟨w.heap.size + 1, 0, none⟩) 1 1, .slice (some ⟨w.heap.size + 1 + 1, 0, none⟩) 1 1] 35)) :
    RefD (fun b => w.heap.size ≤ b ∧ b < w4.heap.size) (fun _ => False) w4 (w.heap.size + 1 + 1 + 1) [rootCl] ∧ Below w.heap.size w w4 := by
  have z1 : w1.heap.size = w.heap.size + 1 := by rw [e1]; simp
  have z2 : w2.heap.size = w.heap.size + 1 + 1 := by rw [e2]; simp [z1]
  have z3 : w3.heap.size = w.heap.size + 1 + 1 + 1 := by rw [e3]; simp [z2]
  have b1 : Below w.heap.size w w1 := by rw [e1]; exact (Below.refl _ _).alloc (Nat.le_refl _) _
  have b2 : Below w1.heap.size w1 w2 := by rw [e2]; exact (Below.refl _ _).alloc (Nat.le_refl _) _
  have b3 : Below w2.heap.size w2 w3 := by rw [e3]; exact (Below.refl _ _).alloc (Nat.le_refl _) _
  have b4 : Below w3.heap.size w3 w4 := by rw [e4]; exact (Below.refl _ _).alloc (Nat.le_refl _) _
  have x1 : w1.heap[w.heap.size]? = some (.cells #[.int .i64 1, .int .i64 1, .string ⟨#[]⟩, .slice none 0 0, .string ⟨#[]⟩, .int .i64 0, .slice none 0 0] 43 (0, 0)) := by rw [e1]; exact heap_alloc_new w _
  have x2 : w2.heap[w.heap.size + 1]? = some (.cells #[.int .i64 (-1)] 3 (0, 0)) := by rw [e2, ← z1]; exact heap_alloc_new w1 _
  have x3 : w3.heap[w.heap.size + 1 + 1]? = some (.cells #[.slice none 0 0] 32 (0, 0)) := by rw [e3, ← z2]; exact heap_alloc_new w2 _
  have x4 : w4.heap[w.heap.size + 1 + 1 + 1]? = some (.cells #[.slice (some ⟨w.heap.size, 0, none⟩) 1 1, .slice (some ⟨w.heap.size + 1, 0, none⟩) 1 1, .slice (some ⟨w.heap.size + 1 + 1, 0, none⟩) 1 1] 35 (0, 0)) := by rw [e4, ← z3]; exact heap_alloc_new w3 _
  have y1 := (b4.block _ (by omega)).trans ((b3.block _ (by omega)).trans ((b2.block _ (by omega)).trans x1))
  have y2 := (b4.block _ (by omega)).trans ((b3.block _ (by omega)).trans x2)
  have y3 := (b4.block _ (by omega)).trans x3
  have l4 := heap_lt x4
  clear e1 e2 e3 e4
  refine ⟨⟨.slice (some ⟨w.heap.size, 0, none⟩) 1 1, .slice (some ⟨w.heap.size + 1, 0, none⟩) 1 1, .slice (some ⟨w.heap.size + 1 + 1, 0, none⟩) 1 1, [(rootCl.d, .slice none 0 0, .slice none 0 0)], [.slice none 0 0], ?_⟩, b1.trans ((b2.trans ((b3.trans (b4.mono b3.size)).mono b2.size)).mono b1.size)⟩
  refine ⟨⟨⟨rfl, .inr ⟨w.heap.size, 1, _, rfl, Nat.zero_le _, y1, Nat.le_refl _, by unfold maxLen; omega, rfl, rfl⟩⟩, ⟨rfl, .inr ⟨w.heap.size + 1, 1, _, rfl, Nat.zero_le _, y2, Nat.le_refl _, by unfold maxLen; omega, rfl, rfl⟩⟩, ⟨rfl, .inr ⟨w.heap.size + 1 + 1, 1, _, rfl, Nat.zero_le _, y3, Nat.le_refl _, by unfold maxLen; omega, rfl, rfl⟩⟩, ?_, ?_, ?_, ?_, ?_, ?_, ?_, Turns.refl _ _⟩, ⟨by omega, l4⟩, fun b k => k.2, fun b k => k.elim, fun b k => k.elim, by decide, by decide, rfl, ?_, rfl, ?_⟩
  · intro g e k
    have e := Option.some.inj e
    have k := Option.some.inj k
    have e : w.heap.size = g := e
    have k : w.heap.size + 1 = g := k
    omega
  · intro g e k
    have e : w.heap.size = g := Option.some.inj e
    have k : w.heap.size + 1 + 1 = g := Option.some.inj k
    omega
  · intro g e k
    have e : w.heap.size + 1 = g := Option.some.inj e
    have k : w.heap.size + 1 + 1 = g := Option.some.inj k
    omega
  · intro p hp
    rw [List.mem_singleton.1 hp]
    refine ⟨x4, fun k => ?_, fun k => ?_, fun k => ?_⟩
    · have k : w.heap.size = w.heap.size + 1 + 1 + 1 := Option.some.inj k
      omega
    · have k : w.heap.size + 1 = w.heap.size + 1 + 1 + 1 := Option.some.inj k
      omega
    · have k : w.heap.size + 1 + 1 = w.heap.size + 1 + 1 + 1 := Option.some.inj k
      omega
  · intro g e
    have e : w.heap.size = g := Option.some.inj e
    exact .inl ⟨by omega, by omega⟩
  · intro g e
    have e : w.heap.size + 1 = g := Option.some.inj e
    exact .inl ⟨by omega, by omega⟩
  · intro g e
    have e : w.heap.size + 1 + 1 = g := Option.some.inj e
    exact .inl ⟨by omega, by omega⟩
  · intro q hq
    rw [List.mem_singleton.1 hq]
    exact ⟨AttrsP.nil _ _ _ _, rfl⟩
  · intro j hj
    have hj2 : j < 1 := hj
    obtain rfl : j = 0 := by omega
    exact ⟨.slice none 0 0, rfl, .nil _ _⟩
set_option maxHeartbeats 1000000 in
set_option maxRecDepth 100000 in
theorem rnewP6 (w : World) : Calls Try.prog 6 #[] w (fun e w' => ∃ B, e = .returned (.pointer (some ⟨B, 0, none⟩)) ∧ RefD (fun b => w.heap.size ≤ b ∧ b < w'.heap.size) (fun _ => False) w' B [rootCl] ∧ Below w.heap.size w w') := by
  have HR : Hid (∀ w1 w2 w3 w4 : World, _) := Lib.hid fun w1 w2 w3 w4 => ref_new (w := w) (w1 := w1) (w2 := w2) (w3 := w3) (w4 := w4)
  go_enter Try.func6, Try.ntmps6
  go_wp2_with fail
  go_ret
  exact ⟨_, rfl, HR.out _ _ _ _ rfl rfl rfl rfl⟩
end Go.Proofs.Ytkoijkdhmfnlbaa
namespace Go.Proofs.Ytkoijkdhmfnlbaa
open Go.RowKit

theorem cellB6 {W : World} {g o : Nat} {v : Value} (h : W.cell? ⟨g, o, none⟩ = some v) : g < W.heap.size := by
  rcases Nat.lt_or_ge g W.heap.size with h' | h'
  · exact h'
  · unfold World.cell? at h
    rw [Array.getElem?_eq_none h'] at h
    cases h
theorem RDoc.lt {S : List Cl} {B : Nat} {w : World} (h : RDoc S B w) : B < w.heap.size := by
  obtain ⟨_, gN, cN, gU, cU, gR, cR, h0, _⟩ := h
  exact cellB6 h0
theorem RDoc.on {S : List Cl} {B : Nat} {w w' : World} (h : RDoc S B w) (hb : Below w.heap.size w w') : RDoc S B w' := by
  have tr : ∀ {g o : Nat} {v : Value}, w.cell? ⟨g, o, none⟩ = some v → w'.cell? ⟨g, o, none⟩ = some v := fun {g o v} k => (hb.cell (p := ⟨g, o, none⟩) (cellB6 k)).trans k
  obtain ⟨hl, gN, cN, gU, cU, gR, cR, h0, h1, h2, hall⟩ := h
  refine ⟨hl, gN, cN, gU, cU, gR, cR, tr h0, tr h1, tr h2, fun i hi => ?_⟩
  obtain ⟨⟨va, hc, ha⟩, hu, v, hv, p, cap, e, hr⟩ := hall i hi
  refine ⟨⟨va, ⟨tr hc.c0, tr hc.c1, tr hc.c2, tr hc.c3, tr hc.c4, tr hc.c5, tr hc.c6⟩, ha.kept (.of_below hb)⟩, tr hu, v, tr hv, p, cap, e, fun h0 => ?_⟩
  obtain ⟨g, o, e2, hg, hc2⟩ := hr h0
  exact ⟨g, o, e2, Nat.lt_of_lt_of_le hg hb.size, fun j hj => tr (hc2 j hj)⟩
/-- What Node tells of a node. -/
def NodeOut6 (d : Nd) (w : World) (e : Ending) (w' : World) : Prop := ∃ va, e = .returned (.agg #[.int .i64 d.kind, .int .i64 d.space, .string ⟨d.name.toArray⟩, va, .string ⟨d.text.toArray⟩, .int .i64 d.frm, .slice none 0 0]) ∧ AttrsP (fun _ => True) w' va d.attrs ∧ Below w.heap.size w w'
set_option maxHeartbeats 1000000 in
set_option maxRecDepth 100000 in
theorem rnodeP6 (S : List Cl) (B : Nat) (w : World) (j : Nat) (h : RDoc S B w) (hj : j < S.length) : Calls Try.prog 33 #[.pointer (some ⟨B, 0, none⟩), .int .i64 (j : Int)] w (NodeOut6 S[j].d w) := by
  have hB : B < w.heap.size := h.lt
  have HI : Hid (∀ W, Below w.heap.size w W → Calls Try.prog 45 #[.pointer (some ⟨B, 0, none⟩), .int .i64 (j : Int)] W (Gives (.bool true) W)) := Lib.hid fun W hb => by
    have := ris_any S B W (j : Int) (h.on hb)
    rwa [(isN_iff S (j : Int)).2 ⟨by omega, by omega⟩] at this
  obtain ⟨hl, gN, cN, gU, cU, gR, cR, h0, h1, h2, hall⟩ := h
  obtain ⟨⟨va, hc, ha⟩, _, _⟩ := hall j hj
  obtain ⟨NM, hNM⟩ : ∃ NM : ByteArray, NM = ⟨S[j].d.name.toArray⟩ := ⟨_, rfl⟩
  obtain ⟨TX, hTX⟩ : ∃ TX : ByteArray, TX = ⟨S[j].d.text.toArray⟩ := ⟨_, rfl⟩
  unfold NodeOut6
  obtain ⟨c0, c1, c2, c3, c4, c5, c6⟩ := hc
  rw [← hNM] at c2 ⊢
  rw [← hTX] at c4 ⊢
  obtain ⟨pv, cv, rfl, _⟩ := id ha
  have HA := Lib.hid ha
  have hg : gN < w.heap.size := cellB6 c0
  have j0 : (0 : Int) ≤ (j : Int) := by omega
  have j1 : (j : Int) < (S.length : Int) := by omega
  clear hall ha hNM hTX
  rw [Nat.zero_add] at c0 c1 c2 c3 c4 c5 c6
  go_enter Try.func33, Try.ntmps33
  go_upto_region 1 with fail
  have hb1 : Below w.heap.size w (w.alloc (.cells #[.int .i64 0, .int .i64 0, .string ⟨#[]⟩, .slice none 0 0, .string ⟨#[]⟩, .int .i64 0, .slice none 0 0] 43)) := (Below.refl _ _).alloc (Nat.le_refl _) _
  have x1 : (w.alloc (.cells #[.int .i64 0, .int .i64 0, .string ⟨#[]⟩, .slice none 0 0, .string ⟨#[]⟩, .int .i64 0, .slice none 0 0] 43)).heap[w.heap.size]? = some (.cells #[.int .i64 0, .int .i64 0, .string ⟨#[]⟩, .slice none 0 0, .string ⟨#[]⟩, .int .i64 0, .slice none 0 0] 43 (0, 0)) := heap_alloc_new w _
  generalize w.alloc (.cells #[.int .i64 0, .int .i64 0, .string ⟨#[]⟩, .slice none 0 0, .string ⟨#[]⟩, .int .i64 0, .slice none 0 0] 43) = w1 at *
  have b0 := (hb1.cell (p := ⟨B, 0, none⟩) hB).trans h0
  have d0 := (hb1.cell (p := ⟨gN, j * 7, none⟩) hg).trans c0
  have d1 := (hb1.cell (p := ⟨gN, j * 7 + 1, none⟩) hg).trans c1
  have d2 := (hb1.cell (p := ⟨gN, j * 7 + 2, none⟩) hg).trans c2
  have d3 := (hb1.cell (p := ⟨gN, j * 7 + 3, none⟩) hg).trans c3
  have d4 := (hb1.cell (p := ⟨gN, j * 7 + 4, none⟩) hg).trans c4
  have d5 := (hb1.cell (p := ⟨gN, j * 7 + 5, none⟩) hg).trans c5
  have d6 := (hb1.cell (p := ⟨gN, j * 7 + 6, none⟩) hg).trans c6
  have HI1 := Lib.hid (HI.out w1 hb1)
  clear HI h0 h1 h2 c0 c1 c2 c3 c4 c5 c6
  go_wp2_with fail
  refine HI1.out.mono ?_
  rintro e w2 ⟨rfl, rfl⟩
  have k0 : ∀ i, w1.cell? ⟨w.heap.size, i, none⟩ = #[Value.int .i64 0, .int .i64 0, .string ⟨#[]⟩, .slice none 0 0, .string ⟨#[]⟩, .int .i64 0, .slice none 0 0][i]? := fun i => by simp [World.cell?, x1]
  have k1 : ∀ i, w1.frozen? ⟨w.heap.size, i, none⟩ = false := fun i => by simp [World.frozen?, x1]
  obtain ⟨w4, hw4, hb4, hB4, hK4⟩ := set7 w w1 _ _ _ _ _ _ _ _ (.int .i64 S[j].d.kind) (.int .i64 S[j].d.space) (.string NM) (.slice pv S[j].d.attrs.length cv) (.string TX) (.int .i64 S[j].d.frm) (.slice none 0 0) x1 hb1
  have HA4 := Lib.hid ((HA.out.mono (Q := fun b => b < w.heap.size) fun b _ k => k).kept (.of_below hB4))
  have HB4 := Lib.hid hB4
  go_wp2_with fail
  exact bodyPost_ret (results_cell_row rfl _ _ _ _ _ _ _ rfl hb4 Try.underlying43 rfl (by kernel_rfl)) rfl ⟨_, rfl, HA4.out.mono fun _ _ _ => trivial, HB4.out⟩
end Go.Proofs.Ytkoijkdhmfnlbaa
namespace Go.Proofs.Ytkoijkdhmfnlbaa
open Go.RowKit

def intsV (l : List Nat) : List Value := l.map fun (k : Nat) => .int .i64 (k : Int)
/-- Numbers are appended to a row of one's own: any piece, none too. -/
theorem step_append_int {ops : Array Oper} {o : Oper} {a : Act} {w : World} {K : Act → World → Prop} {Q : Exit → Act → World → Prop} {E : Prop} (hgd : o.guard = none) (s x : Operand)
    (ho : o.op = .call { callee := .builtin .append, args := #[s, x], argTypes := #[32, 32 ] }) (base : Nat)
    (v : Value) (n : Nat) (xs : List Value) (hs : a.eval s = v) (hown : w.ownsRow base 3 1 v n xs)
    (p : Option Addr) (m c : Nat) (l : List Nat) (hx : a.eval x = .slice p m c) (hp : p = none → m = 0 ∧ c = 0) (hl : l.length = m) (hnews : ∀ ad, p = some ad → ∀ j (hj : j < l.length), w.cell? (ad.add j) = some (.int .i64 (l[j] : Int)))
    (hb : n + m ≤ 4294967296) (hbase : base ≤ w.heap.size)
    (h : ∀ v' w', w'.ownsRow base 3 1 v' (n + m) (xs ++ intsV l) → w.grownBy w' v.ownBlock → (v'.ownBlock = v.ownBlock ∨ v'.ownBlock = some w.heap.size) → K (a.put o.dst v') w') :
    if Region.wanted o (yielded ops a.tmps) = true then Oper.wp Try.prog o a w K Q else E := by
  have hw : Region.wanted o (yielded ops a.tmps) = true := by simp [Region.wanted, hgd]
  rw [if_pos hw]
  obtain ⟨i0, hi, hz, hsz, hby⟩ := info_int
  cases p with
  | none =>
    obtain ⟨rfl, rfl⟩ := hp rfl
    have hn : l = [] := List.eq_nil_of_length_eq_zero (by omega)
    subst hn
    have hrun := run_append_owned_none (P := Try.prog) (w := w) base 32 o.type 3 i0 1 Try.underlying32 hi v n xs hown
    unfold Oper.wp
    simp [execOp, ho, resolve, invoke, builtin, hs, hx, hrun, Result.andThen]
    refine h v w ?_ ⟨rfl, rfl, rfl, Nat.le_refl _, fun _ _ _ => rfl⟩ (.inl rfl)
    simpa [intsV] using hown
  | some ad =>
    obtain ⟨v', w', hr, h2, h3, h4, h5⟩ := run_append_own_at (P := Try.prog) w base 32 o.type 3 i0 (.int .i64 0) 1 8 Try.underlying32 hi hz hsz hby rfl (by omega) v n xs hown ad m c (intsV l) (by simp [intsV, hl]) (fun j u hu => by
      have hj : j < l.length := by
        have := lt_of_some hu
        simpa [intsV] using this
      rw [hnews ad rfl j hj]
      unfold intsV at hu
      rw [List.getElem?_map, List.getElem?_eq_getElem hj] at hu
      exact hu) (fun u hu => by
      obtain ⟨k, _, rfl⟩ := List.mem_map.1 hu
      rfl) (by unfold maxLen; omega) (by omega) hbase
    unfold Oper.wp execOp
    simp only [ho, resolve, invoke, builtin, Sem.run_bind, Sem.run_pure, Result.andThen_ok, List.map_toArray, List.map_cons, List.map_nil, hs, hx, hr]
    exact h v' w' h2 h3 h5
/-- The row as it is now, and what stands beside it. -/
structure RowX (w W : World) (v : Value) (n : Nat) (xs : List Value) (ex : List (Nat × Obj)) : Prop where
  row : W.ownsRow w.heap.size 3 1 v n xs
  ex : ∀ p ∈ ex, W.heap[p.1]? = some p.2 ∧ v.ownBlock ≠ some p.1
  below : Below w.heap.size w W
theorem RowX.new {w W : World} (hb : Below w.heap.size w W) : RowX w W (.slice none 0 0) 0 [] [] := ⟨World.ownsRow_nil W w.heap.size 3 1, (fun p hp => by cases hp), hb⟩
theorem RowX.alloc {w W : World} {v : Value} {n : Nat} {xs : List Value} {ex : List (Nat × Obj)} (h : RowX w W v n xs ex) (o : Obj) : RowX w (W.alloc o) v n xs ((W.heap.size, o) :: ex) := by
  have hb : Below W.heap.size W (W.alloc o) := (Below.refl _ _).alloc (Nat.le_refl _) _
  refine ⟨h.row.alloc _, fun p hp => ?_, h.below.trans (hb.mono h.below.size)⟩
  rcases List.mem_cons.1 hp with rfl | hp
  · exact ⟨heap_alloc_new W o, fun e => Nat.lt_irrefl _ (h.row.lt _ e).2⟩
  · exact ⟨(hb.block p.1 (heap_lt (h.ex p hp).1)).trans (h.ex p hp).1, (h.ex p hp).2⟩
theorem RowX.grow {w W W' : World} {v v' : Value} {n m : Nat} {xs ys : List Value} {ex : List (Nat × Obj)} (h : RowX w W v n xs ex) (hr : W'.ownsRow w.heap.size 3 1 v' m ys) (hg : W.grownBy W' v.ownBlock) (ho : v'.ownBlock = v.ownBlock ∨ v'.ownBlock = some W.heap.size) : RowX w W' v' m ys ex := by
  have ht : Turns (fun b => v.ownBlock = some b) W W' := .of_grown hg fun _ e => e
  refine ⟨hr, fun p hp => ?_, h.below.trans (ht.below h.below.size fun b hb e => by have := (h.row.lt b e).1; omega)⟩
  obtain ⟨h1, h2⟩ := h.ex p hp
  refine ⟨(ht.block p.1 (heap_lt h1) h2).trans h1, fun e => ?_⟩
  rcases ho with ho | ho
  · exact h2 (ho ▸ e)
  · rw [ho] at e
    have e : W.heap.size = p.1 := Option.some.inj e
    have := heap_lt h1
    omega
/-- An empty row is begun. -/
theorem RowX.begin_ {w W : World} {v : Value} {n E : Nat} {xs : List Value} {ex ex' : List (Nat × Obj)} (h : RowX w W v n xs ex) (hE : W.heap[E]? = some (.cells #[] 3 (0, 0))) (hn : w.heap.size ≤ E) (hx : ∀ p ∈ ex', p ∈ ex ∧ p.1 ≠ E) : RowX w W (.slice (some ⟨E, 0, none⟩) 0 0) 0 [] ex' :=
  ⟨own_empty6 hE hn, fun p hp => ⟨(h.ex p (hx p hp).1).1, fun e => (hx p hp).2 (Option.some.inj e).symm⟩, h.below⟩
theorem RowX.form {w W : World} {v : Value} {n : Nat} {xs : List Value} {ex : List (Nat × Obj)} (h : RowX w W v n xs ex) : ∃ p c, v = .slice p n c := by
  rcases Joins.ownsRow_forms h.row with ⟨rfl, rfl⟩ | ⟨g, c, rfl⟩
  · exact ⟨_, _, rfl⟩
  · exact ⟨_, _, rfl⟩
end Go.Proofs.Ytkoijkdhmfnlbaa
