/-
  The program's Doc and the reference's, side by side: the calls of the law DomPlays.
-/
import Derived.Test.YtkoijkdhmfnlbaaDLike6
import Derived.Test.YtkoijkdhmfnlbaaDRefT
import Derived.Test.YtkoijkdhmfnlbaaDTAll
namespace Go.Proofs.Ytkoijkdhmfnlbaa
open Go.RowKit

theorem RefD.turn6 {M P T : Nat → Prop} {w w' : World} {B : Nat} {S : List Cl} (h : RefD M P w B S) (ht : Turns T w w') (hM : ∀ b, M b → ¬ T b) (hP : ∀ b, P b → ¬ T b) : RefD M P w' B S := by
  obtain ⟨vN, vU, vR, qs, rv, h⟩ := h
  have hm : ∀ v : Value, (∀ g, v.ownBlock = some g → New M w g) → (∀ g, v.ownBlock = some g → g < w.heap.size) → ∀ g, v.ownBlock = some g → M g := fun v h1 h2 g e => by
    rcases h1 g e with k | k
    · exact k
    · have := h2 g e; omega
  have mN := hm vN h.own.mN fun g e => (h.own.rN.lt g e).2
  have mU := hm vU h.own.mU fun g e => (h.own.rU.lt g e).2
  have mR := hm vR h.own.mR fun g e => (h.own.rR.lt g e).2
  refine ⟨vN, vU, vR, qs, rv, ⟨ownsRow_kept h.own.rN ht fun g e => hM g (mN g e), ownsRow_kept h.own.rU ht fun g e => hM g (mU g e), ownsRow_kept h.own.rR ht fun g e => hM g (mR g e), h.own.nNU, h.own.nNR, h.own.nUR, fun p hp => ?_, fun g e => .inl (mN g e), fun g e => .inl (mU g e), fun g e => .inl (mR g e), Turns.refl _ _⟩, h.mB, fun b k => Nat.lt_of_lt_of_le (h.min b k) ht.size, fun b k => Nat.lt_of_lt_of_le (h.pin b k) ht.size, h.pM, h.pos, h.len, h.nodes, fun q hq => ⟨(h.attrs q hq).1.kept (ht.kept fun b _ k => hP b k), (h.attrs q hq).2⟩, h.rlen, fun j hj => ?_⟩
  · obtain ⟨h0, h1, h2, h3⟩ := h.own.ex p hp
    rw [List.mem_singleton.1 hp] at h0 h1 h2 h3 ⊢
    exact ⟨(ht.block B (h.min B h.mB) (hM B h.mB)).trans h0, h1, h2, h3⟩
  · obtain ⟨v, hv, hr⟩ := h.rows j hj
    exact ⟨v, hv, hr.kept (ht.kept fun b _ k => hP b k)⟩

/-- Both Docs, made since w0; blocks of X are set aside. -/
structure Two (X : Nat → Prop) (w0 W : World) (Bd Br : Nat) (S : List PN) (C : List Cl) : Prop where
  ex : ∃ M Mr Pr : Nat → Prop, DocM M W Bd S ∧ RefD Mr Pr W Br C ∧ (∀ b, M b → w0.heap.size ≤ b ∧ b < W.heap.size) ∧ (∀ b, Mr b ∨ Pr b → ¬ M b ∧ w0.heap.size ≤ b) ∧ (∀ b, X b → ¬ M b ∧ ¬ Mr b ∧ b < W.heap.size)
  below : Below w0.heap.size w0 W
theorem Two.on {X : Nat → Prop} {w0 W w' : World} {Bd Br : Nat} {S : List PN} {C : List Cl} (h : Two X w0 W Bd Br S C) (hb : Below W.heap.size W w') : Two X w0 w' Bd Br S C := by
  obtain ⟨⟨M, Mr, Pr, h1, h2, h3, h4, h5⟩, h6⟩ := h
  have hz := hb.size
  exact ⟨⟨M, Mr, Pr, h1.below hb, h2.on hb, fun b k => ⟨(h3 b k).1, by have := (h3 b k).2; omega⟩, h4, fun b k => ⟨(h5 b k).1, (h5 b k).2.1, by have := (h5 b k).2.2; omega⟩⟩, h6.trans (hb.mono h6.size)⟩
/-- What is new is set aside. -/
theorem Two.aside {X : Nat → Prop} {w0 W w' : World} {Bd Br : Nat} {S : List PN} {C : List Cl} (h : Two X w0 W Bd Br S C) (hb : Below W.heap.size W w') : Two (fun b => W.heap.size ≤ b ∧ b < w'.heap.size) w0 w' Bd Br S C := by
  have h' := h.on hb
  obtain ⟨⟨M, Mr, Pr, h1, h2, h3, h4, h5⟩, h6⟩ := h
  obtain ⟨_, f1, f2, _, _, _⟩ := h2.facts
  have hz := hb.size
  refine ⟨⟨M, Mr, Pr, h1.below hb, h2.on hb, fun b k => ⟨(h3 b k).1, by have := (h3 b k).2; omega⟩, h4, fun b k => ⟨fun q => ?_, fun q => ?_, k.2⟩⟩, h'.below⟩
  · have := (h3 b q).2; omega
  · have := f1 b q; omega
theorem Two.less {X Y : Nat → Prop} {w0 W : World} {Bd Br : Nat} {S : List PN} {C : List Cl} (h : Two X w0 W Bd Br S C) (hy : ∀ b, Y b → X b) : Two Y w0 W Bd Br S C := by
  obtain ⟨⟨M, Mr, Pr, h1, h2, h3, h4, h5⟩, h6⟩ := h
  exact ⟨⟨M, Mr, Pr, h1, h2, h3, h4, fun b k => h5 b (hy b k)⟩, h6⟩
theorem Ties.adds {M : Nat → Prop} {w w' : World} {B : Nat} {S : List PN} {v : Value} {e : Ending} (h : Ties M w B S v e w') : Adds M w B S v e w' := ⟨h.1, h.2.1.mono fun _ _ k => .inl k, h.2.2⟩
/-- The program's call. -/
theorem Two.callP {X : Nat → Prop} {w0 W : World} {Bd Br f : Nat} {S S' : List PN} {C : List Cl} {args : Array Value} {v : Value} (h : Two X w0 W Bd Br S C)
    (hc : ∀ M : Nat → Prop, DocM M W Bd S → (∀ b, M b → b < W.heap.size) → Calls Try.prog f args W (Adds M W Bd S' v)) : Calls Try.prog f args W (fun e w' => e = .returned v ∧ Two X w0 w' Bd Br S' C ∧ Kept X W w') := by
  obtain ⟨⟨M, Mr, Pr, h1, h2, h3, h4, h5⟩, h6⟩ := h
  refine (hc M h1 fun b k => (h3 b k).2).mono ?_
  rintro e w' ⟨he, hd, ht⟩
  have hz := ht.size
  have hz6 := h6.size
  obtain ⟨_, f1, f2, _, _, _⟩ := h2.facts
  refine ⟨he, ⟨⟨fun b => (M b ∨ W.heap.size ≤ b) ∧ b < w'.heap.size, Mr, Pr, hd.mono fun b k q => ⟨q, k⟩, h2.turn6 ht (fun b q => (h4 b (.inl q)).1) (fun b q => (h4 b (.inr q)).1), fun b k => ⟨?_, k.2⟩, fun b k => ⟨?_, (h4 b k).2⟩, fun b k => ⟨?_, (h5 b k).2.1, by have := (h5 b k).2.2; omega⟩⟩, h6.trans (ht.below hz6 fun b hb k => by have := (h3 b k).1; omega)⟩, ht.kept fun b _ k => (h5 b k).1⟩
  · rcases k.1 with q | q
    · exact (h3 b q).1
    · omega
  · rintro ⟨q | q, _⟩
    · exact (h4 b k).1 q
    · rcases k with k | k
      · have := f1 b k; omega
      · have := f2 b k; omega
  · rintro ⟨q | q, _⟩
    · exact (h5 b k).1 q
    · have := (h5 b k).2.2; omega
/-- The reference's call. -/
theorem Two.callR {X : Nat → Prop} {w0 W : World} {Bd Br f : Nat} {S : List PN} {C C' : List Cl} {args : Array Value} {v : Value} (h : Two X w0 W Bd Br S C)
    (hc : ∀ Mr Pr : Nat → Prop, RefD Mr Pr W Br C → Calls Try.prog f args W (fun e w' => e = .returned v ∧ RStep6 W Mr Pr Br C' w')) : Calls Try.prog f args W (fun e w' => e = .returned v ∧ Two X w0 w' Bd Br S C' ∧ Kept X W w') := by
  obtain ⟨⟨M, Mr, Pr, h1, h2, h3, h4, h5⟩, h6⟩ := h
  refine (hc Mr Pr h2).mono ?_
  rintro e w' ⟨he, Mr', Pr', hd, hm, hp, ht⟩
  have hz := ht.size
  have hz6 := h6.size
  have hMr : ∀ b, M b → ¬ Mr b := fun b k q => (h4 b (.inl q)).1 k
  refine ⟨he, ⟨⟨M, Mr', Pr', h1.on ht (fun b _ k => hMr b k), hd, fun b k => ⟨(h3 b k).1, by have := (h3 b k).2; omega⟩, fun b k => ?_, fun b k => ⟨(h5 b k).1, fun q => (h5 b k).2.1 (hm b (h5 b k).2.2 q), by have := (h5 b k).2.2; omega⟩⟩, h6.trans (ht.below hz6 fun b hb k => by have := (h4 b (.inl k)).2; omega)⟩, ht.kept fun b _ k => (h5 b k).2.1⟩
  by_cases hb : b < W.heap.size
  · exact h4 b (k.imp (hm b hb) (hp b hb))
  · exact ⟨fun q => by have := (h3 b q).2; omega, by omega⟩
theorem Two.reads {X : Nat → Prop} {w0 W : World} {Bd Br : Nat} {S : List PN} {C : List Cl} (h : Two X w0 W Bd Br S C) : ∃ M : Nat → Prop, DocM M W Bd S ∧ ∀ b, M b → b < W.heap.size := by
  obtain ⟨⟨M, Mr, Pr, h1, h2, h3, h4, h5⟩, h6⟩ := h
  exact ⟨M, h1, fun b k => (h3 b k).2⟩
theorem Two.ref {X : Nat → Prop} {w0 W : World} {Bd Br : Nat} {S : List PN} {C : List Cl} (h : Two X w0 W Bd Br S C) : ∃ Mr Pr : Nat → Prop, RefD Mr Pr W Br C := by
  obtain ⟨⟨M, Mr, Pr, h1, h2, h3, h4, h5⟩, h6⟩ := h
  exact ⟨Mr, Pr, h2⟩

/-- Both say the same, and are small: behind k calls. -/
structure Fine (S : List PN) (C : List Cl) (k : Nat) : Prop where
  like : Like S C
  inv : Inv C
  len : C.length ≤ k + 1
  text : ∀ c ∈ C, c.d.text.length ≤ 50 * k
  attrs : ∀ c ∈ C, c.d.attrs.length ≤ 1
theorem Fine.pos {S : List PN} {C : List Cl} {k : Nat} (h : Fine S C k) : 0 < C.length := by
  obtain ⟨_, hi⟩ := h.inv
  exact hi.pos
theorem Fine.rows {S : List PN} {C : List Cl} {k : Nat} (h : Fine S C k) (hk : k ≤ 1000) : ∀ c ∈ C, c.row.length ≤ 100000 := fun c hc => by
  have := row_le h.inv.fit hc
  have := h.len
  omega
theorem Fine.node {S : List PN} {C : List Cl} {k : Nat} (h : Fine S C k) : ∀ x ∈ S, x.text.length ≤ 50 * k ∧ x.attrs.length ≤ 1 := by
  intro x hx
  obtain ⟨j, hj, rfl⟩ := List.mem_iff_getElem.1 hx
  have hl := h.like.len
  obtain ⟨c, hc⟩ : ∃ c, C[j]? = some c := ⟨_, List.getElem?_eq_getElem (by omega)⟩
  have h1 := h.like.nd j c hc
  rw [pget_nat hj] at h1
  have hm := List.mem_of_getElem? hc
  have t := h.text c hm
  have a := h.attrs c hm
  rw [← h1] at t a
  exact ⟨t, a⟩
theorem Fine.lay {S : List PN} {C : List Cl} {k : Nat} (h : Fine S C k) {x : PN} {d : Nd} (hd : ndP x = d) (hu : x.up = -1) (hf : x.first = -1) (hl : x.last = -1) (ht : d.text.length ≤ 50) (ha : d.attrs.length ≤ 1) : Fine (S ++ [x]) (Go.Proofs.Ytkoijkdhmfnlbaa.lay C d) (k + 1) := by
  obtain ⟨hh, hi⟩ := h.inv
  refine ⟨h.like.lay h.inv.fit hd hu hf hl, ⟨hh, hi.lay d⟩, by rw [lay_len]; have := h.len; omega, fun c hc => ?_, fun c hc => ?_⟩
  · unfold Go.Proofs.Ytkoijkdhmfnlbaa.lay at hc
    rcases List.mem_append.1 hc with hc | hc
    · have := h.text c hc; omega
    · rw [List.mem_singleton.1 hc]; show d.text.length ≤ _; omega
  · unfold Go.Proofs.Ytkoijkdhmfnlbaa.lay at hc
    rcases List.mem_append.1 hc with hc | hc
    · exact h.attrs c hc
    · rw [List.mem_singleton.1 hc]; exact ha
/-- The nodes are the same, but for a text that grew. -/
theorem Fine.next {S S' : List PN} {C C' : List Cl} {k : Nat} (h : Fine S C k) (hL : Like S' C') (hI : Inv C') (hl : C'.length ≤ C.length + 1) (hd : ∀ c ∈ C', (∃ e ∈ C, c.d.text.length ≤ e.d.text.length + 50 ∧ c.d.attrs = e.d.attrs) ∨ (c.d.text.length ≤ 50 ∧ c.d.attrs = [])) : Fine S' C' (k + 1) := by
  refine ⟨hL, hI, by have := h.len; omega, fun c hc => ?_, fun c hc => ?_⟩
  · rcases hd c hc with ⟨e, he, h1, _⟩ | ⟨h1, _⟩
    · have := h.text e he; omega
    · omega
  · rcases hd c hc with ⟨e, he, _, h1⟩ | ⟨_, h1⟩
    · rw [h1]; exact h.attrs e he
    · rw [h1]; exact Nat.zero_le _
theorem same_d {C C' : List Cl} (h : C'.map (·.d) = C.map (·.d)) : C'.length ≤ C.length + 1 ∧ ∀ c ∈ C', (∃ e ∈ C, c.d.text.length ≤ e.d.text.length + 50 ∧ c.d.attrs = e.d.attrs) ∨ (c.d.text.length ≤ 50 ∧ c.d.attrs = []) := by
  have hl := congrArg List.length h
  simp only [List.length_map] at hl
  refine ⟨by omega, fun c hc => .inl ?_⟩
  have hm : c.d ∈ C.map (·.d) := by rw [← h]; exact List.mem_map_of_mem hc
  obtain ⟨e, he, hed⟩ := List.mem_map.1 hm
  exact ⟨e, he, by rw [hed]; omega, by rw [hed]⟩
theorem nodes_unlink {S : List Cl} {n u i : Nat} : (unlink S n u i).map (·.d) = S.map (·.d) := by
  apply List.ext_getElem?
  intro j
  rw [List.getElem?_map, List.getElem?_map]
  cases hj : S[j]? with
  | none => rw [List.getElem?_eq_none (by rw [unlink_len]; exact List.getElem?_eq_none_iff.1 hj)]
  | some c => rw [unlink_get n u i hj]; rfl
theorem nodes_shift {S : List Cl} {f t : Nat} {row : List Nat} : (shift S f t row).map (·.d) = S.map (·.d) := by
  apply List.ext_getElem?
  intro j
  rw [List.getElem?_map, List.getElem?_map]
  cases hj : S[j]? with
  | none => rw [List.getElem?_eq_none (by rw [shift_len]; exact List.getElem?_eq_none_iff.1 hj)]
  | some c => rw [shift_get f t row hj]; rfl
theorem nodes_putD {C : List Cl} {n up ahead : Int} {b : Bool} : (putD C n up ahead b).1.map (·.d) = C.map (·.d) := by
  unfold putD
  split
  · split
    · exact nodes_link
    · rfl
  · rfl
theorem nodes_takeD {C : List Cl} {n : Int} : (takeD C n).1.map (·.d) = C.map (·.d) := by
  unfold takeD
  split
  · split
    · split
      · exact nodes_unlink
      · rfl
    · rfl
  · rfl
theorem nodes_moveD {C : List Cl} {f t : Int} {b : Bool} : (moveD C f t b).1.map (·.d) = C.map (·.d) := by
  unfold moveD
  split
  · exact nodes_shift
  · rfl
theorem link_lay_d {C : List Cl} {s : List UInt8} {u i : Nat} (hs : s.length ≤ 50) : (link (lay C ⟨2, 0, [], [], s, 0⟩) C.length u i).length ≤ C.length + 1 ∧ ∀ c ∈ (link (lay C ⟨2, 0, [], [], s, 0⟩) C.length u i), (∃ e ∈ C, c.d.text.length ≤ e.d.text.length + 50 ∧ c.d.attrs = e.d.attrs) ∨ (c.d.text.length ≤ 50 ∧ c.d.attrs = []) := by
  refine ⟨by rw [link_len, lay_len]; exact Nat.le_refl _, fun c hc => ?_⟩
  have hm : c.d ∈ (lay C ⟨2, 0, [], [], s, 0⟩).map (·.d) := by rw [← nodes_link (n := C.length) (u := u) (i := i)]; exact List.mem_map_of_mem hc
  obtain ⟨e, he, hed⟩ := List.mem_map.1 hm
  unfold lay at he
  rcases List.mem_append.1 he with he | he
  · exact .inl ⟨e, he, by rw [hed]; omega, by rw [hed]⟩
  · rw [List.mem_singleton.1 he] at hed
    refine .inr ?_
    rw [← hed]
    exact ⟨hs, rfl⟩
theorem write_d {C : List Cl} {s : List UInt8} {up ahead : Int} (hs : s.length ≤ 50) : (writeD C s up ahead).1.length ≤ C.length + 1 ∧ ∀ c ∈ (writeD C s up ahead).1, (∃ e ∈ C, c.d.text.length ≤ e.d.text.length + 50 ∧ c.d.attrs = e.d.attrs) ∨ (c.d.text.length ≤ 50 ∧ c.d.attrs = []) := by
  unfold writeD
  split
  · split
    · exact same_d rfl
    · split
      · exact same_d rfl
      · split
        · rename_i k _
          split
          · refine ⟨by unfold addText; rw [List.length_modify]; omega, fun c hc => .inl ?_⟩
            obtain ⟨j, hj⟩ := List.mem_iff_getElem?.1 hc
            obtain ⟨e, he, rfl⟩ := addText_inv hj
            refine ⟨e, List.mem_of_getElem? he, ?_, ?_⟩
            · simp only
              split
              · simp only [List.length_append]; omega
              · omega
            · simp only
              split <;> rfl
          · exact link_lay_d hs
        · exact link_lay_d hs
  · exact same_d rfl
end Go.Proofs.Ytkoijkdhmfnlbaa
