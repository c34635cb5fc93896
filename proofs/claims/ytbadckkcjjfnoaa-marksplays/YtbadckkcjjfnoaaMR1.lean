/-
  The reference's Marks in memory: a row that may be shared, a block that holds it. Rows put together.
-/
import Derived.Test.YtbadckkcjjfnoaaMWF
namespace Go.Proofs.Ytbadckkcjjfnoaa
open Go.RowKit

/-- The reference's Marks at block B: all that it leads to lies in blocks of P. -/
structure RefQ (P : Nat → Prop) (w : World) (B : Nat) (v : Value) (rs : List (MK × Value)) : Prop where
  lt : B < w.heap.size
  cell : w.cell? ⟨B, 0, none⟩ = some v
  free : w.frozen? ⟨B, 0, none⟩ = false
  row : RowP P w v rs
  off : ¬ P B
  nil : ∀ n c, v = .slice none n c → c = 0
  addr : ∀ (ad : Addr) n c, v = .slice (some ad) n c → ∃ g o, ad = ⟨g, o, none⟩
def RefM (P : Nat → Prop) (w : World) (B : Nat) (S : List MK) : Prop := ∃ v rs, rs.map (·.1) = S ∧ RefQ P w B v rs
theorem RefQ.below {P : Nat → Prop} {w w' : World} {B : Nat} {v : Value} {rs : List (MK × Value)} (h : RefQ P w B v rs) (hb : Below w.heap.size w w') : RefQ P w' B v rs :=
  ⟨Nat.lt_of_lt_of_le h.lt hb.size, (hb.cell (p := ⟨B, 0, none⟩) h.lt).trans h.cell, (hb.frozen (p := ⟨B, 0, none⟩) h.lt).trans h.free, h.row.kept (.of_below hb), h.off, h.nil, h.addr⟩
/-- The cells of a row that is read. -/
theorem RowP.reads {P : Nat → Prop} {w : World} {p : Option Addr} {n c : Nat} {rs : List (MK × Value)} (h : RowP P w (.slice p n c) rs) : n = rs.length ∧ n ≤ c ∧ (0 < n → ∃ ad, p = some ad ∧ ∀ j u, (mkCells rs)[j]? = some u → w.cell? (ad.add j) = some u) ∧ (mkCells rs).length = n * 3 ∧ ∀ u ∈ mkCells rs, u.oneCell' = true := by
  obtain ⟨p', c', e, hl, hc, ha⟩ := h
  injection e with e1 e2 e3
  subst e1 e2 e3
  refine ⟨rfl, hl, fun h0 => ?_, mkCells_len rs, mkCells_one rs fun q hq => (ha q hq).one⟩
  obtain ⟨g, o, rfl, _⟩ := hc 0 h0
  refine ⟨_, rfl, fun j u hu => ?_⟩
  have hj : j < rs.length * 3 := by rw [← mkCells_len]; exact lt_of_some hu
  obtain ⟨g', o', e, _, _, h0, h1, h2⟩ := hc (j / 3) (by omega)
  injection e with e
  injection e with e4 e5
  subst e4 e5
  have hr := mkCells_at rs (j / 3) (j % 3) (by omega) (by omega)
  rw [show j / 3 * 3 + j % 3 = j by omega, hu] at hr
  rw [show (⟨g, o, none⟩ : Addr).add j = ⟨g, o + j, none⟩ by simp [Addr.add]]
  have hm : j % 3 = 0 ∨ j % 3 = 1 ∨ j % 3 = 2 := by omega
  rcases hm with hm | hm | hm
  · rw [hm] at hr
    rw [show o + j = o + j / 3 * 3 by omega, h0]
    exact hr.symm
  · rw [hm] at hr
    rw [show o + j = o + j / 3 * 3 + 1 by omega, h1]
    exact hr.symm
  · rw [hm] at hr
    rw [show o + j = o + j / 3 * 3 + 2 by omega, h2]
    exact hr.symm
set_option maxRecDepth 100000 in
/-- An append of a row that is read to a row of one's own, at a step of a region. -/
theorem step_append_any {ops : Array Oper} {o : Oper} {a : Act} {w : World} {K : Act → World → Prop} {Q : Exit → Act → World → Prop} {E : Prop} (hgd : o.guard = none) (s x : Operand)
    (ho : o.op = .call { callee := .builtin .append, args := #[s, x], argTypes := #[102, 102 ] }) (base : Nat)
    (v : Value) (n : Nat) (xs : List Value) (hs : a.eval s = v) (hown : w.ownsRow base 63 3 v n xs)
    (p : Option Addr) (m c : Nat) (news : List Value) (hx : a.eval x = .slice p m c) (hp : p = none → m = 0 ∧ c = 0) (hl : news.length = m * 3) (hnews : 0 < m → ∃ ad, p = some ad ∧ ∀ j u, news[j]? = some u → w.cell? (ad.add j) = some u) (h1 : ∀ u ∈ news, u.oneCell' = true)
    (hb : n + m ≤ 4294967296) (hbase : base ≤ w.heap.size)
    (h : ∀ v' w', w'.ownsRow base 63 3 v' (n + m) (xs ++ news) → w.grownBy w' v.ownBlock → K (a.put o.dst v') w') :
    if Region.wanted o (yielded ops a.tmps) = true then Oper.wp Try.prog o a w K Q else E := by
  have hw : Region.wanted o (yielded ops a.tmps) = true := by simp [Region.wanted, hgd]
  rw [if_pos hw]
  obtain ⟨i0, hi, hz, hsz, hby⟩ := info_mark
  cases p with
  | none =>
    obtain ⟨rfl, rfl⟩ := hp rfl
    have hn : news = [] := List.eq_nil_of_length_eq_zero (by omega)
    subst hn
    have hrun := run_append_owned_none (P := Try.prog) (w := w) base 102 o.type 63 i0 3 Try.underlying102 hi v n xs hown
    unfold Oper.wp
    simp [execOp, ho, resolve, invoke, builtin, hs, hx, hrun, Result.andThen]
    refine h v w ?_ ⟨rfl, rfl, rfl, Nat.le_refl _, fun _ _ _ => rfl⟩
    simpa using hown
  | some ad =>
    refine wp_append_own w s x 102 ho base 63 i0 _ 3 48 Try.underlying102 hi hz hsz hby rfl (by omega) v n xs hs hown ad m c news hx hl (fun j u hu => ?_) h1 (by unfold maxLen; omega) (by omega) hbase fun v' w' q1 q2 _ => h v' w' q1 q2
    have hm : 0 < m := by have := lt_of_some hu; omega
    obtain ⟨ad', e, hr⟩ := hnews hm
    injection e with e
    subst e
    exact hr j u hu
/-- An empty row of one's own. -/
theorem own_empty {w : World} {g base : Nat} (h : w.heap[g]? = some (.cells #[] 63 (0, 0))) (hb : base ≤ g) : w.ownsRow base 63 3 (.slice (some ⟨g, 0, none⟩) 0 0) 0 [] :=
  ⟨rfl, .inr ⟨g, 0, #[], rfl, hb, h, Nat.le_refl _, by unfold maxLen; omega, rfl, rfl⟩⟩
def NewP (P : Nat → Prop) (w w' : World) : Nat → Prop := fun b => P b ∨ (w.heap.size ≤ b ∧ b < w'.heap.size)
/-- Behind a call of the reference's. -/
def RStep (w : World) (B : Nat) (P : Nat → Prop) (S' : List MK) (w' : World) : Prop := RefM (NewP P w w') w' B S' ∧ Turns (fun b => b = B) w w'
/-- The new row stored. -/
theorem RefQ.laid {P : Nat → Prop} {w w' : World} {B : Nat} {v v' : Value} {rs rs' : List (MK × Value)} (h : RefQ P w B v rs) (hb : Below w.heap.size w w') (hr : w'.ownsRow w.heap.size 63 3 v' rs'.length (mkCells rs')) (ha : ∀ q ∈ rs', AttrsP P w' q.2 q.1.attrs) :
    RStep w B P (rs'.map (·.1)) (w'.setCell ⟨B, 0, none⟩ v') := by
  have h' := h.below hb
  have ht : Turns (fun b => b = B) w' (w'.setCell ⟨B, 0, none⟩ v') := (Turns.refl (fun b => b = B) w').setCell (B := B) (.inl rfl) 0 v'
  have hP : ∀ b, NewP P w (w'.setCell ⟨B, 0, none⟩ v') b → ¬ b = B := by
    rintro b (k | k) rfl
    · exact h.off k
    · exact absurd h.lt (by omega)
  have hrow : RowP (NewP P w (w'.setCell ⟨B, 0, none⟩ v')) w' v' rs' := by
    have hcells := hr
    rcases hr.2 with ⟨e, h0⟩ | ⟨g, cap, _, e, hg0, hg, hc, _⟩
    · have e0 : rs' = [] := List.eq_nil_of_length_eq_zero h0
      subst e0
      exact ⟨none, 0, e, Nat.le_refl _, fun j hj => absurd hj (by simp), fun q hq => absurd hq (by simp)⟩
    · subst e
      have hg1 := (hr.lt g rfl).2
      have key : ∀ j i (hj : j < rs'.length), i < 3 → w'.cell? ⟨g, 0 + j * 3 + i, none⟩ = (mkCell rs'[j])[i]? := by
        intro j i hj hi
        rw [show 0 + j * 3 + i = j * 3 + i by omega, hr.cellAt (j * 3 + i) (by omega), mkCells_at rs' j i hj hi]
      exact ⟨_, cap, rfl, hc, fun j hj => ⟨g, 0, rfl, .inr ⟨hg0, by simpa using hg1⟩, hg1, key j 0 hj (by omega), key j 1 hj (by omega), key j 2 hj (by omega)⟩, fun q hq => (ha q hq).mono fun b k _ => .inl k⟩
  refine ⟨⟨v', rs', rfl, ⟨by simpa using h'.lt, World.cell?_setCell_same _ _ _ h'.cell, by rw [World.frozen?_setCell]; exact h'.free, hrow.kept (ht.kept fun b _ k => hP b k), fun k => hP B k rfl, ?_, ?_⟩⟩, (Turns.of_below hb).trans (ht.mono fun b _ k => .inl k)⟩
  · intro n c e
    rcases hr.2 with ⟨e2, _⟩ | ⟨g, cap, _, e2, _⟩
    · rw [e2] at e
      injection e with _ _ e
      exact e.symm
    · rw [e2] at e
      cases e
  · intro ad n c e
    rcases hr.2 with ⟨e2, _⟩ | ⟨g, cap, _, e2, _⟩
    · rw [e2] at e
      cases e
    · rw [e2] at e
      injection e with e _ _
      injection e with e
      exact ⟨g, 0, e.symm⟩
end Go.Proofs.Ytbadckkcjjfnoaa
