/-
  The walks of the reference's At, Wall for marks. Any marks, not too many.
-/
import Derived.Test.YtbadckkcjjfnoaaMR3
namespace Go.Proofs.Ytbadckkcjjfnoaa
open Go.RowKit

/-- What the reference's At tells. -/
def AtR (P : Nat → Prop) (S : List MK) (i : Int) (w : World) (e : Ending) (w' : World) : Prop :=
  (mHas S i = false ∧ e = .returned (.tuple #[markV mZero (.slice none 0 0), .bool false]) ∨
    mHas S i = true ∧ ∃ p c, e = .returned (.tuple #[markV (S.getD i.toNat mZero) (.slice p (S.getD i.toNat mZero).attrs.length c), .bool true]) ∧ AttrsP P w' (.slice p (S.getD i.toNat mZero).attrs.length c) (S.getD i.toNat mZero).attrs) ∧ Below w.heap.size w w'
set_option maxHeartbeats 1000000 in
set_option maxRecDepth 100000 in
theorem ratP (S : List MK) (B : Nat) (P : Nat → Prop) (w : World) (i : Int) (h : RefM P w B S) (hs : S.length ≤ 4294967296) :
    Calls Try.prog 99 #[.pointer (some ⟨B, 0, none⟩), .int .i64 i] w (AtR P S i w) := by
  obtain ⟨W1, hW1⟩ : ∃ W1, W1 = w.alloc (.cells #[.int .i64 0, .string ⟨#[]⟩, .slice none 0 0] 63) := ⟨_, rfl⟩
  have b1 : Below w.heap.size w W1 := by rw [hW1]; exact (Below.refl _ w).alloc (Nat.le_refl _) _
  have hx1 : W1.heap[w.heap.size]? = some (.cells #[.int .i64 0, .string ⟨#[]⟩, .slice none 0 0] 63 (0, 0)) := by rw [hW1]; exact heap_alloc_new w _
  have HW1 := Lib.hid hW1
  obtain ⟨v, qs, rfl, hq0⟩ := h
  have hq := hq0.below b1
  have HH := Lib.hid (risP (qs.map (·.1)) B P W1 i ⟨v, qs, rfl, hq⟩)
  have HB1 := Lib.hid b1
  have HX1 := Lib.hid hx1
  have z0 := (block_cell hx1 0).2
  have z1 := (block_cell hx1 1).2
  have z2 := (block_cell hx1 2).2
  have y0 := (block_cell hx1 0).1
  have y1 := (block_cell hx1 1).1
  have y2 := (block_cell hx1 2).1
  simp at y0 y1 y2
  have ys := heap_lt hx1
  rw [List.length_map] at hs
  by_cases c : mHas (qs.map (·.1)) i = true
  · have hc : 0 ≤ i ∧ i < qs.length := by unfold mHas at c; simpa using c
    have HMH := Lib.hid c
    rw [c] at HH
    obtain ⟨k, hk⟩ : ∃ k : Nat, k = i.toNat := ⟨_, rfl⟩
    obtain rfl : i = (k : Int) := by omega
    have hkl : k < qs.length := by omega
    obtain ⟨p, cap, rfl, hr⟩ := hq.reads
    obtain ⟨g, o, rfl, sg, r0, r1, r2⟩ := hr k hkl
    have c0 := hq.cell
    have s0 := hq.lt
    have hat := (hq0.row.attrs qs[k] (List.getElem_mem hkl)).mono (Q := fun b => P b ∧ b < w.heap.size) (fun b k hb => ⟨k, hb⟩)
    have HGD : Hid ((qs.map (·.1)).getD ((k : Int)).toNat mZero = qs[k].1) := Lib.hid (by rw [show ((k : Int)).toNat = k by omega]; exact fst_getD hkl)
    obtain ⟨x, hxx⟩ : ∃ x, x = qs[k].1 := ⟨_, rfl⟩
    obtain ⟨va, hva⟩ : ∃ va, va = qs[k].2 := ⟨_, rfl⟩
    rw [← hxx] at hat HGD r0 r1
    rw [← hva] at hat r2
    obtain ⟨pa, ca, rfl, hat2⟩ := id hat
    obtain ⟨NM, hNM⟩ : ∃ NM : ByteArray, NM = (⟨x.name.toArray⟩ : ByteArray) := ⟨_, rfl⟩
    rw [← hNM] at r1
    have HNM := Lib.hid hNM
    have HAT := Lib.hid hat
    have j0 : (0 : Int) ≤ (k : Int) := by omega
    have j1 : (k : Int) < (qs.length : Int) := by omega
    clear hq hq0 hr hW1 hx1 c hk b1 hat hat2 hxx hva hNM
    go_enter Try.func99, Try.ntmps99
    go_wp2_with fail
    rw [← HW1.out]
    refine HH.out.mono ?_
    rintro e w1 ⟨rfl, rfl⟩
    go_wp2_with fail
    have hb4 := set3 (w3 := W1) (g := w.heap.size) (.int .i64 x.node) (.string NM) (.slice pa x.attrs.length ca) HX1.out
    have q0 := (block_cell hb4 0).1
    have q1 := (block_cell hb4 1).1
    have q2 := (block_cell hb4 2).1
    simp at q0 q1 q2
    have HBW : Hid (Below w.heap.size w (((W1.setCell ⟨w.heap.size, 0, none⟩ (.int .i64 x.node)).setCell ⟨w.heap.size, 1, none⟩ (.string NM)).setCell ⟨w.heap.size, 2, none⟩ (.slice pa x.attrs.length ca))) := by
      refine Lib.hid ?_
      iterate 3 refine Below.setCell ?_ (by simp) _
      exact HB1.out
    have HE : Hid (AtR P (qs.map (·.1)) (k : Int) w (.returned (.tuple #[.agg #[.int .i64 x.node, .string NM, .slice pa x.attrs.length ca], .bool true])) (((W1.setCell ⟨w.heap.size, 0, none⟩ (.int .i64 x.node)).setCell ⟨w.heap.size, 1, none⟩ (.string NM)).setCell ⟨w.heap.size, 2, none⟩ (.slice pa x.attrs.length ca))) := by
      refine Lib.hid ⟨.inr ⟨HMH.out, pa, ca, ?_, ?_⟩, ?_⟩
      · rw [HGD.out, HNM.out]; rfl
      · rw [HGD.out]
        exact (HAT.out.kept (.of_below HBW.out)).mono fun b k _ => k.1
      · exact HBW.out
    exact bodyPost_ret (v := .tuple #[.agg #[.int .i64 x.node, .string NM, .slice pa x.attrs.length ca], .bool true]) (by simp [results, Try.results99, go_sem, *]) rfl HE.out
  · have c' : mHas (qs.map (·.1)) i = false := by simpa using c
    have HC := Lib.hid c'
    rw [c'] at HH
    clear hq hq0 hW1 hx1 c c' b1
    go_enter Try.func99, Try.ntmps99
    go_wp2_with fail
    rw [← HW1.out]
    refine HH.out.mono ?_
    rintro e w1 ⟨rfl, rfl⟩
    go_wp2_with fail
    have hb4 := set3 (w3 := W1) (g := w.heap.size) (.int .i64 0) (.string ⟨#[]⟩) (.slice none 0 0) HX1.out
    have q0 := (block_cell hb4 0).1
    have q1 := (block_cell hb4 1).1
    have q2 := (block_cell hb4 2).1
    simp at q0 q1 q2
    refine bodyPost_ret (v := .tuple #[.agg #[.int .i64 0, .string ⟨#[]⟩, .slice none 0 0], .bool false]) (by simp [results, Try.results99, go_sem, *]) rfl ⟨.inl ⟨HC.out, rfl⟩, ?_⟩
    iterate 3 refine Below.setCell ?_ (by simp) _
    exact HB1.out

theorem wpList_append_row {ops : Array Oper} {rest : List Oper} {o : Oper} {a : Act} {w : World} {Q : Exit → Act → World → Prop} (hgd : o.guard = none) (s x : Operand)
    (ho : o.op = .call { callee := .builtin .append, args := #[s, x], argTypes := #[102, 102 ] }) (base : Nat) (es : List (MK × Value))
    (v : Value) (hs : a.eval s = v) (hown : w.ownsRow base 63 3 v es.length (mkCells es)) (P : Nat → Prop)
    (p : Option Addr) (m c : Nat) (ms : List (MK × Value)) (hx : a.eval x = .slice p m c) (hp : p = none → m = 0 ∧ c = 0) (hrow : RowP P w (.slice p m c) ms)
    (hb : es.length + ms.length ≤ 4294967296) (hbase : base ≤ w.heap.size)
    (h : ∀ v' w', w'.ownsRow base 63 3 v' (es ++ ms).length (mkCells (es ++ ms)) → w.grownBy w' v.ownBlock → wpList Try.prog ops Q rest (a.put o.dst v') w') : wpList Try.prog ops Q (o :: rest) a w :=
  wpList_plain hgd fun K hK => by
    have := step_append_row (ops := ops) (K := K) (Q := Q) (E := True) hgd s x ho base es v hs hown P p m c ms hx hp hrow hb hbase (fun v' w' q1 q2 => hK _ _ (h v' w' q1 q2))
    rw [if_pos (by simp [Region.wanted, hgd])] at this
    exact this
/-- A row of one mark in a new block. -/
theorem RowP.one {P : Nat → Prop} {w : World} {g : Nat} {x : MK} {va : Value} (h : w.heap[g]? = some (.cells #[.int .i64 x.node, .string ⟨x.name.toArray⟩, va] 63 (0, 0))) (ha : AttrsP P w va x.attrs) : RowP (fun b => P b ∨ b = g) w (.slice (some ⟨g, 0, none⟩) 1 1) [(x, va)] := by
  refine ⟨_, 1, rfl, Nat.le_refl _, fun j hj => ?_, fun q hq => ?_⟩
  · obtain rfl : j = 0 := by simpa using hj
    exact ⟨g, 0, rfl, .inr rfl, heap_lt h, (block_cell h 0).1, (block_cell h 1).1, (block_cell h 2).1⟩
  · rw [List.mem_singleton.1 hq]
    exact ha.mono fun b k _ => .inl k
set_option maxHeartbeats 2000000 in
set_option maxRecDepth 100000 in
theorem rmwallP (S : List MK) (B : Nat) (P : Nat → Prop) (w : World) (h : RefM P w B S) (hs : S.length ≤ 100000000) : Calls Try.prog 29 #[.pointer (some ⟨B, 0, none⟩)] w (fun e w' => e = .returned (.tuple #[]) ∧ RStep w B P (S ++ [mWall]) w') := by
  obtain ⟨v, rs, rfl, hq⟩ := h
  rw [List.length_map] at hs
  obtain ⟨p, cap, rfl, hcap, hnil⟩ := hq.form
  have HQ := Lib.hid hq
  have h0 := hq.cell
  have hB := hq.lt
  have b0 : Below w.heap.size w (w.alloc (.cells #[] 63)) := (Below.refl _ w).alloc (Nat.le_refl _) _
  have HB0 := Lib.hid b0
  have HOW : Hid ((w.alloc (.cells #[] 63)).ownsRow w.heap.size 63 3 (.slice (some ⟨w.heap.size, 0, none⟩) 0 0) ([] : List (MK × Value)).length (mkCells [])) := Lib.hid (own_empty (heap_alloc_new w _) (Nat.le_refl _))
  have HRO := Lib.hid (hq.below b0).row
  have hp : p = none → rs.length = 0 ∧ cap = 0 := fun e => by have := hnil e; omega
  have HP := Lib.hid hp
  have HSL : Hid (([] : List (MK × Value)).length + rs.length ≤ 4294967296) := Lib.hid (by rw [List.length_nil]; omega)
  have HSM : Hid (([] ++ rs : List (MK × Value)).length + [(mWall, (Value.slice none 0 0 : Value))].length ≤ 4294967296) := Lib.hid (by simp; omega)
  have hs0 : w.heap.size ≤ (w.alloc (.cells #[] 63)).heap.size := by simp
  clear hq b0 hp
  go_enter Try.func29, Try.ntmps29
  go_wp2_with (first
    | (at_builtin; refine wpList_append_row rfl (.tmp 3) (.tmp 7) rfl w.heap.size [] _ (by rfl) HOW.out P _ _ _ rs (by rfl) HP.out HRO.out HSL.out hs0 ?_; intro v1 w1 hr1 hg1; obtain ⟨pp1, ll1, cc1, rfl⟩ := own_slice hr1; obtain ⟨b1, c1, f1, s1⟩ := RefQ.grown HQ.out HB0.out HOW.out hg1; have HR1 := Lib.hid (hr1.alloc (.cells #[.int .i64 (-1), .string ⟨#[]⟩, .slice none 0 0] 63)); have HB1 := Lib.hid (b1.alloc b1.size (.cells #[.int .i64 (-1), .string ⟨#[]⟩, .slice none 0 0] 63)); have HX1 := Lib.hid (heap_alloc_new w1 (.cells #[.int .i64 (-1), .string ⟨#[]⟩, .slice none 0 0] 63)); clear hr1 hg1 b1)
    | (at_builtin; refine wpList_append_row rfl (.tmp 8) (.tmp 10) rfl w.heap.size ([] ++ rs) _ (by rfl) HR1.out (fun b => False ∨ b = w1.heap.size) _ _ _ [(mWall, (Value.slice none 0 0 : Value))] (by rfl) (fun e => by cases e) (RowP.one (x := mWall) HX1.out (AttrsP.nil _ _ _ _)) HSM.out HB1.out.size ?_; intro v2 w2 hr2 hg2; obtain ⟨pp2, ll2, cc2, rfl⟩ := own_slice hr2; obtain ⟨b2, c2, f2, s2⟩ := RefQ.grown HQ.out HB1.out HR1.out hg2; have HR2 := Lib.hid hr2; have HB2 := Lib.hid b2; clear hr2 hg2 b2)
    | fail)
  have h := RefQ.laid HQ.out HB2.out HR2.out (fun q hm => by
    rcases List.mem_append.1 hm with hm | hm
    · exact (HQ.out.below HB2.out).row.attrs q (by simpa using hm)
    · rw [List.mem_singleton.1 hm]
      exact AttrsP.nil _ _ _ _)
  rw [show ((([] ++ rs ++ [(mWall, (Value.slice none 0 0 : Value))] : List (MK × Value))).map (·.1)) = rs.map (·.1) ++ [mWall] by simp] at h
  exact bodyPost_end (results_none rfl _ _ _) rfl ⟨rfl, h⟩
end Go.Proofs.Ytbadckkcjjfnoaa
