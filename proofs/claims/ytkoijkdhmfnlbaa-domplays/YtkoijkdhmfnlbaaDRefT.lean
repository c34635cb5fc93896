/-
  The walk of the reference's Tree for nodes by numbers. Any nodes, not too many.
-/
import Derived.Test.YtkoijkdhmfnlbaaDRefL
import Derived.Test.YtkoijkdhmfnlbaaDRefS
import Derived.Test.YtkoijkdhmfnlbaaDAll
namespace Go.Proofs.Ytkoijkdhmfnlbaa
open Go.RowKit

/-- What Tree tells: a row of nodes, in new blocks but for what the Doc's nodes lead to. -/
def TreeOut6 (P : Nat → Prop) (f : Fo) (w : World) (e : Ending) (w' : World) : Prop := ∃ v, e = .returned v ∧ NodesP (fun b => P b ∨ w.heap.size ≤ b) w' v f ∧ Below w.heap.size w w'
theorem RefQ6.ptr0 {M P : Nat → Prop} {w : World} {B : Nat} {S : List Cl} {vN vU vR : Value} {qs : List (Nd × Value × Value)} {rv : List Value} (h : RefQ6 M P w B S vN vU vR qs rv) : w.cell? ⟨B, 0, none⟩ = some vN := by
  have hb1 := (block_cell6 (h.own.at_ (List.mem_singleton.2 rfl)) 0).1
  simpa using hb1
theorem RefQ6.cells {M P : Nat → Prop} {w : World} {B gN cN l i : Nat} {S : List Cl} {vU vR : Value} {qs : List (Nd × Value × Value)} {rv : List Value} (h : RefQ6 M P w B S (.slice (some ⟨gN, 0, none⟩) l cN) vU vR qs rv) (hi : i < S.length) :
    ∃ pa ca, Cells7 w gN (i * 7) S[i].d (.slice pa S[i].d.attrs.length ca) (.slice none 0 0) ∧ AttrsP P w (.slice pa S[i].d.attrs.length ca) S[i].d.attrs ∧ gN < w.heap.size := by
  have hn := h.own.rN
  have e0 : l = S.length := by
    rcases Joins.ownsRow_forms hn with ⟨k, _⟩ | ⟨g, c, e⟩
    · cases k
    · injection e
  subst e0
  obtain ⟨hq, hd⟩ := h.node i hi
  have key : ∀ k, k < 7 → w.cell? ⟨gN, i * 7 + k, none⟩ = (nodeCell qs[i])[k]? := by
    intro k hk
    rw [hn.cellAt (i * 7 + k) (by omega), nodeCells_at qs i k hq hk]
  have hA := (h.attrs qs[i] (List.getElem_mem hq)).1
  have e6 := (h.attrs qs[i] (List.getElem_mem hq)).2
  rw [hd] at hA
  obtain ⟨pa, ca, e3, hx⟩ := id hA
  refine ⟨pa, ca, ?_, by rw [← e3]; exact hA, (hn.lt gN rfl).2⟩
  have k3 := key 3 (by omega)
  have k6 := key 6 (by omega)
  rw [← hd]
  refine ⟨key 0 (by omega), key 1 (by omega), key 2 (by omega), ?_, key 4 (by omega), key 5 (by omega), ?_⟩
  · rw [k3]
    show some qs[i].2.1 = _
    rw [e3, hd]
  · rw [k6]
    show some qs[i].2.2 = _
    rw [e6]
theorem ndOf_at {S : List Cl} {k : Nat} (h : k < S.length) : ndOf S k = S[k].d := by
  unfold ndOf
  rw [List.getElem?_eq_getElem h]
set_option maxHeartbeats 4000000 in
set_option maxRecDepth 100000 in
theorem rtree_all (S : List Cl) (hh : Nat → Nat) (hi : InvH S hh) (B : Nat) (M P : Nat → Prop) (gN cN gU cU gR cR : Nat) (qs : List (Nd × Value × Value)) (rv : List Value) (hrow : ∀ c ∈ S, c.row.length ≤ 100000) :
    ∀ (m n : Nat) (w : World), hh n < m → n < S.length → RefQ6 M P w B S (.slice (some ⟨gN, 0, none⟩) S.length cN) (.slice (some ⟨gU, 0, none⟩) S.length cU) (.slice (some ⟨gR, 0, none⟩) S.length cR) qs rv → Calls Try.prog 26 #[.pointer (some ⟨B, 0, none⟩), .int .i64 (n : Int)] w (TreeOut6 P (treeF S m n) w)
  | 0, n, w, hn, _, _ => absurd hn (by omega)
  | m + 1, n, w, hn, hnl, h => by
    have IH := Lib.hid (rtree_all S hh hi B M P gN cN gU cU gR cR qs rv hrow m)
    have HQ := Lib.hid h
    have HPB := Lib.hid h.pin
    have HI := Lib.hid (ris_any S B w (n : Int) h.rdoc)
    rw [(isN_iff S (n : Int)).2 ⟨by omega, by omega⟩] at HI
    have hC0 := h.ptr0
    obtain ⟨_, hC2, hBlt⟩ := h.ptr
    have hrvl := h.rlen
    have hslen := h.len
    obtain ⟨vr, hvr⟩ : ∃ v, rv[n]? = some v := ⟨_, List.getElem?_eq_getElem (by omega)⟩
    obtain ⟨hcR, _, hRlt, hnum⟩ := h.rowOf hnl hvr
    have HD := Lib.hid (treeF_at (f := m) (List.getElem?_eq_getElem hnl))
    have hrl : S[n].row.length ≤ 100000 := hrow _ (List.getElem_mem hnl)
    have HIN : Hid (∀ k (hk : k < S[n].row.length), S[n].row[k] < S.length ∧ hh S[n].row[k] < m) := Lib.hid (fun k hk => by
      have q := hi.row_h (List.getElem?_eq_getElem hnl) (List.getElem_mem hk)
      exact ⟨q.1, by omega⟩)
    obtain ⟨p, cap, rfl, hlcap, hpnil, hnm⟩ := hnum
    have HNM := Lib.hid hnm
    generalize S[n].row = L at *
    obtain ⟨i0, hi0, hy0, hy1, hy2⟩ := info_node
    have HNI := Lib.hid (And.intro hi0 (And.intro hy0 (And.intro hy1 hy2)))
    have n0 : (0 : Int) ≤ (n : Int) := by omega
    have n1 : (n : Int) < (S.length : Int) := by omega
    have HC0 := Lib.hid hC0
    have HC2 := Lib.hid hC2
    have HCR := Lib.hid hcR
    clear h hnm hvr hi0 hy0 hy1 hy2 hn hi hrow
    go_enter Try.func26, Try.ntmps26
    go_wp2_with fail
    refine HI.out.mono ?_
    rintro e w1 ⟨rfl, rfl⟩
    clear HI
    go_wp2_with fail
    clear hC0 hC2 hcR
    go_loopw [5, 6] (fun u i wr => ∃ (k : Nat) (qq : List ((Nd × Value × Value) × Fo)) (vp : Option Addr) (vc : Nat), k ≤ L.length ∧ qq.length = k ∧ i = .int .i64 (k : Int) ∧ u = .slice vp qq.length vc ∧ qq.map (fun q => (q.1.1, q.2)) = (L.take k).map (fun j => (ndOf S j, treeF S m j)) ∧ RowN (fun b => P b ∨ w.heap.size ≤ b) w (.slice vp qq.length vc) qq wr) (fun _ i _ => L.length - (intOf i).toNat)
    case atStart => exact ⟨0, [], none, 0, Nat.zero_le _, rfl, rfl, rfl, rfl, RowN.start _ w⟩
    case round =>
      obtain ⟨k, qq, vp, vc, hk, hqk, rfl, rfl, hd, hW⟩ := hrel
      have HW := Lib.hid hW
      have HDD := Lib.hid hd
      have HQK := Lib.hid hqk
      have hbw := hW.below
      have hsz := hbw.size
      have hC2 := (hbw.cell (p := ⟨B, 2, none⟩) hBlt).trans HC2.out
      have hcR := (hbw.cell (p := ⟨gR, n, none⟩) hRlt).trans HCR.out
      have hq100 : qq.length ≤ 100000 := by omega
      by_cases hlt : k < L.length
      · obtain ⟨hx1, hx2⟩ := HIN.out k hlt
        cases p with
        | none => exact absurd (hpnil rfl) (by omega)
        | some ad =>
          obtain ⟨g, o, s⟩ := ad
          obtain ⟨rfl, _, hglt, hcell⟩ := HNM.out g o s rfl
          have hck := (hbw.cell (p := ⟨g, o + k, none⟩) hglt).trans (hcell k hlt)
          have HQR := Lib.hid (HQ.out.on hbw)
          have hC0 := HQR.out.ptr0
          have HNX : Hid (L.take (k + 1) = L.take k ++ [L[k]]) := Lib.hid (by rw [List.take_add_one, List.getElem?_eq_getElem hlt]; rfl)
          generalize L[k] = x at *
          obtain ⟨pa, ca, h7, hva, hgN⟩ := HQR.out.cells hx1
          have HND := Lib.hid (ndOf_at hx1)
          generalize S[x].d = d at *
          have HVA := Lib.hid hva
          obtain ⟨c0, c1, c2, c3, c4, c5, c6⟩ := h7
          have x0 : (0 : Int) ≤ (x : Int) := by omega
          have x1 : (x : Int) < (S.length : Int) := by omega
          have k0 : (0 : Int) ≤ (k : Int) := by omega
          have k1 : (k : Int) < (L.length : Int) := by omega
          clear hva hcell hd hW hqk
          go_wp2_with fail
          have hBr : B < wr.heap.size := by omega
          have hRr : gR < wr.heap.size := by omega
          have hgr : g < wr.heap.size := by omega
          have hS7 : ∀ W, Below wr.heap.size wr W → W.cell? ⟨B, 0, none⟩ = some (.slice (some ⟨gN, 0, none⟩) S.length cN) ∧ W.cell? ⟨B, 2, none⟩ = some (.slice (some ⟨gR, 0, none⟩) S.length cR) ∧ W.cell? ⟨gR, n, none⟩ = some (.slice (some ⟨g, o, none⟩) L.length cap) ∧ W.cell? ⟨g, o + k, none⟩ = some (.int .i64 (x : Int)) ∧ W.cell? ⟨gN, x * 7, none⟩ = some (.int .i64 d.kind) ∧ W.cell? ⟨gN, x * 7 + 1, none⟩ = some (.int .i64 d.space) ∧ W.cell? ⟨gN, x * 7 + 2, none⟩ = some (.string ⟨d.name.toArray⟩) ∧ W.cell? ⟨gN, x * 7 + 3, none⟩ = some (.slice pa d.attrs.length ca) ∧ W.cell? ⟨gN, x * 7 + 4, none⟩ = some (.string ⟨d.text.toArray⟩) ∧ W.cell? ⟨gN, x * 7 + 5, none⟩ = some (.int .i64 d.frm) ∧ W.cell? ⟨gN, x * 7 + 6, none⟩ = some (.slice none 0 0) := fun W hb => ⟨(hb.cell (p := ⟨B, 0, none⟩) hBr).trans hC0, (hb.cell (p := ⟨B, 2, none⟩) hBr).trans hC2, (hb.cell (p := ⟨gR, n, none⟩) hRr).trans hcR, (hb.cell (p := ⟨g, o + k, none⟩) hgr).trans hck, (hb.cell (p := ⟨gN, x * 7, none⟩) hgN).trans c0, (hb.cell (p := ⟨gN, x * 7 + 1, none⟩) hgN).trans c1, (hb.cell (p := ⟨gN, x * 7 + 2, none⟩) hgN).trans c2, (hb.cell (p := ⟨gN, x * 7 + 3, none⟩) hgN).trans c3, (hb.cell (p := ⟨gN, x * 7 + 4, none⟩) hgN).trans c4, (hb.cell (p := ⟨gN, x * 7 + 5, none⟩) hgN).trans c5, (hb.cell (p := ⟨gN, x * 7 + 6, none⟩) hgN).trans c6⟩
          clear c0 c1 c2 c3 c4 c5 c6
          refine rtree6_reg (x := x) hS7 hnl hlt hx1 ?_
          intro y25 y26 y27 y28 y29 y30 y31 y32 y33 y34 y35 y36 y37 y38 y39 y40 w3 hb3 hblk hs3
          have HB3 := Lib.hid hb3
          have hC23 := (hb3.cell (p := ⟨B, 2, none⟩) hBr).trans hC2
          have hcR3 := (hb3.cell (p := ⟨gR, n, none⟩) hRr).trans hcR
          have hck3 := (hb3.cell (p := ⟨g, o + k, none⟩) hgr).trans hck
          clear hC0 hC2 hcR hck hS7 hb3 hbw
          go_wp2_with fail
          refine (IH.out x w3 hx2 hx1 (HQR.out.on HB3.out)).mono ?_
          rintro e w4 ⟨v4, rfl, hN4, b4⟩
          have hblk4 := (b4.block wr.heap.size (by omega)).trans hblk
          have d0 : w4.cell? ⟨wr.heap.size, 0, none⟩ = some (.int .i64 d.kind) := (block_cell6 hblk4 0).1
          have d1 : w4.cell? ⟨wr.heap.size, 1, none⟩ = some (.int .i64 d.space) := (block_cell6 hblk4 1).1
          have d2 : w4.cell? ⟨wr.heap.size, 2, none⟩ = some (.string ⟨d.name.toArray⟩) := (block_cell6 hblk4 2).1
          have d3 : w4.cell? ⟨wr.heap.size, 3, none⟩ = some (.slice pa d.attrs.length ca) := (block_cell6 hblk4 3).1
          have d4 : w4.cell? ⟨wr.heap.size, 4, none⟩ = some (.string ⟨d.text.toArray⟩) := (block_cell6 hblk4 4).1
          have d5 : w4.cell? ⟨wr.heap.size, 5, none⟩ = some (.int .i64 d.frm) := (block_cell6 hblk4 5).1
          have d6 : w4.cell? ⟨wr.heap.size, 6, none⟩ = some (.slice none 0 0) := (block_cell6 hblk4 6).1
          have f6 : w4.frozen? ⟨wr.heap.size, 6, none⟩ = false := (block_cell6 hblk4 6).2
          have hs4 : wr.heap.size < w4.heap.size := by have := b4.size; omega
          have HN4 := Lib.hid hN4
          obtain ⟨p4, c4q, rfl, _⟩ := hN4
          have HB4 : Hid (Below wr.heap.size wr w4) := Lib.hid (HB3.out.trans (b4.mono HB3.out.size))
          generalize hF4 : treeF S m x = f4 at *
          have HF4 := Lib.hid hF4
          have hsz3 : wr.heap.size ≤ w3.heap.size := HB3.out.size
          clear hblk4 hF4 b4 hC23 hcR3 hck3 hblk
          obtain ⟨W5, hW5⟩ : ∃ W5, W5 = (w4.setCell ⟨wr.heap.size, 6, none⟩ (.slice p4 f4.len c4q)).alloc (.cells #[.int .i64 d.kind, .int .i64 d.space, .string ⟨d.name.toArray⟩, .slice pa d.attrs.length ca, .string ⟨d.text.toArray⟩, .int .i64 d.frm, .slice p4 f4.len c4q] 43) := ⟨_, rfl⟩
          have hB5 : Below wr.heap.size wr W5 := by rw [hW5]; exact ((HB4.out.setCell (Nat.le_refl _) _).alloc (by simp; omega) _)
          have HW5 := Lib.hid (HW.out.on hB5)
          have hK5 : Kept (fun b => P b ∨ w3.heap.size ≤ b) w4 W5 := by
            rw [hW5]
            refine ⟨by simp, fun b hb hlt => ?_⟩
            have hne : b ≠ wr.heap.size := by
              rcases hb with h | h
              · have := HPB.out b h; omega
              · omega
            rw [Below.heap_alloc _ _ _ (by simpa using hlt), Below.heap_setCell _ _ _ _ hne]
          have HN5 := Lib.hid (HN4.out.kept hK5)
          have HV5 := Lib.hid (HVA.out.kept (.of_below hB5))
          have HS5 : Hid (W5.heap.size = w4.heap.size + 1) := Lib.hid (by rw [hW5]; simp)
          have HE5 := Lib.hid hW5
          have hsz5 : w.heap.size ≤ W5.heap.size := by have := hB5.size; omega
          have HNEW : Hid (W5.heap[w4.heap.size]? = some (.cells #[.int .i64 d.kind, .int .i64 d.space, .string ⟨d.name.toArray⟩, .slice pa d.attrs.length ca, .string ⟨d.text.toArray⟩, .int .i64 d.frm, .slice p4 f4.len c4q] 43)) := Lib.hid (by rw [hW5]; have := heap_alloc_new (w4.setCell ⟨wr.heap.size, 6, none⟩ (.slice p4 f4.len c4q)) (.cells #[.int .i64 d.kind, .int .i64 d.space, .string ⟨d.name.toArray⟩, .slice pa d.attrs.length ca, .string ⟨d.text.toArray⟩, .int .i64 d.frm, .slice p4 f4.len c4q] 43); simpa using this)
          clear hB5 hK5
          go_wp2_with (first
            | (at_builtin; rw [← hW5]; refine wpList_append_lies _ rfl _ _ 31 rfl w.heap.size 43 i0 (.agg #[.int .i64 0, .int .i64 0, .string ByteArray.empty, .slice none 0 0, .string ByteArray.empty, .int .i64 0, .slice none 0 0]) 7 104 Try.underlying31 HNI.out.1 HNI.out.2.1 HNI.out.2.2.1 HNI.out.2.2.2 rfl (by omega) (.slice vp qq.length vc) qq.length (nodeCells (qq.map (·.1))) rfl HW5.out.row ⟨w4.heap.size, 0, none⟩ 1 1 [.int .i64 d.kind, .int .i64 d.space, .string ⟨d.name.toArray⟩, .slice pa d.attrs.length ca, .string ⟨d.text.toArray⟩, .int .i64 d.frm, .slice p4 f4.len c4q] rfl rfl (World.news_of_block (cs := #[.int .i64 d.kind, .int .i64 d.space, .string ⟨d.name.toArray⟩, .slice pa d.attrs.length ca, .string ⟨d.text.toArray⟩, .int .i64 d.frm, .slice p4 f4.len c4q]) HNEW.out) (by simp [Value.oneCell']) (by omega) (by unfold maxLen; omega) (by omega) hsz5 _ rfl ?_)
            | go_in)
          intro g6 cap6 w6 hr6 hg6 hor6 hlt6
          rw [← hW5] at hg6
          have hob : ∀ b, some b = (Value.slice vp qq.length vc).ownBlock → w.heap.size ≤ b ∧ b < wr.heap.size := fun b e => HW.out.row.lt b e.symm
          have HW6 := Lib.hid (HW5.out.more (q := ((d, .slice pa d.attrs.length ca, .slice p4 f4.len c4q), f4)) (HV5.out.mono fun b hb _ => ⟨Or.inl hb, fun e => by have := (hob b e).1; have := HPB.out b hb; omega⟩) (HN5.out.mono fun b hb _ => by
              refine ⟨?_, fun e => ?_⟩
              · rcases hb with h | h
                · exact Or.inl h
                · exact Or.inr (by omega)
              · have h1 := hob b e
                rcases hb with h | h
                · have := HPB.out b h; omega
                · omega) hg6 (by simp only [nodeCell]; exact hr6) (by rw [HS5.out]; exact hor6))
          clear hr6 hg6 hor6 hlt6 hob
          go_wp2_with fail
          refine ⟨⟨k + 1, qq ++ [((d, .slice pa d.attrs.length ca, .slice p4 f4.len c4q), f4)], some ⟨g6, 0, none⟩, cap6, by omega, by rw [List.length_append, HQK.out]; rfl, by go_num, by rw [List.length_append]; rfl, ?_, by rw [List.length_append]; exact HW6.out⟩, by simp [intOf]; omega⟩
          rw [List.map_append, HDD.out, HNX.out, List.map_append]
          simp only [List.map_cons, List.map_nil, HND.out, HF4.out]
      · have hkL : k = L.length := by omega
        have h99 : ¬ ((k : Int) < (L.length : Int)) := by omega
        go_wp2_with fail
        go_ret
        refine ⟨.slice vp L.length vc, rfl, ?_, HW.out.below⟩
        have hdd := HDD.out
        rw [hkL, List.take_length] at hdd
        have ht := HW.out.told (fun b hb => Or.inr hb)
        rw [HQK.out, hkL, hdd] at ht
        rw [HD.out]
        exact ht
theorem rtreeP6 (S : List Cl) (B : Nat) (M P : Nat → Prop) (w : World) (n : Nat) (m : Nat) (hh : Nat → Nat) (h : RefD M P w B S) (hi : InvH S hh) (hm : hh n < m) (hn : n < S.length) (hrow : ∀ c ∈ S, c.row.length ≤ 100000) :
    Calls Try.prog 26 #[.pointer (some ⟨B, 0, none⟩), .int .i64 (n : Int)] w (TreeOut6 P (treeF S m n) w) := by
  obtain ⟨vN, vU, vR, qs, rv, hq⟩ := h
  obtain ⟨gN, cN, gU, cU, gR, cR, rfl, rfl, rfl⟩ := hq.forms
  exact rtree_all S hh hi B M P gN cN gU cU gR cR qs rv hrow m n w hm hn hq
end Go.Proofs.Ytkoijkdhmfnlbaa
