/-
  The walks of the reference's number, Number. Any nodes, not too many.
-/
import Derived.Test.YtppcgcmhecagbaaDText
namespace Go.Proofs.Ytppcgcmhecagbaa
open Go.RowKit

/-- What number tells: nodes, and the next number. -/
def NumOut (P : Nat → Prop) (T : Fo × Int) (w : World) (e : Ending) (w' : World) : Prop := ∃ v, e = .returned (.tuple #[v, .int .i64 T.2]) ∧ NodesP (fun b => P b ∨ w.heap.size ≤ b) w' v T.1 ∧ Below w.heap.size w w'

theorem number_app (d : Nd) (k r : Fo) (n : Int) (f0 : Fo) : f0.app ((Fo.cons d k r).number n).1 = (f0.app (.cons (Fo.numD d n) (k.number (Fo.numN d n)).1 .nil)).app (r.number (k.number (Fo.numN d n)).2).1 := by
  rw [Fo.app_assoc]
  rfl

set_option maxHeartbeats 1000000 in
set_option maxRecDepth 100000 in
theorem rnumber_all : ∀ (n : Nat) (f : Fo) (P : Nat → Prop) (v : Value) (z : Int) (w : World), f.wt < n → f.wt ≤ 4294967296 → 0 ≤ z → z + f.wt ≤ 1152921504606846976 → NodesP P w v f → (∀ b, P b → b < w.heap.size) → Calls Try.prog 61 #[v, .int .i64 z] w (NumOut P (f.number z) w)
  | 0, f, P, v, z, w, hn, _, _, _, _, _ => absurd hn (by omega)
  | n + 1, f, P, v, z, w, hn, hs, hz0, hz1, h, hP => by
    have IH := Lib.hid (rnumber_all n)
    obtain ⟨p, cap, rfl, ht⟩ := h
    have HT := Lib.hid ht
    have HPB := Lib.hid hP
    have hl := Fo.len_le f
    obtain ⟨i0, hi, hy0, hy1, hy2⟩ := info_node
    have HI := Lib.hid (And.intro hi (And.intro hy0 (And.intro hy1 hy2)))
    clear ht hi hy0 hy1 hy2 hP
    go_enter Try.func61, Try.ntmps61
    go_wp2
    go_loopw [1, 6, 7] (fun m u i wr => ∃ (k : Nat) (r : Fo) (y : Int) (qs : List ((Nd × Value × Value) × Fo)) (vp : Option Addr) (vc : Nat), k + r.len = f.len ∧ qs.length = k ∧ r.wt ≤ f.wt ∧ i = .int .i64 (k : Int) ∧ u = .slice vp qs.length vc ∧ m = .int .i64 y ∧ 0 ≤ y ∧ y + r.wt ≤ z + f.wt ∧ (f.number z).1 = (Fo.ofList (qs.map fun q => (q.1.1, q.2))).app (r.number y).1 ∧ (f.number z).2 = (r.number y).2 ∧ NodesTail P wr p r k ∧ RowN (fun b => P b ∨ w.heap.size ≤ b) w (.slice vp qs.length vc) qs wr) (fun _ _ i _ => f.len - (intOf i).toNat)
    case atStart => exact ⟨0, f, z, [], none, 0, by omega, rfl, Nat.le_refl _, rfl, rfl, rfl, hz0, by omega, rfl, rfl, HT.out, RowN.start _ w⟩
    case round =>
      obtain ⟨k, r, y, qs, vp, vc, hk, hqk, hr, rfl, rfl, rfl, hy0, hy1, hd, hd2, hT, hW⟩ := hrel
      have HD := Lib.hid hd
      have HD2 := Lib.hid hd2
      have HW := Lib.hid hW
      have hqs : qs.length ≤ f.wt := by omega
      have HQK := Lib.hid hqk
      clear hd hd2 hW HT hqk
      cases r with
      | nil =>
        have hk' : k = f.len := by simpa [Fo.len] using hk
        subst hk'
        go_wp2
        go_ret2
        refine ⟨.slice vp qs.length vc, ?_, ?_, HW.out.below⟩
        · rw [HD2.out]
          rfl
        · rw [HD.out]
          simp only [Fo.number, Fo.app_nil]
          exact HW.out.told (fun b hb => Or.inr hb)
      | cons d kd r' =>
        obtain ⟨g, o, va, vk, rfl, hPg, hg, h7, hva, hkd, htl'⟩ := hT.head
        obtain ⟨c0, c1, c2, c3, c4, c5, c6⟩ := h7
        have HKD := Lib.hid hkd
        have HVA := Lib.hid hva
        have HTL := Lib.hid htl'
        obtain ⟨pk, ck, hvk, _⟩ := hkd
        obtain ⟨pa, ca, hva', _⟩ := hva
        subst hvk hva'
        simp only [Fo.wt, Fo.len] at hr hk hy1
        have hkl : k < f.len := by omega
        have k0 : (0 : Int) ≤ (k : Int) := by omega
        have k1 : (k : Int) < (f.len : Int) := by omega
        have hsz := HW.out.below.size
        clear hT htl'
        by_cases hk2 : d.kind = 2
        · have q2 : (d.kind == 2) = true := by simp [hk2]
          have e1 : Fo.numD d y = { d with frm := y } := by simp [Fo.numD, hk2]
          have e2 : Fo.numN d y = y + 1 := by simp [Fo.numN, hk2]
          have E1 := Lib.hid e1
          have E2 := Lib.hid e2
          clear hk2 e1 e2
          have hZ := Fo.number_le kd (y + 1)
          have hB0 : Below wr.heap.size wr (wr.alloc (.cells #[.int .i64 d.kind, .int .i64 d.space, .string ⟨d.name.toArray⟩, .slice pa d.attrs.length ca, .string ⟨d.text.toArray⟩, .int .i64 y, .slice pk kd.len ck] 49)) := (Below.refl _ wr).alloc (Nat.le_refl _) _
          have HB0 := Lib.hid hB0
          clear hB0
          go_wp2_with fail
          refine (IH.out kd P _ (y + 1) (wr.alloc (.cells #[.int .i64 d.kind, .int .i64 d.space, .string ⟨d.name.toArray⟩, .slice pa d.attrs.length ca, .string ⟨d.text.toArray⟩, .int .i64 y, .slice pk kd.len ck] 49)) (by omega) (by omega) (by omega) (by omega) (HKD.out.kept (.of_below HB0.out)) (fun b hb => by have := HPB.out b hb; simp; omega)).mono ?_
          rintro e w4 ⟨v4, rfl, hN4, b4⟩
          have HC := Lib.hid (fun j => (b4.cell (p := ⟨wr.heap.size, j, none⟩) (by simp)).trans (World.cell?_alloc_mark wr #[.int .i64 d.kind, .int .i64 d.space, .string ⟨d.name.toArray⟩, .slice pa d.attrs.length ca, .string ⟨d.text.toArray⟩, .int .i64 y, .slice pk kd.len ck] 49 (0, 0) j))
          have f6 : w4.frozen? ⟨wr.heap.size, 6, none⟩ = false := (b4.frozen (p := ⟨wr.heap.size, 6, none⟩) (by simp)).trans (by rw [World.frozen?_alloc_mark]; rfl)
          have d0 : w4.cell? ⟨wr.heap.size, 0, none⟩ = some (.int .i64 d.kind) := HC.out 0
          have d1 : w4.cell? ⟨wr.heap.size, 1, none⟩ = some (.int .i64 d.space) := HC.out 1
          have d2 : w4.cell? ⟨wr.heap.size, 2, none⟩ = some (.string ⟨d.name.toArray⟩) := HC.out 2
          have d3 : w4.cell? ⟨wr.heap.size, 3, none⟩ = some (.slice pa d.attrs.length ca) := HC.out 3
          have d4 : w4.cell? ⟨wr.heap.size, 4, none⟩ = some (.string ⟨d.text.toArray⟩) := HC.out 4
          have d5 : w4.cell? ⟨wr.heap.size, 5, none⟩ = some (.int .i64 (y)) := HC.out 5
          have d6 : w4.cell? ⟨wr.heap.size, 6, none⟩ = some (.slice pk kd.len ck) := HC.out 6
          have hs4 : wr.heap.size < w4.heap.size := by have := b4.size; simp at this; omega
          have HN4 := Lib.hid hN4
          have hlen4 := Fo.number_len kd (y + 1)
          obtain ⟨p4, c4q, hv4, _⟩ := hN4
          rw [hlen4] at hv4
          subst hv4
          have HB4 := Lib.hid (HB0.out.trans (b4.mono HB0.out.size))
          generalize hT4 : kd.number (y + 1) = T4 at *
          obtain ⟨f4, z4⟩ := T4
          simp only at hZ
          have HT4 := Lib.hid hT4
          clear HC hlen4 hT4 b4 HB0
          obtain ⟨W5, hW5⟩ : ∃ W5, W5 = (w4.setCell ⟨wr.heap.size, 6, none⟩ (.slice p4 kd.len c4q)).alloc (.cells #[.int .i64 d.kind, .int .i64 d.space, .string ⟨d.name.toArray⟩, .slice pa d.attrs.length ca, .string ⟨d.text.toArray⟩, .int .i64 y, .slice p4 kd.len c4q] 49) := ⟨_, rfl⟩
          have hB5 : Below wr.heap.size wr W5 := by rw [hW5]; exact ((HB4.out.setCell (Nat.le_refl _) _).alloc (by simp; omega) _)
          have HW5 := Lib.hid (HW.out.on hB5)
          have hK5 : Kept (fun b => P b ∨ (wr.alloc (.cells #[.int .i64 d.kind, .int .i64 d.space, .string ⟨d.name.toArray⟩, .slice pa d.attrs.length ca, .string ⟨d.text.toArray⟩, .int .i64 y, .slice pk kd.len ck] 49)).heap.size ≤ b) w4 W5 := by
            rw [hW5]
            refine ⟨by simp, fun b hb hlt => ?_⟩
            have hne : b ≠ wr.heap.size := by
              rcases hb with h | h
              · have := HPB.out b h; omega
              · simp at h; omega
            rw [Below.heap_alloc _ _ _ (by simpa using hlt), Below.heap_setCell _ _ _ _ hne]
          have HN5 := Lib.hid (HN4.out.kept hK5)
          have HV5 := Lib.hid (HVA.out.kept (.of_below hB5))
          have HT5 := Lib.hid (HTL.out.kept (.of_below hB5))
          have HS5 : Hid (W5.heap.size = w4.heap.size + 1) := Lib.hid (by rw [hW5]; simp)
          have HE5 := Lib.hid hW5
          have hsz5 : w.heap.size ≤ W5.heap.size := by have := hB5.size; omega
          have HNEW : Hid (W5.heap[w4.heap.size]? = some (.cells #[.int .i64 d.kind, .int .i64 d.space, .string ⟨d.name.toArray⟩, .slice pa d.attrs.length ca, .string ⟨d.text.toArray⟩, .int .i64 y, .slice p4 kd.len c4q] 49)) := Lib.hid (by rw [hW5]; have := heap_alloc_new (w4.setCell ⟨wr.heap.size, 6, none⟩ (.slice p4 kd.len c4q)) (.cells #[.int .i64 d.kind, .int .i64 d.space, .string ⟨d.name.toArray⟩, .slice pa d.attrs.length ca, .string ⟨d.text.toArray⟩, .int .i64 y, .slice p4 kd.len c4q] 49); simpa using this)
          clear hB5 hK5
          go_wp2_with (first
            | (at_builtin; rw [← hW5]; refine wpList_append_lies _ rfl _ _ 31 rfl w.heap.size 49 i0 (.agg #[.int .i64 0, .int .i64 0, .string ByteArray.empty, .slice none 0 0, .string ByteArray.empty, .int .i64 0, .slice none 0 0]) 7 104 Try.underlying31 HI.out.1 HI.out.2.1 HI.out.2.2.1 HI.out.2.2.2 rfl (by omega) (.slice vp qs.length vc) qs.length (nodeCells (qs.map (·.1))) rfl HW5.out.row ⟨w4.heap.size, 0, none⟩ 1 1 [.int .i64 d.kind, .int .i64 d.space, .string ⟨d.name.toArray⟩, .slice pa d.attrs.length ca, .string ⟨d.text.toArray⟩, .int .i64 y, .slice p4 kd.len c4q] rfl rfl (World.news_of_block (cs := #[.int .i64 d.kind, .int .i64 d.space, .string ⟨d.name.toArray⟩, .slice pa d.attrs.length ca, .string ⟨d.text.toArray⟩, .int .i64 y, .slice p4 kd.len c4q]) HNEW.out) (by simp [Value.oneCell']) (by omega) (by unfold maxLen; omega) (by omega) hsz5 _ rfl ?_)
            | go_in)
          intro g6 cap6 w6 hr6 hg6 hor6 hlt6
          rw [← hW5] at hg6
          have hob : ∀ b, some b = (Value.slice vp qs.length vc).ownBlock → w.heap.size ≤ b ∧ b < wr.heap.size := fun b e => HW.out.row.lt b e.symm
          have HW6 := Lib.hid (HW5.out.more (q := ((Fo.numD d y, .slice pa d.attrs.length ca, .slice p4 kd.len c4q), f4)) (by
              rw [Fo.numD_attrs]
              exact HV5.out.mono fun b hb _ => ⟨Or.inl hb, fun e => by have := (hob b e).1; have := HPB.out b hb; omega⟩) (HN5.out.mono fun b hb _ => by
              refine ⟨?_, fun e => ?_⟩
              · rcases hb with h | h
                · exact Or.inl h
                · simp at h; exact Or.inr (by omega)
              · have h1 := hob b e
                rcases hb with h | h
                · have := HPB.out b h; omega
                · simp at h; omega) hg6 (by simp only [nodeCell, E1.out]; exact hr6) (by rw [HS5.out]; exact hor6))
          have HT6 := Lib.hid (HT5.out.kept (.of_grown hg6 (fun b hb e => by have := (hob b e).1; have := HPB.out b hb; omega)))
          clear hr6 hg6 hor6 hlt6 hob
          go_wp2
          refine ⟨⟨k + 1, r', z4, qs ++ [((Fo.numD d y, .slice pa d.attrs.length ca, .slice p4 kd.len c4q), f4)], some ⟨g6, 0, none⟩, cap6, by omega, by rw [List.length_append, HQK.out]; rfl, by omega, by go_num, by rw [List.length_append]; rfl, rfl, by omega, by omega, ?_, ?_, HT6.out, by rw [List.length_append]; exact HW6.out⟩, by simp [intOf]; omega⟩
          · rw [HD.out, number_app, List.map_append, Fo.of_app, E2.out, HT4.out]
            rfl
          · rw [HD2.out, Fo.number, E2.out, HT4.out]
        · have q2 : (d.kind == 2) = false := by simp [hk2]
          have e1 : Fo.numD d y = d := by simp [Fo.numD, hk2]
          have e2 : Fo.numN d y = y := by simp [Fo.numN, hk2]
          have E1 := Lib.hid e1
          have E2 := Lib.hid e2
          clear hk2 e1 e2
          have hZ := Fo.number_le kd (y)
          have hB0 : Below wr.heap.size wr (wr.alloc (.cells #[.int .i64 d.kind, .int .i64 d.space, .string ⟨d.name.toArray⟩, .slice pa d.attrs.length ca, .string ⟨d.text.toArray⟩, .int .i64 d.frm, .slice pk kd.len ck] 49)) := (Below.refl _ wr).alloc (Nat.le_refl _) _
          have HB0 := Lib.hid hB0
          clear hB0
          go_wp2_with fail
          refine (IH.out kd P _ (y) (wr.alloc (.cells #[.int .i64 d.kind, .int .i64 d.space, .string ⟨d.name.toArray⟩, .slice pa d.attrs.length ca, .string ⟨d.text.toArray⟩, .int .i64 d.frm, .slice pk kd.len ck] 49)) (by omega) (by omega) (by omega) (by omega) (HKD.out.kept (.of_below HB0.out)) (fun b hb => by have := HPB.out b hb; simp; omega)).mono ?_
          rintro e w4 ⟨v4, rfl, hN4, b4⟩
          have HC := Lib.hid (fun j => (b4.cell (p := ⟨wr.heap.size, j, none⟩) (by simp)).trans (World.cell?_alloc_mark wr #[.int .i64 d.kind, .int .i64 d.space, .string ⟨d.name.toArray⟩, .slice pa d.attrs.length ca, .string ⟨d.text.toArray⟩, .int .i64 d.frm, .slice pk kd.len ck] 49 (0, 0) j))
          have f6 : w4.frozen? ⟨wr.heap.size, 6, none⟩ = false := (b4.frozen (p := ⟨wr.heap.size, 6, none⟩) (by simp)).trans (by rw [World.frozen?_alloc_mark]; rfl)
          have d0 : w4.cell? ⟨wr.heap.size, 0, none⟩ = some (.int .i64 d.kind) := HC.out 0
          have d1 : w4.cell? ⟨wr.heap.size, 1, none⟩ = some (.int .i64 d.space) := HC.out 1
          have d2 : w4.cell? ⟨wr.heap.size, 2, none⟩ = some (.string ⟨d.name.toArray⟩) := HC.out 2
          have d3 : w4.cell? ⟨wr.heap.size, 3, none⟩ = some (.slice pa d.attrs.length ca) := HC.out 3
          have d4 : w4.cell? ⟨wr.heap.size, 4, none⟩ = some (.string ⟨d.text.toArray⟩) := HC.out 4
          have d5 : w4.cell? ⟨wr.heap.size, 5, none⟩ = some (.int .i64 (d.frm)) := HC.out 5
          have d6 : w4.cell? ⟨wr.heap.size, 6, none⟩ = some (.slice pk kd.len ck) := HC.out 6
          have hs4 : wr.heap.size < w4.heap.size := by have := b4.size; simp at this; omega
          have HN4 := Lib.hid hN4
          have hlen4 := Fo.number_len kd (y)
          obtain ⟨p4, c4q, hv4, _⟩ := hN4
          rw [hlen4] at hv4
          subst hv4
          have HB4 := Lib.hid (HB0.out.trans (b4.mono HB0.out.size))
          generalize hT4 : kd.number (y) = T4 at *
          obtain ⟨f4, z4⟩ := T4
          simp only at hZ
          have HT4 := Lib.hid hT4
          clear HC hlen4 hT4 b4 HB0
          obtain ⟨W5, hW5⟩ : ∃ W5, W5 = (w4.setCell ⟨wr.heap.size, 6, none⟩ (.slice p4 kd.len c4q)).alloc (.cells #[.int .i64 d.kind, .int .i64 d.space, .string ⟨d.name.toArray⟩, .slice pa d.attrs.length ca, .string ⟨d.text.toArray⟩, .int .i64 d.frm, .slice p4 kd.len c4q] 49) := ⟨_, rfl⟩
          have hB5 : Below wr.heap.size wr W5 := by rw [hW5]; exact ((HB4.out.setCell (Nat.le_refl _) _).alloc (by simp; omega) _)
          have HW5 := Lib.hid (HW.out.on hB5)
          have hK5 : Kept (fun b => P b ∨ (wr.alloc (.cells #[.int .i64 d.kind, .int .i64 d.space, .string ⟨d.name.toArray⟩, .slice pa d.attrs.length ca, .string ⟨d.text.toArray⟩, .int .i64 d.frm, .slice pk kd.len ck] 49)).heap.size ≤ b) w4 W5 := by
            rw [hW5]
            refine ⟨by simp, fun b hb hlt => ?_⟩
            have hne : b ≠ wr.heap.size := by
              rcases hb with h | h
              · have := HPB.out b h; omega
              · simp at h; omega
            rw [Below.heap_alloc _ _ _ (by simpa using hlt), Below.heap_setCell _ _ _ _ hne]
          have HN5 := Lib.hid (HN4.out.kept hK5)
          have HV5 := Lib.hid (HVA.out.kept (.of_below hB5))
          have HT5 := Lib.hid (HTL.out.kept (.of_below hB5))
          have HS5 : Hid (W5.heap.size = w4.heap.size + 1) := Lib.hid (by rw [hW5]; simp)
          have HE5 := Lib.hid hW5
          have hsz5 : w.heap.size ≤ W5.heap.size := by have := hB5.size; omega
          have HNEW : Hid (W5.heap[w4.heap.size]? = some (.cells #[.int .i64 d.kind, .int .i64 d.space, .string ⟨d.name.toArray⟩, .slice pa d.attrs.length ca, .string ⟨d.text.toArray⟩, .int .i64 d.frm, .slice p4 kd.len c4q] 49)) := Lib.hid (by rw [hW5]; have := heap_alloc_new (w4.setCell ⟨wr.heap.size, 6, none⟩ (.slice p4 kd.len c4q)) (.cells #[.int .i64 d.kind, .int .i64 d.space, .string ⟨d.name.toArray⟩, .slice pa d.attrs.length ca, .string ⟨d.text.toArray⟩, .int .i64 d.frm, .slice p4 kd.len c4q] 49); simpa using this)
          clear hB5 hK5
          go_wp2_with (first
            | (at_builtin; rw [← hW5]; refine wpList_append_lies _ rfl _ _ 31 rfl w.heap.size 49 i0 (.agg #[.int .i64 0, .int .i64 0, .string ByteArray.empty, .slice none 0 0, .string ByteArray.empty, .int .i64 0, .slice none 0 0]) 7 104 Try.underlying31 HI.out.1 HI.out.2.1 HI.out.2.2.1 HI.out.2.2.2 rfl (by omega) (.slice vp qs.length vc) qs.length (nodeCells (qs.map (·.1))) rfl HW5.out.row ⟨w4.heap.size, 0, none⟩ 1 1 [.int .i64 d.kind, .int .i64 d.space, .string ⟨d.name.toArray⟩, .slice pa d.attrs.length ca, .string ⟨d.text.toArray⟩, .int .i64 d.frm, .slice p4 kd.len c4q] rfl rfl (World.news_of_block (cs := #[.int .i64 d.kind, .int .i64 d.space, .string ⟨d.name.toArray⟩, .slice pa d.attrs.length ca, .string ⟨d.text.toArray⟩, .int .i64 d.frm, .slice p4 kd.len c4q]) HNEW.out) (by simp [Value.oneCell']) (by omega) (by unfold maxLen; omega) (by omega) hsz5 _ rfl ?_)
            | go_in)
          intro g6 cap6 w6 hr6 hg6 hor6 hlt6
          rw [← hW5] at hg6
          have hob : ∀ b, some b = (Value.slice vp qs.length vc).ownBlock → w.heap.size ≤ b ∧ b < wr.heap.size := fun b e => HW.out.row.lt b e.symm
          have HW6 := Lib.hid (HW5.out.more (q := ((Fo.numD d y, .slice pa d.attrs.length ca, .slice p4 kd.len c4q), f4)) (by
              rw [Fo.numD_attrs]
              exact HV5.out.mono fun b hb _ => ⟨Or.inl hb, fun e => by have := (hob b e).1; have := HPB.out b hb; omega⟩) (HN5.out.mono fun b hb _ => by
              refine ⟨?_, fun e => ?_⟩
              · rcases hb with h | h
                · exact Or.inl h
                · simp at h; exact Or.inr (by omega)
              · have h1 := hob b e
                rcases hb with h | h
                · have := HPB.out b h; omega
                · simp at h; omega) hg6 (by simp only [nodeCell, E1.out]; exact hr6) (by rw [HS5.out]; exact hor6))
          have HT6 := Lib.hid (HT5.out.kept (.of_grown hg6 (fun b hb e => by have := (hob b e).1; have := HPB.out b hb; omega)))
          clear hr6 hg6 hor6 hlt6 hob
          go_wp2
          refine ⟨⟨k + 1, r', z4, qs ++ [((Fo.numD d y, .slice pa d.attrs.length ca, .slice p4 kd.len c4q), f4)], some ⟨g6, 0, none⟩, cap6, by omega, by rw [List.length_append, HQK.out]; rfl, by omega, by go_num, by rw [List.length_append]; rfl, rfl, by omega, by omega, ?_, ?_, HT6.out, by rw [List.length_append]; exact HW6.out⟩, by simp [intOf]; omega⟩
          · rw [HD.out, number_app, List.map_append, Fo.of_app, E2.out, HT4.out]
            rfl
          · rw [HD2.out, Fo.number, E2.out, HT4.out]
theorem rnumberP (f : Fo) (P : Nat → Prop) (v : Value) (z : Int) (w : World) (hs : f.wt ≤ 4294967296) (hz0 : 0 ≤ z) (hz1 : z + f.wt ≤ 1152921504606846976) (h : NodesP P w v f) (hP : ∀ b, P b → b < w.heap.size) : Calls Try.prog 61 #[v, .int .i64 z] w (NumOut P (f.number z) w) := rnumber_all _ f P v z w (Nat.lt_succ_self _) hs hz0 hz1 h hP
/-- What Number tells. -/
def NodesOut (P : Nat → Prop) (f : Fo) (w : World) (e : Ending) (w' : World) : Prop := ∃ v, e = .returned v ∧ NodesP (fun b => P b ∨ w.heap.size ≤ b) w' v f ∧ Below w.heap.size w w'
set_option maxRecDepth 100000 in
theorem rNumberP (f : Fo) (P : Nat → Prop) (v : Value) (w : World) (hs : f.wt ≤ 4294967296) (h : NodesP P w v f) (hP : ∀ b, P b → b < w.heap.size) : Calls Try.prog 26 #[v] w (NodesOut P (f.number 1).1 w) := by
  obtain ⟨p, cap, rfl, ht⟩ := h
  have HN := Lib.hid (rnumberP f P _ 1 w hs (by omega) (by omega) ⟨p, cap, rfl, ht⟩ hP)
  clear ht hP
  go_enter Try.func26, Try.ntmps26
  go_wp2_with fail
  refine HN.out.mono ?_
  rintro e w2 ⟨v2, rfl, h2, b2⟩
  have HV := Lib.hid h2
  obtain ⟨p2, c2, rfl, _⟩ := h2
  go_wp2_with fail
  go_ret
  exact ⟨_, rfl, HV.out, b2⟩
end Go.Proofs.Ytppcgcmhecagbaa
