/-
  The walk of the reference's Texts. Any nodes, not too many.
-/
import Derived.Test.YtjlkdhbgomamjaaDSame
import Derived.Laws.AppendOwnNone
namespace Go.Proofs.Ytjlkdhbgomamjaa
open Go.RowKit

/-- The slice v holds the texts ws in w, in a block of P. -/
def TextsP (P : Nat → Prop) (w : World) (v : Value) (ws : List (List UInt8)) : Prop :=
  ∃ p cap, v = .slice p ws.length cap ∧ (0 < ws.length → ∃ g o, p = some ⟨g, o, none⟩ ∧ P g ∧ g < w.heap.size ∧ ∀ j (hj : j < ws.length), w.cell? ⟨g, o + j, none⟩ = some (strV ws[j]))
theorem TextsP.kept {P : Nat → Prop} {w w' : World} {v : Value} {ws : List (List UInt8)} (h : TextsP P w v ws) (hk : Kept P w w') : TextsP P w' v ws := by
  obtain ⟨p, cap, rfl, h⟩ := h
  refine ⟨p, cap, rfl, fun h0 => ?_⟩
  obtain ⟨g, o, rfl, hp, hg, hc⟩ := h h0
  exact ⟨g, o, rfl, hp, Nat.lt_of_lt_of_le hg hk.size, fun j hj => (hk.cell hp hg).trans (hc j hj)⟩
theorem info_str : ∃ i, Try.prog.info? 9 = some i ∧ i.zero = some (.string ByteArray.empty) ∧ i.size = 1 ∧ i.bytes = 16 := by
  have hi9 : (Try.prog.info? 9).map (fun i => (i.zero, i.size, i.bytes)) = some (some (.string ByteArray.empty), 1, 16) := by kernel_rfl
  obtain ⟨i0, hi, hx⟩ := Option.map_eq_some_iff.1 hi9
  simp only [Prod.mk.injEq] at hx
  exact ⟨i0, hi, hx.1, hx.2.1, hx.2.2⟩
/-- A row of texts that is being made. -/
structure RowT (w : World) (v : Value) (ws : List (List UInt8)) (W : World) : Prop where
  row : W.ownsRow w.heap.size 9 1 v ws.length (ws.map strV)
  below : Below w.heap.size w W
  nil : ws = [] → v = .slice none 0 0
theorem RowT.start (w : World) : RowT w (.slice none 0 0) [] w := ⟨⟨rfl, Or.inl ⟨rfl, rfl⟩⟩, Below.refl _ _, fun _ => rfl⟩
theorem RowT.on {w W W' : World} {v : Value} {ws : List (List UInt8)} (h : RowT w v ws W) (hb : Below W.heap.size W W') : RowT w v ws W' :=
  ⟨h.row.kept (row := none) ⟨hb.os, hb.tape, hb.output, hb.size, fun i hi _ => hb.block i hi⟩ (by cases v.ownBlock <;> simp), h.below.trans (hb.mono h.below.size), h.nil⟩
theorem RowT.told {w W : World} {v : Value} {ws : List (List UInt8)} (h : RowT w v ws W) : TextsP (fun b => w.heap.size ≤ b) W v ws := by
  rcases Joins.ownsRow_forms h.row with ⟨rfl, h0⟩ | ⟨g, cap, rfl⟩
  · exact ⟨none, 0, by rw [h0], fun hp => absurd hp (by omega)⟩
  · refine ⟨some ⟨g, 0, none⟩, cap, rfl, fun _ => ⟨g, 0, rfl, (h.row.lt g rfl).1, (h.row.lt g rfl).2, fun j hj => ?_⟩⟩
    rw [Nat.zero_add, h.row.cellAt j (by omega), List.getElem?_map, List.getElem?_eq_getElem hj]
    rfl
theorem RowT.form {w W : World} {v : Value} {ws : List (List UInt8)} (h : RowT w v ws W) : ∃ p cap, v = .slice p ws.length cap := by
  rcases Joins.ownsRow_forms h.row with ⟨rfl, h0⟩ | ⟨g, cap, rfl⟩
  · exact ⟨none, 0, by rw [h0]⟩
  · exact ⟨_, cap, rfl⟩
theorem RowT.more {w W W' : World} {v : Value} {g n cap : Nat} {ws us : List (List UInt8)} (h : RowT w v ws W) (hg : W.grownBy W' v.ownBlock) (hr : W'.ownsRow w.heap.size 9 1 (.slice (some ⟨g, 0, none⟩) n cap) (ws.length + us.length) (ws.map strV ++ us.map strV)) (hu : us ≠ []) : RowT w (.slice (some ⟨g, 0, none⟩) n cap) (ws ++ us) W' := by
  refine ⟨?_, h.below.grown hg h.below.size (fun k hk => (h.row.lt k hk).1), fun e => absurd (List.append_eq_nil_iff.1 e).2 hu⟩
  rw [List.length_append, List.map_append]
  exact hr
theorem row_news {W : World} {base : Nat} {g n cap : Nat} {ws : List (List UInt8)} (h : W.ownsRow base 9 1 (.slice (some ⟨g, 0, none⟩) n cap) n (ws.map strV)) : ∀ j u, (ws.map strV)[j]? = some u → W.cell? ((⟨g, 0, none⟩ : Addr).add j) = some u := by
  intro j u hu
  have hj : j < n * 1 := by
    have h1 := lt_of_some hu
    have h2 := h.1
    omega
  have := h.cellAt j hj
  rw [hu] at this
  rw [WideShapes.add_plain, Nat.zero_add]
  exact this
/-- What Texts tells. -/
def TextsOut (ws : List (List UInt8)) (w : World) (e : Ending) (w' : World) : Prop := ∃ v, e = .returned v ∧ RowT w v ws w'

set_option maxHeartbeats 1000000 in
set_option maxRecDepth 100000 in
theorem rtexts_all : ∀ (n : Nat) (f : Fo) (P : Nat → Prop) (v : Value) (w : World), f.wt < n → f.wt ≤ 4294967296 → NodesP P w v f → (∀ b, P b → b < w.heap.size) → Calls Try.prog 27 #[v] w (TextsOut f.texts w)
  | 0, f, P, v, w, hn, _, _, _ => absurd hn (by omega)
  | n + 1, f, P, v, w, hn, hs, h, hP => by
    have IH := Lib.hid (rtexts_all n)
    obtain ⟨p, cap, rfl, ht⟩ := h
    have HT := Lib.hid ht
    have HPB := Lib.hid hP
    have hl := Fo.len_le f
    have htl := Fo.texts_le f
    obtain ⟨i0, hi, hz0, hz1, hz2⟩ := info_str
    have HI := Lib.hid (And.intro hi (And.intro hz0 (And.intro hz1 hz2)))
    clear ht hi hz0 hz1 hz2 hP
    go_enter Try.func27, Try.ntmps27
    go_wp2
    go_loopw [3, 4] (fun u i wr => ∃ (k : Nat) (r : Fo) (ws : List (List UInt8)) (vp : Option Addr) (vc : Nat), k + r.len = f.len ∧ r.wt ≤ f.wt ∧ i = .int .i64 (k : Int) ∧ u = .slice vp ws.length vc ∧ f.texts = ws ++ r.texts ∧ NodesTail P wr p r k ∧ RowT w (.slice vp ws.length vc) ws wr) (fun _ i _ => f.len - (intOf i).toNat)
    case atStart => exact ⟨0, f, [], none, 0, by omega, Nat.le_refl _, rfl, rfl, rfl, HT.out, RowT.start w⟩
    case round =>
      obtain ⟨k, r, ws, vp, vc, hk, hr, rfl, rfl, hd, hT, hW⟩ := hrel
      have HD := Lib.hid hd
      have HW := Lib.hid hW
      have hwl : ws.length ≤ f.wt := by have := congrArg List.length hd; rw [List.length_append] at this; omega
      clear hd hW
      cases r with
      | nil =>
        have hk' : k = f.len := by simpa [Fo.len] using hk
        subst hk'
        go_wp2
        go_ret
        refine ⟨_, rfl, ?_⟩
        rw [HD.out]
        simp only [Fo.texts, List.append_nil]
        exact HW.out
      | cons d kd r' =>
        obtain ⟨g, o, va, vk, rfl, _, hg, h7, _, hkd, htl'⟩ := hT.head
        obtain ⟨c0, c1, c2, c3, c4, c5, c6⟩ := h7
        have HKD := Lib.hid hkd
        have HTL := Lib.hid htl'
        simp only [Fo.wt, Fo.len] at hr hk
        have hkl : k < f.len := by omega
        have hkt := Fo.texts_le kd
        have k0 : (0 : Int) ≤ (k : Int) := by omega
        have k1 : (k : Int) < (f.len : Int) := by omega
        have hsz := HW.out.below.size
        clear hT hkd htl' c1 c2 c3 c5
        have HK0 : Hid (Kept P wr wr) := Lib.hid ⟨Nat.le_refl _, fun _ _ _ => rfl⟩
        by_cases hk2 : d.kind = 2
        · have q2 : (d.kind == 2) = true := by simp [hk2]
          have HK := Lib.hid hk2
          clear hk2
          go_wp2_with (first
            | (at_builtin; refine wpList_append_lies _ rfl _ _ 39 rfl w.heap.size 9 i0 (.string ByteArray.empty) 1 16 Try.underlying39 HI.out.1 HI.out.2.1 HI.out.2.2.1 HI.out.2.2.2 rfl (by omega) _ ws.length (ws.map strV) rfl (HW.out.row.alloc _) ⟨wr.heap.size, 0, none⟩ 1 1 [strV d.text] rfl rfl (World.news_of_block (cs := #[strV d.text]) (heap_alloc_new wr _)) (by simp [strV, Value.oneCell']) (by omega) (by unfold maxLen; omega) (by omega) (by simp; omega) _ rfl ?_)
            | go_in)
          intro g3 cap3 w3 hr3 hg3 hor3 hlt3
          have HKp : Hid (Kept P wr w3) := Lib.hid (by
            have h1 : Kept P wr (wr.alloc (.cells #[strV d.text] 9)) := .of_below ((Below.refl _ wr).alloc (Nat.le_refl _) _)
            have h2 : Kept P (wr.alloc (.cells #[strV d.text] 9)) w3 := .of_grown hg3 (fun b hb e => by have := (HW.out.row.lt b e.symm).1; have := HPB.out b hb; omega)
            exact ⟨Nat.le_trans h1.size h2.size, fun b hb hlt => (h2.block b hb (Nat.lt_of_lt_of_le hlt h1.size)).trans (h1.block b hb hlt)⟩)
          have HW3 := Lib.hid ((HW.out.on ((Below.refl _ wr).alloc (Nat.le_refl _) (.cells #[strV d.text] 9))).more (us := [d.text]) hg3 hr3 (by simp))
          obtain ⟨ws1, hws1⟩ : ∃ ws1, ws ++ [d.text] = ws1 := ⟨_, rfl⟩
          have hl1 : ws.length + 1 = ws1.length := by rw [← hws1]; simp
          rw [hws1, hl1] at HW3
          rw [hl1]
          have HWS := Lib.hid hws1
          have hwl1 : ws1.length ≤ f.wt := by have := congrArg List.length HD.out; rw [Fo.texts, HK.out, if_pos rfl, List.length_append, List.length_append, List.length_append, List.length_singleton] at this; omega
          clear hws1 hl1
          have hPg : P g := by assumption
          have d6 : w3.cell? ⟨g, o + k * 7 + 6, none⟩ = some vk := (HKp.out.cell hPg hg).trans c6
          have hsz3 := HW3.out.below.size
          have hg3' : g < w3.heap.size := Nat.lt_of_lt_of_le hg HKp.out.size
          clear hr3 hg3 hor3 hlt3 c0 c4 c6 HW
          go_wp2_with fail
          refine (IH.out kd P vk w3 (by omega) (by omega) (HKD.out.kept HKp.out) (fun b hb => by have := HPB.out b hb; have := HW3.out.below.size; omega)).mono ?_
          rintro e w4 ⟨v4, rfl, hR4⟩
          have HW4 := Lib.hid (HW3.out.on hR4.below)
          have HT4 := Lib.hid (HTL.out.kept (w' := w4) ⟨Nat.le_trans HKp.out.size hR4.below.size, fun b hb hlt => (hR4.below.block b (Nat.lt_of_lt_of_le hlt HKp.out.size)).trans (HKp.out.block b hb hlt)⟩)
          have hsz4 := HW4.out.below.size
          by_cases hnil : kd.texts = []
          · have hv4 := hR4.nil hnil
            subst hv4
            have HN := Lib.hid hnil
            clear hnil hR4
            go_wp2_with (first
              | (at_builtin; refine wpList_append_own_none rfl _ _ 39 rfl w.heap.size 9 i0 1 Try.underlying39 HI.out.1 _ ws1.length (ws1.map strV) rfl HW4.out.row rfl ?_)
              | go_in)
            exact ⟨⟨k + 1, r', ws1, _, _, by omega, by omega, by go_num, rfl, by rw [HD.out, Fo.texts, HN.out, HK.out, ← HWS.out]; simp, HT4.out, HW4.out⟩, by simp [intOf]; omega⟩
          · obtain ⟨g4, c4', rfl, _, hg4⟩ := hR4.row.form (List.length_pos_iff.2 hnil)
            have HR4 := Lib.hid hR4
            have HN := Lib.hid hnil
            have hpos : 0 < kd.texts.length := List.length_pos_iff.2 hnil
            clear hnil hR4
            go_wp2_with (first
              | (at_builtin; refine wpList_append_lies _ rfl _ _ 39 rfl w.heap.size 9 i0 (.string ByteArray.empty) 1 16 Try.underlying39 HI.out.1 HI.out.2.1 HI.out.2.2.1 HI.out.2.2.2 rfl (by omega) _ ws1.length (ws1.map strV) rfl HW4.out.row ⟨g4, 0, none⟩ kd.texts.length c4' (kd.texts.map strV) rfl (by simp) (row_news HR4.out.row) (by intro u hu; obtain ⟨x, _, rfl⟩ := List.mem_map.1 hu; rfl) hpos (by unfold maxLen; skip; omega) (by skip; omega) (by omega) _ rfl ?_)
              | go_in)
            intro g5 cap5 w5 hr5 hg5 hor5 hlt5
            have HW5 := Lib.hid (HW4.out.more (us := kd.texts) hg5 hr5 HN.out)
            have HT5 := Lib.hid (HT4.out.kept (.of_grown hg5 (fun b hb e => by have := (HW4.out.row.lt b e.symm).1; have := HPB.out b hb; omega)))
            clear hr5 hg5 hor5 hlt5
            go_wp2
            exact ⟨⟨k + 1, r', ws1 ++ kd.texts, some ⟨g5, 0, none⟩, cap5, by omega, by omega, by go_num, by rw [List.length_append], by rw [HD.out, Fo.texts, HK.out, ← HWS.out]; simp, HT5.out, by rw [List.length_append]; exact HW5.out⟩, by simp [intOf]; omega⟩
        · have q2 : (d.kind == 2) = false := by simp [hk2]
          have HK := Lib.hid hk2
          clear hk2 c4
          go_wp2_with fail
          refine (IH.out kd P vk wr (by omega) (by omega) (HKD.out.kept HK0.out) (fun b hb => by have := HPB.out b hb; have := HW.out.below.size; omega)).mono ?_
          rintro e w4 ⟨v4, rfl, hR4⟩
          have HW4 := Lib.hid (HW.out.on hR4.below)
          have HT4 := Lib.hid (HTL.out.kept (w' := w4) ⟨Nat.le_trans HK0.out.size hR4.below.size, fun b hb hlt => (hR4.below.block b (Nat.lt_of_lt_of_le hlt HK0.out.size)).trans (HK0.out.block b hb hlt)⟩)
          have hsz4 := HW4.out.below.size
          by_cases hnil : kd.texts = []
          · have hv4 := hR4.nil hnil
            subst hv4
            have HN := Lib.hid hnil
            clear hnil hR4
            go_wp2_with (first
              | (at_builtin; refine wpList_append_own_none rfl _ _ 39 rfl w.heap.size 9 i0 1 Try.underlying39 HI.out.1 _ ws.length (ws.map strV) rfl HW4.out.row rfl ?_)
              | go_in)
            exact ⟨⟨k + 1, r', ws, _, _, by omega, by omega, by go_num, rfl, by rw [HD.out, Fo.texts, HN.out, if_neg HK.out]; rfl, HT4.out, HW4.out⟩, by simp [intOf]; omega⟩
          · obtain ⟨g4, c4', rfl, _, hg4⟩ := hR4.row.form (List.length_pos_iff.2 hnil)
            have HR4 := Lib.hid hR4
            have HN := Lib.hid hnil
            have hpos : 0 < kd.texts.length := List.length_pos_iff.2 hnil
            clear hnil hR4
            go_wp2_with (first
              | (at_builtin; refine wpList_append_lies _ rfl _ _ 39 rfl w.heap.size 9 i0 (.string ByteArray.empty) 1 16 Try.underlying39 HI.out.1 HI.out.2.1 HI.out.2.2.1 HI.out.2.2.2 rfl (by omega) _ ws.length (ws.map strV) rfl HW4.out.row ⟨g4, 0, none⟩ kd.texts.length c4' (kd.texts.map strV) rfl (by simp) (row_news HR4.out.row) (by intro u hu; obtain ⟨x, _, rfl⟩ := List.mem_map.1 hu; rfl) hpos (by unfold maxLen; skip; omega) (by skip; omega) (by omega) _ rfl ?_)
              | go_in)
            intro g5 cap5 w5 hr5 hg5 hor5 hlt5
            have HW5 := Lib.hid (HW4.out.more (us := kd.texts) hg5 hr5 HN.out)
            have HT5 := Lib.hid (HT4.out.kept (.of_grown hg5 (fun b hb e => by have := (HW4.out.row.lt b e.symm).1; have := HPB.out b hb; omega)))
            clear hr5 hg5 hor5 hlt5
            go_wp2
            exact ⟨⟨k + 1, r', ws ++ kd.texts, some ⟨g5, 0, none⟩, cap5, by omega, by omega, by go_num, by rw [List.length_append], by rw [HD.out, Fo.texts, if_neg HK.out]; simp, HT5.out, by rw [List.length_append]; exact HW5.out⟩, by simp [intOf]; omega⟩
theorem rtextsP (f : Fo) (P : Nat → Prop) (v : Value) (w : World) (hs : f.wt ≤ 4294967296) (h : NodesP P w v f) (hP : ∀ b, P b → b < w.heap.size) : Calls Try.prog 27 #[v] w (TextsOut f.texts w) := rtexts_all _ f P v w (Nat.lt_succ_self _) hs h hP
end Go.Proofs.Ytjlkdhbgomamjaa
