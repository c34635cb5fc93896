/-
  The walks of the program's gatherer, eachText with it, Texts. Any nodes, not too many.
-/
import Derived.Test.YtppcgcmhecagbaaDPMem
import Derived.Test.YtppcgcmhecagbaaDText
import Derived.Deep.RegionLaw
import Derived.Deep.AppendLies
namespace Go.Proofs.Ytppcgcmhecagbaa
open Go.RowKit

/-- A gatherer at block B, made since w: the texts that it has. -/
structure Gath (w W : World) (B : Nat) (ws : List (List UInt8)) : Prop where
  ge : w.heap.size ≤ B
  lt : B < W.heap.size
  free : W.frozen? ⟨B, 0, none⟩ = false
  body : ∃ v, W.cell? ⟨B, 0, none⟩ = some v ∧ W.ownsRow w.heap.size 9 1 v ws.length (ws.map strV) ∧ v.ownBlock ≠ some B
  below : Below w.heap.size w W
theorem gath_grown {W W5 : World} {row : Option Nat} {cs : Array Value} {t : TypeId} (h : ((W.alloc (.cells cs t)).drew).grownBy W5 row) : W.grownBy W5 row := by
  have b : Below W.heap.size W (W.alloc (.cells cs t)).drew := ((Below.refl _ W).alloc (Nat.le_refl _) _).drew
  refine ⟨h.os.trans b.os, h.tape.trans b.tape, h.output.trans b.output, Nat.le_trans b.size h.size, fun k hk hne => ?_⟩
  rw [h.block k (Nat.lt_of_lt_of_le hk b.size) hne]
  exact b.block k hk
theorem gath_more {w W W5 : World} {B : Nat} {ws : List (List UInt8)} {t : List UInt8} {p : Option Addr} {c ga ca : Nat} (h : Gath w W B ws) (hrow : W.ownsRow w.heap.size 9 1 (.slice p ws.length c) ws.length (ws.map strV)) (fb : some B ≠ (Value.slice p ws.length c).ownBlock)
    (k5 : W5.cell? ⟨B, 0, none⟩ = some (.slice p ws.length c)) (f5 : W5.frozen? ⟨B, 0, none⟩ = false) (hr : W5.ownsRow w.heap.size 9 1 (.slice (some ⟨ga, 0, none⟩) (ws.length + 1) ca) (ws.length + 1) (ws.map strV ++ [strV t])) (hg : W.grownBy W5 (Value.slice p ws.length c).ownBlock) (ho : (Value.slice p ws.length c).ownBlock = some ga ∨ W.heap.size ≤ ga) :
    Gath w (W5.setCell ⟨B, 0, none⟩ (.slice (some ⟨ga, 0, none⟩) (ws.length + 1) ca)) B (ws ++ [t]) := by
  have hne : ga ≠ B := by
    rintro rfl
    rcases ho with k | k
    · exact fb k.symm
    · have := h.lt; omega
  refine ⟨h.ge, ?_, ?_, ⟨_, World.cell?_setCell_same _ _ _ k5, ?_, fun e => hne (by injection e)⟩, ?_⟩
  · have := hg.size; have := h.lt; simp; omega
  · rw [World.frozen?_setCell]; exact f5
  · rw [List.length_append, List.map_append]
    refine hr.kept (row := some B) ⟨rfl, rfl, rfl, by simp, fun k _ hk => heap_setCell_other W5 ⟨B, 0, none⟩ k _ (by rintro rfl; exact hk rfl)⟩ (.inr (fun e => hne (by injection e)))
  · exact (h.below.grown hg h.below.size (fun k hk => (hrow.lt k hk).1)).setCell h.ge _
set_option maxHeartbeats 1000000 in
set_option maxRecDepth 100000 in
theorem dgathP (w W : World) (B : Nat) (ws : List (List UInt8)) (t : List UInt8) (g o : Nat) (h : Gath w W B ws) (hg : g < w.heap.size) (hc : w.cell? ⟨g, o + 4, none⟩ = some (.string ⟨t.toArray⟩)) (hs : ws.length ≤ 4294967296) :
    Calls Try.prog 62 #[.pointer (some ⟨B, 0, none⟩), .pointer (some ⟨g, o, none⟩)] W (fun e W' => e = .returned (.tuple #[]) ∧ Gath w W' B (ws ++ [t])) := by
  obtain ⟨v, k0, hrow, hvB⟩ := h.body
  have hform : ∃ p c, v = .slice p ws.length c := by
    rcases Joins.ownsRow_forms hrow with ⟨rfl, h0⟩ | ⟨g, cap, rfl⟩
    · exact ⟨none, 0, by rw [h0]⟩
    · exact ⟨_, cap, rfl⟩
  obtain ⟨p, c, rfl⟩ := hform
  have kf := h.free
  have hB := h.lt
  have k4 := (h.below.cell (p := ⟨g, o + 4, none⟩) hg).trans hc
  have fb : some B ≠ (Value.slice p ws.length c).ownBlock := fun e => hvB e.symm
  have hgW : g < W.heap.size := Nat.lt_of_lt_of_le hg h.below.size
  have HROW := Lib.hid hrow
  have HG := Lib.hid h
  obtain ⟨i0, hi0, hz0, hz1, hz2⟩ := info_str
  have HI := Lib.hid (And.intro hi0 (And.intro hz0 (And.intro hz1 hz2)))
  have HTX : Hid (strV t = .string ⟨t.toArray⟩) := Lib.hid rfl
  have hsz := h.below.size
  clear hi0 hz0 hz1 hz2 hrow hvB hc h
  generalize (⟨t.toArray⟩ : ByteArray) = TX at *
  go_enter Try.func62, Try.ntmps62
  go_wp2_with fail
  go_region_law (refine step_append_lies _ (by rfl) _ _ 44 (by rfl) w.heap.size 9 i0 (.string ByteArray.empty) 1 16 Try.underlying44 HI.out.1 HI.out.2.1 HI.out.2.2.1 HI.out.2.2.2 rfl (by omega) (.slice p ws.length c) ws.length (ws.map strV) (by rfl) (by first | exact (HROW.out.alloc _).drew | exact HROW.out.drew.alloc _ | exact HROW.out.alloc _) ⟨W.heap.size, 0, none⟩ 1 1 [.string TX] (by rfl) (by rfl) (World.news_of_block (cs := #[.string TX]) (t := 9) (fr := (0, 0)) (heap_alloc_new W _)) (by simp [Value.oneCell']) (by omega) (by unfold maxLen; omega) (by omega) (by simp; omega) (W.heap.size + 1) (by simp) ?_; intro ga capa W5 hr5 hg5 hor5 hlt5; have k5 : W5.cell? ⟨B, 0, none⟩ = some (.slice p ws.length c) := (hg5.cell_far ⟨B, 0, none⟩ (by simp; omega) fb).trans ((World.cell?_alloc_lt W _ _ (by simp; omega)).trans k0); have f5 : W5.frozen? ⟨B, 0, none⟩ = false := (hg5.frozen_far ⟨B, 0, none⟩ (by simp; omega) fb).trans ((((Below.refl _ W).alloc (Nat.le_refl _) (.cells #[.string TX] 9)).frozen (p := ⟨B, 0, none⟩) (by simp; omega)).trans kf); have HD5 := Lib.hid (gath_more HG.out HROW.out fb k5 f5 (by rw [HTX.out]; exact hr5) (gath_grown (cs := #[.string TX]) hg5) (hor5.imp id (fun k => by omega))); clear hr5 hg5 hor5 hlt5)
  all_goals exact bodyPost_end (results_none rfl _ _ _) rfl ⟨rfl, HD5.out⟩
set_option maxHeartbeats 1000000 in
set_option maxRecDepth 100000 in
theorem deachT_all : ∀ (n : Nat) (f : Fo) (v : Value) (w W : World) (B : Nat) (ws : List (List UInt8)), f.wt < n → f.wt + ws.length ≤ 4294967296 → NodesP (fun b => b < w.heap.size) w v f → Gath w W B ws →
    Calls Try.prog 59 #[v, .func (.func 62) #[.pointer (some ⟨B, 0, none⟩)] #[]] W (fun e W' => e = .returned (.tuple #[]) ∧ Gath w W' B (ws ++ f.texts))
  | 0, f, v, w, W, B, ws, hn, _, _, _ => absurd hn (by omega)
  | n + 1, f, v, w, W, B, ws, hn, hs, h, hG => by
    have IH := Lib.hid (deachT_all n)
    obtain ⟨p, cap, rfl, ht⟩ := h
    have HT := Lib.hid ht
    have HG := Lib.hid hG
    have hl := Fo.len_le f
    clear ht hG
    go_enter Try.func59, Try.ntmps59
    go_wp2_with fail
    go_loopw [7] (fun i wr => ∃ (k : Nat) (r : Fo) (us : List (List UInt8)), k + r.len = f.len ∧ r.wt ≤ f.wt ∧ i = .int .i64 (k : Int) ∧ f.texts = us ++ r.texts ∧ NodesTail (fun b => b < w.heap.size) w p r k ∧ us.length + r.wt ≤ f.wt ∧ Gath w wr B (ws ++ us)) (fun i _ => f.len - (intOf i).toNat)
    case atStart => exact ⟨0, f, [], by omega, Nat.le_refl _, rfl, rfl, HT.out, by simp, by rw [List.append_nil]; exact HG.out⟩
    case round =>
      obtain ⟨k, r, us, hk, hr, rfl, hd, hT, hus, hG2⟩ := hrel
      have HD := Lib.hid hd
      have HG2 := Lib.hid hG2
      clear hd hG2
      cases r with
      | nil =>
        have hk' : k = f.len := by simpa [Fo.len] using hk
        subst hk'
        go_wp2_with fail
        refine bodyPost_end (results_none rfl _ _ _) rfl ⟨rfl, ?_⟩
        rw [HD.out]
        simpa [Fo.texts] using HG2.out
      | cons d kd r' =>
        obtain ⟨g, o, va, vk, rfl, _, hg, h7, _, hkd, htl⟩ := hT.head
        obtain ⟨pk, lk, ck, rfl⟩ := hkd.slice
        have hB := HG2.out.below
        have c0 := (hB.cell (p := ⟨g, o + k * 7, none⟩) hg).trans h7.c0
        have c6 := (hB.cell (p := ⟨g, o + k * 7 + 6, none⟩) hg).trans h7.c6
        have hgr : g < wr.heap.size := Nat.lt_of_lt_of_le hg hB.size
        have HC4 := Lib.hid h7.c4
        have HC6 := Lib.hid h7.c6
        have HKD := Lib.hid hkd
        have HTL := Lib.hid htl
        simp only [Fo.wt, Fo.len] at hr hk hus
        have hkl : k < f.len := by omega
        clear hT h7 hkd htl hB
        by_cases hk2 : d.kind = 2
        · have HE : Hid ((Fo.cons d kd r').texts = [d.text] ++ kd.texts ++ r'.texts) := Lib.hid (by rw [Fo.texts, if_pos hk2])
          have q2 : (d.kind == 2) = true := beq_iff_eq.2 hk2
          have HGA := Lib.hid (dgathP w wr B (ws ++ us) d.text g (o + k * 7) HG2.out hg HC4.out (by rw [List.length_append]; omega))
          clear hk2
          go_wp2_with fail
          refine HGA.out.mono ?_
          rintro e w2 ⟨rfl, h2⟩
          have c6' := (h2.below.cell (p := ⟨g, o + k * 7 + 6, none⟩) hg).trans HC6.out
          have hg2 : g < w2.heap.size := Nat.lt_of_lt_of_le hg h2.below.size
          have HIH := Lib.hid (IH.out kd _ w w2 B _ (by omega) (by simp only [List.length_append, List.length_cons, List.length_nil]; omega) HKD.out h2)
          clear h2
          go_wp2_with fail
          refine HIH.out.mono ?_
          rintro e w3 ⟨rfl, h3⟩
          have H3 := Lib.hid h3
          have htx := Fo.texts_le kd
          clear h3
          go_wp2_with fail
          refine ⟨⟨k + 1, r', us ++ [d.text] ++ kd.texts, by omega, by omega, by go_num, ?_, HTL.out, ?_, ?_⟩, by simp [intOf]; omega⟩
          · rw [HD.out, HE.out]; simp
          · simp only [List.length_append, List.length_cons, List.length_nil]; omega
          · simpa using H3.out
        · have HE : Hid ((Fo.cons d kd r').texts = kd.texts ++ r'.texts) := Lib.hid (by rw [Fo.texts, if_neg hk2]; rfl)
          have q2 : (d.kind == 2) = false := beq_eq_false_iff_ne.2 hk2
          have HIH := Lib.hid (IH.out kd _ w wr B _ (by omega) (by simp only [List.length_append]; omega) HKD.out HG2.out)
          clear hk2
          go_wp2_with fail
          refine HIH.out.mono ?_
          rintro e w3 ⟨rfl, h3⟩
          have H3 := Lib.hid h3
          have htx := Fo.texts_le kd
          clear h3
          go_wp2_with fail
          refine ⟨⟨k + 1, r', us ++ kd.texts, by omega, by omega, by go_num, ?_, HTL.out, ?_, ?_⟩, by simp [intOf]; omega⟩
          · rw [HD.out, HE.out]; simp
          · simp only [List.length_append]; omega
          · simpa using H3.out
theorem texts_row {B : Nat} {W : World} {v : Value} {ws : List (List UInt8)} (h : W.ownsRow B 9 1 v ws.length (ws.map strV)) : TextsP (fun b => B ≤ b) W v ws := by
  rcases Joins.ownsRow_forms h with ⟨rfl, h0⟩ | ⟨g, cap, rfl⟩
  · exact ⟨none, 0, by rw [h0], fun hp => absurd hp (by omega)⟩
  · refine ⟨some ⟨g, 0, none⟩, cap, rfl, fun _ => ⟨g, 0, rfl, (h.lt g rfl).1, (h.lt g rfl).2, fun j hj => ?_⟩⟩
    rw [Nat.zero_add, h.cellAt j (by omega), List.getElem?_map, List.getElem?_eq_getElem hj]
    rfl
/-- What the program's Texts tells. -/
def TextsB (ws : List (List UInt8)) (w : World) (e : Ending) (w' : World) : Prop := ∃ v, e = .returned v ∧ TextsP (fun b => w.heap.size ≤ b) w' v ws ∧ Below w.heap.size w w'
theorem TextsP.slice {P : Nat → Prop} {w : World} {v : Value} {ws : List (List UInt8)} (h : TextsP P w v ws) : ∃ p l c, v = .slice p l c := by
  obtain ⟨p, c, rfl, _⟩ := h
  exact ⟨p, _, c, rfl⟩
set_option maxHeartbeats 1000000 in
set_option maxRecDepth 100000 in
theorem dtextsP (f : Fo) (P : Nat → Prop) (v : Value) (w : World) (hs : f.wt ≤ 4294967296) (h : NodesP P w v f) : Calls Try.prog 28 #[v] w (TextsB f.texts w) := by
  obtain ⟨p, l, c, rfl⟩ := h.slice
  have HE := Lib.hid (deachT_all _ f _ w (w.alloc (.cells #[.slice none 0 0] 85)) w.heap.size [] (Nat.lt_succ_self _) (by simpa using hs) (h.mono (fun _ _ hb => hb)) ⟨Nat.le_refl _, by simp, by rw [World.frozen?_alloc_mark]; rfl, ⟨_, World.cell?_alloc_mark w _ _ (0, 0) 0, ⟨rfl, .inl ⟨rfl, rfl⟩⟩, by simp [Value.ownBlock]⟩, (Below.refl _ w).alloc (Nat.le_refl _) _⟩)
  clear h
  go_enter Try.func28, Try.ntmps28
  go_wp2_with fail
  refine HE.out.mono ?_
  rintro e w2 ⟨rfl, h2⟩
  rw [List.nil_append] at h2
  obtain ⟨v2, k2, hrow, _⟩ := h2.body
  have HT := Lib.hid (texts_row hrow)
  obtain ⟨p2, l2, c2, rfl⟩ := HT.out.slice
  have HB := Lib.hid h2.below
  clear h2 hrow
  go_wp2_with fail
  go_ret
  exact ⟨_, rfl, HT.out, HB.out⟩
end Go.Proofs.Ytppcgcmhecagbaa
