/-
  The walks of the program's copiedTree and Number. Any nodes, not too many.
-/
import Derived.Test.YtbadckkcjjfnoaaDPNum2
namespace Go.Proofs.Ytbadckkcjjfnoaa
open Go.RowKit

theorem NodesFrom.turn {P : Nat → Prop} {w w' : World} (hk : Kept P w w') : ∀ (f : Fo) (g i : Nat), (∀ o, i * 7 ≤ o → w'.cell? ⟨g, o, none⟩ = w.cell? ⟨g, o, none⟩) → NodesFrom P w f g 0 i → NodesFrom P w' f g 0 i
  | .nil, _, _, _, _ => trivial
  | .cons d k r, g, i, hc, ⟨⟨va, vk, h7, ha, p, cap, hv, h⟩, hr⟩ => by
    refine ⟨⟨va, vk, ⟨(hc _ (by omega)).trans h7.c0, (hc _ (by omega)).trans h7.c1, (hc _ (by omega)).trans h7.c2, (hc _ (by omega)).trans h7.c3, (hc _ (by omega)).trans h7.c4, (hc _ (by omega)).trans h7.c5, (hc _ (by omega)).trans h7.c6⟩, ha.kept hk, p, cap, hv, fun h0 => ?_⟩, NodesFrom.turn hk r g (i + 1) (fun o ho => hc o (by omega)) hr⟩
    obtain ⟨g', o', h1, h2, h3, h4⟩ := h h0
    exact ⟨g', o', h1, h2, Nat.lt_of_lt_of_le h3 hk.size, NodesFrom.kept hk k g' o' 0 h2 h3 h4⟩
/-- A tree of one's own, all of it new. -/
def TreeOut (f : Fo) (w : World) (e : Ending) (W : World) : Prop := ∃ v, e = .returned v ∧ OwnT W v f w.heap.size W.heap.size ∧ Below w.heap.size w W
/-- What a round of copiedTree leaves. -/
theorem copy_step {w wr w2 W3 W4 W5 : World} {g k : Nat} {a r kd : Fo} {d : Nd} {va vk va' vk' : Value} (hak : a.len = k) (hg1 : w.heap.size ≤ g) (hg2 : g < wr.heap.size) (hfr : ∀ o, wr.frozen? ⟨g, o, none⟩ = false) (hB : Below w.heap.size w wr)
    (h1 : OwnF wr g a 0 (g + 1) wr.heap.size) (h7 : Cells7 wr g (k * 7) d va vk) (hr : NodesFrom (fun b => b < w.heap.size) wr r g 0 (k + 1))
    (b2 : Below wr.heap.size wr w2) (hA : AttrsP (fun b => wr.heap.size ≤ b) w2 va' d.attrs) (e3 : w2.setCell ⟨g, k * 7 + 3, none⟩ va' = W3) (b4 : Below W3.heap.size W3 W4) (hK : OwnT W4 vk' kd W3.heap.size W4.heap.size) (e5 : W4.setCell ⟨g, k * 7 + 6, none⟩ vk' = W5) :
    g < W5.heap.size ∧ (∀ o, W5.frozen? ⟨g, o, none⟩ = false) ∧ Below w.heap.size w W5 ∧ OwnF W5 g (a.app (.cons d kd .nil)) 0 (g + 1) W5.heap.size ∧ NodesFrom (fun b => b < w.heap.size) W5 r g 0 (k + 1) := by
  have s2 := b2.size
  have s3 : W3.heap.size = w2.heap.size := by rw [← e3]; simp
  have s4 := b4.size
  have s5 : W5.heap.size = W4.heap.size := by rw [← e5]; simp
  have s0 := hB.size
  -- blocks that are not g
  have hb : ∀ b, b < wr.heap.size → b ≠ g → W5.heap[b]? = wr.heap[b]? := fun b q1 q2 => by
    rw [← e5, heap_setCell_other _ _ b _ q2, b4.block b (by omega), ← e3, heap_setCell_other _ _ b _ q2, b2.block b q1]
  have hb3 : ∀ b, wr.heap.size ≤ b → b < w2.heap.size → W5.heap[b]? = w2.heap[b]? := fun b q1 q2 => by
    rw [← e5, heap_setCell_other _ _ b _ (by show b ≠ g; omega), b4.block b (by omega), ← e3, heap_setCell_other _ _ b _ (by show b ≠ g; omega)]
  -- cells of g
  have hc : ∀ o, o ≠ k * 7 + 3 → o ≠ k * 7 + 6 → W5.cell? ⟨g, o, none⟩ = wr.cell? ⟨g, o, none⟩ := fun o q1 q2 => by
    rw [← e5, World.cell?_setCell_other _ _ _ _ (by intro e; injection e with _ e; omega), b4.cell (p := ⟨g, o, none⟩) (by simp; omega), ← e3, World.cell?_setCell_other _ _ _ _ (by intro e; injection e with _ e; omega), b2.cell (p := ⟨g, o, none⟩) (by simp; omega)]
  have c3 : W5.cell? ⟨g, k * 7 + 3, none⟩ = some va' := by
    rw [← e5, World.cell?_setCell_other _ _ _ _ (by intro e; injection e with _ e; omega), b4.cell (p := ⟨g, k * 7 + 3, none⟩) (by simp; omega), ← e3]
    exact World.cell?_setCell_same _ _ (u := va) _ (by rw [b2.cell (p := ⟨g, k * 7 + 3, none⟩) (by simp; omega)]; exact h7.c3)
  have c6 : W5.cell? ⟨g, k * 7 + 6, none⟩ = some vk' := by
    rw [← e5]
    exact World.cell?_setCell_same _ _ (u := vk) _ (by rw [b4.cell (p := ⟨g, k * 7 + 6, none⟩) (by simp; omega), ← e3, World.cell?_setCell_other _ _ _ _ (by intro e; injection e with _ e; omega), b2.cell (p := ⟨g, k * 7 + 6, none⟩) (by simp; omega)]; exact h7.c6)
  have hf : ∀ o, W5.frozen? ⟨g, o, none⟩ = false := fun o => by
    rw [← e5, World.frozen?_setCell, b4.frozen (p := ⟨g, o, none⟩) (by simp; omega), ← e3, World.frozen?_setCell, b2.frozen (p := ⟨g, o, none⟩) (by simp; omega)]
    exact hfr o
  have hBB : Below w.heap.size w W5 := by
    rw [← e5]
    refine Below.setCell ?_ (by simpa using hg1) _
    refine Below.trans ?_ (b4.mono (by omega))
    rw [← e3]
    refine Below.setCell ?_ (by simpa using hg1) _
    exact hB.trans (b2.mono s0)
  refine ⟨by omega, hf, hBB, ?_, ?_⟩
  · refine OwnF.build (va := va') (vk := vk') (m1 := wr.heap.size) (ma := W3.heap.size) (m := W4.heap.size) hak (OwnF.kept a 0 (g + 1) wr.heap.size h1 (by omega) (fun o _ q => hc o (by omega) (by omega)) (fun b q1 q2 q3 => hb b q3 (by omega))) ?_ ?_ (by omega) ?_ (by show W4.heap.size ≤ W5.heap.size; omega)
    · exact ⟨(hc _ (by omega) (by omega)).trans h7.c0, (hc _ (by omega) (by omega)).trans h7.c1, (hc _ (by omega) (by omega)).trans h7.c2, c3, (hc _ (by omega) (by omega)).trans h7.c4, (hc _ (by omega) (by omega)).trans h7.c5, c6⟩
    · exact ((hA.mono (Q := fun b => wr.heap.size ≤ b ∧ b < W3.heap.size) (fun b q1 q2 => ⟨q1, by omega⟩)).kept ⟨by omega, fun b q1 q2 => hb3 b q1.1 q2⟩)
    · refine hK.kept (by omega) (fun b q1 q2 q3 => ?_)
      rw [← e5, heap_setCell_other _ _ b _ (by show b ≠ g; omega)]
  · exact NodesFrom.turn ⟨by omega, fun b q1 q2 => hb b q2 (by omega)⟩ r g (k + 1) (fun o q => hc o (by omega) (by omega)) hr
set_option maxHeartbeats 2000000 in
set_option maxRecDepth 100000 in
theorem dcopyT_all : ∀ (n : Nat) (f : Fo) (P : Nat → Prop) (v : Value) (w : World), f.wt < n → f.wt ≤ 4294967296 → NodesP P w v f → Calls Try.prog 82 #[v] w (TreeOut f w)
  | 0, _, _, _, _, hn, _, _ => absurd hn (by omega)
  | n + 1, f, P, v, w, hn, hs, h => by
    have IH := Lib.hid (dcopyT_all n)
    obtain ⟨p, l, c, rfl⟩ := h.slice
    have HC := Lib.hid (dcopyN f P _ w hs h)
    have hl := Fo.len_le f
    clear h
    go_enter Try.func82, Try.ntmps82
    go_wp2_with fail
    refine HC.out.mono ?_
    rintro e w1 ⟨p1, c1, rfl, b1, h1⟩
    have HB1 := Lib.hid b1
    have H1 := Lib.hid h1
    clear b1 h1
    go_wp2_with fail
    go_loopw [9] (fun i wr => ∃ (k : Nat) (a r : Fo), a.len = k ∧ k + r.len = f.len ∧ r.wt ≤ f.wt ∧ a.app r = f ∧ i = .int .i64 (k : Int) ∧ Below w.heap.size w wr ∧ (0 < f.len → ∃ g, p1 = some ⟨g, 0, none⟩ ∧ w.heap.size ≤ g ∧ g < wr.heap.size ∧ (∀ o, wr.frozen? ⟨g, o, none⟩ = false) ∧ OwnF wr g a 0 (g + 1) wr.heap.size ∧ NodesFrom (fun b => b < w.heap.size) wr r g 0 k)) (fun i _ => f.len - (intOf i).toNat)
    case atStart =>
      refine ⟨0, .nil, f, rfl, by omega, Nat.le_refl _, rfl, rfl, HB1.out, fun h0 => ?_⟩
      obtain ⟨g, e, q1, q2, ⟨xs, q3⟩, q4⟩ := H1.out h0
      subst e
      exact ⟨g, rfl, q1, q2, fun o => q3.frozenAt o, q2, q4⟩
    case round =>
      obtain ⟨k, a, r, hak, hk, hr, hf, rfl, hB, hG⟩ := hrel
      have HF := Lib.hid hf
      have HB := Lib.hid hB
      have HAK := Lib.hid hak
      have hBs := hB.size
      cases r with
      | nil =>
        have hk' : k = f.len := by simpa [Fo.len] using hk
        have HR : Hid (OwnT wr (.slice p1 f.len c1) f w.heap.size wr.heap.size) := by
          refine Lib.hid ⟨hBs, p1, c1, rfl, fun h0 => ?_⟩
          obtain ⟨g, e, q1, q2, q3, q4, _⟩ := hG h0
          rw [Fo.app_nil] at hf
          rw [← hf]
          exact ⟨g, e, q1, q2, q2, q3, q4⟩
        subst hk'
        clear hf hB hak hG
        go_wp2_with fail
        go_ret
        exact ⟨_, rfl, HR.out, HB.out⟩
      | cons d kd r' =>
        simp only [Fo.wt, Fo.len] at hr hk
        obtain ⟨g, rfl, hg1, hg2, hg3, hg4, ⟨⟨va, vk, h7, ha, pk, ck, rfl, hkk⟩, hrr⟩⟩ := hG (by omega)
        rw [Nat.zero_add] at h7
        obtain ⟨pa, ca, rfl, haa⟩ := id ha
        have HCA := Lib.hid (dcopyA d.attrs _ _ wr ha (by omega))
        have HKID : Hid (NodesP (fun b => b < w.heap.size) wr (.slice pk kd.len ck) kd) := Lib.hid ⟨pk, ck, rfl, fun h0 => hkk h0⟩
        have HST := Lib.hid (fun w2 W3 W4 W5 va' vk' => copy_step (w := w) (w2 := w2) (W3 := W3) (W4 := W4) (W5 := W5) (va' := va') (vk' := vk') (kd := kd) hak hg1 hg2 hg3 hB hg4 h7 hrr)
        have c3 := h7.c3
        have f3 := hg3 (k * 7 + 3)
        have f6 := hg3 (k * 7 + 6)
        have c6 := h7.c6
        have hkl : k < f.len := by omega
        have HREL : Hid (r'.wt ≤ f.wt ∧ kd.wt < n ∧ kd.wt ≤ 4294967296 ∧ k + 1 + r'.len = f.len ∧ (a.app (.cons d kd .nil)).len = k + 1 ∧ (a.app (.cons d kd .nil)).app r' = f) := by
          refine Lib.hid ⟨by omega, by omega, by omega, by omega, by rw [Fo.app_len, Fo.len, Fo.len]; omega, ?_⟩
          rw [Fo.app_assoc]
          exact hf
        clear hf hak hG hg3 hg4 h7 hrr hkk haa ha hB hk hr hn
        go_wp2_with fail
        refine HCA.out.mono ?_
        rintro e w2 ⟨pa', ca', rfl, hA, b2⟩
        have HA := Lib.hid hA
        have HB2 := Lib.hid b2
        have z3 := (b2.cell (p := ⟨g, k * 7 + 3, none⟩) (by simpa using hg2)).trans c3
        have y3 := (b2.frozen (p := ⟨g, k * 7 + 3, none⟩) (by simpa using hg2)).trans f3
        have s2 := b2.size
        have hg22 : g < w2.heap.size := by omega
        obtain ⟨W3, hW3⟩ : ∃ W3, w2.setCell ⟨g, k * 7 + 3, none⟩ (.slice pa' d.attrs.length ca') = W3 := ⟨_, rfl⟩
        have s3 : W3.heap.size = w2.heap.size := by rw [← hW3]; simp
        have hg33 : g < W3.heap.size := by omega
        have z6 : W3.cell? ⟨g, k * 7 + 6, none⟩ = some (.slice pk kd.len ck) := by
          rw [← hW3, World.cell?_setCell_other _ _ _ _ (by intro e; injection e with _ e; omega), b2.cell (p := ⟨g, k * 7 + 6, none⟩) (by simpa using hg2)]; exact c6
        have y6 : W3.frozen? ⟨g, k * 7 + 6, none⟩ = false := by
          rw [← hW3, World.frozen?_setCell, b2.frozen (p := ⟨g, k * 7 + 6, none⟩) (by simpa using hg2)]; exact f6
        have HKID3 : Hid (NodesP (fun b => b < w.heap.size) W3 (.slice pk kd.len ck) kd) := by
          refine Lib.hid (HKID.out.kept ⟨by omega, fun b q1 q2 => ?_⟩)
          rw [← hW3, heap_setCell_other _ _ b _ (by show b ≠ g; omega), b2.block b q2]
        have HW3 := Lib.hid hW3
        have HIH := Lib.hid (IH.out kd _ _ W3 HREL.out.2.1 HREL.out.2.2.1 HKID3.out)
        clear hA b2 c3 c6 f3 f6 s3
        go_wp2_with fail
        refine HIH.out.mono ?_
        rintro e W4 ⟨v4, rfl, hK, b4⟩
        obtain ⟨p4, l4, c4, rfl⟩ : ∃ p l c, v4 = .slice p l c := by obtain ⟨_, p, c, e, _⟩ := hK; exact ⟨p, _, c, e⟩
        have z6' := (b4.cell (p := ⟨g, k * 7 + 6, none⟩) (by simpa using hg33)).trans z6
        have y6' := (b4.frozen (p := ⟨g, k * 7 + 6, none⟩) (by simpa using hg33)).trans y6
        have s4 := b4.size
        have hg44 : g < W4.heap.size := by omega
        obtain ⟨W5, hW5⟩ : ∃ W5, W4.setCell ⟨g, k * 7 + 6, none⟩ (.slice p4 l4 c4) = W5 := ⟨_, rfl⟩
        have HS := Lib.hid (HST.out w2 W3 W4 W5 _ _ HB2.out HA.out HW3.out b4 hK hW5)
        clear b4 hK z6 y6 z3 y3 hW3 s4 s2
        go_wp2_with fail
        obtain ⟨t1, t2, t3, t4, t5⟩ := HS.out
        exact ⟨⟨k + 1, _, r', HREL.out.2.2.2.2.1, HREL.out.2.2.2.1, HREL.out.1, HREL.out.2.2.2.2.2, by go_num, t3, fun _ => ⟨g, rfl, hg1, t1, t2, t4, t5⟩⟩, by simp [intOf]; omega⟩
end Go.Proofs.Ytbadckkcjjfnoaa
