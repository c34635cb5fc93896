/-
  The walks of the program's counter, and of eachText with it: texts numbered in place. Any tree of one's own, not too great.
-/
import Derived.Test.YtbadckkcjjfnoaaDPNum0
namespace Go.Proofs.Ytbadckkcjjfnoaa
open Go.RowKit

set_option maxHeartbeats 1000000 in
set_option maxRecDepth 100000 in
theorem dcountP (W : World) (B g o : Nat) (y : Int) (u : Value) (hc : W.cell? ⟨B, 0, none⟩ = some (.int .i64 (y - 1))) (hf : W.frozen? ⟨B, 0, none⟩ = false) (hu : W.cell? ⟨g, o + 5, none⟩ = some u) (hf2 : W.frozen? ⟨g, o + 5, none⟩ = false) (hne : B ≠ g) (hy : 0 ≤ y) (hy2 : y ≤ 8589934592) :
    Calls Try.prog 84 #[.pointer (some ⟨B, 0, none⟩), .pointer (some ⟨g, o, none⟩)] W (fun e W' => e = .returned (.tuple #[]) ∧ W' = (W.setCell ⟨B, 0, none⟩ (.int .i64 y)).setCell ⟨g, o + 5, none⟩ (.int .i64 y)) := by
  have k1 : (W.setCell ⟨B, 0, none⟩ (.int .i64 y)).cell? ⟨B, 0, none⟩ = some (.int .i64 y) := World.cell?_setCell_same _ _ _ hc
  have k2 : (W.setCell ⟨B, 0, none⟩ (.int .i64 y)).cell? ⟨g, o + 5, none⟩ = some u := by
    rw [World.cell?_setCell_other _ _ _ _ (by intro e; injection e with e1 e2; exact hne e1)]; exact hu
  have k3 : (W.setCell ⟨B, 0, none⟩ (.int .i64 y)).frozen? ⟨g, o + 5, none⟩ = false := by rw [World.frozen?_setCell]; exact hf2
  have e1 : y - 1 + 1 = y := by omega
  obtain ⟨W1, hW1⟩ : ∃ W1, W.setCell ⟨B, 0, none⟩ (.int .i64 y) = W1 := ⟨_, rfl⟩
  rw [hW1] at k1 k2 k3 ⊢
  generalize hz : y - 1 = z at *
  have hz1 : z + 1 = y := by omega
  go_enter Try.func84, Try.ntmps84
  go_wp2_with fail
  exact bodyPost_end (results_none rfl _ _ _) rfl ⟨rfl, rfl⟩
/-- A piece of a row put together again. -/
theorem OwnF.build {w : World} {g : Nat} {a r : Fo} {d : Nd} {k : Fo} {va vk : Value} {lo m1 ma m hi n : Nat} (hn : a.len = n) (h1 : OwnF w g a 0 lo m1) (h7 : Cells7 w g (n * 7) d va vk) (ha : AttrsP (fun b => m1 ≤ b ∧ b < ma) w va d.attrs) (hma : m1 ≤ ma) (hk : OwnT w vk k ma m) (hr : OwnF w g r (n + 1) m hi) : OwnF w g (a.app (.cons d k r)) 0 lo hi := by
  subst hn
  refine OwnF.join a _ 0 lo m1 hi h1 ?_
  rw [Nat.zero_add]
  obtain ⟨hl, p, cap, hv, h⟩ := hk
  exact ⟨va, vk, ma, m, h7, ha, hma, hl, ⟨p, cap, hv, h⟩, hr⟩
theorem OwnF.part {w : World} {g : Nat} {a r : Fo} {d : Nd} {k : Fo} {lo hi n : Nat} (hn : a.len = n) (h : OwnF w g (a.app (.cons d k r)) 0 lo hi) : ∃ va vk m1 ma m, OwnF w g a 0 lo m1 ∧ Cells7 w g (n * 7) d va vk ∧ AttrsP (fun b => m1 ≤ b ∧ b < ma) w va d.attrs ∧ m1 ≤ ma ∧ OwnT w vk k ma m ∧ OwnF w g r (n + 1) m hi := by
  subst hn
  obtain ⟨m1, h1, h2⟩ := OwnF.split a _ 0 lo hi h
  rw [Nat.zero_add] at h2
  obtain ⟨va, vk, ma, m, h7, ha, hm, hm2, ⟨p, cap, hv, hk⟩, hr⟩ := h2
  exact ⟨va, vk, m1, ma, m, h1, h7, ha, hm, ⟨hm2, p, cap, hv, hk⟩, hr⟩
/-- A node numbered, and the next number. -/
def numbN (d : Nd) (z : Int) : Nd × Int := (Fo.numD d z, Fo.numN d z)
/-- What numbering leaves. -/
structure Numb (W W' : World) (B : Nat) (v : Value) (f : Fo) (lo hi : Nat) (y : Int) : Prop where
  tree : OwnT W' v f lo hi
  cell : W'.cell? ⟨B, 0, none⟩ = some (.int .i64 (y - 1))
  free : W'.frozen? ⟨B, 0, none⟩ = false
  turns : Turns (fun b => b = B ∨ lo ≤ b ∧ b < hi) W W'
  size : W'.heap.size = W.heap.size
/-- Behind the numbering of one node's kids the row stands as before, but for these. -/
theorem num_step {W2 W3 : World} {B g k m1 ma m hi : Nat} {a r kd' : Fo} {d : Nd} {va vk : Value} {z : Int} (hak : a.len = k) (h1 : OwnF W2 g a 0 (g + 1) m1) (h7 : Cells7 W2 g (k * 7) d va vk) (ha : AttrsP (fun b => m1 ≤ b ∧ b < ma) W2 va d.attrs) (hma : m1 ≤ ma) (hr : OwnF W2 g r (k + 1) m hi) (hg : g < W2.heap.size) (hfr : ∀ o, W2.frozen? ⟨g, o, none⟩ = false) (hB : ¬ (g ≤ B ∧ B < hi)) (hN : Numb W2 W3 B vk kd' ma m z) :
    g < W3.heap.size ∧ (∀ o, W3.frozen? ⟨g, o, none⟩ = false) ∧ OwnF W3 g (a.app (.cons d kd' r)) 0 (g + 1) hi := by
  have l1 := OwnF.le a 0 (g + 1) m1 h1
  have l2 := hN.tree.1
  have l3 := OwnF.le r (k + 1) m hi hr
  have hb : ∀ b, b < W2.heap.size → ¬ (b = B ∨ ma ≤ b ∧ b < m) → W3.heap[b]? = W2.heap[b]? := hN.turns.block
  have hgb := hb g hg (by omega)
  refine ⟨by rw [hN.size]; exact hg, fun o => by rw [World.frozen?_of_block (w := W2) hgb]; exact hfr o, ?_⟩
  refine OwnF.build hak (OwnF.kept a 0 (g + 1) m1 h1 (by rw [hN.size]; exact Nat.le_refl _) (fun o _ _ => World.cell?_of_block (w := W2) hgb) (fun b q1 q2 q3 => hb b q3 (by omega))) (h7.kept (P := fun b => b = g) ⟨by rw [hN.size]; exact Nat.le_refl _, fun b e _ => by subst e; exact hgb⟩ rfl hg) (ha.kept ⟨by rw [hN.size]; exact Nat.le_refl _, fun b q hl => hb b hl (by omega)⟩) hma hN.tree (OwnF.kept r (k + 1) m hi hr (by rw [hN.size]; exact Nat.le_refl _) (fun o _ _ => World.cell?_of_block (w := W2) hgb) (fun b q1 q2 q3 => hb b q3 (by omega)))
set_option maxHeartbeats 2000000 in
set_option maxRecDepth 100000 in
theorem deachN_all : ∀ (n : Nat) (f : Fo) (v : Value) (W : World) (B lo hi : Nat) (y : Int), f.wt < n → f.wt ≤ 4294967296 → 1 ≤ y → y + f.wt ≤ 4294967297 → OwnT W v f lo hi → W.cell? ⟨B, 0, none⟩ = some (.int .i64 (y - 1)) → W.frozen? ⟨B, 0, none⟩ = false → ¬ (lo ≤ B ∧ B < hi) →
    Calls Try.prog 83 #[v, .func (.func 84) #[.pointer (some ⟨B, 0, none⟩)] #[]] W (fun e W' => e = .returned (.tuple #[]) ∧ Numb W W' B v (f.number y).1 lo hi (f.number y).2)
  | 0, f, v, W, B, lo, hi, y, hn, _, _, _, _, _, _, _ => absurd hn (by omega)
  | n + 1, f, v, W, B, lo, hi, y, hn, hs, hy, hyw, hO, hcB, hfB, hB => by
    have IH := Lib.hid (deachN_all n)
    obtain ⟨hlh, p, cap, rfl, hO⟩ := hO
    have HO := Lib.hid hO
    have hl := Fo.len_le f
    have HCB := Lib.hid (And.intro hcB hfB)
    clear hO hcB hfB
    go_enter Try.func83, Try.ntmps83
    go_wp2_with fail
    go_loopw [7] (fun i wr => ∃ (k : Nat) (a r : Fo) (z : Int), a.len = k ∧ k + r.len = f.len ∧ r.wt ≤ f.wt ∧ i = .int .i64 (k : Int) ∧ f.number y = (a.app (r.number z).1, (r.number z).2) ∧ 1 ≤ z ∧ z + r.wt ≤ y + f.wt ∧ (0 < f.len → ∃ g, p = some ⟨g, 0, none⟩ ∧ lo ≤ g ∧ g < hi ∧ g < wr.heap.size ∧ (∀ o, wr.frozen? ⟨g, o, none⟩ = false) ∧ OwnF wr g (a.app r) 0 (g + 1) hi) ∧ wr.cell? ⟨B, 0, none⟩ = some (.int .i64 (z - 1)) ∧ wr.frozen? ⟨B, 0, none⟩ = false ∧ Turns (fun b => b = B ∨ lo ≤ b ∧ b < hi) W wr ∧ wr.heap.size = W.heap.size) (fun i _ => f.len - (intOf i).toNat)
    case atStart => exact ⟨0, .nil, f, y, rfl, by omega, Nat.le_refl _, rfl, rfl, hy, Int.le_refl _, HO.out, HCB.out.1, HCB.out.2, Turns.refl _ _, rfl⟩
    case round =>
      obtain ⟨k, a, r, z, hak, hk, hr, rfl, hd, hz1, hz2, hG, hc, hf, hT, hsz⟩ := hrel
      have HD := Lib.hid hd
      have HT := Lib.hid hT
      have HSZ := Lib.hid hsz
      have HAK := Lib.hid hak
      cases r with
      | nil =>
        have hk' : k = f.len := by simpa [Fo.len] using hk
        have HF : Hid (Numb W wr B (.slice p f.len cap) (f.number y).1 lo hi (f.number y).2) := by
          refine Lib.hid ?_
          rw [hd]
          have hz : (Fo.nil.number z) = (.nil, z) := rfl
          rw [hz, Fo.app_nil]
          rw [Fo.app_nil] at hG
          refine ⟨⟨hlh, p, cap, by rw [show a.len = f.len by omega], fun h0 => hG (by have h1 : 0 < a.len := h0; omega)⟩, hc, hf, hT, hsz⟩
        subst hk'
        clear hd hG hc hf hT hsz hak
        go_wp2_with fail
        exact bodyPost_end (results_none rfl _ _ _) rfl ⟨rfl, HF.out⟩
      | cons d kd r' =>
        simp only [Fo.wt, Fo.len] at hr hk hz2
        obtain ⟨g, rfl, hg1, hg2, hg3, hg4, hg5⟩ := hG (by omega)
        obtain ⟨va, vk, m1, ma, m, ha1, h7, haa, hma, hkk, hrr⟩ := OwnF.part hak hg5
        have l1 := OwnF.le a 0 (g + 1) m1 ha1
        have l2 := hkk.1
        have l3 := OwnF.le r' (k + 1) m hi hrr
        have hBg : B ≠ g := by omega
        have hBn : ¬ (g ≤ B ∧ B < hi) := by omega
        obtain ⟨pk, lk, ck, hvk⟩ : ∃ pk lk ck, vk = .slice pk lk ck := by obtain ⟨_, p, c, e, _⟩ := hkk; exact ⟨p, _, c, e⟩
        subst hvk
        have c0 := h7.c0
        have c6 := h7.c6
        have hkl : k < f.len := by omega
        have hnle := Fo.number_le kd
        -- what the round leaves, of whatever the counter did to the node itself
        have HFIN : Hid (∀ (W2 W3 : World) (d' : Nd) (z' : Int), numbN d z = (d', z') → Turns (fun b => b = B ∨ lo ≤ b ∧ b < hi) W W2 → W2.heap.size = W.heap.size → OwnF W2 g a 0 (g + 1) m1 → Cells7 W2 g (k * 7) d' va (.slice pk lk ck) → AttrsP (fun b => m1 ≤ b ∧ b < ma) W2 va d'.attrs → OwnF W2 g r' (k + 1) m hi → (∀ o, W2.frozen? ⟨g, o, none⟩ = false) → Numb W2 W3 B (.slice pk lk ck) (kd.number z').1 ma m (kd.number z').2 →
            ∃ (k2 : Nat) (a2 r2 : Fo) (z2 : Int), a2.len = k2 ∧ k2 + r2.len = f.len ∧ r2.wt ≤ f.wt ∧ Value.int .i64 ((k : Int) + 1) = .int .i64 (k2 : Int) ∧ f.number y = (a2.app (r2.number z2).1, (r2.number z2).2) ∧ 1 ≤ z2 ∧ z2 + r2.wt ≤ y + f.wt ∧ (0 < f.len → ∃ g', some (⟨g, 0, none⟩ : Addr) = some ⟨g', 0, none⟩ ∧ lo ≤ g' ∧ g' < hi ∧ g' < W3.heap.size ∧ (∀ o, W3.frozen? ⟨g', o, none⟩ = false) ∧ OwnF W3 g' (a2.app r2) 0 (g' + 1) hi) ∧ W3.cell? ⟨B, 0, none⟩ = some (.int .i64 (z2 - 1)) ∧ W3.frozen? ⟨B, 0, none⟩ = false ∧ Turns (fun b => b = B ∨ lo ≤ b ∧ b < hi) W W3 ∧ W3.heap.size = W.heap.size) := by
          refine Lib.hid fun W2 W3 d' z' hnd hT2 hs2 p1 p2 p3 p4 p5 hN => ?_
          obtain ⟨q1, q2, q3⟩ := num_step hak p1 p2 p3 hma p4 (by rw [hs2, ← hsz]; exact hg3) p5 hBn hN
          have hnd1 : Fo.numD d z = d' := congrArg Prod.fst hnd
          have hnd2 : Fo.numN d z = z' := congrArg Prod.snd hnd
          have hz' : z ≤ z' ∧ z' ≤ z + 1 := by rw [← hnd2]; unfold Fo.numN; split <;> omega
          have hnl := hnle z'
          refine ⟨k + 1, a.app (.cons d' (kd.number z').1 .nil), r', (kd.number z').2, by rw [Fo.app_len, Fo.len, Fo.len]; omega, by omega, by omega, by go_num, ?_, by omega, by omega, fun _ => ⟨g, rfl, hg1, hg2, q1, q2, ?_⟩, hN.cell, hN.free, hT2.trans (hN.turns.mono fun b _ e => .inl (by omega)), by rw [hN.size, hs2]⟩
          · rw [hd, Fo.number, hnd1, hnd2, Fo.app_assoc]
            rfl
          · rw [Fo.app_assoc]
            exact q3
        by_cases hk2 : d.kind = 2
        · have q2 : (d.kind == 2) = true := beq_iff_eq.2 hk2
          have HND : Hid (numbN d z = ({ d with frm := z }, z + 1)) := Lib.hid (by unfold numbN Fo.numD Fo.numN; rw [if_pos hk2, if_pos hk2])
          have HCT := Lib.hid (dcountP wr B g (k * 7) z _ hc hf h7.c5 (hg4 _) hBg (by omega) (by omega))
          obtain ⟨W2, hW2⟩ : ∃ W2, (wr.setCell ⟨B, 0, none⟩ (.int .i64 z)).setCell ⟨g, k * 7 + 5, none⟩ (.int .i64 z) = W2 := ⟨_, rfl⟩
          have hblk : ∀ b, b ≠ B → b ≠ g → W2.heap[b]? = wr.heap[b]? := fun b x1 x2 => by rw [← hW2, heap_setCell_other _ _ b _ x2, heap_setCell_other _ _ b _ x1]
          have hcel : ∀ o, o ≠ k * 7 + 5 → W2.cell? ⟨g, o, none⟩ = wr.cell? ⟨g, o, none⟩ := fun o ho => by rw [← hW2, World.cell?_setCell_other _ _ _ _ (by intro e; injection e with _ e; omega), World.cell?_setCell_other _ _ _ _ (by intro e; injection e with e; exact hBg e)]
          have hsz2 : W2.heap.size = wr.heap.size := by rw [← hW2]; simp
          have hc5 : W2.cell? ⟨g, k * 7 + 5, none⟩ = some (.int .i64 z) := by rw [← hW2]; exact World.cell?_setCell_same _ _ (u := .int .i64 d.frm) _ (by rw [World.cell?_setCell_other _ _ _ _ (by intro e; injection e with e; exact hBg e)]; exact h7.c5)
          have hcB : W2.cell? ⟨B, 0, none⟩ = some (.int .i64 (z + 1 - 1)) := by rw [← hW2, World.cell?_setCell_other _ _ _ _ (by intro e; injection e with e; exact hBg e.symm), show z + 1 - 1 = z by omega]; exact World.cell?_setCell_same _ _ _ hc
          have hfB : W2.frozen? ⟨B, 0, none⟩ = false := by rw [← hW2, World.frozen?_setCell, World.frozen?_setCell]; exact hf
          have hfg : ∀ o, W2.frozen? ⟨g, o, none⟩ = false := fun o => by rw [← hW2, World.frozen?_setCell, World.frozen?_setCell]; exact hg4 o
          have P1 : OwnF W2 g a 0 (g + 1) m1 := OwnF.kept a 0 (g + 1) m1 ha1 (by omega) (fun o x1 x2 => hcel o (by omega)) (fun b x1 x2 _ => hblk b (by omega) (by omega))
          have P4 : OwnF W2 g r' (k + 1) m hi := OwnF.kept r' (k + 1) m hi hrr (by omega) (fun o x1 x2 => hcel o (by omega)) (fun b x1 x2 _ => hblk b (by omega) (by omega))
          have P2 : Cells7 W2 g (k * 7) { d with frm := z } va (.slice pk lk ck) := ⟨(hcel _ (by omega)).trans h7.c0, (hcel _ (by omega)).trans h7.c1, (hcel _ (by omega)).trans h7.c2, (hcel _ (by omega)).trans h7.c3, (hcel _ (by omega)).trans h7.c4, hc5, (hcel _ (by omega)).trans h7.c6⟩
          have P3 : AttrsP (fun b => m1 ≤ b ∧ b < ma) W2 va d.attrs := haa.kept ⟨by omega, fun b x _ => hblk b (by omega) (by omega)⟩
          have P6 : OwnT W2 (.slice pk lk ck) kd ma m := hkk.kept (by omega) (fun b x1 x2 _ => hblk b (by omega) (by omega))
          have hTW : Turns (fun b => b = B ∨ lo ≤ b ∧ b < hi) W W2 := by rw [← hW2]; exact (HT.out.setCell (.inl (.inl rfl)) 0 _).setCell (.inl (.inr ⟨hg1, hg2⟩)) _ _
          have HIH := Lib.hid (IH.out kd _ W2 B ma m (z + 1) (by omega) (by omega) (by omega) (by omega) P6 hcB hfB (by omega))
          have HPP := Lib.hid (And.intro hTW (And.intro (show W2.heap.size = W.heap.size by omega) (And.intro P1 (And.intro P2 (And.intro P3 (And.intro P4 hfg))))))
          have c6' := P2.c6
          have hg3' : g < W2.heap.size := by omega
          rw [hW2] at HCT
          clear hk2 hd hG hc hf hT hsz hak h7 haa hkk hrr ha1 hg5 hblk hcel hc5 hcB hfB hfg P1 P2 P3 P4 P6 hTW hW2 hnle hg4
          go_wp2_with fail
          refine HCT.out.mono ?_
          rintro e w2 ⟨rfl, rfl⟩
          go_wp2_with fail
          refine HIH.out.mono ?_
          rintro e w3 ⟨rfl, h3⟩
          have HR := Lib.hid (HFIN.out _ w3 _ _ HND.out HPP.out.1 HPP.out.2.1 HPP.out.2.2.1 HPP.out.2.2.2.1 HPP.out.2.2.2.2.1 HPP.out.2.2.2.2.2.1 HPP.out.2.2.2.2.2.2 h3)
          clear h3
          go_wp2_with fail
          exact ⟨HR.out, by simp [intOf]; omega⟩
        · have q2 : (d.kind == 2) = false := beq_eq_false_iff_ne.2 hk2
          have HND : Hid (numbN d z = (d, z)) := Lib.hid (by unfold numbN Fo.numD Fo.numN; rw [if_neg hk2, if_neg hk2])
          have HIH := Lib.hid (IH.out kd _ wr B ma m z (by omega) (by omega) (by omega) (by omega) hkk hc hf (by omega))
          have HPP := Lib.hid (And.intro hT (And.intro hsz (And.intro ha1 (And.intro h7 (And.intro haa (And.intro hrr hg4))))))
          clear hk2 hd hG hc hf hT hsz hak h7 haa hkk hrr ha1 hg5 hnle hg4
          go_wp2_with fail
          refine HIH.out.mono ?_
          rintro e w3 ⟨rfl, h3⟩
          have HR := Lib.hid (HFIN.out _ w3 _ _ HND.out HPP.out.1 HPP.out.2.1 HPP.out.2.2.1 HPP.out.2.2.2.1 HPP.out.2.2.2.2.1 HPP.out.2.2.2.2.2.1 HPP.out.2.2.2.2.2.2 h3)
          clear h3
          go_wp2_with fail
          exact ⟨HR.out, by simp [intOf]; omega⟩
end Go.Proofs.Ytbadckkcjjfnoaa
