/-
  The walk of the program's Write. Any nodes, not too many.
-/
import Derived.Test.YtbadckkcjjfnoaaDPNote
import Derived.Deep.RegionLaw
import Derived.Deep.AppendLies
namespace Go.Proofs.Ytbadckkcjjfnoaa
open Go.RowKit

/-- 'append(b, s...)' where b owns its bytes, as a step in a region whose order is drawn. -/
theorem step_append_bytes {w : World} {ops : Array Oper} {o : Oper} {a : Act} {K : Act → World → Prop} {Q : Exit → Act → World → Prop} {E : Prop} (hgd : o.guard = none) (sl x : Operand)
    (ho : o.op = .call { callee := .builtin .append, args := #[sl, x], argTypes := #[ 91, 9 ] })
    (v : Value) (l s : List UInt8) (SB : ByteArray) (hSB : (⟨s.toArray⟩ : ByteArray) = SB) (hs : a.eval sl = v) (hx : a.eval x = .string SB) (h : OwnsB w v l) (hm : l.length + s.length ≤ 140737488355328)
    (hk : ∀ v' w', OwnsB w' v' (l ++ s) → w.grownBy w' v.ownBlock → (∀ g, v'.ownBlock = some g → v.ownBlock = some g ∨ w.heap.size ≤ g) → K (a.put o.dst v') w') :
    if Region.wanted o (yielded ops a.tmps) = true then Oper.wp Try.prog o a w K Q else E := by
  have hw : Region.wanted o (yielded ops a.tmps) = true := by simp [Region.wanted, hgd]
  rw [if_pos hw]
  subst hSB
  obtain ⟨i0, hi0, hz0, hz1, hz2⟩ := info_u8
  obtain ⟨v', w', hr, h1, h2, h3⟩ := run_append_bytes (P := Try.prog) w 91 9 o.type i0 Try.underlying91 Try.underlying9 hi0 hz0 hz1 hz2 v l s h hm
  unfold Oper.wp
  simp [execOp, ho, resolve, invoke, builtin, hs, hx, hr, Result.andThen]
  exact hk v' w' h1 h2 h3
theorem DocM.text_ne {M : Nat → Prop} {w : World} {B g cap : Nat} {S : List PN} (h : DocM M w B S) (hr : Reads w B S (some ⟨g, 0, none⟩) cap) (j : Nat) (hj : j < S.length) (p : Option Addr) (c : Nat) (hc : w.cell? ⟨g, j * 10 + 4, none⟩ = some (.slice p S[j].text.length c)) : some B ≠ (Value.slice p S[j].text.length c).ownBlock := by
  obtain ⟨v, qs, rfl, hq⟩ := h
  have hv := hq.cell.symm.trans hr.cell
  rw [List.length_map] at hv
  injection hv with hv
  subst hv
  have hj' : j < qs.length := by simpa using hj
  have hc2 := hq.at j 4 hj' (by omega)
  rw [hc] at hc2
  have e : some (Value.slice p _ c) = some qs[j].2.2 := hc2
  rw [Option.some.inj e]
  exact fun q => (hq.textM _ (List.getElem_mem hj') B q.symm).2.1 rfl
theorem grown_from {w w2 w3 : World} {row : Option Nat} (hb : Below w.heap.size w w2) (hh : w2.heap = w.heap) (h : w2.grownBy w3 row) : w.grownBy w3 row :=
  ⟨h.os.trans hb.os, h.tape.trans hb.tape, h.output.trans hb.output, by have := h.size; rw [hh] at this; exact this, fun k hk hne => by have := h.block k (by rw [hh]; exact hk) hne; rw [hh] at this; exact this⟩
set_option maxHeartbeats 1000000 in
set_option maxRecDepth 100000 in
theorem dwriteP (S : List PN) (B : Nat) (M : Nat → Prop) (w : World) (s : List UInt8) (up ahead : Int) (h : DocM M w B S) (hM : ∀ b, M b → b < w.heap.size) (hs : S.length ≤ 4294967296) (hl : s.length ≤ 4294967296) (ht : ∀ x ∈ S, x.text.length ≤ 4294967296) (h0 : 0 < S.length) (ho : okWrite S s up ahead = true) :
    Calls Try.prog 15 #[.pointer (some ⟨B, 0, none⟩), .string ⟨s.toArray⟩, .int .i64 up, .int .i64 ahead] w (Adds M w B (pWrite S s up ahead).1 (.bool (pWrite S s up ahead).2)) := by
  obtain ⟨g, cap, hr⟩ := h.reads_pos h0
  have HP := Lib.hid (dplaceP S B w _ cap up ahead hr)
  unfold okWrite at ho
  unfold pWrite
  have hup : DocM (New M w) w B S := h.mono (fun b _ k => .inl k)
  cases hp : pPlace S up ahead
  · rw [hp] at HP
    rw [if_neg (by simp)]
    have HD := Lib.hid hup
    clear h hM hr ho hup
    generalize (⟨s.toArray⟩ : ByteArray) = SB at *
    go_enter Try.func15, Try.ntmps15
    go_wp2_with fail
    refine HP.out.mono ?_
    rintro e w1 ⟨rfl, rfl⟩
    go_wp2_with fail
    go_ret
    exact ⟨rfl, HD.out, Turns.refl _ _⟩
  · rw [hp] at HP ho
    rw [if_pos rfl]
    by_cases he : s = []
    · rw [if_pos he]
      have HD := Lib.hid hup
      have q1 : ((⟨s.toArray⟩ : ByteArray).toList == []) = true := by rw [Lib.toList_data, he]; rfl
      clear h hM hr ho hup he
      generalize (⟨s.toArray⟩ : ByteArray) = SB at *
      go_enter Try.func15, Try.ntmps15
      go_wp2_with fail
      refine HP.out.mono ?_
      rintro e w1 ⟨rfl, rfl⟩
      go_wp2_with fail
      go_ret
      exact ⟨rfl, HD.out, Turns.refl _ _⟩
    · rw [if_neg he]
      have q1 : ((⟨s.toArray⟩ : ByteArray).toList == []) = false := by
        rw [Lib.toList_data]
        cases s with
        | nil => exact absurd rfl he
        | cons _ _ => rfl
      rw [decide_eq_false he] at ho
      simp only [Bool.not_true, Bool.false_or, Bool.and_eq_true, Bool.or_eq_true, decide_eq_true_eq] at ho
      obtain ⟨ob, ol⟩ := ho
      obtain ⟨pu, pa⟩ := place_has hp
      have HB := Lib.hid (dbeforeP S B w _ cap up ahead hr pu pa)
      have hc0 := hr.cell
      generalize hk : pBefore S up ahead = k at *
      cases hi : inText S k
      · rw [if_neg (by simp)]
        rw [hi] at ol
        have ol2 : okLink (S ++ [notePN 2 s]) (S.length : Int) up ahead = true := by simpa using ol
        obtain ⟨c, W, hcv, hO, hb⟩ := conv_owns w s (by omega)
        have HA := Lib.hid (daddTextP S B M w 2 s h hM hs c W hO hb)
        have HL : Hid (∀ w2, DocM (New M w) w2 B (S ++ [notePN 2 s]) → Turns M w w2 → Calls Try.prog 77 #[.pointer (some ⟨B, 0, none⟩), .int .i64 (S.length : Int), .int .i64 up, .int .i64 ahead] w2 (Adds M w B (pLink (S ++ [notePN 2 s]) (S.length : Int) up ahead) (.tuple #[]))) := by
          refine Lib.hid fun w2 d2 t2 => ?_
          obtain ⟨g2, cap2, hr2⟩ := d2.reads_pos (by simp)
          refine (dlinkP _ B (New M w) w2 g2 cap2 _ up ahead d2 hr2 ol2).mono ?_
          rintro e w3 ⟨rfl, d3, _, t3⟩
          exact ⟨rfl, d3, t2.trans t3⟩
        by_cases k1 : k = -1
        · have q2 : (k != -1) = false := by simp [k1]
          clear h hM hr ol ol2 hO hb hup hk ob he k1 hi
          generalize (⟨s.toArray⟩ : ByteArray) = SB at *
          go_enter Try.func15, Try.ntmps15
          go_wp2_with fail
          refine HP.out.mono ?_
          rintro e w1 ⟨rfl, rfl⟩
          go_wp2_with fail
          refine HB.out.mono ?_
          rintro e w1 ⟨rfl, rfl⟩
          go_wp2_with fail
          refine HA.out.mono ?_
          rintro e w2 ⟨rfl, d2, t2⟩
          have HL2 := Lib.hid (HL.out w2 d2 t2)
          clear d2 t2
          go_wp2_with fail
          refine HL2.out.mono ?_
          rintro e w3 ⟨rfl, d3, t3⟩
          have HD := Lib.hid d3
          have HT := Lib.hid t3
          clear d3 t3
          go_wp2_with fail
          go_ret
          exact ⟨rfl, HD.out, HT.out⟩
        · have q2 : (k != -1) = true := by simp [k1]
          obtain ⟨j, rfl, hj⟩ := pHas_nat (ob.resolve_left k1)
          obtain ⟨_, va, vt, e, hg, hc⟩ := hr.node j hj
          injection e with e; injection e with e; subst e
          have c0 := hc.c0
          have q3 : (S[j].kind == 2) = false := by
            unfold inText at hi
            rw [pget_nat hj, decide_eq_false k1] at hi
            rw [beq_eq_false_iff_ne]
            simpa using hi
          have j0 : (0 : Int) ≤ (j : Int) := by omega
          have j1 : (j : Int) < (S.length : Int) := by omega
          clear h hM hr ol ol2 hO hb hup hk ob he k1 hi hc
          generalize (⟨s.toArray⟩ : ByteArray) = SB at *
          go_enter Try.func15, Try.ntmps15
          go_wp2_with fail
          refine HP.out.mono ?_
          rintro e w1 ⟨rfl, rfl⟩
          go_wp2_with fail
          refine HB.out.mono ?_
          rintro e w1 ⟨rfl, rfl⟩
          go_wp2_with fail
          refine HA.out.mono ?_
          rintro e w2 ⟨rfl, d2, t2⟩
          have HL2 := Lib.hid (HL.out w2 d2 t2)
          clear d2 t2
          go_wp2_with fail
          refine HL2.out.mono ?_
          rintro e w3 ⟨rfl, d3, t3⟩
          have HD := Lib.hid d3
          have HT := Lib.hid t3
          clear d3 t3
          go_wp2_with fail
          go_ret
          exact ⟨rfl, HD.out, HT.out⟩
      · rw [if_pos rfl]
        have k1 : k ≠ -1 := by
          intro e
          unfold inText at hi
          rw [decide_eq_true e] at hi
          cases hi
        have q2 : (k != -1) = true := by simp [k1]
        obtain ⟨j, rfl, hj⟩ := pHas_nat (ob.resolve_left k1)
        obtain ⟨_, va, vt, e, hg, hc⟩ := hr.node j hj
        injection e with e; injection e with e; subst e
        have c0 := hc.c0
        have q3 : (S[j].kind == 2) = true := by
          unfold inText at hi
          rw [pget_nat hj, decide_eq_false k1] at hi
          rw [beq_iff_eq]
          simpa using hi
        have hBl := hr.lt
        have hnB : ∀ p c, w.cell? ⟨g, j * 10 + 4, none⟩ = some (.slice p S[j].text.length c) → some B ≠ (Value.slice p S[j].text.length c).ownBlock := h.text_ne hr j hj
        obtain ⟨p, c, c4, hO, hgrow⟩ := h.text hr j hj
        have htj := ht S[j] (List.getElem_mem hj)
        have hpt : pText S (j : Int) s = S.set j { S[j] with text := S[j].text ++ s } := by unfold pText; rw [pset_nat hj]
        rw [hpt]
        have HG := Lib.hid hgrow
        have HO := Lib.hid hO
        have j0 : (0 : Int) ≤ (j : Int) := by omega
        have j1 : (j : Int) < (S.length : Int) := by omega
        have HSB : Hid (∀ W, Below w.heap.size w W → OwnsB W (.slice p S[j].text.length c) S[j].text) := Lib.hid fun W b => hO.block (fun x e => b.block x (hO.lt x e))
        clear h hM hr ol hO hup hk ob he k1 hi hc hgrow hpt
        obtain ⟨SB, hSB⟩ : ∃ SB : ByteArray, (⟨s.toArray⟩ : ByteArray) = SB := ⟨_, rfl⟩
        rw [hSB] at q1 ⊢
        have HSE := Lib.hid hSB
        have HW := Lib.hid (show Below w.heap.size w w.drew from (Below.refl _ _).drew)
        have hwd : w.drew.heap = w.heap := rfl
        have HC0 := Lib.hid hc0
        have HBL := Lib.hid hBl
        have HNB := Lib.hid (hnB p c c4)
        clear hnB
        have HHP := Lib.hid hwd
        clear hSB hwd
        go_enter Try.func15, Try.ntmps15
        go_wp2_with fail
        refine HP.out.mono ?_
        rintro e w1 ⟨rfl, rfl⟩
        go_wp2_with fail
        refine HB.out.mono ?_
        rintro e w1 ⟨rfl, rfl⟩
        go_wp2_with fail
        go_region_law (refine step_append_bytes (by rfl) _ _ (by rfl) (.slice p S[j].text.length c) S[j].text s SB HSE.out (by rfl) (by rfl) (HSB.out _ HW.out) (by omega) ?_; intro v1 w3 h1 h2 h3; obtain ⟨p1, c1, rfl⟩ := h1.form; obtain ⟨hd3, ht3, hc3, hf3⟩ := HG.out s _ w3 h1 (grown_from HW.out HHP.out h2) (by rw [HHP.out] at h3; exact h3); rw [List.length_append] at hd3 ht3; have HD := Lib.hid hd3; have HT := Lib.hid ht3; have hB3 : w3.cell? ⟨B, 0, none⟩ = some (.slice (some ⟨g, 0, none⟩) S.length cap) := (World.cell?_of_block (h2.block B (by rw [HHP.out]; exact HBL.out) HNB.out)).trans ((World.cell?_of_block (w := w) (by rw [HHP.out])).trans HC0.out); rw [List.length_append]; clear h1 h2 h3 hd3 ht3)
        all_goals
          go_wp2
          go_ret
          exact ⟨rfl, HD.out, HT.out⟩
end Go.Proofs.Ytbadckkcjjfnoaa
