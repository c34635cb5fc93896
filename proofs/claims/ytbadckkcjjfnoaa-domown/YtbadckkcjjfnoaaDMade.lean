/-
  The walk of the laws' made. Any numbers.
-/
import Derived.Test.YtbadckkcjjfnoaaDMBlk
import Derived.Deep.CutBlock
import Derived.Deep.DeepCutAuto
namespace Go.Proofs.Ytbadckkcjjfnoaa
open Go.RowKit

/-- Behind a round of its loop. -/
structure RoundZ (kid : Nat → Fo × Nat) (w0 : World) (v : Value) (zs : List Int) (B base : Nat) (W : World) (FIN : List (Nd × Fo) × Nat) (g c n : Nat) (l : Value) (W' : World) (qs : List ((Nd × Value × Value) × Fo)) (a : Nat) : Prop where
  form : ∃ p cap, l = .slice p qs.length cap
  row : RowM base l qs W'
  tape : TapeZ w0 v zs B a W'
  turns : Turns (Mk B base) W W'
  names : NamesZ g W'
  fin : loopM kid zs (n - c) (tlM qs) a = FIN
  len : qs.length ≤ c
  big : base ≤ W'.heap.size
theorem RoundZ.put {kid : Nat → Fo × Nat} {w0 : World} {v : Value} {zs : List Int} {B base : Nat} {W W' : World} {FIN : List (Nd × Fo) × Nat} {g c n a a' : Nat} {l' : Value} {qs : List ((Nd × Value × Value) × Fo)} {q : (Nd × Value × Value) × Fo}
    (hf : loopM kid zs (n - (c + 1)) (tlM qs ++ [(nodeM kid zs (lastText (tlM qs) false) a).1]) (nodeM kid zs (lastText (tlM qs) false) a).2 = FIN) (hq : qs.length ≤ c)
    (hn : nodeM kid zs (lastText (tlM qs) false) a = ((q.1.1, q.2), a')) (form : ∃ p cap, l' = .slice p (qs.length + 1) cap) (row : RowM base l' (qs ++ [q]) W') (tape : TapeZ w0 v zs B a' W') (turns : Turns (Mk B base) W W') (names : NamesZ g W') (big : base ≤ W'.heap.size) :
    RoundZ kid w0 v zs B base W FIN g (c + 1) n l' W' (qs ++ [q]) a' := by
  refine ⟨by rw [List.length_append]; exact form, row, tape, turns, names, ?_, by simp; omega, big⟩
  rw [hn] at hf
  rw [← hf]
  simp [tlM]
set_option maxHeartbeats 4000000 in
set_option maxRecDepth 100000 in
theorem made_all (w0 : World) (v : Value) (zs : List Int) (B : Nat) : ∀ (j lv : Nat), lv + j = 6 → ∀ (a : Nat) (W : World), TapeZ w0 v zs B a W →
    Calls Try.prog 81 #[.pointer (some ⟨B, 0, none⟩), .int .i64 (lv : Int)] W (MadeZ (kidsM zs j) w0 v zs B a W)
  | j, lv, hj, a, W, hT => by
    have IH : Hid (∀ j', j = j' + 1 → ∀ (a : Nat) (W : World), TapeZ w0 v zs B a W → Calls Try.prog 81 #[.pointer (some ⟨B, 0, none⟩), .int .i64 ((lv : Int) + 1)] W (MadeZ (kidsM zs j') w0 v zs B a W)) := Lib.hid (fun j' e a W h => by
      have := made_all w0 v zs B j' (lv + 1) (by omega) a W h
      rw [show ((lv + 1 : Nat) : Int) = (lv : Int) + 1 by omega] at this
      exact this)
    have HT := Lib.hid hT
    obtain ⟨kid, hkd⟩ : ∃ kid, kid = kidsM zs j := ⟨_, rfl⟩
    have HKD := Lib.hid hkd
    rw [← hkd]
    clear hkd
    have HWO : Hid (∀ W, Calls Try.prog 109 #[.string ⟨namesSrc.toArray⟩] W (WordsOut W namesM)) := Lib.hid (fun W => rwords_any ⟨namesSrc.toArray⟩ W (by decide +kernel))
    have HNX : Hid (∀ (a : Nat) (W : World) (m : Nat), 1 ≤ m → m ≤ 2147483647 → TapeZ w0 v zs B a W → Calls Try.prog 47 #[.pointer (some ⟨B, 0, none⟩), .int .i64 (m : Int)] W (NextZ w0 v zs B a m W)) := Lib.hid (fun a W m h1 h2 h => tape_nextZ w0 v zs B a m W h h1 h2)
    have HMO : Hid (∀ (a : Nat) (W : World), TapeZ w0 v zs B a W → Calls Try.prog 46 #[.pointer (some ⟨B, 0, none⟩)] W fun e W' => e = .returned (.bool (decide (a < zs.length))) ∧ ∃ q, W' = W.drewN q) := Lib.hid (fun a W h => tape_moreZ w0 v zs B a W h)
    clear hT
    go_enter Try.func81, Try.ntmps81
    go_wp2_with fail
    refine (HWO.out W).mono ?_
    rintro e w1 ⟨vn, rfl, hn, hb1⟩
    obtain ⟨g, cn, rfl, hnz, hg⟩ := NamesZ.of_words hn
    have HN1 := Lib.hid hnz
    have HB1 := Lib.hid hb1
    have HG := Lib.hid hg
    have HT1 := Lib.hid (HT.out.on hb1)
    clear hn hnz hb1 hg
    go_wp2_with fail
    refine (HNX.out a w1 4 (by omega) (by omega) HT1.out).mono ?_
    rintro e w2 ⟨rfl, hs2, ht2⟩
    have hlt4 := nextZ_lt zs a 4 (by omega)
    have HBlt := HT.out.lt
    have hgB : g ≠ B := fun e => by have := HG.out; omega
    have HR2 : Hid (∃ qs, RoundZ kid w0 v zs B w2.heap.size W (loopM kid zs (1 + (nextZ zs a 4).1) [] (nextZ zs a 4).2) g 0 (1 + (nextZ zs a 4).1) (.slice none 0 0) w2 qs (nextZ zs a 4).2) := Lib.hid ⟨[], ⟨none, 0, rfl⟩, RowM.start _ _, ht2, (Turns.of_below HB1.out).step hs2, HN1.out.turns hs2.turns hgB, rfl, Nat.le_refl _, Nat.le_refl _⟩
    have HFIN : Hid (rowM kid zs a = (Fo.ofList (loopM kid zs (1 + (nextZ zs a 4).1) [] (nextZ zs a 4).2).1, (loopM kid zs (1 + (nextZ zs a 4).1) [] (nextZ zs a 4).2).2)) := Lib.hid rfl
    have hsz : W.heap.size ≤ w2.heap.size := by rw [hs2.size]; exact HB1.out.size
    have hgsz : g < w2.heap.size := by rw [hs2.size]; exact HN1.out.1
    generalize (nextZ zs a 4).2 = a2 at *
    generalize (nextZ zs a 4).1 = r4 at *
    generalize loopM kid zs (1 + r4) [] a2 = FIN at *
    clear HN1 HT1 hs2 ht2 HB1
    go_wp2_with fail
    go_loopw [6, 8] (fun l i wr => ∃ (c : Nat) (qs : List ((Nd × Value × Value) × Fo)) (a : Nat), c ≤ 1 + r4 ∧ i = .int .i64 (c : Int) ∧ RoundZ kid w0 v zs B w2.heap.size W FIN g c (1 + r4) l wr qs a) (fun _ i _ => 1 + r4 - (intOf i).toNat)
    case atStart =>
      obtain ⟨qs, h⟩ := HR2.out
      exact ⟨0, qs, a2, by omega, rfl, h⟩
    case round =>
      obtain ⟨c, qs, ac, hc, rfl, hr⟩ := hrel
      obtain ⟨pl, cl, hform⟩ := hr.form
      subst hform
      have HR := Lib.hid hr
      clear hr HR2
      have HEXIT : Hid (FIN = (tlM qs, ac) → ∀ W', Below wr.heap.size wr W' → MadeZ kid w0 v zs B a W (.returned (.slice pl qs.length cl)) W') := Lib.hid (fun hf W' hb => by
        refine ⟨_, rfl, ?_, ?_, ?_⟩
        · rw [HFIN.out, hf]
          exact (HR.out.row.told.mono fun b hb _ => Nat.le_trans hsz hb).kept (.of_below hb)
        · exact (HR.out.turns.nextB hb).mono fun b hb k => k.elim id (fun k => absurd k (by omega))
        · rw [HFIN.out, hf]
          exact HR.out.tape.on hb)
      by_cases hlt : c < 1 + r4
      · have q0 : (c : Int) < 1 + (r4 : Int) := by omega
        by_cases hm : ac < zs.length
        · have HMW : Hid (Calls Try.prog 46 #[.pointer (some ⟨B, 0, none⟩)] wr fun e W' => e = .returned (.bool true) ∧ ∃ q, W' = wr.drewN q) := Lib.hid (by
            have := HMO.out ac wr HR.out.tape
            rw [show decide (ac < zs.length) = true by simp [hm]] at this
            exact this)
          have hf := HR.out.fin
          rw [show 1 + r4 - c = (1 + r4 - (c + 1)) + 1 by omega, loopM, if_pos hm] at hf
          have HF := Lib.hid hf
          clear hf
          go_wp2_with fail
          refine HMW.out.mono ?_
          rintro e w3 ⟨rfl, q, rfl⟩
          have HT3 := Lib.hid (HR.out.tape.drewN q)
          have hb3 : Below wr.heap.size wr (wr.drewN q) := below_drewN (Below.refl _ _) q
          have hT3 : Turns (fun b => b = B) wr (wr.drewN q) := .of_below hb3
          have hBw2 : B < w2.heap.size := by omega
          have HRW := Lib.hid (HR.out.row.turns (hT3.mono (L := Mk B wr.heap.size) fun _ _ e => .inl e) rfl hBw2)
          have HTU := Lib.hid (HR.out.turns.next (hT3.mono fun _ _ e => .inl e))
          have HNZ := Lib.hid (HR.out.names.turns hT3 hgB)
          have hlc := HR.out.len
          have hbg := HR.out.big
          have hbg3 : w2.heap.size ≤ (wr.drewN q).heap.size := Nat.le_trans hbg hb3.size
          clear hb3 hT3 HMW HEXIT
          go_upto_block 1 with fail
          refine made_blk hj HKD IH HRW.out HT3.out HTU.out HNZ.out hBw2 hgsz hgB (by omega) hbg3 ?_
          intro x9 x10 x24 x25 x26 x27 x28 x29 x30 x31 x32 x33 x34 x35 x36 x37 x38 x39 x40 x41 x42 x43 x44 x45 x46 x47 x48 x49 x50 x51 x52 x53 x54 x55 x56 x57 x58 x59 x60 x61 x62 x63 x64 x65 x66 x67 x68 x69 x70 x71 x72 x73 x74 x75 x76 x77 x78 x79 x80 x81 x82 x83 x84 x85 x86 x87 x88 x89 x90 x91 x92 x93 x94 x95 x96 x97 x98 x99 x100 x101 x102 x103 x104 x105 x106 x107 x108 x109 x110 x111 x112 x113 x114 x115 x116 x117 x118 l' w' q' a' h1 h2 h3 h4 h5 h6
          have hbig : w2.heap.size ≤ w'.heap.size := by
            rcases Joins.ownsRow_forms h3.row with ⟨_, h0⟩ | ⟨g9, cap9, hv⟩
            · simp at h0
            · have := h3.row.lt g9 (by rw [hv]; rfl)
              omega
          have HZ := Lib.hid (RoundZ.put HF.out hlc h1 h2 h3 h4 h5 h6 hbig)
          clear h1 h2 h3 h4 h5 h6 hbig HRW HTU HNZ HT3 HF HR
          go_wp2_with fail
          exact ⟨⟨c + 1, _, a', by omega, by go_num, HZ.out⟩, by simp [intOf]; omega⟩
        · have HMW : Hid (Calls Try.prog 46 #[.pointer (some ⟨B, 0, none⟩)] wr fun e W' => e = .returned (.bool false) ∧ ∃ q, W' = wr.drewN q) := Lib.hid (by
            have := HMO.out ac wr HR.out.tape
            rw [show decide (ac < zs.length) = false by simp [hm]] at this
            exact this)
          have hf := HR.out.fin
          rw [show 1 + r4 - c = (1 + r4 - (c + 1)) + 1 by omega, loopM, if_neg hm] at hf
          have HE := Lib.hid (HEXIT.out hf.symm)
          clear HEXIT hf
          go_wp2_with fail
          refine HMW.out.mono ?_
          rintro e w3 ⟨rfl, q, rfl⟩
          go_wp2_with fail
          go_ret
          exact HE.out _ (below_drewN (Below.refl _ _) q)
      · have q0 : ¬ (c : Int) < 1 + (r4 : Int) := by omega
        have hf := HR.out.fin
        rw [show 1 + r4 - c = 0 by omega, loopM] at hf
        have HE := Lib.hid (HEXIT.out hf.symm)
        clear HEXIT hf
        go_wp2_with fail
        go_ret
        exact HE.out _ (Below.refl _ _)
end Go.Proofs.Ytbadckkcjjfnoaa
