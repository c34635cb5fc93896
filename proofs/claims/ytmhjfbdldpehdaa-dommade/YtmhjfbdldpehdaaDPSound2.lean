/-
  The walk of the program's Sound. Any nodes, not too many.
-/
import Derived.Test.YtmhjfbdldpehdaaDPSound
namespace Go.Proofs.Ytmhjfbdldpehdaa
open Go.RowKit

theorem ok_parts (d : Nd) (k : Fo) (prev : Bool) : Fo.okNode d k.len (k.sound false) prev = (!(prev && decide (d.kind = 2)) && okAlone d k.len && k.sound false) := by
  unfold Fo.okNode okAlone
  by_cases k1 : d.kind = 1
  · rw [if_pos k1, if_pos k1]
    have : decide (d.kind = 2) = false := decide_eq_false (by omega)
    rw [this]
    simp only [Bool.and_false, Bool.not_false, Bool.true_and]
  · rw [if_neg k1, if_neg k1]
    have hb : ∀ x : Bool, (bareD d k.len && x && k.sound false) = (bareD d k.len && x) := by
      intro x
      by_cases hk : k.len = 0
      · cases k with
        | nil => simp [Fo.sound]
        | cons _ _ _ => simp [Fo.len] at hk
      · have : bareD d k.len = false := by unfold bareD; rw [decide_eq_false hk]; simp
        rw [this]; rfl
    have hb2 : bareD d k.len = (decide (d.space = 0) && d.name.isEmpty && decide (d.attrs.length + k.len = 0)) := by
      unfold bareD
      rw [Bool.eq_iff_iff]
      simp only [Bool.and_eq_true, decide_eq_true_eq]
      constructor
      · rintro ⟨⟨⟨h1, h2⟩, h3⟩, h4⟩; exact ⟨⟨h1, h2⟩, by omega⟩
      · rintro ⟨⟨h1, h2⟩, h3⟩; exact ⟨⟨⟨h1, h2⟩, by omega⟩, by omega⟩
    by_cases k2 : d.kind = 2
    · rw [if_pos k2, if_pos k2, decide_eq_true k2, Bool.and_true, Bool.and_assoc (bareD d k.len), ← Bool.and_assoc (!prev), Bool.and_assoc (!prev && bareD d k.len), Bool.and_assoc (!prev), ← Bool.and_assoc (bareD d k.len), hb, hb2]
      cases prev <;> cases d.text.isEmpty <;> simp [Bool.and_comm, Bool.and_assoc, Bool.and_left_comm]
    · rw [if_neg k2, if_neg k2, decide_eq_false k2, Bool.and_false, Bool.not_false, Bool.true_and]
      by_cases k3 : d.kind = 3
      · rw [if_pos k3, if_pos k3, hb, hb2]
      · rw [if_neg k3, if_neg k3]; rfl

set_option maxHeartbeats 1000000 in
set_option maxRecDepth 100000 in
theorem dsound_all : ∀ (n : Nat) (f : Fo) (P : Nat → Prop) (v : Value) (w : World), f.wt < n → f.wt ≤ 4294967296 → f.fits → NodesP P w v f → Calls Try.prog 17 #[v] w (Brings (.bool (f.sound false)) w)
  | 0, f, P, v, w, hn, _, _, _ => absurd hn (by omega)
  | n + 1, f, P, v, w, hn, hs, hfit, h => by
    have IH := Lib.hid (dsound_all n)
    obtain ⟨p, cap, rfl, ht⟩ := h
    have HT := Lib.hid ht
    have HF := Lib.hid hfit
    have hl := Fo.len_le f
    clear ht hfit
    go_enter Try.func17, Try.ntmps17
    go_wp2
    go_loopw [6] (fun i wr => ∃ (k : Nat) (r : Fo) (prev : Bool), k + r.len = f.len ∧ r.wt ≤ f.wt ∧ r.fits ∧ i = .int .i64 (k : Int) ∧ f.sound false = r.sound prev ∧ (k = 0 → prev = false) ∧ (0 < k → ∃ g o kd, p = some ⟨g, o, none⟩ ∧ wr.cell? ⟨g, o + (k - 1) * 7, none⟩ = some (.int .i64 kd) ∧ prev = decide (kd = 2) ∧ g < wr.heap.size) ∧ NodesTail P wr p r k ∧ Below w.heap.size w wr) (fun i _ => f.len - (intOf i).toNat)
    case atStart => exact ⟨0, f, false, by omega, Nat.le_refl _, HF.out, rfl, rfl, fun _ => rfl, fun h => absurd h (by omega), HT.out, Below.refl _ _⟩
    case round =>
      obtain ⟨k, r, prev, hk, hr, hrf, rfl, hd, hp0, hp1, hT, hB⟩ := hrel
      have HD := Lib.hid hd
      have HB := Lib.hid hB
      clear hd hB
      cases r with
      | nil =>
        have hk' : k = f.len := by simpa [Fo.len] using hk
        subst hk'
        clear hp0 hp1
        go_wp2
        go_ret
        refine ⟨?_, HB.out⟩
        rw [HD.out]
        rfl
      | cons d kd r' =>
        obtain ⟨g, o, va, vk, rfl, _, hg, h7, hva, hkd, htl⟩ := hT.head
        obtain ⟨pa, ca, rfl, _⟩ := id hva
        obtain ⟨pk, ck, rfl, _⟩ := id hkd
        obtain ⟨hf1, hf2, hf3, hf4⟩ := hrf
        simp only [Fo.wt, Fo.len] at hr hk
        have HO : Hid _ := Lib.hid (daloneP d g (o + k * 7) pa pk ca kd.len ck P wr h7 hva (by omega) hf1)
        have HE : Hid ((Fo.cons d kd r').sound prev = ((!(prev && decide (d.kind = 2)) && okAlone d kd.len && kd.sound false) && r'.sound (decide (d.kind = 2)))) := Lib.hid (by rw [Fo.sound, ok_parts])
        have c0 := h7.c0
        have c6 := h7.c6
        have HKD := Lib.hid hkd
        have HTL := Lib.hid htl
        have HF3 := Lib.hid hf3
        have HF4 := Lib.hid hf4
        have hkl : k < f.len := by omega
        have HP0 := Lib.hid hp0
        have HC : Hid (k = 0 ∨ 0 < k ∧ ∃ kp, wr.cell? ⟨g, o + (k - 1) * 7, none⟩ = some (.int .i64 kp) ∧ prev = decide (kp = 2)) := by
          refine Lib.hid ?_
          rcases Nat.eq_zero_or_pos k with h0 | h0
          · exact Or.inl h0
          · obtain ⟨g', o', kp, e, hc, hpv, _⟩ := hp1 h0
            injection e with e
            injection e with e1 e2
            subst e1 e2
            exact Or.inr ⟨h0, kp, hc, hpv⟩
        clear hT h7 hkd htl hva hf1 hf2 hf3 hf4 hp1 hp0
        rcases HC.out with h0 | ⟨h0, kp, hc, hpv⟩
        · subst h0
          have q0 : prev = false := HP0.out rfl
          subst q0
          clear HC
          go_wp2_with fail
          refine HO.out.mono ?_
          rintro e w2 ⟨rfl, b2⟩
          have HB2 := Lib.hid (HB.out.trans (b2.mono HB.out.size))
          cases ho : okAlone d kd.len
          · rw [ho] at HE
            go_wp2_with fail
            go_ret
            exact ⟨by rw [HD.out, HE.out]; simp only [Bool.and_false, Bool.false_and]; rfl, HB2.out⟩
          · rw [ho] at HE
            have c6' := (b2.cell (p := ⟨g, o + 0 * 7 + 6, none⟩) hg).trans c6
            have hg2 : g < w2.heap.size := Nat.lt_of_lt_of_le hg b2.size
            have HK2 := Lib.hid (HKD.out.kept (.of_below b2))
            have HTL2 := Lib.hid (HTL.out.kept (.of_below b2))
            have c0' := (b2.cell (p := ⟨g, o + 0 * 7, none⟩) hg).trans c0
            clear ho b2 c6
            go_wp2_with fail
            refine (IH.out kd P _ w2 (by omega) (by omega) HF3.out HK2.out).mono ?_
            rintro e w3 ⟨rfl, b3⟩
            have HB3 := Lib.hid (HB2.out.trans (b3.mono HB2.out.size))
            cases hss : kd.sound false
            · rw [hss] at HE
              go_wp2_with fail
              go_ret
              exact ⟨by rw [HD.out, HE.out]; simp only [Bool.and_false, Bool.false_and]; rfl, HB3.out⟩
            · rw [hss] at HE
              have HTL3 := Lib.hid (HTL2.out.kept (.of_below b3))
              have c0'' := (b3.cell (p := ⟨g, o + 0 * 7, none⟩) hg2).trans c0'
              have hg3 : g < w3.heap.size := Nat.lt_of_lt_of_le hg2 b3.size
              clear b3 c0'
              go_wp2_with fail
              refine ⟨⟨0 + 1, r', decide (d.kind = 2), by omega, by omega, HF4.out, by go_num, ?_, fun h => absurd h (by omega), fun _ => ⟨g, o, d.kind, rfl, by rw [Nat.add_sub_cancel]; exact c0'', rfl, hg3⟩, HTL3.out, HB3.out⟩, by simp [intOf]; omega⟩
              rw [HD.out, HE.out]
              simp
        · obtain ⟨m, rfl⟩ : ∃ m, k = m + 1 := ⟨k - 1, by omega⟩
          rw [Nat.add_sub_cancel] at hc
          subst hpv
          clear HC
          have hm0 : (0 : Int) ≤ (m : Int) := by omega
          have hm1 : (m : Int) < (f.len : Int) := by omega
          have e1 : IntKind.i64.wrap (((m + 1 : Nat) : Int) - 1) = (m : Int) := by rw [IntWalk.i64_in _ (by omega)]; omega
          by_cases q1 : kp = 2
          · subst q1
            by_cases q2 : d.kind = 2
            · rw [q2] at c0 HE
              go_wp2_with fail
              go_ret
              exact ⟨by rw [HD.out, HE.out]; rfl, HB.out⟩
            · have q3 : (d.kind == 2) = false := beq_eq_false_iff_ne.2 q2
              go_wp2_with fail
              refine HO.out.mono ?_
              rintro e w2 ⟨rfl, b2⟩
              have HB2 := Lib.hid (HB.out.trans (b2.mono HB.out.size))
              cases ho : okAlone d kd.len
              · rw [ho] at HE
                go_wp2_with fail
                go_ret
                exact ⟨by rw [HD.out, HE.out]; simp only [Bool.and_false, Bool.false_and]; rfl, HB2.out⟩
              · rw [ho] at HE
                have c6' := (b2.cell (p := ⟨g, o + (m + 1) * 7 + 6, none⟩) hg).trans c6
                have hg2 : g < w2.heap.size := Nat.lt_of_lt_of_le hg b2.size
                have HK2 := Lib.hid (HKD.out.kept (.of_below b2))
                have HTL2 := Lib.hid (HTL.out.kept (.of_below b2))
                have c0' := (b2.cell (p := ⟨g, o + (m + 1) * 7, none⟩) hg).trans c0
                clear ho b2 c6
                go_wp2_with fail
                refine (IH.out kd P _ w2 (by omega) (by omega) HF3.out HK2.out).mono ?_
                rintro e w3 ⟨rfl, b3⟩
                have HB3 := Lib.hid (HB2.out.trans (b3.mono HB2.out.size))
                cases hss : kd.sound false
                · rw [hss] at HE
                  go_wp2_with fail
                  go_ret
                  exact ⟨by rw [HD.out, HE.out]; simp only [Bool.and_false, Bool.false_and]; rfl, HB3.out⟩
                · rw [hss] at HE
                  have HTL3 := Lib.hid (HTL2.out.kept (.of_below b3))
                  have c0'' := (b3.cell (p := ⟨g, o + (m + 1) * 7, none⟩) hg2).trans c0'
                  have hg3 : g < w3.heap.size := Nat.lt_of_lt_of_le hg2 b3.size
                  clear b3 c0'
                  go_wp2_with fail
                  refine ⟨⟨(m + 1) + 1, r', decide (d.kind = 2), by omega, by omega, HF4.out, by go_num, ?_, fun h => absurd h (by omega), fun _ => ⟨g, o, d.kind, rfl, by rw [Nat.add_sub_cancel]; exact c0'', rfl, hg3⟩, HTL3.out, HB3.out⟩, by simp [intOf]; omega⟩
                  rw [HD.out, HE.out, decide_eq_false q2]
                  simp
          · have q3 : (kp == 2) = false := beq_eq_false_iff_ne.2 q1
            have HQ1 := Lib.hid (decide_eq_false q1)
            rw [HQ1.out] at HD HE
            go_wp2_with fail
            refine HO.out.mono ?_
            rintro e w2 ⟨rfl, b2⟩
            have HB2 := Lib.hid (HB.out.trans (b2.mono HB.out.size))
            cases ho : okAlone d kd.len
            · rw [ho] at HE
              go_wp2_with fail
              go_ret
              exact ⟨by rw [HD.out, HE.out]; simp only [Bool.and_false, Bool.false_and]; rfl, HB2.out⟩
            · rw [ho] at HE
              have c6' := (b2.cell (p := ⟨g, o + (m + 1) * 7 + 6, none⟩) hg).trans c6
              have hg2 : g < w2.heap.size := Nat.lt_of_lt_of_le hg b2.size
              have HK2 := Lib.hid (HKD.out.kept (.of_below b2))
              have HTL2 := Lib.hid (HTL.out.kept (.of_below b2))
              have c0' := (b2.cell (p := ⟨g, o + (m + 1) * 7, none⟩) hg).trans c0
              clear ho b2 c6
              go_wp2_with fail
              refine (IH.out kd P _ w2 (by omega) (by omega) HF3.out HK2.out).mono ?_
              rintro e w3 ⟨rfl, b3⟩
              have HB3 := Lib.hid (HB2.out.trans (b3.mono HB2.out.size))
              cases hss : kd.sound false
              · rw [hss] at HE
                go_wp2_with fail
                go_ret
                exact ⟨by rw [HD.out, HE.out]; simp only [Bool.and_false, Bool.false_and]; rfl, HB3.out⟩
              · rw [hss] at HE
                have HTL3 := Lib.hid (HTL2.out.kept (.of_below b3))
                have c0'' := (b3.cell (p := ⟨g, o + (m + 1) * 7, none⟩) hg2).trans c0'
                have hg3 : g < w3.heap.size := Nat.lt_of_lt_of_le hg2 b3.size
                clear b3 c0'
                go_wp2_with fail
                refine ⟨⟨(m + 1) + 1, r', decide (d.kind = 2), by omega, by omega, HF4.out, by go_num, ?_, fun h => absurd h (by omega), fun _ => ⟨g, o, d.kind, rfl, by rw [Nat.add_sub_cancel]; exact c0'', rfl, hg3⟩, HTL3.out, HB3.out⟩, by simp [intOf]; omega⟩
                rw [HD.out, HE.out]
                simp
theorem dsoundP (f : Fo) (P : Nat → Prop) (v : Value) (w : World) (hs : f.wt ≤ 4294967296) (hf : f.fits) (h : NodesP P w v f) : Calls Try.prog 17 #[v] w (Brings (.bool (f.sound false)) w) := dsound_all _ f P v w (Nat.lt_succ_self _) hs hf h
end Go.Proofs.Ytmhjfbdldpehdaa
