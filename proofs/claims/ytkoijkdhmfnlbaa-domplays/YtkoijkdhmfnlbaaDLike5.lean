/-
  Links and rows say the same behind Write, Take and Move. No program is walked.
-/
import Derived.Test.YtkoijkdhmfnlbaaDLkA
import Derived.Test.YtkoijkdhmfnlbaaDRefY
import Derived.Test.YtkoijkdhmfnlbaaDRefJ
import Derived.Test.YtkoijkdhmfnlbaaDTAll
namespace Go.Proofs.Ytkoijkdhmfnlbaa

theorem inText_at {S : List PN} {C : List Cl} (L : Like S C) {k : Nat} (hk : k < C.length) : inText S (k : Int) = decide ((ndOf C k).kind = 2) := by
  obtain ⟨c, hc⟩ : ∃ c, C[k]? = some c := ⟨_, List.getElem?_eq_getElem hk⟩
  have h1 := L.nd k c hc
  unfold inText ndOf
  rw [hc]
  show (!decide ((k : Int) = -1) && decide ((pget S (k : Int)).kind = 2)) = decide (c.d.kind = 2)
  rw [← h1, decide_eq_false (by omega : ¬ (k : Int) = -1)]
  rfl
theorem inText_no (S : List PN) : inText S (-1) = false := by
  unfold inText
  simp
/-- The new text is put where it is asked. -/
theorem like_text {S : List PN} {C : List Cl} (L : Like S C) (F : Fit6 C) {u i : Nat} {cu : Cl} (s : List UInt8) (hu : C[u]? = some cu) (hi : i ≤ cu.row.length) :
    okLink (S ++ [notePN 2 s]) (S.length : Int) (u : Int) (nxt cu.row i) = true ∧ Like (pLink (S ++ [notePN 2 s]) (S.length : Int) (u : Int) (nxt cu.row i)) (link (lay C (textNd s)) C.length u i) := by
  have L2 : Like (S ++ [notePN 2 s]) (lay C (textNd s)) := L.lay F (x := notePN 2 s) (d := textNd s) rfl rfl rfl rfl
  have F2 := F.lay (textNd s)
  have hn : (lay C (textNd s))[C.length]? = some ⟨textNd s, none, []⟩ := by
    unfold lay
    rw [List.getElem?_append_right (Nat.le_refl _)]
    simp
  have hu2 : (lay C (textNd s))[u]? = some cu := by
    unfold lay
    rw [List.getElem?_append_left (lt_of_some hu)]
    exact hu
  rw [L.len]
  exact L2.link F2 hn rfl hu2 hi
theorem like_write {S : List PN} {C : List Cl} (L : Like S C) (hI : Inv C) (s : List UInt8) (up ahead : Int) :
    okWrite S s up ahead = true ∧ (pWrite S s up ahead).2 = (writeD C s up ahead).2 ∧ Like (pWrite S s up ahead).1 (writeD C s up ahead).1 := by
  have F := hI.fit
  cases he : isEl C up
  · have hp : pPlace S up ahead = false := by unfold pPlace; rw [like_elem L, he]; rfl
    rw [writeD_no he]
    unfold okWrite pWrite
    rw [hp]
    exact ⟨rfl, rfl, L⟩
  · have h5 := isEl_has he
    rw [isN_iff] at h5
    obtain ⟨u, rfl⟩ : ∃ u : Nat, up = (u : Int) := ⟨up.toNat, by omega⟩
    obtain ⟨cu, hu⟩ : ∃ c, C[u]? = some c := ⟨_, List.getElem?_eq_getElem (by omega : u < C.length)⟩
    obtain ⟨hp1, hp2⟩ := like_place L F hu he ahead
    have hrow : rowAt C u = cu.row := by unfold rowAt; rw [hu]
    cases hsp : spot C u ahead with
    | none =>
      have hp : pPlace S (u : Int) ahead = false := by
        cases h : pPlace S (u : Int) ahead
        · rfl
        · obtain ⟨i, hi⟩ := hp1.1 h
          rw [hsp] at hi
          cases hi
      rw [writeD_off he hsp]
      unfold okWrite pWrite
      rw [hp]
      exact ⟨rfl, rfl, L⟩
    | some i =>
      have hp := hp1.2 ⟨i, hsp⟩
      obtain ⟨hil, hia⟩ := hp2 i hsp
      have hB := L.before hu hil
      rw [hia] at hB
      by_cases h0 : s = []
      · subst h0
        rw [writeD_nil he hsp]
        unfold okWrite pWrite
        rw [hp]
        simp
        exact L
      · obtain ⟨ok, hL⟩ := like_text L F s hu hil
        rw [hia] at ok hL
        have hd : decide (s = []) = false := decide_eq_false h0
        cases i with
        | zero =>
          rw [prv_zero] at hB
          rw [writeD_first he hsp h0]
          unfold okWrite pWrite
          rw [hp, hd, hB, inText_no, ok, if_neg h0]
          exact ⟨rfl, rfl, hL⟩
        | succ i =>
          rw [prv_succ] at hB
          have hlt : i < cu.row.length := by omega
          have hk : cu.row[i]? = some cu.row[i] := List.getElem?_eq_getElem hlt
          have hkC : cu.row[i] < C.length := F.lt hu (List.getElem_mem hlt)
          rw [nxt_some hk] at hB
          by_cases ht : (ndOf C cu.row[i]).kind = 2
          · have hin : inText S (cu.row[i] : Int) = true := by rw [inText_at L hkC, ht]; rfl
            rw [writeD_text he hsp h0 (by rw [hrow]; exact hk) ht]
            unfold okWrite pWrite
            rw [hp, hd, hB, hin, if_neg h0]
            refine ⟨?_, rfl, L.text hkC s⟩
            rw [L.has_nat hkC]
            simp
          · have hin : inText S (cu.row[i] : Int) = false := by rw [inText_at L hkC]; exact decide_eq_false ht
            rw [writeD_more he hsp h0 (by rw [hrow]; exact hk) ht]
            unfold okWrite pWrite
            rw [hp, hd, hB, hin, ok, if_neg h0]
            refine ⟨?_, rfl, hL⟩
            rw [L.has_nat hkC]
            simp
theorem like_up {S : List PN} {C : List Cl} (L : Like S C) (n : Int) : pUp S n = if isN C n then upI (upAt C n.toNat) else -1 := by
  unfold pUp
  rw [L.has]
  cases h : isN C n
  · rfl
  · rw [if_pos rfl, if_pos rfl]
    rw [isN_iff] at h
    obtain ⟨k, rfl⟩ : ∃ k : Nat, n = (k : Int) := ⟨n.toNat, by omega⟩
    obtain ⟨c, hc⟩ : ∃ c, C[k]? = some c := ⟨_, List.getElem?_eq_getElem (by omega : k < C.length)⟩
    rw [L.up k c hc, Int.toNat_natCast]
    unfold upAt
    rw [hc]
theorem like_take {S : List PN} {C : List Cl} (L : Like S C) (hI : Inv C) (n : Int) : (pUp S n = -1 ∨ okUnlink S n = true) ∧ (pTake S n).2 = (takeD C n).2 ∧ Like (pTake S n).1 (takeD C n).1 := by
  have F := hI.fit
  have hup := like_up L n
  cases h : isN C n
  · rw [h, if_neg (by decide)] at hup
    rw [takeD_no h]
    unfold pTake
    rw [if_pos hup]
    exact ⟨.inl hup, rfl, L⟩
  · rw [h, if_pos rfl] at hup
    have h' := h
    rw [isN_iff] at h'
    obtain ⟨k, rfl⟩ : ∃ k : Nat, n = (k : Int) := ⟨n.toNat, by omega⟩
    obtain ⟨c, hc⟩ : ∃ c, C[k]? = some c := ⟨_, List.getElem?_eq_getElem (by omega : k < C.length)⟩
    rw [Int.toNat_natCast] at hup
    have hat : upAt C k = c.up := by unfold upAt; rw [hc]
    rw [hat] at hup
    cases hcu : c.up with
    | none =>
      rw [hcu] at hup hat
      have hup : pUp S (k : Int) = -1 := hup
      rw [takeD_free h hat]
      unfold pTake
      rw [if_pos hup]
      exact ⟨.inl hup, rfl, L⟩
    | some u =>
      rw [hcu] at hup hat
      have hup : pUp S (k : Int) = (u : Int) := hup
      obtain ⟨e, he, hm⟩ := F.upok k c u hc hcu
      obtain ⟨i, hi⟩ := place_mem _ _ hm
      obtain ⟨x, hx, hxk⟩ := place_at _ _ _ hi
      obtain rfl : x = k := by omega
      obtain ⟨ok, hL⟩ := L.unlink F hc hcu he hx
      rw [takeD_yes (i := i) h hat (by unfold rowAt; rw [he]; exact hi)]
      unfold pTake
      rw [if_neg (by omega)]
      exact ⟨.inr ok, rfl, hL⟩
theorem like_far {S : List PN} {C : List Cl} (L : Like S C) (hI : Inv C) {n top : Nat} (hn : n < C.length) (ht : top < C.length) : ∃ f b, (∀ f', f ≤ f' → pWithin S f' (n : Int) (top : Int) = some b) ∧ (b = true ↔ Anc C n top) := by
  obtain ⟨c, hc⟩ : ∃ c, C[top]? = some c := ⟨_, List.getElem?_eq_getElem ht⟩
  have hfit := hI.fit
  obtain ⟨h, hi⟩ := hI
  obtain ⟨M, hM⟩ := h_bound h C.length
  unfold pWithin
  by_cases e : (pget S (top : Int)).first = -1
  · refine ⟨0, decide ((n : Int) = (top : Int)), fun f' _ => by rw [if_pos e], ?_⟩
    rw [L.first top c hc, nxt_none] at e
    rw [decide_eq_true_eq]
    constructor
    · intro h; have : n = top := by omega
      subst this; exact .here _
    · intro h
      rcases anc_kid h with rfl | ⟨k, ck, hk, hku⟩
      · rfl
      · obtain ⟨e2, he2, hm⟩ := hfit.upok k ck top hk hku
        rw [hc] at he2
        cases he2
        have := List.length_pos_of_mem hm
        omega
  · obtain ⟨b, h1, h2⟩ := like_climb L hi hM top (M + 1 - h n) n hn (Nat.le_refl _)
    refine ⟨M + 1 - h n + 1, b, fun f' hf => ?_, h2⟩
    rw [if_neg e]
    obtain ⟨g, rfl⟩ : ∃ g, f' = g + 1 := ⟨f' - 1, by omega⟩
    obtain ⟨b', h3, h4⟩ := like_climb L hi hM top g n hn (by omega)
    rw [h3]
    congr 1
    rw [Bool.eq_iff_iff, h4, h2]
theorem shift_nil {C : List Cl} (F : Fit6 C) {f t : Nat} {cf : Cl} (hf : C[f]? = some cf) (hr : cf.row = []) : shift C f t [] = C := by
  apply List.ext_getElem?
  intro j
  cases hj : C[j]? with
  | none =>
    rw [List.getElem?_eq_none_iff] at hj ⊢
    rw [shift_len]
    exact hj
  | some c =>
    rw [shift_get f t [] hj]
    congr 1
    have h1 : ¬ c.up = some f := by
      intro h
      obtain ⟨e, he, hm⟩ := F.upok j c f hj h
      rw [hf] at he
      cases he
      rw [hr] at hm
      cases hm
    rw [if_neg h1]
    by_cases h2 : f = j
    · subst h2
      rw [hf] at hj
      cases hj
      rw [if_pos rfl]
      cases cf
      simp only at hr
      rw [hr]
    · rw [if_neg h2]
      cases c
      simp
theorem shift_cons {C : List Cl} (F : Fit6 C) {f t k : Nat} {cf ct : Cl} {rest : List Nat} (hf : C[f]? = some cf) (ht : C[t]? = some ct) (hr : cf.row = k :: rest) :
    shift (link (unlink C k f 0) k t ct.row.length) f t rest = shift C f t (k :: rest) := by
  apply List.ext_getElem?
  intro j
  cases hj : C[j]? with
  | none =>
    rw [List.getElem?_eq_none_iff] at hj
    rw [List.getElem?_eq_none (by rw [shift_len, link_len, unlink_len]; exact hj), List.getElem?_eq_none (by rw [shift_len]; exact hj)]
  | some c =>
    have h1 := unlink_get k f 0 hj
    have h2 := link_get k t ct.row.length h1
    rw [shift_get f t rest h2, shift_get f t (k :: rest) hj]
    congr 1
    simp only
    have e1 : (if (if k = j then some t else if k = j then none else c.up) = some f then some t else (if k = j then some t else if k = j then none else c.up)) = if c.up = some f then some t else c.up := by
      by_cases hk : k = j
      · subst hk
        obtain ⟨c2, hc2, hu⟩ := F.rowok f cf k hf (by rw [hr]; exact List.mem_cons_self ..)
        rw [hj] at hc2
        cases hc2
        rw [if_pos rfl, if_pos hu]
        split <;> rfl
      · rw [if_neg hk, if_neg hk]
    rw [e1]
    congr 1
    by_cases h3 : f = j
    · rw [if_pos h3, if_pos h3]
    · rw [if_neg h3, if_neg h3]
      by_cases h4 : t = j
      · subst h4
        rw [ht] at hj
        cases hj
        rw [if_pos rfl, if_pos rfl, if_pos rfl, if_neg h3, List.take_length, List.drop_length]
        simp
      · rw [if_neg h4, if_neg h4, if_neg h4, if_neg h3]
theorem like_shift (f t : Nat) (hne : f ≠ t) : ∀ (m : Nat) (S : List PN) (C : List Cl) (cf ct : Cl), Like S C → Fit6 C → C[f]? = some cf → C[t]? = some ct → cf.row.length = m → ∀ g, m < g → ∃ S2, pShift S (f : Int) (t : Int) g = some S2 ∧ Like S2 (shift C f t cf.row)
  | 0, S, C, cf, ct, L, F, hf, _, hm, g, hg => by
    have hr := List.eq_nil_of_length_eq_zero hm
    obtain ⟨g, rfl⟩ : ∃ x, g = x + 1 := ⟨g - 1, by omega⟩
    refine ⟨S, ?_, by rw [hr, shift_nil F hf hr]; exact L⟩
    unfold pShift
    rw [L.first f cf hf, hr, if_pos (by rfl)]
  | m + 1, S, C, cf, ct, L, F, hf, ht, hm, g, hg => by
    obtain ⟨g, rfl⟩ : ∃ x, g = x + 1 := ⟨g - 1, by omega⟩
    obtain ⟨k, rest, hr⟩ : ∃ k rest, cf.row = k :: rest := by
      cases h : cf.row with
      | nil => rw [h] at hm; cases hm
      | cons k rest => exact ⟨k, rest, rfl⟩
    obtain ⟨ck, hk, hku⟩ := F.rowok f cf k hf (by rw [hr]; exact List.mem_cons_self ..)
    have h0 : cf.row[0]? = some k := by rw [hr]; rfl
    obtain ⟨ok1, L1⟩ := L.unlink F hk hku hf h0
    have F1 := F.unlink hk hku hf h0
    have hk1 := unlink_get k f 0 hk
    have ht1 := unlink_get k f 0 ht
    have hf1 := unlink_get k f 0 hf
    rw [if_pos rfl] at hk1 hf1
    rw [if_neg hne] at ht1
    obtain ⟨ok2, L2⟩ := L1.link F1 hk1 rfl ht1 (Nat.le_refl _)
    have F2 := F1.link (i := ct.row.length) hk1 rfl ht1
    rw [nxt_off (Nat.le_refl _)] at ok2 L2
    have hf2 := link_get k t ct.row.length hf1
    have ht2 := link_get k t ct.row.length ht1
    have htf : ¬ t = f := fun e => hne e.symm
    rw [if_neg htf] at hf2
    obtain ⟨S2, hp, hL⟩ := like_shift f t hne m _ _ _ _ L2 F2 hf2 ht2 (by simp only [hr] at hm ⊢; simpa using hm) g (by omega)
    refine ⟨S2, ?_, ?_⟩
    · unfold pShift
      rw [L.first f cf hf, hr, nxt_some (by rfl : (k :: rest)[0]? = some k), if_neg (by omega), ok1, ok2]
      exact hp
    · have e := shift_cons F hf ht hr
      simp only [hr] at hL ⊢
      rw [← e]
      simpa using hL
theorem like_move {S : List PN} {C : List Cl} (L : Like S C) (hI : Inv C) (x y : Int) (b' : Bool) (hb' : isEl C x = true → isEl C y = true → (b' = true ↔ Anc C y.toNat x.toNat)) :
    ∃ f b S2, (pElem S x = true → pElem S y = true → pWithin S f y x = some b) ∧ (pElem S x = true → pElem S y = true → b = false → pShift S x y f = some S2) ∧ (pMove S S2 x y b).2 = (moveD C x y b').2 ∧ Like (pMove S S2 x y b).1 (moveD C x y b').1 := by
  have F := hI.fit
  cases hx : isEl C x
  · have e1 : pElem S x = false := by rw [like_elem L]; exact hx
    refine ⟨0, false, S, fun h => absurd h (by rw [e1]; decide), fun h => absurd h (by rw [e1]; decide), ?_⟩
    unfold pMove moveD
    rw [like_elem L, hx]
    exact ⟨rfl, L⟩
  · cases hy : isEl C y
    · have e1 : pElem S y = false := by rw [like_elem L]; exact hy
      refine ⟨0, false, S, fun _ h => absurd h (by rw [e1]; decide), fun _ h => absurd h (by rw [e1]; decide), ?_⟩
      unfold pMove moveD
      rw [like_elem L, like_elem L, hx, hy]
      exact ⟨rfl, L⟩
    · have hx1 := isEl_has hx
      have hy1 := isEl_has hy
      rw [isN_iff] at hx1 hy1
      obtain ⟨f, rfl⟩ : ∃ u : Nat, x = (u : Int) := ⟨x.toNat, by omega⟩
      obtain ⟨t, rfl⟩ : ∃ u : Nat, y = (u : Int) := ⟨y.toNat, by omega⟩
      have hfl : f < C.length := by omega
      have htl : t < C.length := by omega
      obtain ⟨cf, hf⟩ : ∃ c, C[f]? = some c := ⟨_, List.getElem?_eq_getElem hfl⟩
      obtain ⟨ct, ht⟩ : ∃ c, C[t]? = some c := ⟨_, List.getElem?_eq_getElem htl⟩
      obtain ⟨g0, b, hw, hb⟩ := like_far L hI htl hfl
      have hbb : b' = b := by
        have h6 := hb' hx hy
        rw [Int.toNat_natCast, Int.toNat_natCast] at h6
        rw [Bool.eq_iff_iff, h6, hb]
      subst hbb
      have hrow : rowAt C f = cf.row := by unfold rowAt; rw [hf]
      cases hbv : b'
      · have hne : f ≠ t := by
          rintro rfl
          rw [hb.2 (.here _)] at hbv
          cases hbv
        obtain ⟨S2, hp, hL⟩ := like_shift f t hne cf.row.length S C cf ct L F hf ht rfl (g0 + cf.row.length + 1) (by omega)
        refine ⟨g0 + cf.row.length + 1, false, S2, fun _ _ => by rw [hw _ (by omega), hbv], fun _ _ _ => hp, ?_⟩
        unfold pMove moveD
        rw [like_elem L, like_elem L, hx, hy, (beq_eq_false_iff_ne.2 (by omega) : ((f : Int) == (t : Int)) = false), Int.toNat_natCast, Int.toNat_natCast, hrow]
        exact ⟨rfl, hL⟩
      · refine ⟨g0, true, S, fun _ _ => by rw [hw _ (Nat.le_refl _), hbv], fun _ _ h => by (cases h), ?_⟩
        unfold pMove moveD
        simp
        exact L
end Go.Proofs.Ytkoijkdhmfnlbaa
