/-
  The walk of the program's Move. Any nodes, not too many.
-/
import Derived.Test.YteikhlonccacbaaDPKnown
namespace Go.Proofs.Yteikhlonccacbaa
open Go.RowKit

theorem least_is {p : Nat → Prop} : ∀ n, p n → ∃ m, p m ∧ ∀ k, p k → m ≤ k := by
  intro n
  induction n using Nat.strongRecOn with
  | ind n ih =>
    intro hn
    by_cases h : ∃ k, k < n ∧ p k
    · obtain ⟨k, hk, hpk⟩ := h
      exact ih k hk hpk
    · exact ⟨n, hn, fun k hk => Nat.le_of_not_lt fun q => h ⟨k, q, hk⟩⟩
open Classical in
/-- The least number that p holds of; 0, if it holds of none. -/
noncomputable def least (p : Nat → Prop) : Nat := if h : ∃ m, p m ∧ ∀ k, p k → m ≤ k then h.choose else 0
theorem least_le {p : Nat → Prop} {n : Nat} (h : p n) : p (least p) ∧ least p ≤ n := by
  have hx := least_is n h
  unfold least
  rw [dif_pos hx]
  exact ⟨hx.choose_spec.1, hx.choose_spec.2 n h⟩
/-- Kid by kid. -/
def pShift (S : List PN) (from_ to_ : Int) : Nat → Option (List PN)
  | 0 => none
  | f + 1 => if (pget S from_).first = -1 then some S
    else if okUnlink S (pget S from_).first && okLink (pUnlink S (pget S from_).first) (pget S from_).first to_ (-1) then pShift (pLink (pUnlink S (pget S from_).first) (pget S from_).first to_ (-1)) from_ to_ f
    else none
def pMove (S S2 : List PN) (from_ to_ : Int) (b : Bool) : List PN × Bool := if pElem S from_ && pElem S to_ && !b then (S2, true) else (S, false)
theorem pElem_has {S : List PN} {n : Int} (h : pElem S n = true) : pHas S n = true := by
  unfold pElem at h
  rw [Bool.and_eq_true] at h
  exact h.1
set_option maxHeartbeats 1000000 in
set_option maxRecDepth 100000 in
theorem dmoveP (S S2 : List PN) (B : Nat) (M : Nat → Prop) (w : World) (f : Nat) (x y : Int) (b : Bool) (h : DocM M w B S) (h0 : 0 < S.length) (hb : pElem S x = true → pElem S y = true → pWithin S f y x = some b) (hs : pElem S x = true → pElem S y = true → b = false → pShift S x y f = some S2) :
    Calls Try.prog 38 #[.pointer (some ⟨B, 0, none⟩), .int .i64 x, .int .i64 y] w (Ties M w B (pMove S S2 x y b).1 (.bool (pMove S S2 x y b).2)) := by
  obtain ⟨g, cap, hr⟩ := h.reads_pos h0
  have HX := Lib.hid (delemP S B w _ cap x hr)
  have HY := Lib.hid (delemP S B w _ cap y hr)
  unfold pMove
  cases ex : pElem S x
  · rw [ex] at HX
    rw [if_neg (by simp)]
    have HD := Lib.hid h
    clear h hr hb hs
    go_enter Try.func38, Try.ntmps38
    go_wp2_with fail
    refine HX.out.mono ?_
    rintro e w1 ⟨rfl, rfl⟩
    go_wp2_with fail
    go_ret
    exact ⟨rfl, HD.out, Turns.refl _ _⟩
  · rw [ex] at HX
    cases ey : pElem S y
    · rw [ey] at HY
      rw [if_neg (by simp)]
      have HD := Lib.hid h
      clear h hr hb hs
      go_enter Try.func38, Try.ntmps38
      go_wp2_with fail
      refine HX.out.mono ?_
      rintro e w1 ⟨rfl, rfl⟩
      go_wp2_with fail
      refine HY.out.mono ?_
      rintro e w1 ⟨rfl, rfl⟩
      go_wp2_with fail
      go_ret
      exact ⟨rfl, HD.out, Turns.refl _ _⟩
    · rw [ey] at HY
      have HW := Lib.hid (dwithinP S B w _ cap f y x b hr (pElem_has ex) (hb ex ey))
      cases hbb : b
      · rw [hbb] at HW
        rw [if_pos (by simp)]
        have hs2 := hs ex ey hbb
        have hx := pElem_has ex
        have HD := Lib.hid h
        have HS2 := Lib.hid hs2
        clear h hr hb hs hs2
        go_enter Try.func38, Try.ntmps38
        go_wp2_with fail
        refine HX.out.mono ?_
        rintro e w1 ⟨rfl, rfl⟩
        go_wp2_with fail
        refine HY.out.mono ?_
        rintro e w1 ⟨rfl, rfl⟩
        go_wp2_with fail
        refine HW.out.mono ?_
        rintro e w1 ⟨rfl, rfl⟩
        go_wp2_with fail
        go_loopw [] (fun wr => ∃ n, (∃ T, DocM M wr B T ∧ T.length = S.length ∧ pShift T x y n = some S2) ∧ Turns M w wr) (fun wr => least (fun n => ∃ T, DocM M wr B T ∧ T.length = S.length ∧ pShift T x y n = some S2))
        case atStart => exact ⟨f, ⟨S, HD.out, rfl, HS2.out⟩, Turns.refl _ _⟩
        case round =>
          obtain ⟨n0, hT0, hTu⟩ := hrel
          obtain ⟨⟨T, hD, hL, hP⟩, _⟩ := least_le (p := fun n => ∃ T, DocM M wr B T ∧ T.length = S.length ∧ pShift T x y n = some S2) hT0
          obtain ⟨g1, cap1, hr1⟩ := hD.reads_pos (by omega)
          have hxT : pHas T x = true := by unfold pHas at hx ⊢; rw [hL]; exact hx
          obtain ⟨j, rfl, hj⟩ := pHas_nat hxT
          obtain ⟨_, va, vt, e, hg, hc⟩ := hr1.node j hj
          injection e with e; injection e with e; subst e
          have hc0 := hr1.cell
          have c8 := hc.c8
          have j0 : (0 : Int) ≤ (j : Int) := by omega
          have j1 : (j : Int) < (T.length : Int) := by omega
          have HTU := Lib.hid hTu
          have HDT := Lib.hid hD
          have HLE := Lib.hid hL
          generalize least (fun n => ∃ T, DocM M wr B T ∧ T.length = S.length ∧ pShift T (j : Int) y n = some S2) = n at *
          cases n with
          | zero => cases hP
          | succ n =>
            unfold pShift at hP
            rw [pget_nat hj] at hP
            by_cases a : T[j].first = -1
            · rw [if_pos a] at hP
              have q1 : (T[j].first != -1) = false := by simp [a]
              have hTS := Option.some.inj hP
              subst hTS
              clear hP a hD hr1 hc
              go_wp2_with fail
              go_ret
              exact ⟨rfl, HDT.out, HTU.out⟩
            · rw [if_neg a] at hP
              have q1 : (T[j].first != -1) = true := by simp [a]
              cases hok : (okUnlink T T[j].first && okLink (pUnlink T T[j].first) T[j].first y (-1))
              · rw [hok] at hP; cases hP
              · rw [hok, if_pos rfl] at hP
                rw [Bool.and_eq_true] at hok
                have HU := Lib.hid (dunlinkP T B M wr g1 cap1 _ hD hr1 hok.1)
                have HL : Hid (∀ W, DocM M W B (pUnlink T T[j].first) → Reads W B (pUnlink T T[j].first) (some ⟨g1, 0, none⟩) cap1 → Calls Try.prog 68 #[.pointer (some ⟨B, 0, none⟩), .int .i64 T[j].first, .int .i64 y, .int .i64 (-1)] W (Sets M W B (pLink (pUnlink T T[j].first) T[j].first y (-1)) g1 cap1 (.tuple #[]))) := Lib.hid fun W d r => dlinkP _ B M W g1 cap1 _ y (-1) d r hok.2
                have HP := Lib.hid hP
                have HLL : Hid ((pLink (pUnlink T T[j].first) T[j].first y (-1)).length = T.length) := Lib.hid (by rw [pLink_len, pUnlink_len])
                clear hP a hD hr1 hc hok hTu hL
                generalize T[j].first = k at *
                go_wp2_with fail
                refine HU.out.mono ?_
                rintro e w2 ⟨rfl, d2, r2, t2⟩
                have HL2 := Lib.hid (HL.out w2 d2 r2)
                have HT2 := Lib.hid t2
                clear d2 r2 t2
                go_wp2_with fail
                refine HL2.out.mono ?_
                rintro e w3 ⟨rfl, d3, r3, t3⟩
                have HT3 := Lib.hid (HTU.out.trans ((HT2.out.trans (t3.mono fun b _ k => .inl k)).mono fun b _ k => .inl k))
                have HD3 := Lib.hid d3
                clear d3 r3 t3
                go_wp2_with fail
                have hw : ∃ T', DocM M w3 B T' ∧ T'.length = S.length ∧ pShift T' (j : Int) y n = some S2 := ⟨_, HD3.out, by rw [HLL.out, HLE.out], HP.out⟩
                refine ⟨⟨n, hw, HT3.out⟩, ?_⟩
                have := (least_le (p := fun n => ∃ T, DocM M w3 B T ∧ T.length = S.length ∧ pShift T (j : Int) y n = some S2) hw).2
                omega
      · rw [hbb] at HW
        rw [if_neg (by simp)]
        have HD := Lib.hid h
        clear h hr hb hs
        go_enter Try.func38, Try.ntmps38
        go_wp2_with fail
        refine HX.out.mono ?_
        rintro e w1 ⟨rfl, rfl⟩
        go_wp2_with fail
        refine HY.out.mono ?_
        rintro e w1 ⟨rfl, rfl⟩
        go_wp2_with fail
        refine HW.out.mono ?_
        rintro e w1 ⟨rfl, rfl⟩
        go_wp2_with fail
        go_ret
        exact ⟨rfl, HD.out, Turns.refl _ _⟩
end Go.Proofs.Yteikhlonccacbaa
