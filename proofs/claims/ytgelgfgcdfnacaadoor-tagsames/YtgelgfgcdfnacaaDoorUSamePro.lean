/-
  The walk of the program's Same. Any two rows of attributes that came in.
-/
import Derived.Test.YtgelgfgcdfnacaaDoorUSameIn
import Derived.Test.YtgelgfgcdfnacaaDoorUCount
import Derived.Test.YtgelgfgcdfnacaaDoorXUp
import Derived.Deep.RegionWith
namespace Go.Proofs.YtgelgfgcdfnacaaDoor
open Go.RowKit Go.Maps Go.WideMaps

/-- An attribute as the key that it is. -/
def attrV (x : List UInt8 × List UInt8) : Value := .agg #[.string ⟨x.1.toArray⟩, .string ⟨x.2.toArray⟩]
theorem attrV_inj {x y : List UInt8 × List UInt8} (h : attrV x = attrV y) : x = y := by
  unfold attrV at h
  injection h with h
  have h1 := congrArg (fun a : Array Value => a[0]?) h
  have h2 := congrArg (fun a : Array Value => a[1]?) h
  simp at h1 h2
  exact Prod.ext h1 h2
/-- The map counts the first attributes of a row. -/
def Counts (D : DataW Unit) (ys : List (List UInt8 × List UInt8)) (j : Nat) : Prop :=
  ∀ x kl, keyOf Tryd.prog 49 (attrV x) = some kl → ∃ c : Int, D.atKey kl (.lit (.int .i64 0)) = .lit (.int .i64 c) ∧ 0 ≤ c ∧ c ≤ j ∧ (c = 0 ↔ x ∉ ys.take j)
theorem Counts.start (ys : List (List UInt8 × List UInt8)) : Counts (.map []) ys 0 := by
  exact fun x kl _ => ⟨0, rfl, by omega, by omega, by simp⟩
theorem Counts.step {D : DataW Unit} {ys : List (List UInt8 × List UInt8)} {j : Nat} (h : Counts D ys j) (hD : IsMap D) (hj : j < ys.length) (kl : Lit) (hk : keyOf Tryd.prog 49 (attrV ys[j]) = some kl) (c : Int) (hc : D.atKey kl (.lit (.int .i64 0)) = .lit (.int .i64 c)) : Counts (D.put kl (.lit (.int .i64 (c + 1)))) ys (j + 1) := by
  intro x kx hx
  obtain ⟨c', h1, h2, h3, h4⟩ := h x kx hx
  rw [List.take_succ_eq_append_getElem hj, List.mem_append, List.mem_singleton]
  by_cases e : kx = kl
  · subst e
    have ex : x = ys[j] := attrV_inj (law_attr.inj hx hk)
    rw [hc] at h1
    have ec := lit_inj h1
    subst ec
    refine ⟨c + 1, atKey_put_same hD (law_attr.key hk) _ _, by omega, by omega, ⟨fun q => by omega, fun q => absurd (Or.inr ex) q⟩⟩
  · refine ⟨c', by rw [atKey_put_other e, h1], h2, by omega, ?_⟩
    rw [h4]
    have hne : x ≠ ys[j] := by
      intro q
      rw [q, hk] at hx
      exact e (Option.some.inj hx).symm
    simp [hne]

set_option maxHeartbeats 4000000 in
set_option maxRecDepth 100000 in
theorem same_in (a b : Value) (xs ys : List (List UInt8 × List UInt8)) (w : World) (ha : AttrsIn w a xs) (hb : AttrsIn w b ys) (hN : xs.length ≤ 30) : Calls Tryd.prog 26 #[a, b] w (Brings (.bool (sameV xs ys)) w) := by
  obtain ⟨⟨p, cap, rfl, hc⟩, hsx⟩ := ha
  obtain ⟨⟨p2, cap2, rfl, hc2⟩, hsy⟩ := hb
  have HC := Lib.hid hc
  have HC2 := Lib.hid hc2
  have HSX := Lib.hid hsx
  have HSY := Lib.hid hsy
  clear hc hc2 hsx hsy
  by_cases hl : xs.length = ys.length
  · have q0 : ((xs.length : Int) != (ys.length : Int)) = false := by simp [hl]
    have hmm := @run_makeMap Tryd.prog
    go_enter Tryd.func26, Tryd.ntmps26
    go_wp2_with fail
    go_loopw [18] (fun v wr => ∃ (j : Nat) (D : DataW Unit), j ≤ ys.length ∧ v = .int .i64 (j : Int) ∧ wr.ownsMap Tryd.prog 49 (plainElem Tryd.prog 3) w.heap.size j D ∧ Counts D ys j ∧ Below w.heap.size w wr) (fun v _ => ys.length - (intOf v).toNat)
    case atStart => exact ⟨0, .map [], Nat.zero_le _, rfl, World.ownsMap_made w Tryd.prog _ _, Counts.start ys, (Below.refl _ w).alloc (Nat.le_refl _) _⟩
    case round =>
      obtain ⟨j, D, hj, rfl, hO, hCo, hB⟩ := hrel
      have HO := Lib.hid hO
      have HCo := Lib.hid hCo
      have HB := Lib.hid hB
      clear hO hCo hB
      by_cases hlt : j < ys.length
      · obtain ⟨g, off, rfl, hg, h0, h1⟩ := HC2.out j hlt
        have g0 := (HB.out.cell (p := ⟨g, off + j * 2, none⟩) hg).trans h0
        have g1 := (HB.out.cell (p := ⟨g, off + j * 2 + 1, none⟩) hg).trans h1
        have hgs := HB.out.size
        have hgr : g < wr.heap.size := by omega
        have hsz := HSY.out ys[j] (List.getElem_mem hlt)
        obtain ⟨kl, hkey⟩ := key_attr ⟨ys[j].1.toArray⟩ ⟨ys[j].2.toArray⟩ (by show ys[j].1.toArray.size ≤ _; rw [List.size_toArray]; exact hsz.1) (by show ys[j].2.toArray.size ≤ _; rw [List.size_toArray]; exact hsz.2)
        have hO2 : ((wr.alloc (.cells #[.string ⟨ys[j].1.toArray⟩, .string ⟨ys[j].2.toArray⟩] 49)).drew).ownsMap Tryd.prog 49 (plainElem Tryd.prog 3) w.heap.size j D := (HO.out.alloc _).drew
        obtain ⟨c, v0, st, W1, e1, e2, e3, e4, e5⟩ := count_step _ _ _ D hO2 (by omega) _ kl hkey
        obtain ⟨c', f1, f2, f3, _⟩ := HCo.out ys[j] kl hkey
        have ec : c = c' := by rw [e1] at f1; exact lit_inj f1
        subst ec
        obtain ⟨W2, e6, hO3, hg3⟩ := e5 (c + 1) (WalkArith.wf_i64 (by omega))
        have e7 := e6
        rw [← IntWalk.i64_in (c + 1) (by omega)] at e7
        have HCn := Lib.hid (HCo.out.step HO.out.isMap hlt kl hkey c e1)
        have HO3 := Lib.hid hO3
        have HB3 : Hid (Below w.heap.size w W2) := Lib.hid (((HB.out.alloc HB.out.size _).drew).grown hg3 (by have := HB.out.size; simp; omega) (fun k hk => by injection hk with hk; omega))
        clear e1 f1 hO2 e5 hO3 hg3 h0 h1 hkey hsz HO HCo
        generalize (⟨ys[j].1.toArray⟩ : ByteArray) = A at *
        generalize (⟨ys[j].2.toArray⟩ : ByteArray) = V at *
        go_wp2_with fail
        go_region_with (fail)
        all_goals
          go_wp2_with fail
          try go_simp
          exact ⟨⟨j + 1, by omega, by omega, _, HO3.out, HCn.out, HB3.out⟩, by simp [intOf]; omega⟩
      · have hjl : j = ys.length := by omega
        subst hjl
        obtain ⟨wk, hwk⟩ : ∃ wk, wk = wr := ⟨_, rfl⟩
        subst hwk
        have HTK : Hid (ys.take ys.length = ys) := Lib.hid List.take_length
        go_wp2_with fail
        go_loopw [31] (fun v wr => ∃ k : Nat, k ≤ xs.length ∧ v = .int .i64 (k : Int) ∧ wr.ownsMap Tryd.prog 49 (plainElem Tryd.prog 3) w.heap.size ys.length D ∧ ((xs.take k).all fun a => ys.any fun b => a == b) = true ∧ Below w.heap.size w wr) (fun v _ => xs.length - (intOf v).toNat)
        case atStart => exact ⟨0, Nat.zero_le _, rfl, HO.out, rfl, HB.out⟩
        case round =>
          obtain ⟨k, hk, rfl, hO, hall, hB⟩ := hrel
          have HO' := Lib.hid hO
          have HALL := Lib.hid hall
          have HB' := Lib.hid hB
          clear hO hall hB
          by_cases hlt2 : k < xs.length
          · obtain ⟨g, off, rfl, hg, h0, h1⟩ := HC.out k hlt2
            have g0 := (HB'.out.cell (p := ⟨g, off + k * 2, none⟩) hg).trans h0
            have g1 := (HB'.out.cell (p := ⟨g, off + k * 2 + 1, none⟩) hg).trans h1
            have hgs := HB'.out.size
            have hgr : g < wr.heap.size := by omega
            have hsz := HSX.out xs[k] (List.getElem_mem hlt2)
            obtain ⟨kl, hkey⟩ := key_attr ⟨xs[k].1.toArray⟩ ⟨xs[k].2.toArray⟩ (by show xs[k].1.toArray.size ≤ _; rw [List.size_toArray]; exact hsz.1) (by show xs[k].2.toArray.size ≤ _; rw [List.size_toArray]; exact hsz.2)
            have hO2 := HO'.out.alloc (.cells #[.string ⟨xs[k].1.toArray⟩, .string ⟨xs[k].2.toArray⟩] 49)
            obtain ⟨c, hrun, hat, _⟩ := hO2.lookup_int law_attr (Tryd.underlying64 ) (Tryd.underlying3 ) (zero_int _) hkey
            obtain ⟨c', f1, f2, f3, f4⟩ := HCo.out xs[k] kl hkey
            have ec : c = c' := by rw [hat] at f1; exact lit_inj f1
            subst ec
            rw [HTK.out] at f4
            have hany : (ys.any fun b => xs[k] == b) = decide (xs[k] ∈ ys) := by
              rw [Bool.eq_iff_iff, List.any_eq_true, decide_eq_true_iff]
              constructor
              · rintro ⟨b, hb, he⟩
                rw [beq_iff_eq] at he
                rw [he]; exact hb
              · intro hm
                exact ⟨_, hm, beq_self_eq_true _⟩
            have HNO := Lib.hid (sameV_no xs ys k hlt2)
            have HST := Lib.hid (sameV_step xs ys k hlt2 HALL.out)
            rw [hany] at HNO HST
            clear hO2 hat f1 h0 h1 hkey hsz hany
            by_cases hc0 : c = 0
            · have q1 : (c == 0) = true := by simp [hc0]
              have HR := Lib.hid (HNO.out (decide_eq_false (f4.1 hc0)))
              clear hc0 f4 HNO HST
              generalize (⟨xs[k].1.toArray⟩ : ByteArray) = A at *
              generalize (⟨xs[k].2.toArray⟩ : ByteArray) = V at *
              go_wp2_with fail
              go_ret
              exact ⟨bool_is HR.out.symm, HB'.out.alloc HB'.out.size _⟩
            · have q1 : (c == 0) = false := beq_eq_false_iff_ne.2 hc0
              have HR := Lib.hid (HST.out (decide_eq_true (Classical.byContradiction fun q => hc0 (f4.2 q))))
              clear hc0 f4 HNO HST
              have HO2 := Lib.hid (HO'.out.alloc (.cells #[.string ⟨xs[k].1.toArray⟩, .string ⟨xs[k].2.toArray⟩] 49))
              generalize (⟨xs[k].1.toArray⟩ : ByteArray) = A at *
              generalize (⟨xs[k].2.toArray⟩ : ByteArray) = V at *
              go_wp2_with fail
              exact ⟨⟨k + 1, by omega, by go_num, HO2.out, HR.out, HB'.out.alloc HB'.out.size _⟩, by simp [intOf]; omega⟩
          · go_wp2_with fail
            go_ret
            refine ⟨bool_is ?_, HB'.out⟩
            unfold sameV
            have := HALL.out
            rw [List.take_of_length_le (by omega)] at this
            rw [this, decide_eq_true hl]
            rfl
  · have q0 : ((xs.length : Int) != (ys.length : Int)) = true := by simp; omega
    go_enter Tryd.func26, Tryd.ntmps26
    go_wp2_with fail
    go_ret
    refine ⟨bool_is ?_, Below.refl _ _⟩
    unfold sameV
    rw [decide_eq_false hl, Bool.and_false]
end Go.Proofs.YtgelgfgcdfnacaaDoor
