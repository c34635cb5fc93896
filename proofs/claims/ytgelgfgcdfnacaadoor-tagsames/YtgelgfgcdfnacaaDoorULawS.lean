/-
  The walk of the law TagSames: true, and nothing old is changed. The library's number MaxLen and the table of package refs are there.
-/
import Derived.Test.YtgelgfgcdfnacaaDoorUSamePro
import Derived.Test.YtgelgfgcdfnacaaDoorUKnown
import Derived.Test.YtgelgfgcdfnacaaDoorUMem
namespace Go.Proofs.YtgelgfgcdfnacaaDoor
open Go.RowKit

theorem attrCells_len (xs : List (List UInt8 × List UInt8)) : (attrCells xs).length = xs.length * 2 := by
  induction xs with
  | nil => rfl
  | cons a r ih => show (attrCells r).length + 1 + 1 = _; rw [ih, List.length_cons]; omega
theorem attrCells_one (xs : List (List UInt8 × List UInt8)) : ∀ u ∈ attrCells xs, u.oneCell' = true := by
  intro u hu
  unfold attrCells at hu
  rw [List.mem_flatMap] at hu
  obtain ⟨a, _, h⟩ := hu
  simp at h
  rcases h with rfl | rfl <;> rfl
theorem ownsRow_empty {w w1 : World} (h : w.heap.size ≤ w1.heap.size) : (w1.alloc (.cells #[] 49)).ownsRow w.heap.size 49 2 (.slice (some ⟨w1.heap.size, 0, none⟩) 0 0) 0 [] := World.ownsRow_made w1 #[] 0 h (by unfold maxLen; omega) (by simp)
theorem attrs_cells {w w1 : World} {g off cap : Nat} {xs : List (List UInt8 × List UInt8)} (h : AttrsIn w (.slice (some ⟨g, off, none⟩) xs.length cap) xs) (hb : Below w.heap.size w w1) (t : TypeId) (j : Nat) (u : Value) (hj : (attrCells xs)[j]? = some u) : (w1.alloc (.cells #[] t)).cell? ((⟨g, off, none⟩ : Addr).add j) = some u := by
  have hlj : j < xs.length * 2 := by
    rw [← attrCells_len]
    exact (List.getElem?_eq_some_iff.1 hj).1
  obtain ⟨⟨p', cap', hv', hc'⟩, _⟩ := h
  obtain ⟨e1, _, _⟩ := Value.slice.inj hv'
  obtain ⟨g', off', hp, hg, k0, k1⟩ := hc' (j / 2) (by omega)
  rw [← e1] at hp
  have e2 : g = g' ∧ off = off' := by
    injection hp with hp
    injection hp with h1 h2
    exact ⟨h1, h2⟩
  obtain ⟨rfl, rfl⟩ := e2
  have hat := attrCells_at xs (j / 2) (by omega)
  rw [show (⟨g, off, none⟩ : Addr).add j = ⟨g, off + j, none⟩ from by simp [Addr.add]]
  rw [World.cell?_alloc_lt _ _ _ (Nat.lt_of_lt_of_le hg hb.size), hb.cell (p := ⟨g, off + j, none⟩) hg]
  rcases Nat.mod_two_eq_zero_or_one j with hm | hm
  · rw [show j / 2 * 2 = j by omega] at k0 hat
    rw [k0, ← hj, hat.1]
  · rw [Nat.add_assoc, show j / 2 * 2 + 1 = j by omega] at k1
    rw [show j / 2 * 2 + 1 = j by omega] at hat
    rw [k1, ← hj, hat.2]
/-- A row of attributes of the call's own, in block g: newer than w, not frozen. -/
structure RowIs (w W : World) (g : Nat) (cs : List (List UInt8 × List UInt8)) : Prop where
  lt : g < W.heap.size
  new : w.heap.size ≤ g
  c0 : ∀ j (hj : j < cs.length), W.cell? ⟨g, j * 2, none⟩ = some (.string ⟨cs[j].1.toArray⟩)
  c1 : ∀ j (hj : j < cs.length), W.cell? ⟨g, j * 2 + 1, none⟩ = some (.string ⟨cs[j].2.toArray⟩)
  fr : ∀ i, W.frozen? ⟨g, i, none⟩ = false
  below : Below w.heap.size w W
theorem RowIs.of_row {w W : World} {g cap : Nat} {cs : List (List UInt8 × List UInt8)} (h : W.ownsRow w.heap.size 49 2 (.slice (some ⟨g, 0, none⟩) cs.length cap) cs.length (attrCells cs)) (hb : Below w.heap.size w W) : RowIs w W g cs := by
  have hl := h.lt g rfl
  refine ⟨hl.2, hl.1, fun j hj => ?_, fun j hj => ?_, fun i => ?_, hb⟩
  · rw [h.cellAt (j * 2) (by omega)]; exact (attrCells_at cs j hj).1
  · rw [h.cellAt (j * 2 + 1) (by omega)]; exact (attrCells_at cs j hj).2
  · rcases h.2 with ⟨h1, _⟩ | ⟨g', cap', cur, h1, _, h3, _⟩
    · cases h1
    · have e : g = g' := by
        injection h1 with h1
        injection h1 with h1
        injection h1
      subst e
      simp [World.frozen?, h3]
theorem RowIs.below' {w W W' : World} {g : Nat} {cs : List (List UInt8 × List UInt8)} (h : RowIs w W g cs) (hb : Below W.heap.size W W') : RowIs w W' g cs :=
  ⟨Nat.lt_of_lt_of_le h.lt hb.size, h.new, fun j hj => (hb.cell (p := ⟨g, j * 2, none⟩) h.lt).trans (h.c0 j hj), fun j hj => (hb.cell (p := ⟨g, j * 2 + 1, none⟩) h.lt).trans (h.c1 j hj), fun i => (hb.frozen (p := ⟨g, i, none⟩) h.lt).trans (h.fr i), h.below.trans (hb.mono h.below.size)⟩
/-- One attribute set. -/
theorem RowIs.set {w W : World} {g : Nat} {cs : List (List UInt8 × List UInt8)} (h : RowIs w W g cs) (k : Nat) (hk : k < cs.length) (x : List UInt8 × List UInt8) : RowIs w ((W.setCell ⟨g, k * 2, none⟩ (.string ⟨x.1.toArray⟩)).setCell ⟨g, k * 2 + 1, none⟩ (.string ⟨x.2.toArray⟩)) g (cs.set k x) := by
  have o : ∀ i j (u v : Value), i ≠ j → (W.setCell ⟨g, i, none⟩ u).cell? ⟨g, j, none⟩ = W.cell? ⟨g, j, none⟩ := fun i j u v hne => World.cell?_setCell_other _ _ _ _ (fun q => hne (by injection q))
  refine ⟨by simpa using h.lt, h.new, fun j hj => ?_, fun j hj => ?_, fun i => by rw [World.frozen?_setCell, World.frozen?_setCell]; exact h.fr i, (h.below.setCell h.new _).setCell h.new _⟩
  · rw [List.length_set] at hj
    rw [World.cell?_setCell_other _ _ _ _ (fun q => by injection q with _ q; omega)]
    by_cases e : k = j
    · subst e
      rw [World.cell?_setCell_same _ _ _ (h.c0 k hk), List.getElem_set_self]
    · rw [World.cell?_setCell_other _ _ _ _ (fun q => by injection q with _ q; omega), h.c0 j hj, List.getElem_set_ne e]
  · rw [List.length_set] at hj
    by_cases e : k = j
    · subst e
      rw [World.cell?_setCell_same _ _ _ (by rw [World.cell?_setCell_other _ _ _ _ (fun q => by injection q with _ q; omega)]; exact h.c1 k hk), List.getElem_set_self]
    · rw [World.cell?_setCell_other _ _ _ _ (fun q => by injection q with _ q; omega), World.cell?_setCell_other _ _ _ _ (fun q => by injection q with _ q; omega), h.c1 j hj, List.getElem_set_ne e]
theorem RowIs.attrs {w W : World} {g cap : Nat} {cs : List (List UInt8 × List UInt8)} (h : RowIs w W g cs) (hs : ∀ x ∈ cs, x.1.length ≤ maxLen ∧ x.2.length ≤ maxLen) : AttrsIn W (.slice (some ⟨g, 0, none⟩) cs.length cap) cs :=
  ⟨⟨_, cap, rfl, fun j hj => ⟨g, 0, rfl, h.lt, by rw [Nat.zero_add]; exact h.c0 j hj, by rw [Nat.zero_add]; exact h.c1 j hj⟩⟩, hs⟩
theorem same_perm (xs cs : List (List UInt8 × List UInt8)) (h : cs.Perm xs) : sameV xs cs = true ∧ sameV cs xs = true := by
  have e := h.length_eq
  have g : ∀ ps qs : List (List UInt8 × List UInt8), ps.Perm qs → (ps.all fun a => qs.any fun b => a == b) = true := by
    intro ps qs hp
    rw [List.all_eq_true]
    intro x hx
    rw [List.any_eq_true]
    exact ⟨x, hp.mem_iff.1 hx, beq_self_eq_true _⟩
  unfold sameV
  rw [g _ _ h, g _ _ h.symm, decide_eq_true e, decide_eq_true e.symm]
  exact ⟨rfl, rfl⟩

set_option maxHeartbeats 4000000 in
set_option maxRecDepth 100000 in
theorem tagSames_walk (a : Value) (m : Nat) (b : Value) (l : Nat) (v : Value) (n : Nat) (w : World) (ha : AttrsArg w a m) (hb : AttrsArg w b l) (hv : IntsIn w v n) (hmax : HasMax w) (hea : HasEarly w) :
    Calls Tryd.prog 11 #[a, b, v] w (Yes w) := by
  have HK := Lib.hid (known3_yes w hmax hea)
  have HV := Lib.hid hv
  clear hmax hea hv
  obtain ⟨xs, rfl, hxs⟩ := ha
  obtain ⟨ys, rfl, hys⟩ := hb
  obtain ⟨p, cap, hp⟩ : ∃ p cap, a = .slice p xs.length cap := by obtain ⟨⟨p, cap, hp, _⟩, _⟩ := hxs; exact ⟨p, cap, hp⟩
  obtain ⟨p2, cap2, hp2⟩ : ∃ p cap, b = .slice p ys.length cap := by obtain ⟨⟨p, cap, hp, _⟩, _⟩ := hys; exact ⟨p, cap, hp⟩
  subst hp hp2
  have HXS := Lib.hid hxs
  have HYS := Lib.hid hys
  clear hxs hys
  by_cases h30 : 30 < xs.length
  · have q30 : (30 : Int) < (xs.length : Int) := by omega
    go_enter Tryd.func11, Tryd.ntmps11
    go_wp2_with fail
    refine HK.out.mono ?_
    rintro e w1 ⟨rfl, b1⟩
    go_wp2_with fail
    go_ret
    exact ⟨rfl, b1⟩
  · have q30 : ¬ (30 : Int) < (xs.length : Int) := by omega
    by_cases h31 : 30 < ys.length
    · have q31 : (30 : Int) < (ys.length : Int) := by omega
      go_enter Tryd.func11, Tryd.ntmps11
      go_wp2_with fail
      refine HK.out.mono ?_
      rintro e w1 ⟨rfl, b1⟩
      go_wp2_with fail
      go_ret
      exact ⟨rfl, b1⟩
    · have q31 : ¬ (30 : Int) < (ys.length : Int) := by omega
      go_enter Tryd.func11, Tryd.ntmps11
      obtain ⟨i0, hi, hz0, hz1, hz2⟩ := info_attr
      have HI := Lib.hid (And.intro hi (And.intro hz0 (And.intro hz1 hz2)))
      clear hi hz0 hz1 hz2
      by_cases hx0 : xs.length = 0
      · have hxn : xs = [] := List.eq_nil_of_length_eq_zero hx0
        subst hxn
        have hpu : ∀ W, Sem.run Tryd.prog (pure (#[] : Array Value)) W = .ok #[] W := fun _ => rfl
        have hsc : ∀ ad W, Sem.run Tryd.prog (storeCells ad []) W = .ok () W := fun _ _ => rfl
        rcases p with _ | ad
        · go_wp2_with fail
          refine HK.out.mono ?_
          rintro e w1 ⟨rfl, b1⟩
          have HB1 := Lib.hid b1
          clear b1 HK
          go_wp2_with fail
          have HBW0 : Hid (Below w.heap.size w (w1.alloc (.cells #[] 49))) := Lib.hid (HB1.out.alloc HB1.out.size _)
          have HCW0 : Hid (AttrsIn (w1.alloc (.cells #[] 49)) (.slice (some ⟨w1.heap.size, 0, none⟩) 0 0) []) := Lib.hid ⟨⟨_, 0, rfl, fun j hj => absurd hj (by simp)⟩, fun x hx => absurd hx (by simp)⟩
          have HSP := Lib.hid (same_perm ([] : List (List UInt8 × List UInt8)) [] (List.Perm.refl _))
          generalize w1.alloc (.cells #[] 49) = W1 at *
          obtain ⟨pv, capv, hvv⟩ : ∃ p cap, v = .slice p n cap := by
            rcases HV.out with ⟨p, cap, rfl, rfl⟩ | ⟨g, off, cap, rfl, _⟩
            · exact ⟨p, cap, rfl⟩
            · exact ⟨_, cap, rfl⟩
          subst hvv
          go_loopw [8] (fun y wr => y = .int .i64 0 ∧ W1 = wr) (fun _ _ => 0)
          case atStart => exact ⟨rfl, rfl⟩
          case round =>
            obtain ⟨rfl, rfl⟩ := hrel
            have HBW := HBW0
            have HCW := HCW0
            clear HBW0 HCW0
            rcases Int.lt_or_le 0 (n : Int) with q1 | q1
            · go_wp2_with fail
              refine (same_in _ _ [] ys W1 (HXS.out.below HBW.out) (HYS.out.below HBW.out) (by simp)).mono ?_
              rintro e w5 ⟨rfl, b5⟩
              have HB5 := Lib.hid (HBW.out.trans (b5.mono HBW.out.size))
              have HC5 := Lib.hid (HCW.out.below b5)
              clear b5 HBW HCW
              go_wp2_with fail
              refine (rsame_in _ _ [] ys w5 (HXS.out.below HB5.out) (HYS.out.below HB5.out) (by simp) (by omega)).mono ?_
              rintro e w6 ⟨rfl, q, rfl⟩
              have HB6 := Lib.hid (below_drewN HB5.out q)
              have HC6 := Lib.hid (HC5.out.below (below_drewN (Below.refl _ w5) q))
              have qe : (sameV [] ys == sameV [] ys) = true := beq_self_eq_true _
              generalize sameV [] ys = bb at *
              generalize w5.drewN q = w7 at *
              clear HB5 HC5
              go_wp2_with fail
              refine (same_in _ _ [] [] w7 (HXS.out.below HB6.out) HC6.out (by simp)).mono ?_
              rintro e w8 ⟨rfl, b8⟩
              rw [HSP.out.1]
              have HB8 := Lib.hid (HB6.out.trans (b8.mono HB6.out.size))
              have HC8 := Lib.hid (HC6.out.below b8)
              clear b8 HB6 HC6
              go_wp2_with fail
              refine (same_in _ _ [] [] w8 HC8.out (HXS.out.below HB8.out) (by simp)).mono ?_
              rintro e w9 ⟨rfl, b9⟩
              rw [HSP.out.2]
              have HB9 := Lib.hid (HB8.out.trans (b9.mono HB8.out.size))
              clear b9 HB8 HC8
              go_wp2_with fail
              refine (same_in _ _ [] [] w9 (HXS.out.below HB9.out) (HXS.out.below HB9.out) (by simp)).mono ?_
              rintro e w10 ⟨rfl, b10⟩
              rw [(same_perm ([] : List (List UInt8 × List UInt8)) [] (List.Perm.refl _)).1]
              have HB10 := Lib.hid (HB9.out.trans (b10.mono HB9.out.size))
              clear b10 HB9
              go_wp2_with fail
              go_ret
              exact ⟨rfl, HB10.out⟩
            · go_wp2_with fail
              refine (same_in _ _ [] ys W1 (HXS.out.below HBW.out) (HYS.out.below HBW.out) (by simp)).mono ?_
              rintro e w5 ⟨rfl, b5⟩
              have HB5 := Lib.hid (HBW.out.trans (b5.mono HBW.out.size))
              have HC5 := Lib.hid (HCW.out.below b5)
              clear b5 HBW HCW
              go_wp2_with fail
              refine (rsame_in _ _ [] ys w5 (HXS.out.below HB5.out) (HYS.out.below HB5.out) (by simp) (by omega)).mono ?_
              rintro e w6 ⟨rfl, q, rfl⟩
              have HB6 := Lib.hid (below_drewN HB5.out q)
              have HC6 := Lib.hid (HC5.out.below (below_drewN (Below.refl _ w5) q))
              have qe : (sameV [] ys == sameV [] ys) = true := beq_self_eq_true _
              generalize sameV [] ys = bb at *
              generalize w5.drewN q = w7 at *
              clear HB5 HC5
              go_wp2_with fail
              refine (same_in _ _ [] [] w7 (HXS.out.below HB6.out) HC6.out (by simp)).mono ?_
              rintro e w8 ⟨rfl, b8⟩
              rw [HSP.out.1]
              have HB8 := Lib.hid (HB6.out.trans (b8.mono HB6.out.size))
              have HC8 := Lib.hid (HC6.out.below b8)
              clear b8 HB6 HC6
              go_wp2_with fail
              refine (same_in _ _ [] [] w8 HC8.out (HXS.out.below HB8.out) (by simp)).mono ?_
              rintro e w9 ⟨rfl, b9⟩
              rw [HSP.out.2]
              have HB9 := Lib.hid (HB8.out.trans (b9.mono HB8.out.size))
              clear b9 HB8 HC8
              go_wp2_with fail
              refine (same_in _ _ [] [] w9 (HXS.out.below HB9.out) (HXS.out.below HB9.out) (by simp)).mono ?_
              rintro e w10 ⟨rfl, b10⟩
              rw [(same_perm ([] : List (List UInt8 × List UInt8)) [] (List.Perm.refl _)).1]
              have HB10 := Lib.hid (HB9.out.trans (b10.mono HB9.out.size))
              clear b10 HB9
              go_wp2_with fail
              go_ret
              exact ⟨rfl, HB10.out⟩
        · go_wp2_with fail
          refine HK.out.mono ?_
          rintro e w1 ⟨rfl, b1⟩
          have HB1 := Lib.hid b1
          clear b1 HK
          go_wp2_with fail
          have HBW0 : Hid (Below w.heap.size w (w1.alloc (.cells #[] 49))) := Lib.hid (HB1.out.alloc HB1.out.size _)
          have HCW0 : Hid (AttrsIn (w1.alloc (.cells #[] 49)) (.slice (some ⟨w1.heap.size, 0, none⟩) 0 0) []) := Lib.hid ⟨⟨_, 0, rfl, fun j hj => absurd hj (by simp)⟩, fun x hx => absurd hx (by simp)⟩
          have HSP := Lib.hid (same_perm ([] : List (List UInt8 × List UInt8)) [] (List.Perm.refl _))
          generalize w1.alloc (.cells #[] 49) = W1 at *
          obtain ⟨pv, capv, hvv⟩ : ∃ p cap, v = .slice p n cap := by
            rcases HV.out with ⟨p, cap, rfl, rfl⟩ | ⟨g, off, cap, rfl, _⟩
            · exact ⟨p, cap, rfl⟩
            · exact ⟨_, cap, rfl⟩
          subst hvv
          go_loopw [8] (fun y wr => y = .int .i64 0 ∧ W1 = wr) (fun _ _ => 0)
          case atStart => exact ⟨rfl, rfl⟩
          case round =>
            obtain ⟨rfl, rfl⟩ := hrel
            have HBW := HBW0
            have HCW := HCW0
            clear HBW0 HCW0
            rcases Int.lt_or_le 0 (n : Int) with q1 | q1
            · go_wp2_with fail
              refine (same_in _ _ [] ys W1 (HXS.out.below HBW.out) (HYS.out.below HBW.out) (by simp)).mono ?_
              rintro e w5 ⟨rfl, b5⟩
              have HB5 := Lib.hid (HBW.out.trans (b5.mono HBW.out.size))
              have HC5 := Lib.hid (HCW.out.below b5)
              clear b5 HBW HCW
              go_wp2_with fail
              refine (rsame_in _ _ [] ys w5 (HXS.out.below HB5.out) (HYS.out.below HB5.out) (by simp) (by omega)).mono ?_
              rintro e w6 ⟨rfl, q, rfl⟩
              have HB6 := Lib.hid (below_drewN HB5.out q)
              have HC6 := Lib.hid (HC5.out.below (below_drewN (Below.refl _ w5) q))
              have qe : (sameV [] ys == sameV [] ys) = true := beq_self_eq_true _
              generalize sameV [] ys = bb at *
              generalize w5.drewN q = w7 at *
              clear HB5 HC5
              go_wp2_with fail
              refine (same_in _ _ [] [] w7 (HXS.out.below HB6.out) HC6.out (by simp)).mono ?_
              rintro e w8 ⟨rfl, b8⟩
              rw [HSP.out.1]
              have HB8 := Lib.hid (HB6.out.trans (b8.mono HB6.out.size))
              have HC8 := Lib.hid (HC6.out.below b8)
              clear b8 HB6 HC6
              go_wp2_with fail
              refine (same_in _ _ [] [] w8 HC8.out (HXS.out.below HB8.out) (by simp)).mono ?_
              rintro e w9 ⟨rfl, b9⟩
              rw [HSP.out.2]
              have HB9 := Lib.hid (HB8.out.trans (b9.mono HB8.out.size))
              clear b9 HB8 HC8
              go_wp2_with fail
              refine (same_in _ _ [] [] w9 (HXS.out.below HB9.out) (HXS.out.below HB9.out) (by simp)).mono ?_
              rintro e w10 ⟨rfl, b10⟩
              rw [(same_perm ([] : List (List UInt8 × List UInt8)) [] (List.Perm.refl _)).1]
              have HB10 := Lib.hid (HB9.out.trans (b10.mono HB9.out.size))
              clear b10 HB9
              go_wp2_with fail
              go_ret
              exact ⟨rfl, HB10.out⟩
            · go_wp2_with fail
              refine (same_in _ _ [] ys W1 (HXS.out.below HBW.out) (HYS.out.below HBW.out) (by simp)).mono ?_
              rintro e w5 ⟨rfl, b5⟩
              have HB5 := Lib.hid (HBW.out.trans (b5.mono HBW.out.size))
              have HC5 := Lib.hid (HCW.out.below b5)
              clear b5 HBW HCW
              go_wp2_with fail
              refine (rsame_in _ _ [] ys w5 (HXS.out.below HB5.out) (HYS.out.below HB5.out) (by simp) (by omega)).mono ?_
              rintro e w6 ⟨rfl, q, rfl⟩
              have HB6 := Lib.hid (below_drewN HB5.out q)
              have HC6 := Lib.hid (HC5.out.below (below_drewN (Below.refl _ w5) q))
              have qe : (sameV [] ys == sameV [] ys) = true := beq_self_eq_true _
              generalize sameV [] ys = bb at *
              generalize w5.drewN q = w7 at *
              clear HB5 HC5
              go_wp2_with fail
              refine (same_in _ _ [] [] w7 (HXS.out.below HB6.out) HC6.out (by simp)).mono ?_
              rintro e w8 ⟨rfl, b8⟩
              rw [HSP.out.1]
              have HB8 := Lib.hid (HB6.out.trans (b8.mono HB6.out.size))
              have HC8 := Lib.hid (HC6.out.below b8)
              clear b8 HB6 HC6
              go_wp2_with fail
              refine (same_in _ _ [] [] w8 HC8.out (HXS.out.below HB8.out) (by simp)).mono ?_
              rintro e w9 ⟨rfl, b9⟩
              rw [HSP.out.2]
              have HB9 := Lib.hid (HB8.out.trans (b9.mono HB8.out.size))
              clear b9 HB8 HC8
              go_wp2_with fail
              refine (same_in _ _ [] [] w9 (HXS.out.below HB9.out) (HXS.out.below HB9.out) (by simp)).mono ?_
              rintro e w10 ⟨rfl, b10⟩
              rw [(same_perm ([] : List (List UInt8 × List UInt8)) [] (List.Perm.refl _)).1]
              have HB10 := Lib.hid (HB9.out.trans (b10.mono HB9.out.size))
              clear b10 HB9
              go_wp2_with fail
              go_ret
              exact ⟨rfl, HB10.out⟩
      · have hx1 : 0 < xs.length := by omega
        obtain ⟨g0, off, hpp, hg0, _, _⟩ := HXS.out.1.choose_spec.choose_spec.2 0 hx1 |> fun h => (by obtain ⟨⟨p', cap', hv', hc'⟩, _⟩ := HXS.out; obtain ⟨e1, _, e3⟩ := Value.slice.inj hv'; subst e1 e3; exact hc' 0 hx1 : ∃ g off, p = some ⟨g, off, none⟩ ∧ g < w.heap.size ∧ w.cell? ⟨g, off + 0 * 2, none⟩ = some (.string ⟨xs[0].1.toArray⟩) ∧ w.cell? ⟨g, off + 0 * 2 + 1, none⟩ = some (.string ⟨xs[0].2.toArray⟩))
        subst hpp
        go_wp2_with fail
        refine HK.out.mono ?_
        rintro e w1 ⟨rfl, b1⟩
        have HB1 := Lib.hid b1
        clear b1 HK
        have HNW := Lib.hid (attrs_cells HXS.out HB1.out 49)
        have hsz1 := HB1.out.size
        go_wp2_with (first
          | (at_builtin; refine wpList_append_lies _ rfl _ _ 25 rfl w.heap.size 49 i0 (.agg #[.string ByteArray.empty, .string ByteArray.empty]) 2 32 Tryd.underlying25 HI.out.1 HI.out.2.1 HI.out.2.2.1 HI.out.2.2.2 rfl (by omega) _ 0 [] rfl (ownsRow_empty hsz1) ⟨g0, off, none⟩ xs.length cap (attrCells xs) rfl (attrCells_len xs) HNW.out (attrCells_one xs) hx1 (by unfold maxLen; omega) (by omega) (by simp; omega) _ rfl ?_)
          | go_in)
        intro g cap3 w3 hr hgr hor hlt3
        have HB3 : Hid (Below w.heap.size w w3) := Lib.hid ((HB1.out.alloc HB1.out.size _).grown hgr (by have := HB1.out.size; simp; omega) (fun k hk => by injection hk with hk; simp at hk; omega))
        have HRI : Hid (RowIs w w3 g xs) := by
          exact Lib.hid (RowIs.of_row hr HB3.out)
        clear hr hgr hor hlt3 HNW HB1
        obtain ⟨pv, capv, hvv⟩ : ∃ p cap, v = .slice p n cap := by
          rcases HV.out with ⟨p, cap, rfl, rfl⟩ | ⟨g, off, cap, rfl, _⟩
          · exact ⟨p, cap, rfl⟩
          · exact ⟨_, cap, rfl⟩
        subst hvv
        go_wp2_with fail
        go_loopw [8] (fun y wr => ∃ (i : Nat) (cs : List (List UInt8 × List UInt8)), i ≤ 40 ∧ y = .int .i64 (i : Int) ∧ cs.Perm xs ∧ RowIs w wr g cs) (fun y _ => 40 - (intOf y).toNat)
        case atStart => exact ⟨0, xs, by omega, rfl, List.Perm.refl _, HRI.out⟩
        case round =>
          obtain ⟨i, cs, hi, rfl, hperm, hR⟩ := hrel
          have HR := Lib.hid hR
          have HP := Lib.hid hperm
          have hcl := hperm.length_eq
          clear hR hperm HRI
          by_cases hgo : i < n ∧ 1 < xs.length ∧ i < 40
          · obtain ⟨h1, h2, h3⟩ := hgo
            have q1 : (i : Int) < (n : Int) := by omega
            have q2 : (1 : Int) < (xs.length : Int) := by omega
            have q3 : (i : Int) < 40 := by omega
            obtain ⟨gi, oi, hpv, hgi, z, hz, hz1, hz2⟩ : ∃ gi oi, pv = some ⟨gi, oi, none⟩ ∧ gi < w.heap.size ∧ ∃ z : Int, w.cell? ⟨gi, oi + i, none⟩ = some (.int .i64 z) ∧ -9223372036854775808 ≤ z ∧ z ≤ 9223372036854775807 := by
              rcases HV.out with ⟨p, cap, _, h⟩ | ⟨gi, oi, cap, he, hgi, _, hc⟩
              · omega
              · obtain ⟨e1, _, _⟩ := Value.slice.inj he
                obtain ⟨z, c1, c2, c3⟩ := hc i h1
                exact ⟨gi, oi, e1, hgi, z, c1, c2, c3⟩
            subst hpv
            have hzr := (HR.out.below.cell (p := ⟨gi, oi + i, none⟩) hgi).trans hz
            have hgr : gi < wr.heap.size := Nat.lt_of_lt_of_le hgi HR.out.below.size
            have W1 := fun W => Lib.hid (within3 z xs.length W hz1 hz2 hx1 (by omega))
            have W2 := fun W => Lib.hid (within3 (i : Int) xs.length W (by omega) (by omega) hx1 (by omega))
            have hk1 := (within_lt z xs.length hx1).1
            have hj1 := (within_lt (i : Int) xs.length hx1).1
            generalize Within z xs.length = k at *
            generalize Within (i : Int) xs.length = j at *
            clear hz
            have i0' : (0 : Int) ≤ (i : Int) := by omega
            go_wp2_with fail
            refine (W1 _).out.mono ?_
            rintro e w5 ⟨rfl, rfl⟩
            go_wp2_with fail
            refine (W2 _).out.mono ?_
            rintro e w5 ⟨rfl, rfl⟩
            have hkc : k < cs.length := by omega
            have hjc : j < cs.length := by omega
            have k0 := HR.out.c0 k hkc
            have k1 := HR.out.c1 k hkc
            have j0 := HR.out.c0 j hjc
            have j1 := HR.out.c1 j hjc
            have fr := HR.out.fr
            have hgl := HR.out.lt
            have HS : Hid (RowIs w ((((wr.setCell ⟨g, k * 2, none⟩ (.string ⟨cs[j].1.toArray⟩)).setCell ⟨g, k * 2 + 1, none⟩ (.string ⟨cs[j].2.toArray⟩)).setCell ⟨g, j * 2, none⟩ (.string ⟨cs[k].1.toArray⟩)).setCell ⟨g, j * 2 + 1, none⟩ (.string ⟨cs[k].2.toArray⟩)).drew g ((cs.set k cs[j]).set j cs[k])) := Lib.hid (((HR.out.set k hkc cs[j]).set j (by rw [List.length_set]; exact hjc) cs[k]).below' ((Below.refl _ _).drew))
            have HP2 : Hid (((cs.set k cs[j]).set j cs[k]).Perm xs) := Lib.hid ((List.set_set_perm hkc hjc).trans HP.out)
            have a1 : (0 : Int) ≤ (k : Int) := by omega
            have a2 : (k : Int) < (xs.length : Int) := by omega
            have a3 : (0 : Int) ≤ (j : Int) := by omega
            have a4 : (j : Int) < (xs.length : Int) := by omega
            clear hzr HR W1 W2
            by_cases hkj : k = j
            · subst hkj
              generalize (⟨cs[k].1.toArray⟩ : ByteArray) = K0 at *
              generalize (⟨cs[k].2.toArray⟩ : ByteArray) = K1 at *
              go_wp2_with fail
              go_region_with (fail)
              all_goals
                go_wp2_with fail
                try go_simp
                exact ⟨⟨i + 1, by omega, by omega, _, HP2.out, HS.out⟩, by simp [intOf]; omega⟩
            · have n1 : k * 2 ≠ j * 2 := by omega
              generalize (⟨cs[k].1.toArray⟩ : ByteArray) = K0 at *
              generalize (⟨cs[k].2.toArray⟩ : ByteArray) = K1 at *
              generalize (⟨cs[j].1.toArray⟩ : ByteArray) = J0 at *
              generalize (⟨cs[j].2.toArray⟩ : ByteArray) = J1 at *
              go_wp2_with fail
              go_region_with (fail)
              all_goals
                go_wp2_with fail
                try go_simp
                exact ⟨⟨i + 1, by omega, by omega, _, HP2.out, HS.out⟩, by simp [intOf]; omega⟩
          · have hout : (¬ (i : Int) < (n : Int)) ∨ ((i : Int) < (n : Int) ∧ ¬ (1 : Int) < (xs.length : Int)) ∨ ((i : Int) < (n : Int) ∧ (1 : Int) < (xs.length : Int) ∧ ¬ (i : Int) < 40) := by omega
            clear hgo
            have HBW := Lib.hid HR.out.below
            have HCW : Hid (AttrsIn wr (.slice (some ⟨g, 0, none⟩) xs.length cap3) cs) := by
              have := HR.out.attrs (cap := cap3) (fun x hx => HXS.out.2 x (HP.out.mem_iff.1 hx))
              rw [hcl] at this
              exact Lib.hid this
            have HSP := Lib.hid (same_perm xs cs HP.out)
            clear HR HP
            rcases hout with q1 | ⟨q1, q2⟩ | ⟨q1, q2, q3⟩
            · go_wp2_with fail
              refine (same_in _ _ xs ys wr (HXS.out.below HBW.out) (HYS.out.below HBW.out) (by omega)).mono ?_
              rintro e w5 ⟨rfl, b5⟩
              have HB5 := Lib.hid (HBW.out.trans (b5.mono HBW.out.size))
              have HC5 := Lib.hid (HCW.out.below b5)
              clear b5 HBW HCW
              go_wp2_with fail
              refine (rsame_in _ _ xs ys w5 (HXS.out.below HB5.out) (HYS.out.below HB5.out) (by omega) (by omega)).mono ?_
              rintro e w6 ⟨rfl, q, rfl⟩
              have HB6 := Lib.hid (below_drewN HB5.out q)
              have HC6 := Lib.hid (HC5.out.below (below_drewN (Below.refl _ w5) q))
              have qe : (sameV xs ys == sameV xs ys) = true := beq_self_eq_true _
              generalize sameV xs ys = bb at *
              generalize w5.drewN q = w7 at *
              clear HB5 HC5
              go_wp2_with fail
              refine (same_in _ _ xs cs w7 (HXS.out.below HB6.out) HC6.out (by omega)).mono ?_
              rintro e w8 ⟨rfl, b8⟩
              rw [HSP.out.1]
              have HB8 := Lib.hid (HB6.out.trans (b8.mono HB6.out.size))
              have HC8 := Lib.hid (HC6.out.below b8)
              clear b8 HB6 HC6
              go_wp2_with fail
              refine (same_in _ _ cs xs w8 HC8.out (HXS.out.below HB8.out) (by omega)).mono ?_
              rintro e w9 ⟨rfl, b9⟩
              rw [HSP.out.2]
              have HB9 := Lib.hid (HB8.out.trans (b9.mono HB8.out.size))
              clear b9 HB8 HC8
              go_wp2_with fail
              refine (same_in _ _ xs xs w9 (HXS.out.below HB9.out) (HXS.out.below HB9.out) (by omega)).mono ?_
              rintro e w10 ⟨rfl, b10⟩
              rw [(same_perm xs xs (List.Perm.refl _)).1]
              have HB10 := Lib.hid (HB9.out.trans (b10.mono HB9.out.size))
              clear b10 HB9
              go_wp2_with fail
              go_ret
              exact ⟨rfl, HB10.out⟩
            · go_wp2_with fail
              refine (same_in _ _ xs ys wr (HXS.out.below HBW.out) (HYS.out.below HBW.out) (by omega)).mono ?_
              rintro e w5 ⟨rfl, b5⟩
              have HB5 := Lib.hid (HBW.out.trans (b5.mono HBW.out.size))
              have HC5 := Lib.hid (HCW.out.below b5)
              clear b5 HBW HCW
              go_wp2_with fail
              refine (rsame_in _ _ xs ys w5 (HXS.out.below HB5.out) (HYS.out.below HB5.out) (by omega) (by omega)).mono ?_
              rintro e w6 ⟨rfl, q, rfl⟩
              have HB6 := Lib.hid (below_drewN HB5.out q)
              have HC6 := Lib.hid (HC5.out.below (below_drewN (Below.refl _ w5) q))
              have qe : (sameV xs ys == sameV xs ys) = true := beq_self_eq_true _
              generalize sameV xs ys = bb at *
              generalize w5.drewN q = w7 at *
              clear HB5 HC5
              go_wp2_with fail
              refine (same_in _ _ xs cs w7 (HXS.out.below HB6.out) HC6.out (by omega)).mono ?_
              rintro e w8 ⟨rfl, b8⟩
              rw [HSP.out.1]
              have HB8 := Lib.hid (HB6.out.trans (b8.mono HB6.out.size))
              have HC8 := Lib.hid (HC6.out.below b8)
              clear b8 HB6 HC6
              go_wp2_with fail
              refine (same_in _ _ cs xs w8 HC8.out (HXS.out.below HB8.out) (by omega)).mono ?_
              rintro e w9 ⟨rfl, b9⟩
              rw [HSP.out.2]
              have HB9 := Lib.hid (HB8.out.trans (b9.mono HB8.out.size))
              clear b9 HB8 HC8
              go_wp2_with fail
              refine (same_in _ _ xs xs w9 (HXS.out.below HB9.out) (HXS.out.below HB9.out) (by omega)).mono ?_
              rintro e w10 ⟨rfl, b10⟩
              rw [(same_perm xs xs (List.Perm.refl _)).1]
              have HB10 := Lib.hid (HB9.out.trans (b10.mono HB9.out.size))
              clear b10 HB9
              go_wp2_with fail
              go_ret
              exact ⟨rfl, HB10.out⟩
            · go_wp2_with fail
              refine (same_in _ _ xs ys wr (HXS.out.below HBW.out) (HYS.out.below HBW.out) (by omega)).mono ?_
              rintro e w5 ⟨rfl, b5⟩
              have HB5 := Lib.hid (HBW.out.trans (b5.mono HBW.out.size))
              have HC5 := Lib.hid (HCW.out.below b5)
              clear b5 HBW HCW
              go_wp2_with fail
              refine (rsame_in _ _ xs ys w5 (HXS.out.below HB5.out) (HYS.out.below HB5.out) (by omega) (by omega)).mono ?_
              rintro e w6 ⟨rfl, q, rfl⟩
              have HB6 := Lib.hid (below_drewN HB5.out q)
              have HC6 := Lib.hid (HC5.out.below (below_drewN (Below.refl _ w5) q))
              have qe : (sameV xs ys == sameV xs ys) = true := beq_self_eq_true _
              generalize sameV xs ys = bb at *
              generalize w5.drewN q = w7 at *
              clear HB5 HC5
              go_wp2_with fail
              refine (same_in _ _ xs cs w7 (HXS.out.below HB6.out) HC6.out (by omega)).mono ?_
              rintro e w8 ⟨rfl, b8⟩
              rw [HSP.out.1]
              have HB8 := Lib.hid (HB6.out.trans (b8.mono HB6.out.size))
              have HC8 := Lib.hid (HC6.out.below b8)
              clear b8 HB6 HC6
              go_wp2_with fail
              refine (same_in _ _ cs xs w8 HC8.out (HXS.out.below HB8.out) (by omega)).mono ?_
              rintro e w9 ⟨rfl, b9⟩
              rw [HSP.out.2]
              have HB9 := Lib.hid (HB8.out.trans (b9.mono HB8.out.size))
              clear b9 HB8 HC8
              go_wp2_with fail
              refine (same_in _ _ xs xs w9 (HXS.out.below HB9.out) (HXS.out.below HB9.out) (by omega)).mono ?_
              rintro e w10 ⟨rfl, b10⟩
              rw [(same_perm xs xs (List.Perm.refl _)).1]
              have HB10 := Lib.hid (HB9.out.trans (b10.mono HB9.out.size))
              clear b10 HB9
              go_wp2_with fail
              go_ret
              exact ⟨rfl, HB10.out⟩
end Go.Proofs.YtgelgfgcdfnacaaDoor
