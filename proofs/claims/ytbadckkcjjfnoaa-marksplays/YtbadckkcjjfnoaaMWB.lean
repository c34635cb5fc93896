/-
  The walks of the program's Index, Contains, same, alike. Any attributes, not too many.
-/
import Derived.Test.YtbadckkcjjfnoaaMSame
namespace Go.Proofs.Ytbadckkcjjfnoaa
open Go.RowKit

/-- A number that tells whether x is among xs. -/
def IdxB (x : List UInt8 × List UInt8) (xs : List (List UInt8 × List UInt8)) (w : World) (e : Ending) (w' : World) : Prop := ∃ n : Int, e = .returned (.int .i64 n) ∧ (0 ≤ n ↔ x ∈ xs) ∧ Below w.heap.size w w'
theorem IdxB.yes {x : List UInt8 × List UInt8} {xs : List (List UInt8 × List UInt8)} {w w' : World} (n : Int) (h0 : 0 ≤ n) (h : x ∈ xs) (hb : Below w.heap.size w w') : IdxB x xs w (.returned (.int .i64 n)) w' := ⟨n, rfl, ⟨fun _ => h, fun _ => h0⟩, hb⟩
theorem IdxB.no {x : List UInt8 × List UInt8} {xs : List (List UInt8 × List UInt8)} {w w' : World} (h : x ∉ xs) (hb : Below w.heap.size w w') : IdxB x xs w (.returned (.int .i64 (-1))) w' := ⟨-1, rfl, ⟨fun q => absurd q (by omega), fun q => absurd q h⟩, hb⟩
theorem not_in_step {α : Type} {xs : List α} {x : α} {k : Nat} (h : ∀ j (hj : j < xs.length), j < k → xs[j] ≠ x) (hk : k < xs.length) (hn : xs[k] ≠ x) : ∀ j (hj : j < xs.length), j < k + 1 → xs[j] ≠ x := by
  intro j hj hjk
  rcases Nat.lt_or_ge j k with q | q
  · exact h j hj q
  · have : j = k := by omega
    subst this
    exact hn
theorem not_in_all {α : Type} {xs : List α} {x : α} {k : Nat} (h : ∀ j (hj : j < xs.length), j < k → xs[j] ≠ x) (hk : xs.length ≤ k) : x ∉ xs := by
  intro hm
  obtain ⟨j, hj, e⟩ := List.mem_iff_getElem.1 hm
  exact h j hj (by omega) e
set_option maxHeartbeats 1000000 in
set_option maxRecDepth 100000 in
theorem mindexP (a : Value) (xs : List (List UInt8 × List UInt8)) (x : List UInt8 × List UInt8) (w : World) (ha : AttrsIn w a xs) (hN : xs.length ≤ 4294967296) : Calls Try.prog 155 #[a, .agg #[.string ⟨x.1.toArray⟩, .string ⟨x.2.toArray⟩]] w (IdxB x xs w) := by
  obtain ⟨⟨p, cap, rfl, hc⟩, _⟩ := ha
  have HC := Lib.hid hc
  clear hc
  obtain ⟨A, hA⟩ : ∃ A : ByteArray, A = ⟨x.1.toArray⟩ := ⟨_, rfl⟩
  obtain ⟨V, hV⟩ : ∃ V : ByteArray, V = ⟨x.2.toArray⟩ := ⟨_, rfl⟩
  rw [← hA, ← hV]
  have HAV := Lib.hid (And.intro hA hV)
  clear hA hV
  obtain ⟨W1, hW1⟩ : ∃ W1, W1 = w.alloc (.cells #[.string A, .string V] 40) := ⟨_, rfl⟩
  have hx1 : W1.heap[w.heap.size]? = some (.cells #[.string A, .string V] 40 (0, 0)) := by rw [hW1]; exact heap_alloc_new w _
  have y0 : W1.cell? ⟨w.heap.size, 0, none⟩ = some (.string A) := by simp [World.cell?, hx1]
  have y1 : W1.cell? ⟨w.heap.size, 1, none⟩ = some (.string V) := by simp [World.cell?, hx1]
  have ys := heap_lt hx1
  have HB1 : Hid (Below w.heap.size w W1) := Lib.hid (by rw [hW1]; exact (Below.refl _ w).alloc (Nat.le_refl _) _)
  have HW1 := Lib.hid hW1
  clear hW1 hx1
  go_enter Try.func155, Try.ntmps155
  go_wp2_with fail
  rw [← HW1.out]
  go_loopw [8] (fun i wr => ∃ (k q : Nat), k ≤ xs.length ∧ i = .int .i64 k ∧ wr = W1.drewN q ∧ ∀ j (h1 : j < xs.length), j < k → xs[j] ≠ x) (fun i _ => xs.length - (intOf i).toNat)
  case atStart => exact ⟨0, 0, Nat.zero_le _, rfl, rfl, fun j _ h => absurd h (by omega)⟩
  case round =>
    obtain ⟨k, q, hk, rfl, rfl, hall⟩ := hrel
    have HALL := Lib.hid hall
    clear hall
    by_cases hlt : k < xs.length
    · obtain ⟨g, o, rfl, hg, h0, h1⟩ := HC.out k hlt
      have g0 := (HB1.out.cell (p := ⟨g, o + k * 2, none⟩) hg).trans h0
      have g1 := (HB1.out.cell (p := ⟨g, o + k * 2 + 1, none⟩) hg).trans h1
      have hgs : g < W1.heap.size := Nat.lt_of_lt_of_le hg HB1.out.size
      have k0 : (0 : Int) ≤ (k : Int) := by omega
      have k1 : (k : Int) < (xs.length : Int) := by omega
      clear h0 h1
      by_cases c1 : x.1 = xs[k].1
      · have q1 : (A.toList == (⟨xs[k].1.toArray⟩ : ByteArray).toList) = true := by rw [HAV.out.1]; exact str_is c1
        by_cases c2 : x.2 = xs[k].2
        · have q2 : (V.toList == (⟨xs[k].2.toArray⟩ : ByteArray).toList) = true := by rw [HAV.out.2]; exact str_is c2
          have HE : Hid (x ∈ xs) := Lib.hid (by rw [Prod.ext c1 c2]; exact List.getElem_mem hlt)
          clear c1 c2
          generalize (⟨xs[k].1.toArray⟩ : ByteArray) = C at *
          generalize (⟨xs[k].2.toArray⟩ : ByteArray) = D at *
          go_wp2
          go_quiet (fail)
          go_wp2
          go_ret
          exact IdxB.yes _ k0 HE.out (below_drewN (below_drewN HB1.out _) _)
        · have q2 : (V.toList == (⟨xs[k].2.toArray⟩ : ByteArray).toList) = false := by rw [HAV.out.2]; exact str_ne c2
          have HE : Hid (∀ j (h1 : j < xs.length), j < k + 1 → xs[j] ≠ x) := Lib.hid (not_in_step HALL.out hlt (fun e => c2 (by rw [e])))
          clear c1 c2
          generalize (⟨xs[k].1.toArray⟩ : ByteArray) = C at *
          generalize (⟨xs[k].2.toArray⟩ : ByteArray) = D at *
          go_wp2
          go_quiet (fail)
          go_wp2
          exact ⟨⟨k + 1, _, by omega, by go_num, rfl, HE.out⟩, by simp [intOf]; omega⟩
      · have q1 : (A.toList == (⟨xs[k].1.toArray⟩ : ByteArray).toList) = false := by rw [HAV.out.1]; exact str_ne c1
        have HE : Hid (∀ j (h1 : j < xs.length), j < k + 1 → xs[j] ≠ x) := Lib.hid (not_in_step HALL.out hlt (fun e => c1 (by rw [e])))
        clear c1
        generalize (⟨xs[k].1.toArray⟩ : ByteArray) = C at *
        generalize (⟨xs[k].2.toArray⟩ : ByteArray) = D at *
        go_wp2
        go_quiet (fail)
        go_wp2
        exact ⟨⟨k + 1, _, by omega, by go_num, rfl, HE.out⟩, by simp [intOf]; omega⟩
    · have HE : Hid (x ∉ xs) := Lib.hid (not_in_all HALL.out (by omega))
      go_wp2
      go_ret
      exact IdxB.no HE.out (below_drewN HB1.out _)
set_option maxHeartbeats 1000000 in
set_option maxRecDepth 100000 in
theorem scontP (a : Value) (xs : List (List UInt8 × List UInt8)) (x : List UInt8 × List UInt8) (w : World) (ha : AttrsIn w a xs) (hN : xs.length ≤ 4294967296) : Calls Try.prog 143 #[a, .agg #[.string ⟨x.1.toArray⟩, .string ⟨x.2.toArray⟩]] w (Brings (.bool (decide (x ∈ xs))) w) := by
  have hw := (Below.refl _ w).alloc (Nat.le_refl _) (.cells #[.string ⟨x.1.toArray⟩, .string ⟨x.2.toArray⟩] 40)
  have HI := Lib.hid (mindexP a xs x _ (ha.below hw) hN)
  have HW := Lib.hid hw
  clear hw ha
  generalize (⟨x.1.toArray⟩ : ByteArray) = A at *
  generalize (⟨x.2.toArray⟩ : ByteArray) = V at *
  by_cases c : x ∈ xs
  · have HD : Hid (decide (x ∈ xs) = true) := Lib.hid (decide_eq_true c)
    rw [HD.out]
    have HX := Lib.hid c
    clear c
    go_enter Try.func143, Try.ntmps143
    go_wp2_with fail
    refine HI.out.mono ?_
    rintro e w1 ⟨n, rfl, hn, hb⟩
    have h0 : 0 ≤ n := hn.2 HX.out
    have HB := Lib.hid hb
    clear hn hb
    go_wp2_with fail
    go_ret
    exact ⟨rfl, HW.out.trans (HB.out.mono HW.out.size)⟩
  · have HD : Hid (decide (x ∈ xs) = false) := Lib.hid (decide_eq_false c)
    rw [HD.out]
    have HX := Lib.hid c
    clear c
    go_enter Try.func143, Try.ntmps143
    go_wp2_with fail
    refine HI.out.mono ?_
    rintro e w1 ⟨n, rfl, hn, hb⟩
    have h0 : n < 0 := Int.not_le.1 (fun q => HX.out (hn.1 q))
    have HB := Lib.hid hb
    clear hn hb
    go_wp2_with fail
    go_ret
    exact ⟨bool_is (decide_eq_false (by omega)), HW.out.trans (HB.out.mono HW.out.size)⟩

theorem sameV_eq {xs ys : List (List UInt8 × List UInt8)} (h : xs = ys) : sameV xs ys = true := by
  subst h
  unfold sameV
  rw [decide_eq_true rfl, Bool.and_true, List.all_eq_true]
  exact fun a ha => List.any_eq_true.2 ⟨a, ha, beq_self_eq_true _⟩
theorem sameV_len {xs ys : List (List UInt8 × List UInt8)} (h : xs.length ≠ ys.length) : sameV xs ys = false := by
  unfold sameV
  rw [decide_eq_false h, Bool.and_false]
theorem sameV_not_in {xs ys : List (List UInt8 × List UInt8)} {k : Nat} (hk : k < xs.length) (h : xs[k] ∉ ys) : sameV xs ys = false := by
  refine sameV_no xs ys k hk ?_
  rw [List.any_eq_false]
  intro b hb q
  rw [beq_iff_eq] at q
  exact h (q ▸ hb)
set_option maxHeartbeats 1000000 in
set_option maxRecDepth 100000 in
theorem msameP (a b : Value) (xs ys : List (List UInt8 × List UInt8)) (w : World) (ha : AttrsIn w a xs) (hb : AttrsIn w b ys) (hN : xs.length ≤ 30) : Calls Try.prog 128 #[a, b] w (Brings (.bool (sameV xs ys)) w) := by
  obtain ⟨⟨p, cap, rfl, hc⟩, _⟩ := id ha
  obtain ⟨⟨p2, cap2, rfl, hc2⟩, _⟩ := id hb
  have HC := Lib.hid hc
  have HC2 := Lib.hid hc2
  have HA := Lib.hid ha
  have HB := Lib.hid hb
  clear hc hc2 ha hb
  by_cases hl : xs.length = ys.length
  · have q0 : ((xs.length : Int) != (ys.length : Int)) = false := by simp [hl]
    have HL := Lib.hid hl
    have hl2 : xs.length ≤ ys.length := by omega
    clear hl
    go_enter Try.func128, Try.ntmps128
    go_wp2_with fail
    go_loopw [14] (fun i wr => ∃ (k : Nat), k ≤ xs.length ∧ i = .int .i64 k ∧ Below w.heap.size w wr ∧ ∀ j (h1 : j < k) (h2 : j < xs.length) (h3 : j < ys.length), xs[j] = ys[j]) (fun i _ => xs.length - (intOf i).toNat)
    case atStart => exact ⟨0, Nat.zero_le _, rfl, Below.refl _ _, fun j h => absurd h (by omega)⟩
    case round =>
      obtain ⟨k, hk, rfl, hbw, hall⟩ := hrel
      have HALL := Lib.hid hall
      have HBW := Lib.hid hbw
      clear hall hbw
      by_cases hlt : k < xs.length
      · have hlt2 : k < ys.length := by omega
        obtain ⟨g, o, rfl, hg, h0, h1⟩ := HC.out k hlt
        obtain ⟨g2, o2, rfl, hg2, e0, e1⟩ := HC2.out k hlt2
        have n0 := (HBW.out.cell (p := ⟨g, o + k * 2, none⟩) hg).trans h0
        have n1 := (HBW.out.cell (p := ⟨g, o + k * 2 + 1, none⟩) hg).trans h1
        have m0 := (HBW.out.cell (p := ⟨g2, o2 + k * 2, none⟩) hg2).trans e0
        have m1 := (HBW.out.cell (p := ⟨g2, o2 + k * 2 + 1, none⟩) hg2).trans e1
        have gs : g < wr.heap.size := Nat.lt_of_lt_of_le hg HBW.out.size
        have gs2 : g2 < wr.heap.size := Nat.lt_of_lt_of_le hg2 HBW.out.size
        have k0 : (0 : Int) ≤ (k : Int) := by omega
        have k1 : (k : Int) < (xs.length : Int) := by omega
        have k2 : (k : Int) < (ys.length : Int) := by omega
        have HCO : Hid (∀ W, Below w.heap.size w W → Calls Try.prog 143 #[.slice (some ⟨g2, o2, none⟩) ys.length cap2, .agg #[.string ⟨xs[k].1.toArray⟩, .string ⟨xs[k].2.toArray⟩]] W (Brings (.bool (decide (xs[k] ∈ ys))) W)) := Lib.hid fun W b => scontP _ ys xs[k] W (HB.out.below b) (by have := HL.out; omega)
        have HSA : Hid (∀ W, Below w.heap.size w W → Calls Try.prog 144 #[.slice (some ⟨g, o, none⟩) xs.length cap, .slice (some ⟨g2, o2, none⟩) ys.length cap2] W (Brings (.bool (sameV xs ys)) W)) := Lib.hid fun W b => same_in _ _ xs ys W (HA.out.below b) (HB.out.below b) hN
        have HNI : Hid (xs[k] ∉ ys → sameV xs ys = false) := Lib.hid (sameV_not_in hlt)
        clear h0 h1 e0 e1
        by_cases c1 : xs[k].1 = ys[k].1
        · have q1 := str_is c1
          by_cases c2 : xs[k].2 = ys[k].2
          · have q2 := str_is c2
            have HE := Lib.hid (Prod.ext c1 c2)
            clear c1 c2 HCO HSA HNI
            generalize (⟨xs[k].1.toArray⟩ : ByteArray) = A at *
            generalize (⟨xs[k].2.toArray⟩ : ByteArray) = B at *
            generalize (⟨ys[k].1.toArray⟩ : ByteArray) = C at *
            generalize (⟨ys[k].2.toArray⟩ : ByteArray) = D at *
            have HW1 : Hid (Below w.heap.size w (wr.alloc (.cells #[.string A, .string B] 40))) := Lib.hid (HBW.out.alloc HBW.out.size _)
            go_wp2
            go_quiet (fail)
            go_wp2
            refine ⟨⟨k + 1, by omega, by go_num, below_drewN HW1.out _, fun j h1 h2 h3 => ?_⟩, by simp [intOf]; omega⟩
            rcases Nat.lt_or_ge j k with h | h
            · exact HALL.out j h h2 h3
            · have : j = k := by omega
              subst this
              exact HE.out
          · have q2 := str_ne c2
            clear c1 c2
            generalize (⟨xs[k].1.toArray⟩ : ByteArray) = A at *
            generalize (⟨xs[k].2.toArray⟩ : ByteArray) = B at *
            generalize (⟨ys[k].1.toArray⟩ : ByteArray) = C at *
            generalize (⟨ys[k].2.toArray⟩ : ByteArray) = D at *
            have HW1 : Hid (Below w.heap.size w (wr.alloc (.cells #[.string A, .string B] 40))) := Lib.hid (HBW.out.alloc HBW.out.size _)
            by_cases c3 : xs[k] ∈ ys
            · rw [decide_eq_true c3] at HCO
              clear c3 HNI
              go_wp2
              go_quiet (fail)
              go_wp2_with fail
              refine (HCO.out _ (below_drewN HW1.out _)).mono ?_
              rintro e w1 ⟨rfl, b2⟩
              have HB2 := Lib.hid ((below_drewN HW1.out _).trans (b2.mono (below_drewN HW1.out _).size))
              clear b2
              go_wp2_with fail
              refine (HSA.out _ HB2.out).mono ?_
              rintro e w2 ⟨rfl, b3⟩
              have HB3 := Lib.hid (HB2.out.trans (b3.mono HB2.out.size))
              clear b3
              go_wp2_with fail
              go_ret
              exact ⟨rfl, HB3.out⟩
            · rw [decide_eq_false c3] at HCO
              have HZ : Hid (sameV xs ys = false) := Lib.hid (HNI.out c3)
              clear c3 HNI HSA
              go_wp2
              go_quiet (fail)
              go_wp2_with fail
              refine (HCO.out _ (below_drewN HW1.out _)).mono ?_
              rintro e w1 ⟨rfl, b2⟩
              have HB2 := Lib.hid ((below_drewN HW1.out _).trans (b2.mono (below_drewN HW1.out _).size))
              clear b2
              go_wp2_with fail
              go_ret
              exact ⟨bool_is HZ.out.symm, HB2.out⟩
        · have q1 := str_ne c1
          clear c1
          generalize (⟨xs[k].1.toArray⟩ : ByteArray) = A at *
          generalize (⟨xs[k].2.toArray⟩ : ByteArray) = B at *
          generalize (⟨ys[k].1.toArray⟩ : ByteArray) = C at *
          generalize (⟨ys[k].2.toArray⟩ : ByteArray) = D at *
          have HW1 : Hid (Below w.heap.size w (wr.alloc (.cells #[.string A, .string B] 40))) := Lib.hid (HBW.out.alloc HBW.out.size _)
          by_cases c3 : xs[k] ∈ ys
          · rw [decide_eq_true c3] at HCO
            clear c3 HNI
            go_wp2
            go_quiet (fail)
            go_wp2_with fail
            refine (HCO.out _ (below_drewN HW1.out _)).mono ?_
            rintro e w1 ⟨rfl, b2⟩
            have HB2 := Lib.hid ((below_drewN HW1.out _).trans (b2.mono (below_drewN HW1.out _).size))
            clear b2
            go_wp2_with fail
            refine (HSA.out _ HB2.out).mono ?_
            rintro e w2 ⟨rfl, b3⟩
            have HB3 := Lib.hid (HB2.out.trans (b3.mono HB2.out.size))
            clear b3
            go_wp2_with fail
            go_ret
            exact ⟨rfl, HB3.out⟩
          · rw [decide_eq_false c3] at HCO
            have HZ : Hid (sameV xs ys = false) := Lib.hid (HNI.out c3)
            clear c3 HNI HSA
            go_wp2
            go_quiet (fail)
            go_wp2_with fail
            refine (HCO.out _ (below_drewN HW1.out _)).mono ?_
            rintro e w1 ⟨rfl, b2⟩
            have HB2 := Lib.hid ((below_drewN HW1.out _).trans (b2.mono (below_drewN HW1.out _).size))
            clear b2
            go_wp2_with fail
            go_ret
            exact ⟨bool_is HZ.out.symm, HB2.out⟩
      · have HE : Hid (xs = ys) := Lib.hid (list_all HL.out fun j hj => HALL.out j (by omega) hj (by have := HL.out; omega))
        go_wp2_with fail
        go_ret
        exact ⟨bool_is (sameV_eq HE.out).symm, HBW.out⟩
  · have q0 : ((xs.length : Int) != (ys.length : Int)) = true := by simp; omega
    go_enter Try.func128, Try.ntmps128
    go_wp2_with fail
    go_ret
    exact ⟨bool_is (sameV_len hl).symm, Below.refl _ _⟩
end Go.Proofs.Ytbadckkcjjfnoaa
