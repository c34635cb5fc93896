/-
  The walks of the reference's Alike, One, Same. Any nodes, not too many.
-/
import Derived.Test.YtkoijkdhmfnlbaaDAll
namespace Go.Proofs.Ytkoijkdhmfnlbaa
open Go.RowKit

theorem str_eq (a b : List UInt8) : ((⟨a.toArray⟩ : ByteArray).toList == (⟨b.toArray⟩ : ByteArray).toList) = decide (a = b) := by
  rw [Lib.toList_data, Lib.toList_data, Bool.eq_iff_iff, beq_iff_eq, decide_eq_true_eq]
theorem str_ne {a b : List UInt8} (h : a ≠ b) : ((⟨a.toArray⟩ : ByteArray).toList == (⟨b.toArray⟩ : ByteArray).toList) = false := by rw [str_eq]; simp [h]
theorem str_is {a b : List UInt8} (h : a = b) : ((⟨a.toArray⟩ : ByteArray).toList == (⟨b.toArray⟩ : ByteArray).toList) = true := by rw [str_eq]; simp [h]
theorem list_no {α : Type} {xs ys : List α} {k : Nat} (h1 : k < xs.length) (h2 : k < ys.length) (h : xs[k] ≠ ys[k]) : xs ≠ ys := by
  rintro rfl
  exact h rfl
theorem list_all {α : Type} {xs ys : List α} (hl : xs.length = ys.length) (h : ∀ j (hj : j < xs.length), xs[j] = ys[j]'(hl ▸ hj)) : xs = ys := List.ext_getElem hl fun j h1 _ => h j h1

set_option maxHeartbeats 1000000 in
set_option maxRecDepth 100000 in
theorem ralikeP (a b : Value) (xs ys : List (List UInt8 × List UInt8)) (P Q : Nat → Prop) (w : World) (ha : AttrsP P w a xs) (hb : AttrsP Q w b ys) (hN : xs.length ≤ 4294967296) : Calls Try.prog 50 #[a, b] w (Brings (.bool (decide (xs = ys))) w) := by
  obtain ⟨p, cap, rfl, hc⟩ := ha
  obtain ⟨p2, cap2, rfl, hc2⟩ := hb
  have HC := Lib.hid hc
  have HC2 := Lib.hid hc2
  clear hc hc2
  by_cases hl : xs.length = ys.length
  · have q0 : ((xs.length : Int) == (ys.length : Int)) = true := by simp [hl]
    go_enter Try.func50, Try.ntmps50
    go_wp2
    go_loopw [5] (fun i wr => ∃ (k q : Nat), k ≤ xs.length ∧ i = .int .i64 k ∧ wr = w.drewN q ∧ ∀ j (h1 : j < k) (h2 : j < xs.length) (h3 : j < ys.length), xs[j] = ys[j]) (fun i _ => xs.length - (intOf i).toNat)
    case atStart => exact ⟨0, 0, Nat.zero_le _, rfl, rfl, fun j h => absurd h (by omega)⟩
    case round =>
      obtain ⟨k, q, hk, rfl, rfl, hall⟩ := hrel
      have HALL := Lib.hid hall
      clear hall
      by_cases hlt : k < xs.length
      · have hlt2 : k < ys.length := by omega
        obtain ⟨g, o, rfl, _, hg, hcell⟩ := HC.out (by omega)
        obtain ⟨g2, o2, rfl, _, hg2, hcell2⟩ := HC2.out (by omega)
        obtain ⟨h0, h1⟩ := hcell k hlt
        obtain ⟨e0, e1⟩ := hcell2 k hlt2
        have k0 : (0 : Int) ≤ (k : Int) := by omega
        have k1 : (k : Int) < (xs.length : Int) := by omega
        have k2 : (k : Int) < (ys.length : Int) := by omega
        clear hcell hcell2
        by_cases c1 : xs[k].1 = ys[k].1
        · have q1 := str_is c1
          by_cases c2 : xs[k].2 = ys[k].2
          · have q2 := str_is c2
            have HE := Lib.hid (Prod.ext c1 c2)
            clear c1 c2
            generalize (⟨xs[k].1.toArray⟩ : ByteArray) = A at *
            generalize (⟨xs[k].2.toArray⟩ : ByteArray) = B at *
            generalize (⟨ys[k].1.toArray⟩ : ByteArray) = C at *
            generalize (⟨ys[k].2.toArray⟩ : ByteArray) = D at *
            go_wp2
            go_quiet (fail)
            go_wp2
            refine ⟨⟨k + 1, _, by omega, by go_num, rfl, fun j h1 h2 h3 => ?_⟩, by simp [intOf]; omega⟩
            rcases Nat.lt_or_ge j k with h | h
            · exact HALL.out j h h2 h3
            · have : j = k := by omega
              subst this
              exact HE.out
          · have q2 := str_ne c2
            have HE := Lib.hid (list_no hlt hlt2 (fun e => c2 (by rw [e])))
            clear c1 c2
            generalize (⟨xs[k].1.toArray⟩ : ByteArray) = A at *
            generalize (⟨xs[k].2.toArray⟩ : ByteArray) = B at *
            generalize (⟨ys[k].1.toArray⟩ : ByteArray) = C at *
            generalize (⟨ys[k].2.toArray⟩ : ByteArray) = D at *
            go_wp2
            go_quiet (fail)
            go_wp2
            go_ret
            exact ⟨by rw [decide_eq_false HE.out]; rfl, below_drewN (below_drewN (Below.refl _ _) _) _⟩
        · have q1 := str_ne c1
          have HE := Lib.hid (list_no hlt hlt2 (fun e => c1 (by rw [e])))
          clear c1
          generalize (⟨xs[k].1.toArray⟩ : ByteArray) = A at *
          generalize (⟨xs[k].2.toArray⟩ : ByteArray) = B at *
          generalize (⟨ys[k].1.toArray⟩ : ByteArray) = C at *
          generalize (⟨ys[k].2.toArray⟩ : ByteArray) = D at *
          go_wp2
          go_quiet (fail)
          go_wp2
          go_ret
          exact ⟨by rw [decide_eq_false HE.out]; rfl, below_drewN (below_drewN (Below.refl _ _) _) _⟩
      · have HE : Hid (xs = ys) := Lib.hid (list_all hl fun j hj => HALL.out j (by omega) hj (by omega))
        go_wp2
        go_ret
        exact ⟨by rw [decide_eq_true HE.out]; rfl, below_drewN (Below.refl _ _) _⟩
  · have q0 : ((xs.length : Int) == (ys.length : Int)) = false := by rw [beq_eq_false_iff_ne]; omega
    have HE : Hid (xs ≠ ys) := Lib.hid (fun e => hl (congrArg List.length e))
    clear hl
    go_enter Try.func50, Try.ntmps50
    go_wp2
    go_ret
    exact ⟨by rw [decide_eq_false HE.out]; rfl, Below.refl _ _⟩

/-- The blocks that One makes of its two nodes. -/
theorem two_below (w : World) (a b : Obj) : Below w.heap.size w ((w.alloc a).alloc b) := by
  have B1 : Below w.heap.size w (w.alloc a) := (Below.refl _ w).alloc (Nat.le_refl _) _
  exact B1.alloc B1.size _
theorem two_cells (w w2 : World) (cs ds : Array Value) (t u : TypeId) (b2 : Below ((w.alloc (.cells cs t)).alloc (.cells ds u)).heap.size ((w.alloc (.cells cs t)).alloc (.cells ds u)) w2) :
    (∀ j, w2.cell? ⟨w.heap.size, j, none⟩ = cs[j]?) ∧ ∀ j, w2.cell? ⟨w.heap.size + 1, j, none⟩ = ds[j]? := by
  constructor
  · intro j
    rw [b2.cell (p := ⟨w.heap.size, j, none⟩) (by simp; omega), World.cell?_alloc_lt _ _ _ (by simp)]
    exact World.cell?_alloc_mark w cs t (0, 0) j
  · intro j
    rw [b2.cell (p := ⟨w.heap.size + 1, j, none⟩) (by simp)]
    rw [show w.heap.size + 1 = (w.alloc (.cells cs t)).heap.size by simp]
    exact World.cell?_alloc_mark (w.alloc (.cells cs t)) ds u (0, 0) j
set_option maxHeartbeats 1000000 in
set_option maxRecDepth 100000 in
theorem rone_parts (k1 k2 s1 s2 f1 f2 : Int) (n1 n2 t1 t2 : ByteArray) (x y : Value) (xs ys : List (List UInt8 × List UInt8)) (P Q : Nat → Prop) (p1 p2 : Option Addr) (l1 l2 c1 c2 : Nat) (w : World) (ha : AttrsP P w x xs) (hb : AttrsP Q w y ys) (hN : xs.length ≤ 4294967296) :
    Calls Try.prog 31 #[.agg #[.int .i64 k1, .int .i64 s1, .string n1, x, .string t1, .int .i64 f1, .slice p1 l1 c1], .agg #[.int .i64 k2, .int .i64 s2, .string n2, y, .string t2, .int .i64 f2, .slice p2 l2 c2]] w (Brings (.bool (k1 == k2 && (s1 == s2 && (n1.toList == n2.toList && (decide (xs = ys) && (t1.toList == t2.toList && f1 == f2)))))) w) := by
  have HA := Lib.hid ha
  have HB := Lib.hid hb
  have HW := Lib.hid (two_below w (.cells #[.int .i64 k1, .int .i64 s1, .string n1, x, .string t1, .int .i64 f1, .slice p1 l1 c1] 43) (.cells #[.int .i64 k2, .int .i64 s2, .string n2, y, .string t2, .int .i64 f2, .slice p2 l2 c2] 43))
  clear ha hb
  cases q1 : (k1 == k2)
  · go_enter Try.func31, Try.ntmps31
    go_wp2_with fail
    go_ret
    exact ⟨rfl, HW.out⟩
  · skip
    cases q2 : (s1 == s2)
    · go_enter Try.func31, Try.ntmps31
      go_wp2_with fail
      go_ret
      exact ⟨rfl, HW.out⟩
    · skip
      cases q3 : (n1.toList == n2.toList)
      · go_enter Try.func31, Try.ntmps31
        go_wp2_with fail
        go_ret
        exact ⟨rfl, HW.out⟩
      · skip
        go_enter Try.func31, Try.ntmps31
        go_wp2_with fail
        refine (ralikeP x y xs ys P Q _ (HA.out.kept (.of_below HW.out)) (HB.out.kept (.of_below HW.out)) hN).mono ?_
        rintro e w2 ⟨rfl, b2⟩
        have HW2 := Lib.hid (HW.out.trans (b2.mono HW.out.size))
        obtain ⟨hA, hB⟩ := two_cells w w2 #[.int .i64 k1, .int .i64 s1, .string n1, x, .string t1, .int .i64 f1, .slice p1 l1 c1] #[.int .i64 k2, .int .i64 s2, .string n2, y, .string t2, .int .i64 f2, .slice p2 l2 c2] 43 43 b2
        have a4 : w2.cell? ⟨w.heap.size, 4, none⟩ = some (.string t1) := hA 4
        have a5 : w2.cell? ⟨w.heap.size, 5, none⟩ = some (.int .i64 f1) := hA 5
        have b4 : w2.cell? ⟨w.heap.size + 1, 4, none⟩ = some (.string t2) := hB 4
        have b5 : w2.cell? ⟨w.heap.size + 1, 5, none⟩ = some (.int .i64 f2) := hB 5
        clear b2 hA hB HW
        cases hd : decide (xs = ys)
        · go_wp2_with fail
          go_ret
          exact ⟨by rw [hd]; rfl, HW2.out⟩
        · cases q5 : (t1.toList == t2.toList)
          · go_wp2_with fail
            go_ret
            exact ⟨by rw [hd, q5]; rfl, HW2.out⟩
          · go_wp2_with fail
            go_ret
            exact ⟨by rw [hd, q5]; rfl, HW2.out⟩
/-- A node as a value, its rows given. -/
def nodeV (d : Nd) (va vk : Value) : Value := .agg #[.int .i64 d.kind, .int .i64 d.space, .string ⟨d.name.toArray⟩, va, .string ⟨d.text.toArray⟩, .int .i64 d.frm, vk]
theorem nd_eq (x y : Nd) : (x.kind == y.kind && (x.space == y.space && ((⟨x.name.toArray⟩ : ByteArray).toList == (⟨y.name.toArray⟩ : ByteArray).toList && (decide (x.attrs = y.attrs) && ((⟨x.text.toArray⟩ : ByteArray).toList == (⟨y.text.toArray⟩ : ByteArray).toList && x.frm == y.frm))))) = decide (x = y) := by
  rw [str_eq, str_eq, Bool.eq_iff_iff]
  obtain ⟨a1, a2, a3, a4, a5, a6⟩ := x
  obtain ⟨b1, b2, b3, b4, b5, b6⟩ := y
  simp
theorem rone_nd (x y : Nd) (va vb vk vl : Value) (P Q : Nat → Prop) (w : World) (ha : AttrsP P w va x.attrs) (hb : AttrsP Q w vb y.attrs) (hk : ∃ p l c, vk = .slice p l c) (hl : ∃ p l c, vl = .slice p l c) (hN : x.attrs.length ≤ 4294967296) :
    Calls Try.prog 31 #[nodeV x va vk, nodeV y vb vl] w (Brings (.bool (decide (x = y))) w) := by
  obtain ⟨p1, l1, c1, rfl⟩ := hk
  obtain ⟨p2, l2, c2, rfl⟩ := hl
  rw [← nd_eq]
  exact rone_parts _ _ _ _ _ _ _ _ _ _ va vb x.attrs y.attrs P Q p1 p2 l1 l2 c1 c2 w ha hb hN
theorem NodesP.slice {P : Nat → Prop} {w : World} {v : Value} {f : Fo} (h : NodesP P w v f) : ∃ p l c, v = .slice p l c := by
  obtain ⟨p, c, rfl, _⟩ := h
  exact ⟨p, _, c, rfl⟩

set_option maxHeartbeats 1000000 in
set_option maxRecDepth 100000 in
theorem rsame_all : ∀ (n : Nat) (f f2 : Fo) (P Q : Nat → Prop) (v v2 : Value) (w : World), f.wt < n → f.wt ≤ 4294967296 → NodesP P w v f → NodesP Q w v2 f2 → Calls Try.prog 25 #[v, v2] w (Brings (.bool (f.same f2)) w)
  | 0, f, _, P, _, v, _, w, hn, _, _, _ => absurd hn (by omega)
  | n + 1, f, f2, P, Q, v, v2, w, hn, hs, h, h2 => by
    have IH := Lib.hid (rsame_all n)
    obtain ⟨p, cap, rfl, ht⟩ := h
    obtain ⟨p2, cap2, rfl, ht2⟩ := h2
    have HT := Lib.hid ht
    have HT2 := Lib.hid ht2
    have hl := Fo.len_le f
    clear ht ht2
    by_cases hlen : f.len = f2.len
    · have q0 : ((f.len : Int) != (f2.len : Int)) = false := by simp [hlen]
      have HLEN := Lib.hid hlen
      clear hlen
      go_enter Try.func25, Try.ntmps25
      go_wp2
      go_loopw [5] (fun i wr => ∃ (k : Nat) (r r2 : Fo), k + r.len = f.len ∧ k + r2.len = f2.len ∧ r.wt ≤ f.wt ∧ i = .int .i64 (k : Int) ∧ f.same f2 = r.same r2 ∧ NodesTail P wr p r k ∧ NodesTail Q wr p2 r2 k ∧ Below w.heap.size w wr) (fun i _ => f.len - (intOf i).toNat)
      case atStart => exact ⟨0, f, f2, by omega, by omega, Nat.le_refl _, rfl, rfl, HT.out, HT2.out, Below.refl _ _⟩
      case round =>
        clear q0
        obtain ⟨k, r, r2, hk, hk2, hr, rfl, hd, hT, hT2, hB⟩ := hrel
        have HD := Lib.hid hd
        have HB := Lib.hid hB
        clear hd hB
        cases r with
        | nil =>
          cases r2 with
          | nil =>
            have hk' : k = f.len := by simpa [Fo.len] using hk
            subst hk'
            go_wp2
            go_ret
            refine ⟨?_, HB.out⟩
            rw [HD.out]
            rfl
          | cons d2 kd2 s2 => have := HLEN.out; simp only [Fo.len] at hk hk2; omega
        | cons d kd r' =>
          cases r2 with
          | nil => have := HLEN.out; simp only [Fo.len] at hk hk2; omega
          | cons d2 kd2 s2 =>
            obtain ⟨g, o, va, vk, rfl, _, hg, h7, hva, hkd, htl⟩ := hT.head
            obtain ⟨g2, o2, va2, vk2, rfl, _, hg2, h72, hva2, hkd2, htl2⟩ := hT2.head
            obtain ⟨c0, c1, c2, c3, c4, c5, c6⟩ := h7
            obtain ⟨e0, e1, e2, e3, e4, e5, e6⟩ := h72
            have HVA := Lib.hid hva
            have HVA2 := Lib.hid hva2
            have HKD := Lib.hid hkd
            have HKD2 := Lib.hid hkd2
            have HTL := Lib.hid htl
            have HTL2 := Lib.hid htl2
            simp only [Fo.wt, Fo.len] at hr hk hk2
            have hkl : k < f.len := by omega
            have hkl2 : k < f2.len := by omega
            clear hT hT2 hva hva2 hkd hkd2 htl htl2
            obtain ⟨pk, lk, ck, hvk⟩ := HKD.out.slice
            obtain ⟨pk2, lk2, ck2, hvk2⟩ := HKD2.out.slice
            obtain ⟨pa, ca, hva, _⟩ := HVA.out
            obtain ⟨pa2, ca2, hva2, _⟩ := HVA2.out
            subst hvk hvk2 hva hva2
            have key : ∀ W, Below wr.heap.size wr W → (fun w' => w'.cell? ⟨g, o + k * 7, none⟩ = some (.int .i64 d.kind) ∧ w'.cell? ⟨g, o + k * 7 + 1, none⟩ = some (.int .i64 d.space) ∧ w'.cell? ⟨g, o + k * 7 + 2, none⟩ = some (.string ⟨d.name.toArray⟩) ∧ w'.cell? ⟨g, o + k * 7 + 3, none⟩ = some (.slice pa d.attrs.length ca) ∧ w'.cell? ⟨g, o + k * 7 + 4, none⟩ = some (.string ⟨d.text.toArray⟩) ∧ w'.cell? ⟨g, o + k * 7 + 5, none⟩ = some (.int .i64 d.frm) ∧ w'.cell? ⟨g, o + k * 7 + 6, none⟩ = some (.slice pk lk ck) ∧ w'.cell? ⟨g2, o2 + k * 7, none⟩ = some (.int .i64 d2.kind) ∧ w'.cell? ⟨g2, o2 + k * 7 + 1, none⟩ = some (.int .i64 d2.space) ∧ w'.cell? ⟨g2, o2 + k * 7 + 2, none⟩ = some (.string ⟨d2.name.toArray⟩) ∧ w'.cell? ⟨g2, o2 + k * 7 + 3, none⟩ = some (.slice pa2 d2.attrs.length ca2) ∧ w'.cell? ⟨g2, o2 + k * 7 + 4, none⟩ = some (.string ⟨d2.text.toArray⟩) ∧ w'.cell? ⟨g2, o2 + k * 7 + 5, none⟩ = some (.int .i64 d2.frm) ∧ w'.cell? ⟨g2, o2 + k * 7 + 6, none⟩ = some (.slice pk2 lk2 ck2) ∧ Below wr.heap.size wr w') W := fun W b => ⟨(b.cell (p := ⟨g, o + k * 7, none⟩) hg).trans c0, (b.cell (p := ⟨g, o + k * 7 + 1, none⟩) hg).trans c1, (b.cell (p := ⟨g, o + k * 7 + 2, none⟩) hg).trans c2, (b.cell (p := ⟨g, o + k * 7 + 3, none⟩) hg).trans c3, (b.cell (p := ⟨g, o + k * 7 + 4, none⟩) hg).trans c4, (b.cell (p := ⟨g, o + k * 7 + 5, none⟩) hg).trans c5, (b.cell (p := ⟨g, o + k * 7 + 6, none⟩) hg).trans c6, (b.cell (p := ⟨g2, o2 + k * 7, none⟩) hg2).trans e0, (b.cell (p := ⟨g2, o2 + k * 7 + 1, none⟩) hg2).trans e1, (b.cell (p := ⟨g2, o2 + k * 7 + 2, none⟩) hg2).trans e2, (b.cell (p := ⟨g2, o2 + k * 7 + 3, none⟩) hg2).trans e3, (b.cell (p := ⟨g2, o2 + k * 7 + 4, none⟩) hg2).trans e4, (b.cell (p := ⟨g2, o2 + k * 7 + 5, none⟩) hg2).trans e5, (b.cell (p := ⟨g2, o2 + k * 7 + 6, none⟩) hg2).trans e6, b⟩
            have hS0 : (fun w' => w'.cell? ⟨g, o + k * 7, none⟩ = some (.int .i64 d.kind) ∧ w'.cell? ⟨g, o + k * 7 + 1, none⟩ = some (.int .i64 d.space) ∧ w'.cell? ⟨g, o + k * 7 + 2, none⟩ = some (.string ⟨d.name.toArray⟩) ∧ w'.cell? ⟨g, o + k * 7 + 3, none⟩ = some (.slice pa d.attrs.length ca) ∧ w'.cell? ⟨g, o + k * 7 + 4, none⟩ = some (.string ⟨d.text.toArray⟩) ∧ w'.cell? ⟨g, o + k * 7 + 5, none⟩ = some (.int .i64 d.frm) ∧ w'.cell? ⟨g, o + k * 7 + 6, none⟩ = some (.slice pk lk ck) ∧ w'.cell? ⟨g2, o2 + k * 7, none⟩ = some (.int .i64 d2.kind) ∧ w'.cell? ⟨g2, o2 + k * 7 + 1, none⟩ = some (.int .i64 d2.space) ∧ w'.cell? ⟨g2, o2 + k * 7 + 2, none⟩ = some (.string ⟨d2.name.toArray⟩) ∧ w'.cell? ⟨g2, o2 + k * 7 + 3, none⟩ = some (.slice pa2 d2.attrs.length ca2) ∧ w'.cell? ⟨g2, o2 + k * 7 + 4, none⟩ = some (.string ⟨d2.text.toArray⟩) ∧ w'.cell? ⟨g2, o2 + k * 7 + 5, none⟩ = some (.int .i64 d2.frm) ∧ w'.cell? ⟨g2, o2 + k * 7 + 6, none⟩ = some (.slice pk2 lk2 ck2) ∧ Below wr.heap.size wr w') wr.drew := key _ (Below.refl _ _).drew
            have HO : Hid (∀ W, Below wr.heap.size wr W → Calls Try.prog 31 #[nodeV d (.slice pa d.attrs.length ca) (.slice pk lk ck), nodeV d2 (.slice pa2 d2.attrs.length ca2) (.slice pk2 lk2 ck2)] W fun e w3 => e = .returned (.bool (decide (d = d2))) ∧ (fun w' => w'.cell? ⟨g, o + k * 7, none⟩ = some (.int .i64 d.kind) ∧ w'.cell? ⟨g, o + k * 7 + 1, none⟩ = some (.int .i64 d.space) ∧ w'.cell? ⟨g, o + k * 7 + 2, none⟩ = some (.string ⟨d.name.toArray⟩) ∧ w'.cell? ⟨g, o + k * 7 + 3, none⟩ = some (.slice pa d.attrs.length ca) ∧ w'.cell? ⟨g, o + k * 7 + 4, none⟩ = some (.string ⟨d.text.toArray⟩) ∧ w'.cell? ⟨g, o + k * 7 + 5, none⟩ = some (.int .i64 d.frm) ∧ w'.cell? ⟨g, o + k * 7 + 6, none⟩ = some (.slice pk lk ck) ∧ w'.cell? ⟨g2, o2 + k * 7, none⟩ = some (.int .i64 d2.kind) ∧ w'.cell? ⟨g2, o2 + k * 7 + 1, none⟩ = some (.int .i64 d2.space) ∧ w'.cell? ⟨g2, o2 + k * 7 + 2, none⟩ = some (.string ⟨d2.name.toArray⟩) ∧ w'.cell? ⟨g2, o2 + k * 7 + 3, none⟩ = some (.slice pa2 d2.attrs.length ca2) ∧ w'.cell? ⟨g2, o2 + k * 7 + 4, none⟩ = some (.string ⟨d2.text.toArray⟩) ∧ w'.cell? ⟨g2, o2 + k * 7 + 5, none⟩ = some (.int .i64 d2.frm) ∧ w'.cell? ⟨g2, o2 + k * 7 + 6, none⟩ = some (.slice pk2 lk2 ck2) ∧ Below wr.heap.size wr w') w3) := by
              refine Lib.hid fun W b => ((rone_nd d d2 _ _ _ _ P Q W (HVA.out.kept (.of_below b)) (HVA2.out.kept (.of_below b)) HKD.out.slice HKD2.out.slice (by omega)).mono ?_)
              rintro e w3 ⟨rfl, b3⟩
              exact ⟨rfl, key _ (b.trans (b3.mono b.size))⟩
            have HS : Hid (∀ W, Below wr.heap.size wr W → Calls Try.prog 25 #[.slice pk lk ck, .slice pk2 lk2 ck2] W fun e w4 => e = .returned (.bool (kd.same kd2)) ∧ (fun w' => w'.cell? ⟨g, o + k * 7, none⟩ = some (.int .i64 d.kind) ∧ w'.cell? ⟨g, o + k * 7 + 1, none⟩ = some (.int .i64 d.space) ∧ w'.cell? ⟨g, o + k * 7 + 2, none⟩ = some (.string ⟨d.name.toArray⟩) ∧ w'.cell? ⟨g, o + k * 7 + 3, none⟩ = some (.slice pa d.attrs.length ca) ∧ w'.cell? ⟨g, o + k * 7 + 4, none⟩ = some (.string ⟨d.text.toArray⟩) ∧ w'.cell? ⟨g, o + k * 7 + 5, none⟩ = some (.int .i64 d.frm) ∧ w'.cell? ⟨g, o + k * 7 + 6, none⟩ = some (.slice pk lk ck) ∧ w'.cell? ⟨g2, o2 + k * 7, none⟩ = some (.int .i64 d2.kind) ∧ w'.cell? ⟨g2, o2 + k * 7 + 1, none⟩ = some (.int .i64 d2.space) ∧ w'.cell? ⟨g2, o2 + k * 7 + 2, none⟩ = some (.string ⟨d2.name.toArray⟩) ∧ w'.cell? ⟨g2, o2 + k * 7 + 3, none⟩ = some (.slice pa2 d2.attrs.length ca2) ∧ w'.cell? ⟨g2, o2 + k * 7 + 4, none⟩ = some (.string ⟨d2.text.toArray⟩) ∧ w'.cell? ⟨g2, o2 + k * 7 + 5, none⟩ = some (.int .i64 d2.frm) ∧ w'.cell? ⟨g2, o2 + k * 7 + 6, none⟩ = some (.slice pk2 lk2 ck2) ∧ Below wr.heap.size wr w') w4) := by
              refine Lib.hid fun W b => ((IH.out kd kd2 P Q _ _ W (by omega) (by omega) (HKD.out.kept (.of_below b)) (HKD2.out.kept (.of_below b))).mono ?_)
              rintro e w4 ⟨rfl, b4⟩
              exact ⟨rfl, key _ (b.trans (b4.mono b.size))⟩
            have HE : Hid ((Fo.cons d kd r').same (.cons d2 kd2 s2) = (decide (d = d2) && kd.same kd2 && r'.same s2)) := Lib.hid rfl
            have k0 : (0 : Int) ≤ (k : Int) := by omega
            have k1 : (k : Int) < (f.len : Int) := by omega
            have k2 : (k : Int) < (f2.len : Int) := by omega
            unfold nodeV at HO
            clear key c0 c1 c2 c3 c4 c5 c6 e0 e1 e2 e3 e4 e5 e6
            cases hdd : decide (d = d2)
            · rw [hdd] at HO HE
              clear hdd
              have hun : (undef : Value) = .tuple #[] := rfl
              go_wp2_with fail
              refine wp_region_held_drew (S := (fun w' => w'.cell? ⟨g, o + k * 7, none⟩ = some (.int .i64 d.kind) ∧ w'.cell? ⟨g, o + k * 7 + 1, none⟩ = some (.int .i64 d.space) ∧ w'.cell? ⟨g, o + k * 7 + 2, none⟩ = some (.string ⟨d.name.toArray⟩) ∧ w'.cell? ⟨g, o + k * 7 + 3, none⟩ = some (.slice pa d.attrs.length ca) ∧ w'.cell? ⟨g, o + k * 7 + 4, none⟩ = some (.string ⟨d.text.toArray⟩) ∧ w'.cell? ⟨g, o + k * 7 + 5, none⟩ = some (.int .i64 d.frm) ∧ w'.cell? ⟨g, o + k * 7 + 6, none⟩ = some (.slice pk lk ck) ∧ w'.cell? ⟨g2, o2 + k * 7, none⟩ = some (.int .i64 d2.kind) ∧ w'.cell? ⟨g2, o2 + k * 7 + 1, none⟩ = some (.int .i64 d2.space) ∧ w'.cell? ⟨g2, o2 + k * 7 + 2, none⟩ = some (.string ⟨d2.name.toArray⟩) ∧ w'.cell? ⟨g2, o2 + k * 7 + 3, none⟩ = some (.slice pa2 d2.attrs.length ca2) ∧ w'.cell? ⟨g2, o2 + k * 7 + 4, none⟩ = some (.string ⟨d2.text.toArray⟩) ∧ w'.cell? ⟨g2, o2 + k * 7 + 5, none⟩ = some (.int .i64 d2.frm) ∧ w'.cell? ⟨g2, o2 + k * 7 + 6, none⟩ = some (.slice pk2 lk2 ck2) ∧ Below wr.heap.size wr w')) (by kernel_rfl) (by first | exact hS0 | fail) (fun hHeld => ?_)
              refine wpAnyH_take (i := 0) (oi := { dst := some 17, op := Op.move (Operand.tmp 0), type := 31, pos := "ref.go:221", after := #[], guard := none }) (v := ?_) rfl (by kernel_rfl) (by kernel_rfl) (by kernel_rfl) (fun _ _ _ h => h) (Or.inl ⟨by rfl, ?_⟩) (by assumption) ?_
              rotate_left
              focus (intro w hSw; (try dsimp only at hSw); go_simp; (try with_reducible rfl))
              try simp only [Act.put, List.setIfInBounds_toArray, List.set_cons_zero, List.set_cons_succ]
              refine wpAnyH_take (i := 1) (oi := { dst := some 18, op := Op.move (Operand.tmp 5), type := 3, pos := "ref.go:221", after := #[], guard := none }) (v := ?_) rfl (by kernel_rfl) (by kernel_rfl) (by kernel_rfl) (fun _ _ _ h => h) (Or.inl ⟨by rfl, ?_⟩) (by assumption) ?_
              rotate_left
              focus (intro w hSw; (try dsimp only at hSw); go_simp; (try with_reducible rfl))
              try simp only [Act.put, List.setIfInBounds_toArray, List.set_cons_zero, List.set_cons_succ]
              refine wpAnyH_take (i := 2) (oi := { dst := some 19, op := Op.indexAddr 31 (Operand.tmp 17) (Operand.tmp 18), type := 0, pos := "ref.go:221", after := #[{ on := 0, ground := Ground.data }, { on := 1, ground := Ground.data }], guard := none }) (v := ?_) rfl (by kernel_rfl) (by kernel_rfl) (by kernel_rfl) (fun _ _ _ h => h) (Or.inl ⟨by rfl, ?_⟩) (by assumption) ?_
              rotate_left
              focus (intro w hSw; (try dsimp only at hSw); go_simp; (try with_reducible rfl))
              try simp only [Act.put, List.setIfInBounds_toArray, List.set_cons_zero, List.set_cons_succ]
              refine wpAnyH_take (i := 3) (oi := { dst := some 20, op := Op.load 43 (Operand.tmp 19), type := 43, pos := "ref.go:221", after := #[{ on := 2, ground := Ground.data }], guard := none }) (v := ?_) rfl (by kernel_rfl) (by kernel_rfl) (by kernel_rfl) (fun _ _ _ h => h) (Or.inl ⟨by rfl, ?_⟩) (by assumption) ?_
              rotate_left
              focus (intro w hSw; (try dsimp only at hSw); go_simp; (try with_reducible rfl))
              try simp only [Act.put, List.setIfInBounds_toArray, List.set_cons_zero, List.set_cons_succ]
              refine wpAnyH_take (i := 4) (oi := { dst := some 21, op := Op.move (Operand.tmp 1), type := 31, pos := "ref.go:221", after := #[], guard := none }) (v := ?_) rfl (by kernel_rfl) (by kernel_rfl) (by kernel_rfl) (fun _ _ _ h => h) (Or.inl ⟨by rfl, ?_⟩) (by assumption) ?_
              rotate_left
              focus (intro w hSw; (try dsimp only at hSw); go_simp; (try with_reducible rfl))
              try simp only [Act.put, List.setIfInBounds_toArray, List.set_cons_zero, List.set_cons_succ]
              refine wpAnyH_take (i := 5) (oi := { dst := some 22, op := Op.move (Operand.tmp 5), type := 3, pos := "ref.go:221", after := #[], guard := none }) (v := ?_) rfl (by kernel_rfl) (by kernel_rfl) (by kernel_rfl) (fun _ _ _ h => h) (Or.inl ⟨by rfl, ?_⟩) (by assumption) ?_
              rotate_left
              focus (intro w hSw; (try dsimp only at hSw); go_simp; (try with_reducible rfl))
              try simp only [Act.put, List.setIfInBounds_toArray, List.set_cons_zero, List.set_cons_succ]
              refine wpAnyH_take (i := 6) (oi := { dst := some 23, op := Op.indexAddr 31 (Operand.tmp 21) (Operand.tmp 22), type := 0, pos := "ref.go:221", after := #[{ on := 4, ground := Ground.data }, { on := 5, ground := Ground.data }], guard := none }) (v := ?_) rfl (by kernel_rfl) (by kernel_rfl) (by kernel_rfl) (fun _ _ _ h => h) (Or.inl ⟨by rfl, ?_⟩) (by assumption) ?_
              rotate_left
              focus (intro w hSw; (try dsimp only at hSw); go_simp; (try with_reducible rfl))
              try simp only [Act.put, List.setIfInBounds_toArray, List.set_cons_zero, List.set_cons_succ]
              refine wpAnyH_take (i := 7) (oi := { dst := some 24, op := Op.load 43 (Operand.tmp 23), type := 43, pos := "ref.go:221", after := #[{ on := 6, ground := Ground.data }], guard := none }) (v := ?_) rfl (by kernel_rfl) (by kernel_rfl) (by kernel_rfl) (fun _ _ _ h => h) (Or.inl ⟨by rfl, ?_⟩) (by assumption) ?_
              rotate_left
              focus (intro w hSw; (try dsimp only at hSw); go_simp; (try with_reducible rfl))
              try simp only [Act.put, List.setIfInBounds_toArray, List.set_cons_zero, List.set_cons_succ]
              refine wpAnyH_ready (rs := [8]) (by kernel_rfl) (by simp) ?_
              refine AllReadyH.cons (o := { dst := some 25, op := Op.call { callee := Callee.value (Operand.func 31), args := #[Operand.tmp 20, Operand.tmp 24], argTypes := #[ 43, 43 ] }, type := 4, pos := "ref.go:221", after := #[{ on := 3, ground := Ground.data }, { on := 7, ground := Ground.data }], guard := none }) rfl (fun K hK => ?_) AllReadyH.nil
              go_simp
              refine (HO.out _ hHeld.2.2.2.2.2.2.2.2.2.2.2.2.2.2).mono ?_; rintro e w3 ⟨rfl, hS3⟩
              go_wp2_with fail
              refine hK.out _ _ (by exact hS3) (fun hHeld => ?_)
              clear hK K
              try simp only [Act.put, List.setIfInBounds_toArray, List.set_cons_zero, List.set_cons_succ]
              refine wpAnyH_take (i := 9) (oi := { dst := some 26, op := Op.unOp UnOp.not 4 (Operand.tmp 25), type := 4, pos := "ref.go:221", after := #[{ on := 8, ground := Ground.data }], guard := none }) (v := ?_) rfl (by kernel_rfl) (by kernel_rfl) (by kernel_rfl) (fun _ _ _ h => h) (Or.inl ⟨by rfl, ?_⟩) (by assumption) ?_
              rotate_left
              focus (intro w hSw; (try dsimp only at hSw); go_simp; (try with_reducible rfl))
              try simp only [Act.put, List.setIfInBounds_toArray, List.set_cons_zero, List.set_cons_succ]
              refine wpAnyH_take (i := 10) (oi := { dst := some 27, op := Op.move (Operand.tmp 26), type := 4, pos := "ref.go:221", after := #[{ on := 9, ground := Ground.data }, { on := 8, ground := Ground.chain }], guard := none }) (v := ?_) rfl (by kernel_rfl) (by kernel_rfl) (by kernel_rfl) (fun _ _ _ h => h) (Or.inl ⟨by rfl, ?_⟩) (by assumption) ?_
              rotate_left
              focus (intro w hSw; (try dsimp only at hSw); go_simp; (try with_reducible rfl))
              try simp only [Act.put, List.setIfInBounds_toArray, List.set_cons_zero, List.set_cons_succ]
              refine wpAnyH_take (i := 11) (oi := { dst := some 28, op := Op.move (Operand.tmp 0), type := 31, pos := "ref.go:221", after := #[{ on := 10, ground := Ground.guard }], guard := some (10, false) }) (v := undef) rfl (by kernel_rfl) (by kernel_rfl) (by kernel_rfl) (fun _ _ _ h => h) (Or.inr ⟨by rfl, rfl⟩) (by assumption) ?_
              simp only [Act.put, List.setIfInBounds_toArray, List.set_cons_zero, List.set_cons_succ]
              refine wpAnyH_take (i := 12) (oi := { dst := some 29, op := Op.move (Operand.tmp 5), type := 3, pos := "ref.go:221", after := #[{ on := 10, ground := Ground.guard }], guard := some (10, false) }) (v := undef) rfl (by kernel_rfl) (by kernel_rfl) (by kernel_rfl) (fun _ _ _ h => h) (Or.inr ⟨by rfl, rfl⟩) (by assumption) ?_
              simp only [Act.put, List.setIfInBounds_toArray, List.set_cons_zero, List.set_cons_succ]
              refine wpAnyH_take (i := 13) (oi := { dst := some 30, op := Op.indexAddr 31 (Operand.tmp 28) (Operand.tmp 29), type := 0, pos := "ref.go:221", after := #[{ on := 11, ground := Ground.data }, { on := 12, ground := Ground.data }, { on := 10, ground := Ground.guard }], guard := some (10, false) }) (v := undef) rfl (by kernel_rfl) (by kernel_rfl) (by kernel_rfl) (fun _ _ _ h => h) (Or.inr ⟨by rfl, rfl⟩) (by assumption) ?_
              simp only [Act.put, List.setIfInBounds_toArray, List.set_cons_zero, List.set_cons_succ]
              refine wpAnyH_take (i := 14) (oi := { dst := some 31, op := Op.fieldAddr 43 (Operand.tmp 30) 6, type := 0, pos := "ref.go:221", after := #[{ on := 13, ground := Ground.data }, { on := 10, ground := Ground.guard }], guard := some (10, false) }) (v := undef) rfl (by kernel_rfl) (by kernel_rfl) (by kernel_rfl) (fun _ _ _ h => h) (Or.inr ⟨by rfl, rfl⟩) (by assumption) ?_
              simp only [Act.put, List.setIfInBounds_toArray, List.set_cons_zero, List.set_cons_succ]
              refine wpAnyH_take (i := 15) (oi := { dst := some 32, op := Op.load 31 (Operand.tmp 31), type := 31, pos := "ref.go:221", after := #[{ on := 14, ground := Ground.data }, { on := 10, ground := Ground.guard }], guard := some (10, false) }) (v := undef) rfl (by kernel_rfl) (by kernel_rfl) (by kernel_rfl) (fun _ _ _ h => h) (Or.inr ⟨by rfl, rfl⟩) (by assumption) ?_
              simp only [Act.put, List.setIfInBounds_toArray, List.set_cons_zero, List.set_cons_succ]
              refine wpAnyH_take (i := 16) (oi := { dst := some 33, op := Op.move (Operand.tmp 1), type := 31, pos := "ref.go:221", after := #[{ on := 10, ground := Ground.guard }], guard := some (10, false) }) (v := undef) rfl (by kernel_rfl) (by kernel_rfl) (by kernel_rfl) (fun _ _ _ h => h) (Or.inr ⟨by rfl, rfl⟩) (by assumption) ?_
              simp only [Act.put, List.setIfInBounds_toArray, List.set_cons_zero, List.set_cons_succ]
              refine wpAnyH_take (i := 17) (oi := { dst := some 34, op := Op.move (Operand.tmp 5), type := 3, pos := "ref.go:221", after := #[{ on := 10, ground := Ground.guard }], guard := some (10, false) }) (v := undef) rfl (by kernel_rfl) (by kernel_rfl) (by kernel_rfl) (fun _ _ _ h => h) (Or.inr ⟨by rfl, rfl⟩) (by assumption) ?_
              simp only [Act.put, List.setIfInBounds_toArray, List.set_cons_zero, List.set_cons_succ]
              refine wpAnyH_take (i := 18) (oi := { dst := some 35, op := Op.indexAddr 31 (Operand.tmp 33) (Operand.tmp 34), type := 0, pos := "ref.go:221", after := #[{ on := 16, ground := Ground.data }, { on := 17, ground := Ground.data }, { on := 10, ground := Ground.guard }], guard := some (10, false) }) (v := undef) rfl (by kernel_rfl) (by kernel_rfl) (by kernel_rfl) (fun _ _ _ h => h) (Or.inr ⟨by rfl, rfl⟩) (by assumption) ?_
              simp only [Act.put, List.setIfInBounds_toArray, List.set_cons_zero, List.set_cons_succ]
              refine wpAnyH_take (i := 19) (oi := { dst := some 36, op := Op.fieldAddr 43 (Operand.tmp 35) 6, type := 0, pos := "ref.go:221", after := #[{ on := 18, ground := Ground.data }, { on := 10, ground := Ground.guard }], guard := some (10, false) }) (v := undef) rfl (by kernel_rfl) (by kernel_rfl) (by kernel_rfl) (fun _ _ _ h => h) (Or.inr ⟨by rfl, rfl⟩) (by assumption) ?_
              simp only [Act.put, List.setIfInBounds_toArray, List.set_cons_zero, List.set_cons_succ]
              refine wpAnyH_take (i := 20) (oi := { dst := some 37, op := Op.load 31 (Operand.tmp 36), type := 31, pos := "ref.go:221", after := #[{ on := 19, ground := Ground.data }, { on := 10, ground := Ground.guard }], guard := some (10, false) }) (v := undef) rfl (by kernel_rfl) (by kernel_rfl) (by kernel_rfl) (fun _ _ _ h => h) (Or.inr ⟨by rfl, rfl⟩) (by assumption) ?_
              simp only [Act.put, List.setIfInBounds_toArray, List.set_cons_zero, List.set_cons_succ]
              refine wpAnyH_take (i := 21) (oi := { dst := some 38, op := Op.call { callee := Callee.value (Operand.func 25), args := #[Operand.tmp 32, Operand.tmp 37], argTypes := #[ 31, 31 ] }, type := 4, pos := "ref.go:221", after := #[{ on := 15, ground := Ground.data }, { on := 20, ground := Ground.data }, { on := 10, ground := Ground.chain }, { on := 10, ground := Ground.guard }], guard := some (10, false) }) (v := undef) rfl (by kernel_rfl) (by kernel_rfl) (by kernel_rfl) (fun _ _ _ h => h) (Or.inr ⟨by rfl, rfl⟩) (by assumption) ?_
              simp only [Act.put, List.setIfInBounds_toArray, List.set_cons_zero, List.set_cons_succ]
              refine wpAnyH_take (i := 22) (oi := { dst := some 39, op := Op.unOp UnOp.not 4 (Operand.tmp 38), type := 4, pos := "ref.go:221", after := #[{ on := 21, ground := Ground.data }, { on := 10, ground := Ground.guard }], guard := some (10, false) }) (v := undef) rfl (by kernel_rfl) (by kernel_rfl) (by kernel_rfl) (fun _ _ _ h => h) (Or.inr ⟨by rfl, rfl⟩) (by assumption) ?_
              simp only [Act.put, List.setIfInBounds_toArray, List.set_cons_zero, List.set_cons_succ]
              refine wpAnyH_take (i := 23) (oi := { dst := some 40, op := Op.pick (Operand.tmp 27) (Operand.const (Value.bool true)) (Operand.tmp 39), type := 4, pos := "ref.go:221", after := #[{ on := 10, ground := Ground.data }, { on := 22, ground := Ground.data }], guard := none }) (v := ?_) rfl (by kernel_rfl) (by kernel_rfl) (by kernel_rfl) (fun _ _ _ h => h) (Or.inl ⟨by rfl, ?_⟩) (by assumption) ?_
              rotate_left
              focus (intro w hSw; (try dsimp only at hSw); go_simp; (try with_reducible rfl))
              try simp only [Act.put, List.setIfInBounds_toArray, List.set_cons_zero, List.set_cons_succ]
              refine wpAnyH_done (by kernel_rfl) ?_ _
              go_wp2_with fail
              go_ret
              exact ⟨by rw [HD.out, HE.out]; rfl, HB.out.trans (hS3.2.2.2.2.2.2.2.2.2.2.2.2.2.2.mono HB.out.size)⟩
            · rw [hdd] at HO HE
              clear hdd
              cases hss : kd.same kd2
              · rw [hss] at HS HE
                clear hss
                go_wp2_with fail
                refine wp_region_held_drew (S := (fun w' => w'.cell? ⟨g, o + k * 7, none⟩ = some (.int .i64 d.kind) ∧ w'.cell? ⟨g, o + k * 7 + 1, none⟩ = some (.int .i64 d.space) ∧ w'.cell? ⟨g, o + k * 7 + 2, none⟩ = some (.string ⟨d.name.toArray⟩) ∧ w'.cell? ⟨g, o + k * 7 + 3, none⟩ = some (.slice pa d.attrs.length ca) ∧ w'.cell? ⟨g, o + k * 7 + 4, none⟩ = some (.string ⟨d.text.toArray⟩) ∧ w'.cell? ⟨g, o + k * 7 + 5, none⟩ = some (.int .i64 d.frm) ∧ w'.cell? ⟨g, o + k * 7 + 6, none⟩ = some (.slice pk lk ck) ∧ w'.cell? ⟨g2, o2 + k * 7, none⟩ = some (.int .i64 d2.kind) ∧ w'.cell? ⟨g2, o2 + k * 7 + 1, none⟩ = some (.int .i64 d2.space) ∧ w'.cell? ⟨g2, o2 + k * 7 + 2, none⟩ = some (.string ⟨d2.name.toArray⟩) ∧ w'.cell? ⟨g2, o2 + k * 7 + 3, none⟩ = some (.slice pa2 d2.attrs.length ca2) ∧ w'.cell? ⟨g2, o2 + k * 7 + 4, none⟩ = some (.string ⟨d2.text.toArray⟩) ∧ w'.cell? ⟨g2, o2 + k * 7 + 5, none⟩ = some (.int .i64 d2.frm) ∧ w'.cell? ⟨g2, o2 + k * 7 + 6, none⟩ = some (.slice pk2 lk2 ck2) ∧ Below wr.heap.size wr w')) (by kernel_rfl) (by first | exact hS0 | fail) (fun hHeld => ?_)
                refine wpAnyH_take (i := 0) (oi := { dst := some 17, op := Op.move (Operand.tmp 0), type := 31, pos := "ref.go:221", after := #[], guard := none }) (v := ?_) rfl (by kernel_rfl) (by kernel_rfl) (by kernel_rfl) (fun _ _ _ h => h) (Or.inl ⟨by rfl, ?_⟩) (by assumption) ?_
                rotate_left
                focus (intro w hSw; (try dsimp only at hSw); go_simp; (try with_reducible rfl))
                try simp only [Act.put, List.setIfInBounds_toArray, List.set_cons_zero, List.set_cons_succ]
                refine wpAnyH_take (i := 1) (oi := { dst := some 18, op := Op.move (Operand.tmp 5), type := 3, pos := "ref.go:221", after := #[], guard := none }) (v := ?_) rfl (by kernel_rfl) (by kernel_rfl) (by kernel_rfl) (fun _ _ _ h => h) (Or.inl ⟨by rfl, ?_⟩) (by assumption) ?_
                rotate_left
                focus (intro w hSw; (try dsimp only at hSw); go_simp; (try with_reducible rfl))
                try simp only [Act.put, List.setIfInBounds_toArray, List.set_cons_zero, List.set_cons_succ]
                refine wpAnyH_take (i := 2) (oi := { dst := some 19, op := Op.indexAddr 31 (Operand.tmp 17) (Operand.tmp 18), type := 0, pos := "ref.go:221", after := #[{ on := 0, ground := Ground.data }, { on := 1, ground := Ground.data }], guard := none }) (v := ?_) rfl (by kernel_rfl) (by kernel_rfl) (by kernel_rfl) (fun _ _ _ h => h) (Or.inl ⟨by rfl, ?_⟩) (by assumption) ?_
                rotate_left
                focus (intro w hSw; (try dsimp only at hSw); go_simp; (try with_reducible rfl))
                try simp only [Act.put, List.setIfInBounds_toArray, List.set_cons_zero, List.set_cons_succ]
                refine wpAnyH_take (i := 3) (oi := { dst := some 20, op := Op.load 43 (Operand.tmp 19), type := 43, pos := "ref.go:221", after := #[{ on := 2, ground := Ground.data }], guard := none }) (v := ?_) rfl (by kernel_rfl) (by kernel_rfl) (by kernel_rfl) (fun _ _ _ h => h) (Or.inl ⟨by rfl, ?_⟩) (by assumption) ?_
                rotate_left
                focus (intro w hSw; (try dsimp only at hSw); go_simp; (try with_reducible rfl))
                try simp only [Act.put, List.setIfInBounds_toArray, List.set_cons_zero, List.set_cons_succ]
                refine wpAnyH_take (i := 4) (oi := { dst := some 21, op := Op.move (Operand.tmp 1), type := 31, pos := "ref.go:221", after := #[], guard := none }) (v := ?_) rfl (by kernel_rfl) (by kernel_rfl) (by kernel_rfl) (fun _ _ _ h => h) (Or.inl ⟨by rfl, ?_⟩) (by assumption) ?_
                rotate_left
                focus (intro w hSw; (try dsimp only at hSw); go_simp; (try with_reducible rfl))
                try simp only [Act.put, List.setIfInBounds_toArray, List.set_cons_zero, List.set_cons_succ]
                refine wpAnyH_take (i := 5) (oi := { dst := some 22, op := Op.move (Operand.tmp 5), type := 3, pos := "ref.go:221", after := #[], guard := none }) (v := ?_) rfl (by kernel_rfl) (by kernel_rfl) (by kernel_rfl) (fun _ _ _ h => h) (Or.inl ⟨by rfl, ?_⟩) (by assumption) ?_
                rotate_left
                focus (intro w hSw; (try dsimp only at hSw); go_simp; (try with_reducible rfl))
                try simp only [Act.put, List.setIfInBounds_toArray, List.set_cons_zero, List.set_cons_succ]
                refine wpAnyH_take (i := 6) (oi := { dst := some 23, op := Op.indexAddr 31 (Operand.tmp 21) (Operand.tmp 22), type := 0, pos := "ref.go:221", after := #[{ on := 4, ground := Ground.data }, { on := 5, ground := Ground.data }], guard := none }) (v := ?_) rfl (by kernel_rfl) (by kernel_rfl) (by kernel_rfl) (fun _ _ _ h => h) (Or.inl ⟨by rfl, ?_⟩) (by assumption) ?_
                rotate_left
                focus (intro w hSw; (try dsimp only at hSw); go_simp; (try with_reducible rfl))
                try simp only [Act.put, List.setIfInBounds_toArray, List.set_cons_zero, List.set_cons_succ]
                refine wpAnyH_take (i := 7) (oi := { dst := some 24, op := Op.load 43 (Operand.tmp 23), type := 43, pos := "ref.go:221", after := #[{ on := 6, ground := Ground.data }], guard := none }) (v := ?_) rfl (by kernel_rfl) (by kernel_rfl) (by kernel_rfl) (fun _ _ _ h => h) (Or.inl ⟨by rfl, ?_⟩) (by assumption) ?_
                rotate_left
                focus (intro w hSw; (try dsimp only at hSw); go_simp; (try with_reducible rfl))
                try simp only [Act.put, List.setIfInBounds_toArray, List.set_cons_zero, List.set_cons_succ]
                refine wpAnyH_ready (rs := [8]) (by kernel_rfl) (by simp) ?_
                refine AllReadyH.cons (o := { dst := some 25, op := Op.call { callee := Callee.value (Operand.func 31), args := #[Operand.tmp 20, Operand.tmp 24], argTypes := #[ 43, 43 ] }, type := 4, pos := "ref.go:221", after := #[{ on := 3, ground := Ground.data }, { on := 7, ground := Ground.data }], guard := none }) rfl (fun K hK => ?_) AllReadyH.nil
                go_simp
                refine (HO.out _ hHeld.2.2.2.2.2.2.2.2.2.2.2.2.2.2).mono ?_; rintro e w3 ⟨rfl, hS3⟩
                go_wp2_with fail
                refine hK.out _ _ (by exact hS3) (fun hHeld => ?_)
                clear hK K
                try simp only [Act.put, List.setIfInBounds_toArray, List.set_cons_zero, List.set_cons_succ]
                refine wpAnyH_take (i := 9) (oi := { dst := some 26, op := Op.unOp UnOp.not 4 (Operand.tmp 25), type := 4, pos := "ref.go:221", after := #[{ on := 8, ground := Ground.data }], guard := none }) (v := ?_) rfl (by kernel_rfl) (by kernel_rfl) (by kernel_rfl) (fun _ _ _ h => h) (Or.inl ⟨by rfl, ?_⟩) (by assumption) ?_
                rotate_left
                focus (intro w hSw; (try dsimp only at hSw); go_simp; (try with_reducible rfl))
                try simp only [Act.put, List.setIfInBounds_toArray, List.set_cons_zero, List.set_cons_succ]
                refine wpAnyH_take (i := 10) (oi := { dst := some 27, op := Op.move (Operand.tmp 26), type := 4, pos := "ref.go:221", after := #[{ on := 9, ground := Ground.data }, { on := 8, ground := Ground.chain }], guard := none }) (v := ?_) rfl (by kernel_rfl) (by kernel_rfl) (by kernel_rfl) (fun _ _ _ h => h) (Or.inl ⟨by rfl, ?_⟩) (by assumption) ?_
                rotate_left
                focus (intro w hSw; (try dsimp only at hSw); go_simp; (try with_reducible rfl))
                try simp only [Act.put, List.setIfInBounds_toArray, List.set_cons_zero, List.set_cons_succ]
                refine wpAnyH_take (i := 11) (oi := { dst := some 28, op := Op.move (Operand.tmp 0), type := 31, pos := "ref.go:221", after := #[{ on := 10, ground := Ground.guard }], guard := some (10, false) }) (v := ?_) rfl (by kernel_rfl) (by kernel_rfl) (by kernel_rfl) (fun _ _ _ h => h) (Or.inl ⟨by rfl, ?_⟩) (by assumption) ?_
                rotate_left
                focus (intro w hSw; (try dsimp only at hSw); go_simp; (try with_reducible rfl))
                try simp only [Act.put, List.setIfInBounds_toArray, List.set_cons_zero, List.set_cons_succ]
                refine wpAnyH_take (i := 12) (oi := { dst := some 29, op := Op.move (Operand.tmp 5), type := 3, pos := "ref.go:221", after := #[{ on := 10, ground := Ground.guard }], guard := some (10, false) }) (v := ?_) rfl (by kernel_rfl) (by kernel_rfl) (by kernel_rfl) (fun _ _ _ h => h) (Or.inl ⟨by rfl, ?_⟩) (by assumption) ?_
                rotate_left
                focus (intro w hSw; (try dsimp only at hSw); go_simp; (try with_reducible rfl))
                try simp only [Act.put, List.setIfInBounds_toArray, List.set_cons_zero, List.set_cons_succ]
                refine wpAnyH_take (i := 13) (oi := { dst := some 30, op := Op.indexAddr 31 (Operand.tmp 28) (Operand.tmp 29), type := 0, pos := "ref.go:221", after := #[{ on := 11, ground := Ground.data }, { on := 12, ground := Ground.data }, { on := 10, ground := Ground.guard }], guard := some (10, false) }) (v := ?_) rfl (by kernel_rfl) (by kernel_rfl) (by kernel_rfl) (fun _ _ _ h => h) (Or.inl ⟨by rfl, ?_⟩) (by assumption) ?_
                rotate_left
                focus (intro w hSw; (try dsimp only at hSw); go_simp; (try with_reducible rfl))
                try simp only [Act.put, List.setIfInBounds_toArray, List.set_cons_zero, List.set_cons_succ]
                refine wpAnyH_take (i := 14) (oi := { dst := some 31, op := Op.fieldAddr 43 (Operand.tmp 30) 6, type := 0, pos := "ref.go:221", after := #[{ on := 13, ground := Ground.data }, { on := 10, ground := Ground.guard }], guard := some (10, false) }) (v := ?_) rfl (by kernel_rfl) (by kernel_rfl) (by kernel_rfl) (fun _ _ _ h => h) (Or.inl ⟨by rfl, ?_⟩) (by assumption) ?_
                rotate_left
                focus (intro w hSw; (try dsimp only at hSw); go_simp; (try with_reducible rfl))
                try simp only [Act.put, List.setIfInBounds_toArray, List.set_cons_zero, List.set_cons_succ]
                refine wpAnyH_take (i := 15) (oi := { dst := some 32, op := Op.load 31 (Operand.tmp 31), type := 31, pos := "ref.go:221", after := #[{ on := 14, ground := Ground.data }, { on := 10, ground := Ground.guard }], guard := some (10, false) }) (v := ?_) rfl (by kernel_rfl) (by kernel_rfl) (by kernel_rfl) (fun _ _ _ h => h) (Or.inl ⟨by rfl, ?_⟩) (by assumption) ?_
                rotate_left
                focus (intro w hSw; (try dsimp only at hSw); go_simp; (try with_reducible rfl))
                try simp only [Act.put, List.setIfInBounds_toArray, List.set_cons_zero, List.set_cons_succ]
                refine wpAnyH_take (i := 16) (oi := { dst := some 33, op := Op.move (Operand.tmp 1), type := 31, pos := "ref.go:221", after := #[{ on := 10, ground := Ground.guard }], guard := some (10, false) }) (v := ?_) rfl (by kernel_rfl) (by kernel_rfl) (by kernel_rfl) (fun _ _ _ h => h) (Or.inl ⟨by rfl, ?_⟩) (by assumption) ?_
                rotate_left
                focus (intro w hSw; (try dsimp only at hSw); go_simp; (try with_reducible rfl))
                try simp only [Act.put, List.setIfInBounds_toArray, List.set_cons_zero, List.set_cons_succ]
                refine wpAnyH_take (i := 17) (oi := { dst := some 34, op := Op.move (Operand.tmp 5), type := 3, pos := "ref.go:221", after := #[{ on := 10, ground := Ground.guard }], guard := some (10, false) }) (v := ?_) rfl (by kernel_rfl) (by kernel_rfl) (by kernel_rfl) (fun _ _ _ h => h) (Or.inl ⟨by rfl, ?_⟩) (by assumption) ?_
                rotate_left
                focus (intro w hSw; (try dsimp only at hSw); go_simp; (try with_reducible rfl))
                try simp only [Act.put, List.setIfInBounds_toArray, List.set_cons_zero, List.set_cons_succ]
                refine wpAnyH_take (i := 18) (oi := { dst := some 35, op := Op.indexAddr 31 (Operand.tmp 33) (Operand.tmp 34), type := 0, pos := "ref.go:221", after := #[{ on := 16, ground := Ground.data }, { on := 17, ground := Ground.data }, { on := 10, ground := Ground.guard }], guard := some (10, false) }) (v := ?_) rfl (by kernel_rfl) (by kernel_rfl) (by kernel_rfl) (fun _ _ _ h => h) (Or.inl ⟨by rfl, ?_⟩) (by assumption) ?_
                rotate_left
                focus (intro w hSw; (try dsimp only at hSw); go_simp; (try with_reducible rfl))
                try simp only [Act.put, List.setIfInBounds_toArray, List.set_cons_zero, List.set_cons_succ]
                refine wpAnyH_take (i := 19) (oi := { dst := some 36, op := Op.fieldAddr 43 (Operand.tmp 35) 6, type := 0, pos := "ref.go:221", after := #[{ on := 18, ground := Ground.data }, { on := 10, ground := Ground.guard }], guard := some (10, false) }) (v := ?_) rfl (by kernel_rfl) (by kernel_rfl) (by kernel_rfl) (fun _ _ _ h => h) (Or.inl ⟨by rfl, ?_⟩) (by assumption) ?_
                rotate_left
                focus (intro w hSw; (try dsimp only at hSw); go_simp; (try with_reducible rfl))
                try simp only [Act.put, List.setIfInBounds_toArray, List.set_cons_zero, List.set_cons_succ]
                refine wpAnyH_take (i := 20) (oi := { dst := some 37, op := Op.load 31 (Operand.tmp 36), type := 31, pos := "ref.go:221", after := #[{ on := 19, ground := Ground.data }, { on := 10, ground := Ground.guard }], guard := some (10, false) }) (v := ?_) rfl (by kernel_rfl) (by kernel_rfl) (by kernel_rfl) (fun _ _ _ h => h) (Or.inl ⟨by rfl, ?_⟩) (by assumption) ?_
                rotate_left
                focus (intro w hSw; (try dsimp only at hSw); go_simp; (try with_reducible rfl))
                try simp only [Act.put, List.setIfInBounds_toArray, List.set_cons_zero, List.set_cons_succ]
                refine wpAnyH_ready (rs := [21]) (by kernel_rfl) (by simp) ?_
                refine AllReadyH.cons (o := { dst := some 38, op := Op.call { callee := Callee.value (Operand.func 25), args := #[Operand.tmp 32, Operand.tmp 37], argTypes := #[ 31, 31 ] }, type := 4, pos := "ref.go:221", after := #[{ on := 15, ground := Ground.data }, { on := 20, ground := Ground.data }, { on := 10, ground := Ground.chain }, { on := 10, ground := Ground.guard }], guard := some (10, false) }) rfl (fun K hK => ?_) AllReadyH.nil
                go_simp
                refine (HS.out _ hHeld.2.2.2.2.2.2.2.2.2.2.2.2.2.2).mono ?_; rintro e w4 ⟨rfl, hS4⟩
                go_wp2_with fail
                refine hK.out _ _ (by exact hS4) (fun hHeld => ?_)
                clear hK K
                try simp only [Act.put, List.setIfInBounds_toArray, List.set_cons_zero, List.set_cons_succ]
                refine wpAnyH_take (i := 22) (oi := { dst := some 39, op := Op.unOp UnOp.not 4 (Operand.tmp 38), type := 4, pos := "ref.go:221", after := #[{ on := 21, ground := Ground.data }, { on := 10, ground := Ground.guard }], guard := some (10, false) }) (v := ?_) rfl (by kernel_rfl) (by kernel_rfl) (by kernel_rfl) (fun _ _ _ h => h) (Or.inl ⟨by rfl, ?_⟩) (by assumption) ?_
                rotate_left
                focus (intro w hSw; (try dsimp only at hSw); go_simp; (try with_reducible rfl))
                try simp only [Act.put, List.setIfInBounds_toArray, List.set_cons_zero, List.set_cons_succ]
                refine wpAnyH_take (i := 23) (oi := { dst := some 40, op := Op.pick (Operand.tmp 27) (Operand.const (Value.bool true)) (Operand.tmp 39), type := 4, pos := "ref.go:221", after := #[{ on := 10, ground := Ground.data }, { on := 22, ground := Ground.data }], guard := none }) (v := ?_) rfl (by kernel_rfl) (by kernel_rfl) (by kernel_rfl) (fun _ _ _ h => h) (Or.inl ⟨by rfl, ?_⟩) (by assumption) ?_
                rotate_left
                focus (intro w hSw; (try dsimp only at hSw); go_simp; (try with_reducible rfl))
                try simp only [Act.put, List.setIfInBounds_toArray, List.set_cons_zero, List.set_cons_succ]
                refine wpAnyH_done (by kernel_rfl) ?_ _
                go_wp2_with fail
                go_ret
                exact ⟨by rw [HD.out, HE.out]; rfl, HB.out.trans (hS4.2.2.2.2.2.2.2.2.2.2.2.2.2.2.mono HB.out.size)⟩
              · rw [hss] at HS HE
                clear hss
                go_wp2_with fail
                refine wp_region_held_drew (S := (fun w' => w'.cell? ⟨g, o + k * 7, none⟩ = some (.int .i64 d.kind) ∧ w'.cell? ⟨g, o + k * 7 + 1, none⟩ = some (.int .i64 d.space) ∧ w'.cell? ⟨g, o + k * 7 + 2, none⟩ = some (.string ⟨d.name.toArray⟩) ∧ w'.cell? ⟨g, o + k * 7 + 3, none⟩ = some (.slice pa d.attrs.length ca) ∧ w'.cell? ⟨g, o + k * 7 + 4, none⟩ = some (.string ⟨d.text.toArray⟩) ∧ w'.cell? ⟨g, o + k * 7 + 5, none⟩ = some (.int .i64 d.frm) ∧ w'.cell? ⟨g, o + k * 7 + 6, none⟩ = some (.slice pk lk ck) ∧ w'.cell? ⟨g2, o2 + k * 7, none⟩ = some (.int .i64 d2.kind) ∧ w'.cell? ⟨g2, o2 + k * 7 + 1, none⟩ = some (.int .i64 d2.space) ∧ w'.cell? ⟨g2, o2 + k * 7 + 2, none⟩ = some (.string ⟨d2.name.toArray⟩) ∧ w'.cell? ⟨g2, o2 + k * 7 + 3, none⟩ = some (.slice pa2 d2.attrs.length ca2) ∧ w'.cell? ⟨g2, o2 + k * 7 + 4, none⟩ = some (.string ⟨d2.text.toArray⟩) ∧ w'.cell? ⟨g2, o2 + k * 7 + 5, none⟩ = some (.int .i64 d2.frm) ∧ w'.cell? ⟨g2, o2 + k * 7 + 6, none⟩ = some (.slice pk2 lk2 ck2) ∧ Below wr.heap.size wr w')) (by kernel_rfl) (by first | exact hS0 | fail) (fun hHeld => ?_)
                refine wpAnyH_take (i := 0) (oi := { dst := some 17, op := Op.move (Operand.tmp 0), type := 31, pos := "ref.go:221", after := #[], guard := none }) (v := ?_) rfl (by kernel_rfl) (by kernel_rfl) (by kernel_rfl) (fun _ _ _ h => h) (Or.inl ⟨by rfl, ?_⟩) (by assumption) ?_
                rotate_left
                focus (intro w hSw; (try dsimp only at hSw); go_simp; (try with_reducible rfl))
                try simp only [Act.put, List.setIfInBounds_toArray, List.set_cons_zero, List.set_cons_succ]
                refine wpAnyH_take (i := 1) (oi := { dst := some 18, op := Op.move (Operand.tmp 5), type := 3, pos := "ref.go:221", after := #[], guard := none }) (v := ?_) rfl (by kernel_rfl) (by kernel_rfl) (by kernel_rfl) (fun _ _ _ h => h) (Or.inl ⟨by rfl, ?_⟩) (by assumption) ?_
                rotate_left
                focus (intro w hSw; (try dsimp only at hSw); go_simp; (try with_reducible rfl))
                try simp only [Act.put, List.setIfInBounds_toArray, List.set_cons_zero, List.set_cons_succ]
                refine wpAnyH_take (i := 2) (oi := { dst := some 19, op := Op.indexAddr 31 (Operand.tmp 17) (Operand.tmp 18), type := 0, pos := "ref.go:221", after := #[{ on := 0, ground := Ground.data }, { on := 1, ground := Ground.data }], guard := none }) (v := ?_) rfl (by kernel_rfl) (by kernel_rfl) (by kernel_rfl) (fun _ _ _ h => h) (Or.inl ⟨by rfl, ?_⟩) (by assumption) ?_
                rotate_left
                focus (intro w hSw; (try dsimp only at hSw); go_simp; (try with_reducible rfl))
                try simp only [Act.put, List.setIfInBounds_toArray, List.set_cons_zero, List.set_cons_succ]
                refine wpAnyH_take (i := 3) (oi := { dst := some 20, op := Op.load 43 (Operand.tmp 19), type := 43, pos := "ref.go:221", after := #[{ on := 2, ground := Ground.data }], guard := none }) (v := ?_) rfl (by kernel_rfl) (by kernel_rfl) (by kernel_rfl) (fun _ _ _ h => h) (Or.inl ⟨by rfl, ?_⟩) (by assumption) ?_
                rotate_left
                focus (intro w hSw; (try dsimp only at hSw); go_simp; (try with_reducible rfl))
                try simp only [Act.put, List.setIfInBounds_toArray, List.set_cons_zero, List.set_cons_succ]
                refine wpAnyH_take (i := 4) (oi := { dst := some 21, op := Op.move (Operand.tmp 1), type := 31, pos := "ref.go:221", after := #[], guard := none }) (v := ?_) rfl (by kernel_rfl) (by kernel_rfl) (by kernel_rfl) (fun _ _ _ h => h) (Or.inl ⟨by rfl, ?_⟩) (by assumption) ?_
                rotate_left
                focus (intro w hSw; (try dsimp only at hSw); go_simp; (try with_reducible rfl))
                try simp only [Act.put, List.setIfInBounds_toArray, List.set_cons_zero, List.set_cons_succ]
                refine wpAnyH_take (i := 5) (oi := { dst := some 22, op := Op.move (Operand.tmp 5), type := 3, pos := "ref.go:221", after := #[], guard := none }) (v := ?_) rfl (by kernel_rfl) (by kernel_rfl) (by kernel_rfl) (fun _ _ _ h => h) (Or.inl ⟨by rfl, ?_⟩) (by assumption) ?_
                rotate_left
                focus (intro w hSw; (try dsimp only at hSw); go_simp; (try with_reducible rfl))
                try simp only [Act.put, List.setIfInBounds_toArray, List.set_cons_zero, List.set_cons_succ]
                refine wpAnyH_take (i := 6) (oi := { dst := some 23, op := Op.indexAddr 31 (Operand.tmp 21) (Operand.tmp 22), type := 0, pos := "ref.go:221", after := #[{ on := 4, ground := Ground.data }, { on := 5, ground := Ground.data }], guard := none }) (v := ?_) rfl (by kernel_rfl) (by kernel_rfl) (by kernel_rfl) (fun _ _ _ h => h) (Or.inl ⟨by rfl, ?_⟩) (by assumption) ?_
                rotate_left
                focus (intro w hSw; (try dsimp only at hSw); go_simp; (try with_reducible rfl))
                try simp only [Act.put, List.setIfInBounds_toArray, List.set_cons_zero, List.set_cons_succ]
                refine wpAnyH_take (i := 7) (oi := { dst := some 24, op := Op.load 43 (Operand.tmp 23), type := 43, pos := "ref.go:221", after := #[{ on := 6, ground := Ground.data }], guard := none }) (v := ?_) rfl (by kernel_rfl) (by kernel_rfl) (by kernel_rfl) (fun _ _ _ h => h) (Or.inl ⟨by rfl, ?_⟩) (by assumption) ?_
                rotate_left
                focus (intro w hSw; (try dsimp only at hSw); go_simp; (try with_reducible rfl))
                try simp only [Act.put, List.setIfInBounds_toArray, List.set_cons_zero, List.set_cons_succ]
                refine wpAnyH_ready (rs := [8]) (by kernel_rfl) (by simp) ?_
                refine AllReadyH.cons (o := { dst := some 25, op := Op.call { callee := Callee.value (Operand.func 31), args := #[Operand.tmp 20, Operand.tmp 24], argTypes := #[ 43, 43 ] }, type := 4, pos := "ref.go:221", after := #[{ on := 3, ground := Ground.data }, { on := 7, ground := Ground.data }], guard := none }) rfl (fun K hK => ?_) AllReadyH.nil
                go_simp
                refine (HO.out _ hHeld.2.2.2.2.2.2.2.2.2.2.2.2.2.2).mono ?_; rintro e w3 ⟨rfl, hS3⟩
                go_wp2_with fail
                refine hK.out _ _ (by exact hS3) (fun hHeld => ?_)
                clear hK K
                try simp only [Act.put, List.setIfInBounds_toArray, List.set_cons_zero, List.set_cons_succ]
                refine wpAnyH_take (i := 9) (oi := { dst := some 26, op := Op.unOp UnOp.not 4 (Operand.tmp 25), type := 4, pos := "ref.go:221", after := #[{ on := 8, ground := Ground.data }], guard := none }) (v := ?_) rfl (by kernel_rfl) (by kernel_rfl) (by kernel_rfl) (fun _ _ _ h => h) (Or.inl ⟨by rfl, ?_⟩) (by assumption) ?_
                rotate_left
                focus (intro w hSw; (try dsimp only at hSw); go_simp; (try with_reducible rfl))
                try simp only [Act.put, List.setIfInBounds_toArray, List.set_cons_zero, List.set_cons_succ]
                refine wpAnyH_take (i := 10) (oi := { dst := some 27, op := Op.move (Operand.tmp 26), type := 4, pos := "ref.go:221", after := #[{ on := 9, ground := Ground.data }, { on := 8, ground := Ground.chain }], guard := none }) (v := ?_) rfl (by kernel_rfl) (by kernel_rfl) (by kernel_rfl) (fun _ _ _ h => h) (Or.inl ⟨by rfl, ?_⟩) (by assumption) ?_
                rotate_left
                focus (intro w hSw; (try dsimp only at hSw); go_simp; (try with_reducible rfl))
                try simp only [Act.put, List.setIfInBounds_toArray, List.set_cons_zero, List.set_cons_succ]
                refine wpAnyH_take (i := 11) (oi := { dst := some 28, op := Op.move (Operand.tmp 0), type := 31, pos := "ref.go:221", after := #[{ on := 10, ground := Ground.guard }], guard := some (10, false) }) (v := ?_) rfl (by kernel_rfl) (by kernel_rfl) (by kernel_rfl) (fun _ _ _ h => h) (Or.inl ⟨by rfl, ?_⟩) (by assumption) ?_
                rotate_left
                focus (intro w hSw; (try dsimp only at hSw); go_simp; (try with_reducible rfl))
                try simp only [Act.put, List.setIfInBounds_toArray, List.set_cons_zero, List.set_cons_succ]
                refine wpAnyH_take (i := 12) (oi := { dst := some 29, op := Op.move (Operand.tmp 5), type := 3, pos := "ref.go:221", after := #[{ on := 10, ground := Ground.guard }], guard := some (10, false) }) (v := ?_) rfl (by kernel_rfl) (by kernel_rfl) (by kernel_rfl) (fun _ _ _ h => h) (Or.inl ⟨by rfl, ?_⟩) (by assumption) ?_
                rotate_left
                focus (intro w hSw; (try dsimp only at hSw); go_simp; (try with_reducible rfl))
                try simp only [Act.put, List.setIfInBounds_toArray, List.set_cons_zero, List.set_cons_succ]
                refine wpAnyH_take (i := 13) (oi := { dst := some 30, op := Op.indexAddr 31 (Operand.tmp 28) (Operand.tmp 29), type := 0, pos := "ref.go:221", after := #[{ on := 11, ground := Ground.data }, { on := 12, ground := Ground.data }, { on := 10, ground := Ground.guard }], guard := some (10, false) }) (v := ?_) rfl (by kernel_rfl) (by kernel_rfl) (by kernel_rfl) (fun _ _ _ h => h) (Or.inl ⟨by rfl, ?_⟩) (by assumption) ?_
                rotate_left
                focus (intro w hSw; (try dsimp only at hSw); go_simp; (try with_reducible rfl))
                try simp only [Act.put, List.setIfInBounds_toArray, List.set_cons_zero, List.set_cons_succ]
                refine wpAnyH_take (i := 14) (oi := { dst := some 31, op := Op.fieldAddr 43 (Operand.tmp 30) 6, type := 0, pos := "ref.go:221", after := #[{ on := 13, ground := Ground.data }, { on := 10, ground := Ground.guard }], guard := some (10, false) }) (v := ?_) rfl (by kernel_rfl) (by kernel_rfl) (by kernel_rfl) (fun _ _ _ h => h) (Or.inl ⟨by rfl, ?_⟩) (by assumption) ?_
                rotate_left
                focus (intro w hSw; (try dsimp only at hSw); go_simp; (try with_reducible rfl))
                try simp only [Act.put, List.setIfInBounds_toArray, List.set_cons_zero, List.set_cons_succ]
                refine wpAnyH_take (i := 15) (oi := { dst := some 32, op := Op.load 31 (Operand.tmp 31), type := 31, pos := "ref.go:221", after := #[{ on := 14, ground := Ground.data }, { on := 10, ground := Ground.guard }], guard := some (10, false) }) (v := ?_) rfl (by kernel_rfl) (by kernel_rfl) (by kernel_rfl) (fun _ _ _ h => h) (Or.inl ⟨by rfl, ?_⟩) (by assumption) ?_
                rotate_left
                focus (intro w hSw; (try dsimp only at hSw); go_simp; (try with_reducible rfl))
                try simp only [Act.put, List.setIfInBounds_toArray, List.set_cons_zero, List.set_cons_succ]
                refine wpAnyH_take (i := 16) (oi := { dst := some 33, op := Op.move (Operand.tmp 1), type := 31, pos := "ref.go:221", after := #[{ on := 10, ground := Ground.guard }], guard := some (10, false) }) (v := ?_) rfl (by kernel_rfl) (by kernel_rfl) (by kernel_rfl) (fun _ _ _ h => h) (Or.inl ⟨by rfl, ?_⟩) (by assumption) ?_
                rotate_left
                focus (intro w hSw; (try dsimp only at hSw); go_simp; (try with_reducible rfl))
                try simp only [Act.put, List.setIfInBounds_toArray, List.set_cons_zero, List.set_cons_succ]
                refine wpAnyH_take (i := 17) (oi := { dst := some 34, op := Op.move (Operand.tmp 5), type := 3, pos := "ref.go:221", after := #[{ on := 10, ground := Ground.guard }], guard := some (10, false) }) (v := ?_) rfl (by kernel_rfl) (by kernel_rfl) (by kernel_rfl) (fun _ _ _ h => h) (Or.inl ⟨by rfl, ?_⟩) (by assumption) ?_
                rotate_left
                focus (intro w hSw; (try dsimp only at hSw); go_simp; (try with_reducible rfl))
                try simp only [Act.put, List.setIfInBounds_toArray, List.set_cons_zero, List.set_cons_succ]
                refine wpAnyH_take (i := 18) (oi := { dst := some 35, op := Op.indexAddr 31 (Operand.tmp 33) (Operand.tmp 34), type := 0, pos := "ref.go:221", after := #[{ on := 16, ground := Ground.data }, { on := 17, ground := Ground.data }, { on := 10, ground := Ground.guard }], guard := some (10, false) }) (v := ?_) rfl (by kernel_rfl) (by kernel_rfl) (by kernel_rfl) (fun _ _ _ h => h) (Or.inl ⟨by rfl, ?_⟩) (by assumption) ?_
                rotate_left
                focus (intro w hSw; (try dsimp only at hSw); go_simp; (try with_reducible rfl))
                try simp only [Act.put, List.setIfInBounds_toArray, List.set_cons_zero, List.set_cons_succ]
                refine wpAnyH_take (i := 19) (oi := { dst := some 36, op := Op.fieldAddr 43 (Operand.tmp 35) 6, type := 0, pos := "ref.go:221", after := #[{ on := 18, ground := Ground.data }, { on := 10, ground := Ground.guard }], guard := some (10, false) }) (v := ?_) rfl (by kernel_rfl) (by kernel_rfl) (by kernel_rfl) (fun _ _ _ h => h) (Or.inl ⟨by rfl, ?_⟩) (by assumption) ?_
                rotate_left
                focus (intro w hSw; (try dsimp only at hSw); go_simp; (try with_reducible rfl))
                try simp only [Act.put, List.setIfInBounds_toArray, List.set_cons_zero, List.set_cons_succ]
                refine wpAnyH_take (i := 20) (oi := { dst := some 37, op := Op.load 31 (Operand.tmp 36), type := 31, pos := "ref.go:221", after := #[{ on := 19, ground := Ground.data }, { on := 10, ground := Ground.guard }], guard := some (10, false) }) (v := ?_) rfl (by kernel_rfl) (by kernel_rfl) (by kernel_rfl) (fun _ _ _ h => h) (Or.inl ⟨by rfl, ?_⟩) (by assumption) ?_
                rotate_left
                focus (intro w hSw; (try dsimp only at hSw); go_simp; (try with_reducible rfl))
                try simp only [Act.put, List.setIfInBounds_toArray, List.set_cons_zero, List.set_cons_succ]
                refine wpAnyH_ready (rs := [21]) (by kernel_rfl) (by simp) ?_
                refine AllReadyH.cons (o := { dst := some 38, op := Op.call { callee := Callee.value (Operand.func 25), args := #[Operand.tmp 32, Operand.tmp 37], argTypes := #[ 31, 31 ] }, type := 4, pos := "ref.go:221", after := #[{ on := 15, ground := Ground.data }, { on := 20, ground := Ground.data }, { on := 10, ground := Ground.chain }, { on := 10, ground := Ground.guard }], guard := some (10, false) }) rfl (fun K hK => ?_) AllReadyH.nil
                go_simp
                refine (HS.out _ hHeld.2.2.2.2.2.2.2.2.2.2.2.2.2.2).mono ?_; rintro e w4 ⟨rfl, hS4⟩
                go_wp2_with fail
                refine hK.out _ _ (by exact hS4) (fun hHeld => ?_)
                clear hK K
                try simp only [Act.put, List.setIfInBounds_toArray, List.set_cons_zero, List.set_cons_succ]
                refine wpAnyH_take (i := 22) (oi := { dst := some 39, op := Op.unOp UnOp.not 4 (Operand.tmp 38), type := 4, pos := "ref.go:221", after := #[{ on := 21, ground := Ground.data }, { on := 10, ground := Ground.guard }], guard := some (10, false) }) (v := ?_) rfl (by kernel_rfl) (by kernel_rfl) (by kernel_rfl) (fun _ _ _ h => h) (Or.inl ⟨by rfl, ?_⟩) (by assumption) ?_
                rotate_left
                focus (intro w hSw; (try dsimp only at hSw); go_simp; (try with_reducible rfl))
                try simp only [Act.put, List.setIfInBounds_toArray, List.set_cons_zero, List.set_cons_succ]
                refine wpAnyH_take (i := 23) (oi := { dst := some 40, op := Op.pick (Operand.tmp 27) (Operand.const (Value.bool true)) (Operand.tmp 39), type := 4, pos := "ref.go:221", after := #[{ on := 10, ground := Ground.data }, { on := 22, ground := Ground.data }], guard := none }) (v := ?_) rfl (by kernel_rfl) (by kernel_rfl) (by kernel_rfl) (fun _ _ _ h => h) (Or.inl ⟨by rfl, ?_⟩) (by assumption) ?_
                rotate_left
                focus (intro w hSw; (try dsimp only at hSw); go_simp; (try with_reducible rfl))
                try simp only [Act.put, List.setIfInBounds_toArray, List.set_cons_zero, List.set_cons_succ]
                refine wpAnyH_done (by kernel_rfl) ?_ _
                go_wp2_with fail
                have b4 := hS4.2.2.2.2.2.2.2.2.2.2.2.2.2.2
                exact ⟨⟨k + 1, r', s2, by omega, by omega, by omega, by go_num, by rw [HD.out, HE.out]; rfl, HTL.out.kept (.of_below b4), HTL2.out.kept (.of_below b4), HB.out.trans (b4.mono HB.out.size)⟩, by simp [intOf]; omega⟩
    · have q0 : ((f.len : Int) == (f2.len : Int)) = false := by rw [beq_eq_false_iff_ne]; omega
      have HE := Lib.hid (Fo.same_len hlen)
      clear hlen
      go_enter Try.func25, Try.ntmps25
      go_wp2
      go_ret
      exact ⟨by rw [HE.out]; rfl, Below.refl _ _⟩
theorem rsameP (f f2 : Fo) (P Q : Nat → Prop) (v v2 : Value) (w : World) (hs : f.wt ≤ 4294967296) (h : NodesP P w v f) (h2 : NodesP Q w v2 f2) : Calls Try.prog 25 #[v, v2] w (Brings (.bool (f.same f2)) w) := rsame_all _ f f2 P Q v v2 w (Nat.lt_succ_self _) hs h h2
end Go.Proofs.Ytkoijkdhmfnlbaa
