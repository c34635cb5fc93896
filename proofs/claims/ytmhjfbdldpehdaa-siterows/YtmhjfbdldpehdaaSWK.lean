/-
  The walks of the program's Put, Push and Swap. Any Site.
-/
import Derived.Test.YtmhjfbdldpehdaaSWE
import Derived.Test.YtmhjfbdldpehdaaSWI
import Derived.Test.YtmhjfbdldpehdaaSWJ
namespace Go.Proofs.Ytmhjfbdldpehdaa
open Go.RowKit Go.Maps

variable {M : Nat → Prop} {w w' : World} {B : Nat} {a : SA} {S : List PN} {L : List MK} {R : List EL} {fO : Int → Bool} {fN : List UInt8 → Int} {fo : Bool} {T : Nat}
theorem senterAtM (h : SiteM M w B S L R fo T) (x : EL) (i : Nat) (hi : i ≤ R.length) (hr : R.length ≤ 4294967296) (hT : T < 4294967296) (hx0 : -9223372036854775808 ≤ x.n) (hx1 : x.n ≤ 9223372036854775807) (hxn : x.name.length ≤ 4294967296) :
    Calls Try.prog 117 #[.pointer (some ⟨B, 0, none⟩), .int .i64 (i : Int), elV x] w (SiteOut M w B S L (R.take i ++ x :: R.drop i) fo (T + 1) (.tuple #[])) := by
  obtain ⟨a, h, k⟩ := h
  have hm : (4294967296 : Nat) ≤ maxLen := by decide
  refine (senter_of h x i (R.take i ++ x :: R.drop i) (by omega) (by omega) hx0 hx1 hxn (fun s => ?_) (by simp; omega) (fun W b hrow hb => sinsP a.v R x W b i hrow hb hi hr)).mono ?_
  · have := elNamed_le R s
    omega
  · intro e w' q
    have e1 : R.take i ++ R.drop i = R := List.take_append_drop i R
    exact SiteM.entered (A := R.take i) (C := R.drop i) k (by rw [e1]; exact q)
/-- A node put at a place of the row. -/
def putS (S : List PN) (R : List EL) (i n : Int) : List EL × Bool :=
  if mayE S (elOpen R) n = true ∧ 0 < i ∧ i ≤ R.length then (R.take i.toNat ++ newE S n :: R.drop i.toNat, true) else (R, false)
set_option maxHeartbeats 1000000 in
set_option maxRecDepth 100000 in
theorem sputP (h : SiteM M w B S L R fo T) (i n : Int) (hr : R.length ≤ 4294967296) (hT : T < 4294967296) (n0 : -9223372036854775808 ≤ n) (n1 : n ≤ 9223372036854775807) (ha : ∀ x ∈ S, x.attrs.length ≤ 4294967296) (hnm : (newE S n).name.length ≤ 4294967296) :
    Calls Try.prog 67 #[.pointer (some ⟨B, 0, none⟩), .int .i64 i, .int .i64 n] w (SiteOut M w B S L (putS S R i n).1 fo (T + 1) (.bool (putS S R i n).2)) := by
  have HM := Lib.hid h
  have HN : Hid (Calls Try.prog 130 #[.pointer (some ⟨B, 0, none⟩), .int .i64 n] w (Brings (.tuple #[elV (newE S n), .bool (mayE S (elOpen R) n)]) w)) := Lib.hid (by
    obtain ⟨a, h, _⟩ := h
    exact snewcP h n n0 n1 ha)
  have HE : Hid (∀ W, Below w.heap.size w W → ∀ j : Nat, j ≤ R.length → Calls Try.prog 117 #[.pointer (some ⟨B, 0, none⟩), .int .i64 (j : Int), elV (newE S n)] W (SiteOut M w B S L (R.take j ++ newE S n :: R.drop j) fo (T + 1) (.tuple #[]))) := Lib.hid fun W hb j hj => (senterAtM (h.below hb) (newE S n) j hj hr hT n0 n1 hnm).mono fun _ _ q => q.ahead hb
  have HR : Hid (∀ W, Below w.heap.size w W → ∃ p c, W.cell? ⟨B, 2, none⟩ = some (.slice p R.length c) ∧ B < W.heap.size) := Lib.hid fun W hb => (h.below hb).rowAt
  clear h
  cases hm : mayE S (elOpen R) n
  · have HZ : Hid (putS S R i n = (R, false)) := Lib.hid (by unfold putS; rw [hm]; simp)
    rw [HZ.out]
    rw [hm] at HN
    clear HZ hm HE HR
    unfold elV at *
    generalize newE S n = x at *
    go_enter Try.func67, Try.ntmps67
    go_wp2_with fail
    refine HN.out.mono ?_
    rintro e w2 ⟨rfl, hb⟩
    have HB := Lib.hid (hb.alloc hb.size (.cells #[.int .i64 x.n, .int .i64 x.space, .string ⟨x.name.toArray⟩] 129))
    clear hb
    go_wp2_with fail
    go_ret
    exact (HM.out.out HB.out).more (Nat.le_succ _)
  · rw [hm] at HN
    by_cases k : 0 < i
    · by_cases k2 : i ≤ R.length
      · have HZ : Hid (putS S R i n = (R.take i.toNat ++ newE S n :: R.drop i.toNat, true)) := Lib.hid (by unfold putS; rw [if_pos ⟨hm, k, k2⟩])
        rw [HZ.out]
        obtain ⟨j, rfl⟩ : ∃ j : Nat, i = (j : Int) := ⟨i.toNat, by omega⟩
        have HI : Hid ((j : Int).toNat = j) := Lib.hid (by simp)
        rw [HI.out]
        clear HZ hm HM
        unfold elV at *
        generalize hx : newE S n = x at *
        clear hx
        go_enter Try.func67, Try.ntmps67
        go_wp2_with fail
        refine HN.out.mono ?_
        rintro e w2 ⟨rfl, hb⟩
        obtain ⟨p, c, c2, hB2⟩ := HR.out w2 hb
        have HB := Lib.hid (hb.alloc hb.size (.cells #[.int .i64 x.n, .int .i64 x.space, .string ⟨x.name.toArray⟩] 129))
        have HC := Lib.hid (HE.out _ (hb.alloc hb.size (.cells #[.int .i64 x.n, .int .i64 x.space, .string ⟨x.name.toArray⟩] 129)) j (by omega))
        clear hb
        go_wp2_with fail
        refine HC.out.mono ?_
        rintro e w3 ⟨rfl, d, t⟩
        have HD := Lib.hid d
        have HT := Lib.hid t
        clear d t
        go_wp2_with fail
        go_ret
        exact ⟨rfl, HD.out, HT.out⟩
      · have HZ : Hid (putS S R i n = (R, false)) := Lib.hid (by unfold putS; rw [if_neg (fun q => k2 q.2.2)])
        rw [HZ.out]
        clear HZ hm HE
        unfold elV at *
        generalize newE S n = x at *
        go_enter Try.func67, Try.ntmps67
        go_wp2_with fail
        refine HN.out.mono ?_
        rintro e w2 ⟨rfl, hb⟩
        obtain ⟨p, c, c2, hB2⟩ := HR.out w2 hb
        have HB := Lib.hid (hb.alloc hb.size (.cells #[.int .i64 x.n, .int .i64 x.space, .string ⟨x.name.toArray⟩] 129))
        clear hb
        go_wp2_with fail
        go_ret
        exact (HM.out.out HB.out).more (Nat.le_succ _)
    · have HZ : Hid (putS S R i n = (R, false)) := Lib.hid (by unfold putS; rw [if_neg (fun q => k q.2.1)])
      rw [HZ.out]
      clear HZ hm HE HR
      unfold elV at *
      generalize newE S n = x at *
      go_enter Try.func67, Try.ntmps67
      go_wp2_with fail
      refine HN.out.mono ?_
      rintro e w2 ⟨rfl, hb⟩
      have HB := Lib.hid (hb.alloc hb.size (.cells #[.int .i64 x.n, .int .i64 x.space, .string ⟨x.name.toArray⟩] 129))
      clear hb
      go_wp2_with fail
      go_ret
      exact (HM.out.out HB.out).more (Nat.le_succ _)
set_option maxHeartbeats 1000000 in
set_option maxRecDepth 100000 in
theorem spushP (h : SiteM M w B S L R fo T) (n : Int) (hr : R.length ≤ 4294967296) (hT : T < 4294967296) (n0 : -9223372036854775808 ≤ n) (n1 : n ≤ 9223372036854775807) (ha : ∀ x ∈ S, x.attrs.length ≤ 4294967296) (hnm : (newE S n).name.length ≤ 4294967296) :
    Calls Try.prog 70 #[.pointer (some ⟨B, 0, none⟩), .int .i64 n] w (SiteOut M w B S L (putS S R R.length n).1 fo (T + 1) (.bool (putS S R R.length n).2)) := by
  have HP := Lib.hid (sputP h (R.length : Int) n hr hT n0 n1 ha hnm)
  obtain ⟨p, c, c2, hB⟩ := h.rowAt
  clear h
  generalize putS S R R.length n = r at *
  go_enter Try.func70, Try.ntmps70
  go_wp2_with fail
  refine HP.out.mono ?_
  rintro e w3 ⟨rfl, d, t⟩
  have HD := Lib.hid d
  have HT := Lib.hid t
  clear d t
  go_wp2_with fail
  go_ret
  exact ⟨rfl, HD.out, HT.out⟩
/-- One node in the place of another. -/
def swapS (S : List PN) (R : List EL) (n m : Int) : List EL × Bool :=
  if mayE S (elOpen R) m = true ∧ 0 < placeS R n then ((R.eraseIdx (placeS R n).toNat).take (placeS R n).toNat ++ newE S m :: (R.eraseIdx (placeS R n).toNat).drop (placeS R n).toNat, true) else (R, false)
set_option maxHeartbeats 1000000 in
set_option maxRecDepth 100000 in
theorem sswapP (h : SiteM M w B S L R fo T) (n m : Int) (h0 : 0 < R.length) (hr : R.length ≤ 4294967296) (hT : T + 1 < 4294967296) (hf : Fit R) (n0 : -9223372036854775808 ≤ n) (n1 : n ≤ 9223372036854775807) (m0 : -9223372036854775808 ≤ m) (m1 : m ≤ 9223372036854775807) (ha : ∀ x ∈ S, x.attrs.length ≤ 4294967296) (hnm : (newE S m).name.length ≤ 4294967296) :
    Calls Try.prog 68 #[.pointer (some ⟨B, 0, none⟩), .int .i64 n, .int .i64 m] w (SiteOut M w B S L (swapS S R n m).1 fo (T + 2) (.bool (swapS S R n m).2)) := by
  have HM := Lib.hid h
  have HP : Hid (Calls Try.prog 131 #[.pointer (some ⟨B, 0, none⟩), .int .i64 n] w (Brings (.int .i64 (placeS R n)) w)) := Lib.hid (by
    obtain ⟨a, h, _⟩ := h
    exact splaceP h n h0 hr n0 n1)
  have HN : Hid (∀ W, Below w.heap.size w W → Calls Try.prog 130 #[.pointer (some ⟨B, 0, none⟩), .int .i64 m] W (Brings (.tuple #[elV (newE S m), .bool (mayE S (elOpen R) m)]) W)) := Lib.hid fun W hb => by
    obtain ⟨a, h, _⟩ := h.below hb
    exact snewcP h m m0 m1 ha
  have hp := placeS_lt (n := n) h0
  have HF := Lib.hid hf
  have HEN : Hid (∀ (N : Nat → Prop) W (i : Nat), i < R.length → SiteM N W B S L (R.eraseIdx i) fo (T + 1) → Calls Try.prog 117 #[.pointer (some ⟨B, 0, none⟩), .int .i64 (i : Int), elV (newE S m)] W (SiteOut N W B S L ((R.eraseIdx i).take i ++ newE S m :: (R.eraseIdx i).drop i) fo (T + 1 + 1) (.tuple #[]))) := Lib.hid fun N W i hi q => by
    have hl : (R.eraseIdx i).length = R.length - 1 := by rw [List.length_eraseIdx, if_pos hi]
    exact senterAtM q (newE S m) i (by omega) (by omega) hT m0 m1 hnm
  have HL : Hid (∀ W, Below w.heap.size w W → ∀ i : Nat, i < R.length → Calls Try.prog 132 #[.pointer (some ⟨B, 0, none⟩), .int .i64 (i : Int)] W (SiteOut (fun b => M b ∧ b < w.heap.size) W B S L (R.eraseIdx i) fo (T + 1) (.tuple #[]))) := Lib.hid fun W hb i hi => sleaveM ((h.mono (N := fun b => M b ∧ b < w.heap.size) (fun b hb k => ⟨k, hb⟩)).below hb) i hi hr (by omega) hf
  clear h hf
  cases hm : mayE S (elOpen R) m
  · have HZ : Hid (swapS S R n m = (R, false)) := Lib.hid (by unfold swapS; rw [hm]; simp)
    rw [HZ.out]
    rw [hm] at HN
    clear HZ hm HEN HL hp
    generalize placeS R n = i at *
    unfold elV at *
    generalize newE S m = x at *
    go_enter Try.func68, Try.ntmps68
    go_wp2_with fail
    refine HP.out.mono ?_
    rintro e w1 ⟨rfl, hb1⟩
    have HB1 := Lib.hid hb1
    have HN1 := Lib.hid (HN.out w1 hb1)
    clear hb1
    go_wp2_with fail
    refine HN1.out.mono ?_
    rintro e w2 ⟨rfl, hb⟩
    have HB := Lib.hid ((HB1.out.trans (hb.mono HB1.out.size)).alloc (Nat.le_trans HB1.out.size hb.size) (.cells #[.int .i64 x.n, .int .i64 x.space, .string ⟨x.name.toArray⟩] 129))
    clear hb
    go_wp2_with fail
    go_ret
    exact (HM.out.out HB.out).more (by omega)
  · rw [hm] at HN
    by_cases k : 0 < placeS R n
    · obtain ⟨i, hi⟩ : ∃ i : Nat, placeS R n = (i : Int) := ⟨(placeS R n).toNat, by omega⟩
      have HZ : Hid (swapS S R n m = ((R.eraseIdx i).take i ++ newE S m :: (R.eraseIdx i).drop i, true)) := Lib.hid (by
        unfold swapS
        rw [if_pos ⟨hm, k⟩, hi, Int.toNat_natCast])
      rw [HZ.out]
      rw [hi] at HP k hp
      clear HZ hm HM hi
      unfold elV at *
      generalize hx : newE S m = x at *
      clear hx
      go_enter Try.func68, Try.ntmps68
      go_wp2_with fail
      refine HP.out.mono ?_
      rintro e w1 ⟨rfl, hb1⟩
      have HB1 := Lib.hid hb1
      have HN1 := Lib.hid (HN.out w1 hb1)
      clear hb1
      go_wp2_with fail
      refine HN1.out.mono ?_
      rintro e w2 ⟨rfl, hb⟩
      have HB := Lib.hid ((HB1.out.trans (hb.mono HB1.out.size)).alloc (Nat.le_trans HB1.out.size hb.size) (.cells #[.int .i64 x.n, .int .i64 x.space, .string ⟨x.name.toArray⟩] 129))
      have hw2 : w.heap.size ≤ w2.heap.size := Nat.le_trans HB1.out.size hb.size
      have hX : (w2.alloc (.cells #[.int .i64 x.n, .int .i64 x.space, .string ⟨x.name.toArray⟩] 129)).heap[w2.heap.size]? = some (.cells #[.int .i64 x.n, .int .i64 x.space, .string ⟨x.name.toArray⟩] 129) := heap_alloc_new w2 _
      have HC := Lib.hid (HL.out _ HB.out i (by omega))
      clear hb
      go_wp2_with fail
      refine HC.out.mono ?_
      rintro e w3 ⟨rfl, d, t⟩
      have HD := Lib.hid d
      have HT := Lib.hid t
      clear d t
      have h3 := (HT.out.block w2.heap.size (by simp) (fun q => absurd q.2 (by omega))).trans hX
      have a3 := fun i => blk_cell h3 i
      have y0 := a3 0
      have y1 := a3 1
      have y2 := a3 2
      simp at y0 y1 y2
      clear a3 h3 hX
      have HC4 := Lib.hid (HEN.out _ w3 i (by omega) HD.out)
      go_wp2_with fail
      refine HC4.out.mono ?_
      rintro e w4 ⟨rfl, d, t⟩
      have HD4 := Lib.hid d
      have HT4 := Lib.hid t
      clear d t
      go_wp2_with fail
      go_ret
      obtain ⟨_, d, t⟩ := SiteOut.then_ (v := .tuple #[]) ⟨rfl, HD4.out, HT4.out⟩ HT.out
      exact ⟨rfl, (SiteOut.ahead (M := M) (v := .tuple #[]) ⟨rfl, d.mono (fun b _ k => k.imp And.left id), t.mono (fun b _ k => k.1)⟩ HB.out).2⟩
    · have HZ : Hid (swapS S R n m = (R, false)) := Lib.hid (by unfold swapS; rw [if_neg (fun q => k q.2)])
      rw [HZ.out]
      clear HZ hm HEN HL hp
      generalize placeS R n = i at *
      unfold elV at *
      generalize newE S m = x at *
      go_enter Try.func68, Try.ntmps68
      go_wp2_with fail
      refine HP.out.mono ?_
      rintro e w1 ⟨rfl, hb1⟩
      have HB1 := Lib.hid hb1
      have HN1 := Lib.hid (HN.out w1 hb1)
      clear hb1
      go_wp2_with fail
      refine HN1.out.mono ?_
      rintro e w2 ⟨rfl, hb⟩
      have HB := Lib.hid ((HB1.out.trans (hb.mono HB1.out.size)).alloc (Nat.le_trans HB1.out.size hb.size) (.cells #[.int .i64 x.n, .int .i64 x.space, .string ⟨x.name.toArray⟩] 129))
      clear hb
      go_wp2_with fail
      go_ret
      exact (HM.out.out HB.out).more (by omega)
end Go.Proofs.Ytmhjfbdldpehdaa
