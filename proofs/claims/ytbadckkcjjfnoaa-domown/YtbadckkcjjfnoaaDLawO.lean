/-
  The walk of the law DomOwn: true, and nothing old is changed. Any numbers.
-/
import Derived.Test.YtbadckkcjjfnoaaDMFit
import Derived.Test.YtbadckkcjjfnoaaDPKnown
import Derived.Test.YtbadckkcjjfnoaaDPNum
import Derived.Test.YtbadckkcjjfnoaaDSame
import Derived.Test.YtbadckkcjjfnoaaDOF2
namespace Go.Proofs.Ytbadckkcjjfnoaa
open Go.RowKit

def ow0 : List PN := [elemPN 1 [] []]
def ow1 : List PN := ow0 ++ [elemPN 1 [112] [([97], [98])]]
def ow2 : List PN := (pPut ow1 1 0 (-1) false).1
def ow3 : List PN := (pWrite ow2 [120] 1 (-1)).1
/-- A Doc that was made since w1, beside the block A. -/
structure DocO (w1 W : World) (A B : Nat) (S : List PN) : Prop where
  doc : DocM (fun b => w1.heap.size ≤ b ∧ b < W.heap.size ∧ b ≠ A) W B S
  below : Below w1.heap.size w1 W
  lt : A < W.heap.size
  new : w1.heap.size ≤ A
theorem DocO.adds {w1 W W' : World} {A B : Nat} {S S' : List PN} {v : Value} {e : Ending} (h : DocO w1 W A B S) (ha : Adds (fun b => w1.heap.size ≤ b ∧ b < W.heap.size ∧ b ≠ A) W B S' v e W') : e = .returned v ∧ DocO w1 W' A B S' := by
  obtain ⟨he, d, t⟩ := ha
  have h1 := h.below.size
  have h2 := h.lt
  refine ⟨he, d.mono ?_, h.below.trans (t.below h1 (fun b hb k => by omega)), Nat.lt_of_lt_of_le h2 t.size, h.new⟩
  rintro b hb (k | k)
  · exact ⟨k.1, hb, k.2.2⟩
  · exact ⟨by omega, hb, by omega⟩
theorem DocO.ties {w1 W W' : World} {A B : Nat} {S S' : List PN} {v : Value} {e : Ending} (h : DocO w1 W A B S) (ha : Ties (fun b => w1.heap.size ≤ b ∧ b < W.heap.size ∧ b ≠ A) W B S' v e W') : e = .returned v ∧ DocO w1 W' A B S' := by
  obtain ⟨he, d, t⟩ := ha
  exact ⟨he, d.mono (fun _ hb k => ⟨k.1, hb, k.2.2⟩), h.below.trans (t.below h.below.size (fun b hb k => by omega)), Nat.lt_of_lt_of_le h.lt t.size, h.new⟩
theorem DocO.turn {w1 W W' : World} {A B : Nat} {S : List PN} (h : DocO w1 W A B S) (ht : Turns (fun b => b = A) W W') : DocO w1 W' A B S :=
  ⟨(h.doc.on ht fun b _ k e => k.2.2 e).mono fun b hb k => ⟨k.1, hb, k.2.2⟩, h.below.trans (ht.below h.below.size fun b hb k => by have := h.new; omega), Nat.lt_of_lt_of_le h.lt ht.size, h.new⟩
/-- What Tree tells of the Doc: an element with an attribute and a text. -/
structure TreeO (W : World) (g ga oa ca : Nat) (w' : World) : Prop where
  ng : W.heap.size ≤ g
  lg : g < w'.heap.size
  na : W.heap.size ≤ ga
  la : ga < w'.heap.size
  ne : ga ≠ g
  c3 : w'.cell? ⟨g, 3, none⟩ = some (.slice (some ⟨ga, oa, none⟩) 1 ca)
  c6 : w'.cell? ⟨g, 6, none⟩ = some (.slice (some ⟨g, 7, none⟩) 1 1)
  c11 : w'.cell? ⟨g, 11, none⟩ = some (.string ⟨#[120]⟩)
  a0 : w'.cell? ⟨ga, oa, none⟩ = some (.string ⟨#[97]⟩)
  a1 : w'.cell? ⟨ga, oa + 1, none⟩ = some (.string ⟨#[98]⟩)
  fg : ∀ k, w'.frozen? ⟨g, k, none⟩ = false
  fa : ∀ k, w'.frozen? ⟨ga, k, none⟩ = false
  below : Below W.heap.size W w'
theorem TreeO.on {W w' w2 : World} {g ga oa ca : Nat} (h : TreeO W g ga oa ca w') (hb : Below w'.heap.size w' w2) : TreeO W g ga oa ca w2 :=
  ⟨h.ng, Nat.lt_of_lt_of_le h.lg hb.size, h.na, Nat.lt_of_lt_of_le h.la hb.size, h.ne, (hb.cell (p := ⟨g, 3, none⟩) h.lg).trans h.c3, (hb.cell (p := ⟨g, 6, none⟩) h.lg).trans h.c6, (hb.cell (p := ⟨g, 11, none⟩) h.lg).trans h.c11, (hb.cell (p := ⟨ga, oa, none⟩) h.la).trans h.a0, (hb.cell (p := ⟨ga, oa + 1, none⟩) h.la).trans h.a1,
    fun k => by rw [World.frozen?_of_block (w := w') (hb.block g h.lg)]; exact h.fg k, fun k => by rw [World.frozen?_of_block (w := w') (hb.block ga h.la)]; exact h.fa k, h.below.trans (hb.mono h.below.size)⟩
theorem ow_tree (B : Nat) (M : Nat → Prop) (W : World) (h : DocM M W B ow3) (hM : ∀ b, M b → b < W.heap.size) : Calls Try.prog 16 #[.pointer (some ⟨B, 0, none⟩), .int .i64 0] W (fun e w' => ∃ g ga oa ca, e = .returned (.slice (some ⟨g, 0, none⟩) 1 1) ∧ TreeO W g ga oa ca w') := by
  refine (Fz.dtreeF ow3 B M W 10 10 0 [1] [1, 2] [1, 2, 2] h hM (by decide) (by decide) (by decide) (by decide)).mono ?_
  rintro e w' ⟨g, v5, v6, rfl, h2, hb⟩
  obtain ⟨va, h7, ha⟩ := h2.done 0 (by decide)
  obtain ⟨vb, h8, _⟩ := h2.done 1 (by decide)
  obtain ⟨p, ca, e1, h1⟩ := ha.1
  obtain ⟨ga, oa, e2, hp, hga, hc⟩ := h1 (by decide)
  subst e2
  have hc0 := hc 0 (by decide)
  refine ⟨g, ga, oa, ca, rfl, h2.lt.1, h2.lt.2, hp.1, hga, hp.2, ?_, ?_, ?_, ?_, ?_, ?_, ?_, hb⟩
  · rw [← show va = .slice (some ⟨ga, oa, none⟩) 1 ca from e1]
    exact h7.c3
  · exact h7.c6
  · exact h8.c4
  · exact hc0.1
  · exact hc0.2
  · obtain ⟨xs, hx⟩ := h2.own
    exact fun k => hx.frozenAt k
  · exact ha.2 (by decide) ga oa _ _ e1
theorem ow_kids (B : Nat) (M : Nat → Prop) (W : World) (h : DocM M W B ow3) (hM : ∀ b, M b → b < W.heap.size) : Calls Try.prog 17 #[.pointer (some ⟨B, 0, none⟩), .int .i64 0] W (fun e w' => ∃ g c, e = .returned (.slice (some ⟨g, 0, none⟩) 1 c) ∧ W.heap.size ≤ g ∧ g < w'.heap.size ∧ w'.cell? ⟨g, 0, none⟩ = some (.int .i64 1) ∧ (∀ k, w'.frozen? ⟨g, k, none⟩ = false) ∧ Below W.heap.size W w') := by
  refine (dkidsP ow3 B M W 10 0 [1] h hM (by decide) (by decide)).mono ?_
  rintro e w' ⟨v', rfl, hr⟩
  rcases Joins.ownsRow_forms hr.row with ⟨_, h1⟩ | ⟨g, c, rfl⟩
  · simp at h1
  · have hg : W.heap.size ≤ g := by
      rcases hr.own g rfl with k | k
      · cases k
      · exact k
    refine ⟨g, c, rfl, hg, (hr.row.lt g rfl).2, ?_, fun k => hr.row.frozenAt k, hr.turns.below (Nat.le_refl _) fun b _ e => by cases e⟩
    rw [hr.row.cellAt 0 (by decide)]
    rfl
theorem ow_cell {w : World} {g : Nat} {cs : Array Value} {T : TypeId} (h : w.heap[g]? = some (.cells cs T (0, 0))) (i : Nat) : w.cell? ⟨g, i, none⟩ = cs[i]? ∧ w.frozen? ⟨g, i, none⟩ = false := by
  constructor
  · simp [World.cell?, h]
  · simp [World.frozen?, h]
theorem ow_lt {w : World} {g : Nat} {o : Obj} (h : w.heap[g]? = some o) : g < w.heap.size := by
  rcases Nat.lt_or_ge g w.heap.size with k | k
  · exact k
  · rw [Array.getElem?_eq_none k] at h; cases h
set_option maxHeartbeats 4000000 in
set_option maxRecDepth 100000 in
theorem domOwn_walk (v : Value) (n : Nat) (w : World) (hv0 : IntsIn w v n) : Calls Try.prog 4 #[v] w (Yes w) := by
  obtain ⟨zs, _, hv⟩ := hv0.zs
  obtain ⟨hF1, hF2, hF3, hF4⟩ := madeF_ok zs
  have HM := Lib.hid (fun W hb => madeP v zs w W hv hb)
  clear hv0 hv hF1 hF3
  generalize madeF zs = F at *
  go_enter Try.func4, Try.ntmps4
  go_wp2_with fail
  refine (known6_yes w).mono ?_
  rintro e w1 ⟨rfl, b1⟩
  have B1 := Lib.hid b1
  clear b1
  go_wp2_with fail
  refine (dnewP w1).mono ?_
  rintro e w2 ⟨B, rfl, d2, b2⟩
  have D2 := Lib.hid (DocM.mono d2 (L := fun b => w1.heap.size ≤ b ∧ b < w2.heap.size) fun b hb k => ⟨k, hb⟩)
  have B2 := Lib.hid b2
  clear d2 b2
  go_upto_region 7 with fail
  obtain ⟨w3, hw3⟩ : ∃ w3, w3 = w2.alloc (.cells #[.string ⟨#[97]⟩, .string ⟨#[98]⟩] 40) := ⟨_, rfl⟩
  rw [← hw3]
  have b3 : Below w2.heap.size w2 w3 := by rw [hw3]; exact (Below.refl _ _).alloc (Nat.le_refl _) _
  have hX3 : w3.heap[w2.heap.size]? = some (.cells #[.string ⟨#[97]⟩, .string ⟨#[98]⟩] 40 (0, 0)) := by rw [hw3]; exact heap_alloc_new w2 _
  have hA3 : AttrsP (fun _ => True) w3 (.slice (some ⟨w2.heap.size, 0, none⟩) 1 1) [([97], [98])] := ⟨_, _, rfl, fun _ => ⟨w2.heap.size, 0, rfl, trivial, ow_lt hX3, fun j hj => by
    have hj2 : j < 1 := hj
    obtain rfl : j = 0 := by omega
    exact ⟨(ow_cell hX3 0).1, (ow_cell hX3 1).1⟩⟩⟩
  have HO3 : Hid (DocO w1 w3 w2.heap.size B ow0) := Lib.hid ⟨(D2.out.below b3).mono fun b hb k => ⟨k.1, hb, by omega⟩, B2.out.trans (b3.mono B2.out.size), ow_lt hX3, B2.out.size⟩
  have HE := Lib.hid (show Calls Try.prog 13 #[.pointer (some ⟨B, 0, none⟩), .int .i64 1, .string ⟨#[112]⟩, .slice (some ⟨w2.heap.size, 0, none⟩) 1 1] w3 (fun e w' => e = .returned (.int .i64 1) ∧ DocO w1 w' w2.heap.size B ow1 ∧ w'.heap[w2.heap.size]? = w3.heap[w2.heap.size]?) from (delemNewP ow0 B _ (fun _ => True) w3 1 [112] [([97], [98])] _ HO3.out.doc (fun _ k => k.2.1) (by decide) hA3 (by decide)).mono fun _ _ k => ⟨(HO3.out.adds k).1, (HO3.out.adds k).2, k.2.2.block _ HO3.out.lt fun q => q.2.2 rfl⟩)
  clear hw3 b3 hA3 HO3 D2 B2
  generalize w2.heap.size = A at *
  go_wp2_with fail
  refine HE.out.mono ?_
  rintro e w4 ⟨rfl, hO4, hA4⟩
  have HO4 := Lib.hid hO4
  have hX4 := hA4.trans hX3
  have a40 := (ow_cell hX4 1).1
  have a41 := (ow_cell hX4 1).2
  clear hO4 hA4 HE hX3
  go_upto_region 9 with fail
  obtain ⟨w5, hw5⟩ : ∃ w5, w5 = w4.setCell ⟨A, 1, none⟩ (.string ⟨#[99]⟩) := ⟨_, rfl⟩
  rw [← hw5]
  have HO5 : Hid (DocO w1 w5 A B ow1) := Lib.hid (HO4.out.turn (by rw [hw5]; exact (Turns.refl (fun b => b = A) w4).setCell (B := A) (.inl rfl) 1 _))
  have HP := Lib.hid (show Calls Try.prog 14 #[.pointer (some ⟨B, 0, none⟩), .int .i64 1, .int .i64 0, .int .i64 (-1)] w5 (fun e w' => e = .returned (.bool true) ∧ DocO w1 w' A B ow2) from (dputP ow1 B _ w5 5 1 0 (-1) false HO5.out.doc (by decide) (by decide)).mono fun _ _ k => HO5.out.ties k)
  clear hw5 HO4 a40 a41 hX4 HO5
  go_wp2_with fail
  refine HP.out.mono ?_
  rintro e w6 ⟨rfl, hO6⟩
  have HW := Lib.hid (show Calls Try.prog 15 #[.pointer (some ⟨B, 0, none⟩), .string ⟨#[120]⟩, .int .i64 1, .int .i64 (-1)] w6 (fun e w' => e = .returned (.bool true) ∧ DocO w1 w' A B ow3) from (dwriteP ow2 B _ w6 [120] 1 (-1) hO6.doc (fun _ k => k.2.1) (by decide) (by decide) (by decide) (by decide) (by decide)).mono fun _ _ k => hO6.adds k)
  clear hO6 HP
  go_wp2_with fail
  refine HW.out.mono ?_
  rintro e w7 ⟨rfl, hO7⟩
  have HD := Lib.hid hO7.doc
  have B7 := Lib.hid hO7.below
  clear hO7 HW
  have HTR := Lib.hid (ow_tree B _ w7 HD.out (fun _ k => k.2.1))
  go_wp2_with fail
  refine HTR.out.mono ?_
  rintro e w8 ⟨g, ga, oa, ca, rfl, ht8⟩
  have HT8 := Lib.hid ht8
  have HU8 : Hid (Turns (fun b => w7.heap.size ≤ b) w7 w8) := Lib.hid (.of_below ht8.below)
  clear ht8 HTR
  have HKD := Lib.hid (ow_kids B _ w8 (HD.out.on HU8.out fun b _ k l => by have := k.2.1; omega) (fun b k => Nat.lt_of_lt_of_le k.2.1 HU8.out.size))
  go_wp2_with fail
  refine HKD.out.mono ?_
  rintro e w9 ⟨gk, ck, rfl, hgk, hlk, hck, hfk, b9⟩
  have HT9 := Lib.hid (HT8.out.on b9)
  have HU9 : Hid (Turns (fun b => w7.heap.size ≤ b) w7 w9) := Lib.hid (HU8.out.trans (.of_below b9))
  have HK9 := Lib.hid (show (w8.heap.size ≤ gk ∧ gk ≠ g ∧ gk ≠ ga) ∧ gk < w9.heap.size ∧ w9.cell? ⟨gk, 0, none⟩ = some (.int .i64 1) ∧ (∀ k, w9.frozen? ⟨gk, k, none⟩ = false) from ⟨⟨hgk, fun k => by have := HT8.out.lg; omega, fun k => by have := HT8.out.la; omega⟩, hlk, hck, hfk⟩)
  clear hgk hlk hck hfk b9 HKD HT8
  have c3 := HT9.out.c3
  have c6 := HT9.out.c6
  go_upto_region 15 with fail
  have a0 := HT9.out.a0
  have a1 := HT9.out.fa oa
  have hga := HT9.out.ne
  go_upto_region 16 with fail
  obtain ⟨w10, hw10⟩ : ∃ w10, w10 = w9.setCell ⟨ga, oa, none⟩ (.string ⟨#[122]⟩) := ⟨_, rfl⟩
  rw [← hw10]
  have HU10 : Hid (Turns (fun b => w7.heap.size ≤ b) w7 w10) := Lib.hid (by rw [hw10]; exact HU9.out.setCell (.inl (HT9.out.na)) oa _)
  have hoth : ∀ b o, b ≠ ga → w10.cell? ⟨b, o, none⟩ = w9.cell? ⟨b, o, none⟩ := fun b o h => by rw [hw10]; exact World.cell?_setCell_other _ _ _ _ (by intro e; injection e with e; exact h e.symm)
  have hfr : ∀ b o, w10.frozen? ⟨b, o, none⟩ = w9.frozen? ⟨b, o, none⟩ := fun b o => by rw [hw10]; simp
  have d6 := (hoth g 6 (Ne.symm hga)).trans c6
  have d11 := (hoth g 11 (Ne.symm hga)).trans HT9.out.c11
  have f11 := (hfr g 11).trans (HT9.out.fg 11)
  have dk := (hoth gk 0 HK9.out.1.2.2).trans HK9.out.2.2.1
  have fk := (hfr gk 0).trans (HK9.out.2.2.2 0)
  clear hoth hfr hw10 c3 c6 a0 a1
  go_upto_region 17 with fail
  obtain ⟨w11, hw11⟩ : ∃ w11, w11 = w10.setCell ⟨g, 11, none⟩ (.string ⟨#[122]⟩) := ⟨_, rfl⟩
  rw [← hw11]
  have HU11 : Hid (Turns (fun b => w7.heap.size ≤ b) w7 w11) := Lib.hid (by rw [hw11]; exact HU10.out.setCell (.inl (HT9.out.ng)) 11 _)
  have ek : w11.cell? ⟨gk, 0, none⟩ = some (.int .i64 1) := (by rw [hw11]; exact World.cell?_setCell_other _ _ _ _ (by intro e; injection e with e; exact HK9.out.1.2.1 e.symm) : w11.cell? ⟨gk, 0, none⟩ = w10.cell? ⟨gk, 0, none⟩).trans dk
  have gk' : w11.frozen? ⟨gk, 0, none⟩ = false := (by rw [hw11]; simp : w11.frozen? ⟨gk, 0, none⟩ = w10.frozen? ⟨gk, 0, none⟩).trans fk
  clear hw11 d6 d11 f11 dk fk HU10
  go_upto_region 18 with fail
  obtain ⟨w12, hw12⟩ : ∃ w12, w12 = w11.setCell ⟨gk, 0, none⟩ (.int .i64 77) := ⟨_, rfl⟩
  rw [← hw12]
  have HU12 : Hid (Turns (fun b => w7.heap.size ≤ b) w7 w12) := Lib.hid (by rw [hw12]; exact HU11.out.setCell (.inl (by have := HK9.out.1.1; have := HU8.out.size; omega)) 0 _)
  clear hw12 ek gk' HU11 HT9 HK9 HU9 HU8 hga w8 w9 w10 w11
  have HDO : Hid (∀ W, Turns (fun b => w7.heap.size ≤ b) w7 W → DocM (fun b => w1.heap.size ≤ b ∧ b < w7.heap.size ∧ b ≠ A) W B ow3 ∧ ∀ b, (w1.heap.size ≤ b ∧ b < w7.heap.size ∧ b ≠ A) → b < W.heap.size) := Lib.hid fun W h => ⟨HD.out.on h fun b _ k l => by have := k.2.1; omega, fun b k => Nat.lt_of_lt_of_le k.2.1 h.size⟩
  have HBE : Hid (∀ W, Turns (fun b => w7.heap.size ≤ b) w7 W → Below w.heap.size w W) := Lib.hid fun W h => B1.out.trans ((B7.out.trans (h.below (B := w1.heap.size) B7.out.size fun b hb k => by have := B7.out.size; omega)).mono B1.out.size)
  clear HD B7
  have HTR := Lib.hid (ow_tree B _ w12 (HDO.out w12 HU12.out).1 (HDO.out w12 HU12.out).2)
  go_wp2_with fail
  refine HTR.out.mono ?_
  rintro e w13 ⟨g2, ga2, oa2, ca2, rfl, ht13⟩
  have HT13 := Lib.hid ht13
  have HU13 : Hid (Turns (fun b => w7.heap.size ≤ b) w7 w13) := Lib.hid (HU12.out.trans (.of_below ht13.below))
  have HMD := Lib.hid (HM.out w13 (HBE.out _ HU13.out))
  clear ht13 HTR HU12
  go_wp2_with fail
  refine HMD.out.mono ?_
  rintro e w14 ⟨pl, cl, rfl, hn14, b14⟩
  have HT14 := Lib.hid (HT13.out.on b14)
  have HU14 : Hid (Turns (fun b => w7.heap.size ≤ b) w7 w14) := Lib.hid (HU13.out.trans (.of_below b14))
  have HN14 : Hid (NodesP (fun _ => True) w14 (.slice pl F.len cl) F) := Lib.hid (hn14.mono fun _ _ _ => trivial)
  have HNU := Lib.hid (dnumberP F _ _ w14 (by omega) HN14.out)
  clear hn14 b14 HT13 HU13 HMD
  go_wp2_with fail
  refine HNU.out.mono ?_
  rintro e w15 ⟨vn, rfl, hn15, b15⟩
  obtain ⟨pn, cn, rfl, _⟩ := hn15
  rw [Fo.number_len]
  have HT15 := Lib.hid (HT14.out.on b15)
  have HU15 : Hid (Turns (fun b => w7.heap.size ≤ b) w7 w15) := Lib.hid (HU14.out.trans (.of_below b15))
  have HN15 := Lib.hid (HN14.out.kept (.of_below b15))
  have HK := Lib.hid (ow_kids B _ w15 (HDO.out w15 HU15.out).1 (HDO.out w15 HU15.out).2)
  have c3 := HT15.out.c3
  have c6 := HT15.out.c6
  have c11 := HT15.out.c11
  have a0 := HT15.out.a0
  have a1 := HT15.out.a1
  clear b15 HT14 HU14 HNU HN14
  go_wp2_with fail
  refine HK.out.mono ?_
  rintro e w16 ⟨gk, ck, rfl, hgk, hlk, hck, hfk, b16⟩
  have HU16 : Hid (Turns (fun b => w7.heap.size ≤ b) w7 w16) := Lib.hid (HU15.out.trans (.of_below b16))
  have HN16 := Lib.hid (HN15.out.kept (.of_below b16))
  have HK2 := Lib.hid (ow_kids B _ w16 (HDO.out w16 HU16.out).1 (HDO.out w16 HU16.out).2)
  clear c3 c6 c11 a0 a1 hgk hlk hck hfk b16 HK HU15 HN15 HT15
  go_wp2_with fail
  refine HK2.out.mono ?_
  rintro e w17 ⟨gj, cj, rfl, hgj, hlj, hcj, hfj, b17⟩
  have HU17 : Hid (Turns (fun b => w7.heap.size ≤ b) w7 w17) := Lib.hid (HU16.out.trans (.of_below b17))
  have HN17 := Lib.hid (HN16.out.kept (.of_below b17))
  have HMD := Lib.hid (HM.out w17 (HBE.out _ HU17.out))
  clear hgj hlj hfj b17 HK2 HU16 HN16
  go_wp2_with fail
  refine HMD.out.mono ?_
  rintro e w18 ⟨p2, c2, rfl, hn18, b18⟩
  have HU18 : Hid (Turns (fun b => w7.heap.size ≤ b) w7 w18) := Lib.hid (HU17.out.trans (.of_below b18))
  have HS := rsameP F F _ _ _ _ w18 (by omega) (HN17.out.kept (.of_below b18)) hn18
  rw [Fo.same_refl] at HS
  have HS := Lib.hid HS
  clear hn18 b18 HN17 HU17 HMD
  go_wp2_with fail
  refine HS.out.mono ?_
  rintro e w19 ⟨rfl, b19⟩
  have HB19 := Lib.hid (HBE.out w19 (HU18.out.trans (.of_below b19)))
  have ql : ((F.len : Int) == (F.len : Int)) = true := by simp
  clear b19 HU18 HS
  go_wp2_with fail
  go_ret
  exact ⟨rfl, HB19.out⟩
end Go.Proofs.Ytbadckkcjjfnoaa
