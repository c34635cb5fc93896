/-
  The walk of the law DomRings: true, and nothing old is changed. Any two numbers.
-/
import Derived.Test.YteikhlonccacbaaDRing
namespace Go.Proofs.Yteikhlonccacbaa
open Go.RowKit

/-- A Doc, and nodes that it told before: calls that turn links alone leave these. -/
structure RQ (w1 wr W : World) (B : Nat) (S : List PN) (tv : Value) (f : Fo) : Prop where
  doc : DocM (fun b => w1.heap.size ≤ b ∧ b < wr.heap.size) W B S
  tree : NodesP (fun b => wr.heap.size ≤ b) W tv f
  below : Below w1.heap.size w1 W
  size : wr.heap.size ≤ W.heap.size
  size0 : w1.heap.size ≤ wr.heap.size
theorem RQ.ties {w1 wr W W' : World} {B : Nat} {S S' : List PN} {tv v : Value} {f : Fo} {e : Ending} (h : RQ w1 wr W B S tv f) (ha : Ties (fun b => w1.heap.size ≤ b ∧ b < wr.heap.size) W B S' v e W') : e = .returned v ∧ RQ w1 wr W' B S' tv f := by
  obtain ⟨he, d, t⟩ := ha
  exact ⟨he, d, h.tree.kept (t.kept (fun b _ k q => by omega)), h.below.trans (t.below h.below.size (fun b hb k => by omega)), Nat.le_trans h.size t.size, h.size0⟩
theorem RQ.on {w1 wr W W' : World} {B : Nat} {S : List PN} {tv : Value} {f : Fo} (h : RQ w1 wr W B S tv f) (hb : Below W.heap.size W W') : RQ w1 wr W' B S tv f :=
  ⟨h.doc.below hb, h.tree.kept (.of_below hb), h.below.trans (hb.mono h.below.size), Nat.le_trans h.size hb.size, h.size0⟩
set_option maxHeartbeats 1000000 in
set_option maxRecDepth 100000 in
theorem domRings_walk (n k : Int) (w : World) (hn0 : -9223372036854775808 ≤ n) (hn1 : n ≤ 9223372036854775807) (hk0 : -9223372036854775808 ≤ k) (hk1 : k ≤ 9223372036854775807) : Calls Try.prog 9 #[.int .i64 n, .int .i64 k] w (Yes w) := by
  have HK := Lib.hid (known6_yes w)
  have HN := Lib.hid (fun W => bnew W)
  have HWI := Lib.hid (fun W => within6 n 20 W hn0 hn1 (by omega) (by omega))
  have hr := (within_lt n 20 (by omega)).1
  have HWK := Lib.hid (fun (m : Nat) (h1 : 1 ≤ m) (h2 : m ≤ 1000) W => within6 k m W hk0 hk1 h1 (by omega))
  have HWL := Lib.hid (fun (m : Nat) (h1 : 1 ≤ m) => (within_lt k m h1).1)
  clear hn0 hn1 hk0 hk1
  generalize Within n 20 = r at *
  go_enter Try.func9, Try.ntmps9
  go_wp2_with fail
  refine HK.out.mono ?_
  rintro e w1 ⟨rfl, b1⟩
  have B1 := Lib.hid b1
  clear b1
  go_wp2_with fail
  refine (HN.out w1).mono ?_
  rintro e w2 ⟨B, rfl, h2⟩
  have H2 := Lib.hid h2
  clear h2
  go_wp2_with fail
  refine (HWI.out w2).mono ?_
  rintro e w3 ⟨rfl, rfl⟩
  have hm0 : (2 : Int) + (r : Int) = ((2 + r : Nat) : Int) := by omega
  have hm1 : IntKind.i64.wrap ((2 : Int) + (r : Int)) = ((2 + r : Nat) : Int) := by rw [IntWalk.i64_in _ (by omega)]; omega
  obtain ⟨m, hm⟩ : ∃ m, 2 + r = m := ⟨_, rfl⟩
  rw [hm] at hm0 hm1
  have hm2 : 2 ≤ m := by omega
  have hm3 : m < 22 := by omega
  clear hm hr
  go_wp2_with fail
  go_loopw [7, 8] (fun u i wr => ∃ c : Nat, c ≤ m ∧ i = .int .i64 (c : Int) ∧ u = .int .i64 (c : Int) ∧ DocB w1 wr B (ring c)) (fun _ i _ => m - (intOf i).toNat)
  case atStart => exact ⟨0, Nat.zero_le _, rfl, rfl, H2.out⟩
  case round =>
    obtain ⟨c, hc, rfl, rfl, hD⟩ := hrel
    have HD := Lib.hid hD
    clear hD
    by_cases hlt : c < m
    · have hok := step_ok c (by omega)
      unfold stepOK at hok
      simp only [Bool.and_eq_true, decide_eq_true_eq] at hok
      obtain ⟨⟨hlen, hok1⟩, hok2⟩ := hok
      have HEL : Hid (Calls Try.prog 31 #[.pointer (some ⟨B, 0, none⟩), .int .i64 1, .string ⟨#[120]⟩, .slice none 0 0] wr (fun e w' => e = .returned (.int .i64 ((c + 1 : Nat) : Int)) ∧ DocB w1 w' B (ring c ++ [ringE]))) := by
        refine Lib.hid ?_
        have := belem HD.out (fun _ => True) 1 [120] [] (.slice none 0 0) (by omega) (AttrsP.nil _ _ _ _) (by simp)
        rw [hlen] at this
        exact this
      have HPU : Hid (∀ W, DocB w1 W B (ring c ++ [ringE]) → Calls Try.prog 33 #[.pointer (some ⟨B, 0, none⟩), .int .i64 ((c : Int) + 1), .int .i64 (c : Int), .int .i64 (-1)] W (fun e w' => e = .returned (.bool true) ∧ DocB w1 w' B (ring (c + 1)))) := by
        refine Lib.hid fun W h => ?_
        have := bput h 60 ((c + 1 : Nat) : Int) (c : Int) (-1) false (by simp) hok1
        rw [hok2] at this
        rw [show ((c : Int) + 1) = ((c + 1 : Nat) : Int) by omega]
        exact this
      have hcc : ((c + 1 : Nat) : Int) = (c : Int) + 1 := by omega
      rw [hcc] at HEL
      have q1 : (((c : Int) + 1) != ((c : Int) + 1)) = false := by simp
      clear hlen hok1 hok2 hcc
      go_wp2_with fail
      refine HEL.out.mono ?_
      rintro e w4 ⟨rfl, h4⟩
      have HPU2 := Lib.hid (HPU.out w4 h4)
      clear h4
      go_wp2_with fail
      refine HPU2.out.mono ?_
      rintro e w5 ⟨rfl, h5⟩
      have H5 := Lib.hid h5
      clear h5
      go_wp2_with fail
      exact ⟨⟨c + 1, by omega, by go_num, by go_num, H5.out⟩, by simp [intOf]; omega⟩
    · have hcm : c = m := by omega
      subst hcm
      have hmj1 : ((c : Int) - 1) = ((c - 1 : Nat) : Int) := by omega
      have hmj2 : IntKind.i64.wrap ((c : Int) - 1) = ((c - 1 : Nat) : Int) := by rw [IntWalk.i64_in _ (by omega)]; omega
      have hjl := HWL.out (c - 1) (by omega)
      have HWJ := Lib.hid (HWK.out (c - 1) (by omega) (by omega))
      clear HWK HWL HWI HN HK
      generalize Within k (c - 1) = r2 at *
      have hj0 : (1 : Int) + (r2 : Int) = ((1 + r2 : Nat) : Int) := by omega
      have hj1 : IntKind.i64.wrap ((1 : Int) + (r2 : Int)) = ((1 + r2 : Nat) : Int) := by rw [IntWalk.i64_in _ (by omega)]; omega
      obtain ⟨j, hj⟩ : ∃ j, 1 + r2 = j := ⟨_, rfl⟩
      rw [hj] at hj0 hj1
      have hj2 : 1 ≤ j := by omega
      have hj3 : j < c := by omega
      have hok := end_ok c hm3 j hj3 hm2 hj2
      unfold endOK at hok
      simp only [Bool.and_eq_true, decide_eq_true_eq] at hok
      obtain ⟨⟨⟨⟨⟨⟨⟨⟨⟨⟨⟨⟨⟨⟨⟨⟨⟨⟨o1, o2⟩, o3⟩, o4⟩, o5⟩, o6⟩, o7⟩, o8⟩, o9⟩, o10⟩, o11⟩, o12⟩, o13⟩, o14⟩, o15⟩, o16⟩, o17⟩, o18⟩, o19⟩ := hok
      have hlen : 0 < (ring c).length := by
        rcases Nat.eq_zero_or_pos (ring c).length with q | q
        · rw [List.eq_nil_of_length_eq_zero q] at o1; cases o1
        · exact q
      have HTR : Hid (DocB w1 wr B (ring c) → Calls Try.prog 34 #[.pointer (some ⟨B, 0, none⟩), .int .i64 0] wr (fun e w' => ∃ p l q, e = .returned (.slice p l q) ∧ RQ w1 wr w' B (ring c) (.slice p l q) (treeR c))) := by
        refine Lib.hid fun h => (dtreeP _ B _ wr 60 60 0 [1] (rowR c) (endsR c) h.doc (fun _ k => k.2) o1 o2 (by omega) o19).mono ?_
        rintro e w' ⟨v, rfl, hn, hb⟩
        obtain ⟨p, l, q, rfl⟩ := hn.slice
        exact ⟨p, l, q, rfl, h.doc.below hb, hn, h.below.trans (hb.mono h.below.size), hb.size, h.below.size⟩
      have HTR2 : Hid (∀ W tv, RQ w1 wr W B (ring c) tv (treeR c) → Calls Try.prog 34 #[.pointer (some ⟨B, 0, none⟩), .int .i64 0] W (fun e w' => ∃ p l q, e = .returned (.slice p l q) ∧ NodesP (fun _ => True) w' (.slice p l q) (treeR c) ∧ RQ w1 wr w' B (ring c) tv (treeR c))) := by
        refine Lib.hid fun W tv h => (dtreeP _ B _ W 60 60 0 [1] (rowR c) (endsR c) h.doc (fun _ k => Nat.lt_of_lt_of_le k.2 h.size) o1 o2 (by omega) o19).mono ?_
        rintro e w' ⟨v, rfl, hn, hb⟩
        obtain ⟨p, l, q, rfl⟩ := hn.slice
        exact ⟨p, l, q, rfl, hn.mono (fun _ _ _ => trivial), h.on hb⟩
      have HP1 : Hid (∀ W tv, RQ w1 wr W B (ring c) tv (treeR c) → Calls Try.prog 33 #[.pointer (some ⟨B, 0, none⟩), .int .i64 (j : Int), .int .i64 (c : Int), .int .i64 (-1)] W (fun e w' => e = .returned (.bool false) ∧ RQ w1 wr w' B (ring c) tv (treeR c))) := by
        refine Lib.hid fun W tv h => (dputP _ B _ W 60 (j : Int) (c : Int) (-1) false h.doc hlen o4).mono fun e w' k => ?_
        have := h.ties k
        rw [o5] at this
        exact this
      have HP2 : Hid (∀ W tv, RQ w1 wr W B (cutR c j) tv (treeR c) → Calls Try.prog 33 #[.pointer (some ⟨B, 0, none⟩), .int .i64 (j : Int), .int .i64 (c : Int), .int .i64 (-1)] W (fun e w' => e = .returned (.bool false) ∧ RQ w1 wr w' B (cutR c j) tv (treeR c))) := by
        refine Lib.hid fun W tv h => (dputP _ B _ W 60 (j : Int) (c : Int) (-1) true h.doc o8 o9).mono fun e w' k => ?_
        have := h.ties k
        rw [o10] at this
        exact this
      have HP3 : Hid (∀ W tv, RQ w1 wr W B (cutR c j) tv (treeR c) → Calls Try.prog 33 #[.pointer (some ⟨B, 0, none⟩), .int .i64 (j : Int), .int .i64 (j : Int), .int .i64 (-1)] W (fun e w' => e = .returned (.bool false) ∧ RQ w1 wr w' B (cutR c j) tv (treeR c))) := by
        refine Lib.hid fun W tv h => (dputP _ B _ W 60 (j : Int) (j : Int) (-1) true h.doc o8 o11).mono fun e w' k => ?_
        have := h.ties k
        rw [o12] at this
        exact this
      have HP4 : Hid (∀ W tv, RQ w1 wr W B (cutR c j) tv (treeR c) → Calls Try.prog 33 #[.pointer (some ⟨B, 0, none⟩), .int .i64 (j : Int), .int .i64 ((j : Int) - 1), .int .i64 (-1)] W (fun e w' => e = .returned (.bool true) ∧ RQ w1 wr w' B (ring c) tv (treeR c))) := by
        refine Lib.hid fun W tv h => (dputP _ B _ W 60 (j : Int) ((j : Int) - 1) (-1) false h.doc o8 o15).mono fun e w' k => ?_
        have := h.ties k
        rw [o16] at this
        exact this
      have HT1 : Hid (∀ W tv, RQ w1 wr W B (ring c) tv (treeR c) → Calls Try.prog 41 #[.pointer (some ⟨B, 0, none⟩), .int .i64 (j : Int)] W (fun e w' => e = .returned (.bool true) ∧ RQ w1 wr w' B (cutR c j) tv (treeR c))) := by
        refine Lib.hid fun W tv h => (dtakeP _ B _ W (j : Int) h.doc hlen (.inr o6)).mono fun e w' k => ?_
        have := h.ties k
        rw [o7] at this
        exact this
      have HT2 : Hid (∀ W tv, RQ w1 wr W B (cutR c j) tv (treeR c) → Calls Try.prog 41 #[.pointer (some ⟨B, 0, none⟩), .int .i64 (j : Int)] W (fun e w' => e = .returned (.bool false) ∧ RQ w1 wr w' B (cutR c j) tv (treeR c))) := by
        refine Lib.hid fun W tv h => (dtakeP _ B _ W (j : Int) h.doc o8 (.inl o13)).mono fun e w' k => ?_
        have := h.ties k
        rw [o14] at this
        exact this
      have HUP : Hid (∀ W tv, RQ w1 wr W B (cutR c j) tv (treeR c) → Calls Try.prog 40 #[.pointer (some ⟨B, 0, none⟩), .int .i64 (j : Int)] W (Gives (.int .i64 (-1)) W)) := by
        refine Lib.hid fun W tv h => ?_
        obtain ⟨p, cap, hr⟩ := h.doc.reads
        have := dupP _ B W p cap (j : Int) hr
        rwa [o13] at this
      have HSM : Hid (∀ W v1 v2, NodesP (fun _ => True) W v1 (treeR c) → NodesP (fun b => wr.heap.size ≤ b) W v2 (treeR c) → Calls Try.prog 24 #[v1, v2] W (Brings (.bool true) W)) := Lib.hid fun W v1 v2 h1 h2 => by
        have := rsameP (treeR c) (treeR c) _ _ v1 v2 W (by omega) h1 h2
        rwa [Fo.same_refl] at this
      have HDP : Hid (∀ W v1, NodesP (fun _ => True) W v1 (treeR c) → Calls Try.prog 21 #[v1] W (Brings (.int .i64 (c : Int)) W)) := Lib.hid fun W v1 h1 => by
        have := ddeepP (treeR c) _ v1 W (by omega) h1
        rwa [o17] at this
      have hjm1 : (j : Int) - 1 = ((j - 1 : Nat) : Int) := by omega
      have hjm2 : IntKind.i64.wrap ((j : Int) - 1) = ((j - 1 : Nat) : Int) := by rw [IntWalk.i64_in _ (by omega)]; omega
      rw [hjm1] at HP4
      clear o1 o2 o3 o4 o5 o6 o7 o8 o9 o10 o11 o12 o13 o14 o15 o16 o17 o18 o19 hlen hj
      go_wp2_with fail
      refine (HWJ.out _).mono ?_
      rintro e w4 ⟨rfl, rfl⟩
      go_wp2_with fail
      refine (HTR.out HD.out).mono ?_
      rintro e w5 ⟨p, l, q, rfl, h5⟩
      have H5 := Lib.hid h5
      clear h5
      go_wp2_with fail
      refine (HP1.out w5 _ H5.out).mono ?_
      rintro e w6 ⟨rfl, h6⟩
      have H6 := Lib.hid h6
      clear h6
      go_wp2_with fail
      refine (HT1.out w6 _ H6.out).mono ?_
      rintro e w7 ⟨rfl, h7⟩
      have H7 := Lib.hid h7
      clear h7
      go_wp2_with fail
      refine (HP2.out w7 _ H7.out).mono ?_
      rintro e w8 ⟨rfl, h8⟩
      have H8 := Lib.hid h8
      clear h8
      go_wp2_with fail
      refine (HP3.out w8 _ H8.out).mono ?_
      rintro e w9 ⟨rfl, h9⟩
      have H9 := Lib.hid h9
      clear h9
      go_wp2_with fail
      refine (HUP.out w9 _ H9.out).mono ?_
      rintro e w10 ⟨rfl, rfl⟩
      go_wp2_with fail
      refine (HT2.out w9 _ H9.out).mono ?_
      rintro e w11 ⟨rfl, h11⟩
      have H11 := Lib.hid h11
      clear h11
      go_wp2_with fail
      refine (HP4.out w11 _ H11.out).mono ?_
      rintro e w12 ⟨rfl, h12⟩
      have H12 := Lib.hid h12
      clear h12
      go_wp2_with fail
      refine (HTR2.out w12 _ H12.out).mono ?_
      rintro e w13 ⟨p3, l3, q3, rfl, hn13, h13⟩
      have HS13 := Lib.hid (HSM.out w13 _ _ hn13 h13.tree)
      have H13 := Lib.hid h13
      clear h13 hn13
      go_wp2_with fail
      refine HS13.out.mono ?_
      rintro e w14 ⟨rfl, b14⟩
      have H14 := Lib.hid (H13.out.on b14)
      clear b14
      go_wp2_with fail
      refine (HTR2.out w14 _ H14.out).mono ?_
      rintro e w15 ⟨p4, l4, q4, rfl, hn15, h15⟩
      have HD15 := Lib.hid (HDP.out w15 _ hn15)
      have H15 := Lib.hid h15
      clear h15 hn15
      go_wp2_with fail
      refine HD15.out.mono ?_
      rintro e w16 ⟨rfl, b16⟩
      have H16 := Lib.hid (H15.out.on b16)
      clear b16
      go_wp2_with fail
      go_ret
      exact ⟨by simp [go_sem], B1.out.trans (H16.out.below.mono B1.out.size)⟩
end Go.Proofs.Yteikhlonccacbaa
