/-
  The walk of SiteRows. Any numbers.
-/
import Derived.Test.YtmhjfbdldpehdaaSWM
import Derived.Deep.CutBlock
import Derived.Deep.DeepCutAuto
namespace Go.Proofs.Ytmhjfbdldpehdaa
open Go.RowKit

def made8 (c : Nat) : List PN := elemPN 1 [] [] :: List.replicate c (elemPN 1 [120] [])
theorem made8_next (c : Nat) : made8 c ++ [elemPN 1 [120] []] = made8 (c + 1) := by
  unfold made8
  rw [List.cons_append, ← List.replicate_succ']
theorem made8_len (c : Nat) : (made8 c).length = c + 1 := by simp [made8]
theorem numsAt {R : List EL} {b g : Nat} {W : World} (h : numsRow R b g R.length W) {j : Nat} (hj : j < R.length) : W.cell? ⟨g, j, none⟩ = some (.int .i64 R[j].n) := by
  have h2 : W.cell? ⟨g, j, none⟩ = (numsTo R R.length)[j]? := World.ownsRow.cellAt h j (by omega)
  rw [h2]
  unfold numsTo
  rw [List.getElem?_append_left (by simp; omega)]
  simp [hj]
theorem RowsI.below0 {w w0 W : World} {v : Value} {n A B i : Nat} (h : RowsI w w0 W v n A B i) (b1 : Below w.heap.size w w0) : Below w.heap.size w W := by
  obtain ⟨R, T, q, _, _⟩ := h
  exact b1.trans (q.below.mono b1.size)
set_option maxHeartbeats 8000000 in
set_option maxRecDepth 100000 in
theorem siteRows_walk (v : Value) (n : Nat) (w : World) (hv : IntsIn w v n) : Calls Try.prog 9 #[v] w (Yes w) := by
  obtain ⟨pv, cv, rfl⟩ : ∃ p cap, v = .slice p n cap := by
    rcases hv with ⟨p, cap, hv, h0⟩ | ⟨g, off, cap, hv, _⟩
    · exact ⟨p, cap, by rw [hv, h0]⟩
    · exact ⟨_, cap, hv⟩
  have HK := Lib.hid (known8_yes w)
  have HV := Lib.hid hv
  clear hv
  go_enter Try.func9, Try.ntmps9
  go_wp2_with fail
  refine HK.out.mono ?_
  rintro e w1 ⟨rfl, b1⟩
  have B1 := Lib.hid b1
  clear b1
  have HN : Hid (Calls Try.prog 48 #[] w1 (fun e w' => ∃ B, e = .returned (.pointer (some ⟨B, 0, none⟩)) ∧ SiteB w1 w' B [elemPN 1 [] []] [] [elRoot] false 1)) := Lib.hid (bNew8 w1)
  go_wp2_with fail
  refine HN.out.mono ?_
  rintro e w2 ⟨B, rfl, hs2⟩
  obtain ⟨D0, _, hd0, _, _⟩ := bDoc hs2
  have HD0 := Lib.hid hd0
  have HS2 := Lib.hid hs2
  clear hd0 hs2
  go_wp2_with fail
  refine HD0.out.mono ?_
  rintro e w3 ⟨rfl, rfl⟩
  have H3 : Hid (RowsQ w w1 (w2.alloc (.cells #[.slice pv n cv, .int .i64 0] 79)) (.slice pv n cv) n w2.heap.size B (made8 0) [elRoot] 1) := by
    have hs := HS2.out
    have hz := B1.out.size
    have hz2 := hs.below.size
    have hb : Below w2.heap.size w2 (w2.alloc (.cells #[.slice pv n cv, .int .i64 0] 79)) := (Below.refl _ _).alloc (Nat.le_refl _) _
    have h02 : Below w.heap.size w w2 := B1.out.trans (hs.below.mono hz)
    have ht := TapeAt.made w2 (.slice pv n cv) n 79 (HV.out.below h02)
    refine Lib.hid ⟨⟨_, hs.k.on hb, ⟨⟨HV.out, by omega, ht.row, ht.at_, ht.free, h02.trans (hb.mono (by omega))⟩, fun k => by have := k.2; omega, by simp⟩⟩, hz, hz2⟩
  go_wp2_with fail
  generalize w2.alloc _ = wA at *
  generalize w2.heap.size = A at *
  clear HD0 HS2 HN HK
  go_loopw [5] (fun i wr => ∃ c : Nat, c ≤ 6 ∧ i = .int .i64 (c : Int) ∧ RowsQ w w1 wr (.slice pv n cv) n A B (made8 c) [elRoot] 1) (fun i _ => 6 - (intOf i).toNat)
  case atStart => exact ⟨0, by omega, rfl, H3.out⟩
  case round =>
    obtain ⟨c, hc, rfl, hq⟩ := hrel
    obtain ⟨D, hd, he, hno⟩ := qDoc hq (by rw [made8_len]; omega)
    have HD := Lib.hid hd
    have HE := Lib.hid (he [120])
    rw [made8_next] at HE
    have HNO := Lib.hid (hno [110] (by simp))
    have HQ := Lib.hid hq
    clear hd he hno hq
    by_cases hlt : c < 6
    · go_wp2_with fail
      refine HD.out.mono ?_
      rintro e w4 ⟨rfl, rfl⟩
      go_wp2_with fail
      refine HE.out.mono ?_
      rintro e w5 ⟨rfl, h5⟩
      have H5 := Lib.hid h5
      clear h5
      go_wp2_with fail
      exact ⟨⟨c + 1, by omega, by go_num, H5.out⟩, by simp [intOf]; omega⟩
    · have hc6 : c = 6 := by omega
      subst hc6
      go_wp2_with fail
      refine HD.out.mono ?_
      rintro e w4 ⟨rfl, rfl⟩
      go_wp2_with fail
      rw [made8_len] at HNO
      refine HNO.out.mono ?_
      rintro e w5 ⟨rfl, h5⟩
      have H5 : Hid (RowsI w w1 w5 (.slice pv n cv) n A B 0) := Lib.hid ⟨_, _, h5, RowOk.start, by omega⟩
      clear h5 HQ HE HNO HD
      go_wp2_with fail
      go_loopw [7] (fun i wr => ∃ c : Nat, c ≤ 40 ∧ i = .int .i64 (c : Int) ∧ RowsI w w1 wr (.slice pv n cv) n A B c) (fun i _ => 40 - (intOf i).toNat)
      case atStart => exact ⟨0, by omega, rfl, H5.out⟩
      case round =>
        obtain ⟨c, hc, rfl, hq⟩ := hrel
        have HBL : Hid (Below w.heap.size w wr) := Lib.hid (by
          obtain ⟨R, T, q, _, _⟩ := hq
          exact B1.out.trans (q.below.mono B1.out.size))
        by_cases hlt : c < 40
        · have HM := Lib.hid (iMore hq)
          clear hq
          go_wp2_with fail
          refine HM.out.mono ?_
          rintro e w6 ⟨b, rfl, h6⟩
          cases b
          · have HB6 := Lib.hid (h6.below0 B1.out)
            clear h6 HBL
            go_wp2_with fail
            go_ret
            exact ⟨rfl, HB6.out⟩
          · have HX1 := Lib.hid (iNext h6 9 (by omega) (by omega))
            clear h6 HBL
            go_wp2_with fail
            refine HX1.out.mono ?_
            rintro e w7 ⟨a, ha, rfl, h7⟩
            have HX2 := Lib.hid (iNext h7 9 (by omega) (by omega))
            clear h7
            go_wp2_with fail
            refine HX2.out.mono ?_
            rintro e w8 ⟨b, hb, rfl, h8⟩
            have HX3 := Lib.hid (iNext h8 6 (by omega) (by omega))
            clear h8
            go_wp2_with fail
            refine HX3.out.mono ?_
            rintro e w9 ⟨r, hr, rfl, h9⟩
            have H9 := Lib.hid h9
            clear h9
            go_upto_block 4 with fail
            go_cut [] (fun wx => RowsI w w1 wx (.slice pv n cv) n A B (c + 1))
            case first =>
              have HR : r = 0 ∨ r = 1 ∨ r = 2 ∨ r = 3 ∨ r = 4 ∨ r = 5 := by omega
              rcases HR with rfl | rfl | rfl | rfl | rfl | rfl
              · have HC := Lib.hid (iPop H9.out (by omega))
                clear H9
                as_aux_lemma =>
                  go_wp2_with fail
                  refine HC.out.mono ?_
                  rintro e w10 ⟨b10, rfl, h10⟩
                  have H10 := Lib.hid h10
                  clear h10 HC
                  go_wp2_with fail
                  go_meet
                  exact H10.out
              · have HC := Lib.hid (iPut H9.out (by omega) b a (by omega))
                clear H9
                as_aux_lemma =>
                  go_wp2_with fail
                  refine HC.out.mono ?_
                  rintro e w10 ⟨b10, rfl, h10⟩
                  have H10 := Lib.hid h10
                  clear h10 HC
                  go_wp2_with fail
                  go_meet
                  exact H10.out
              · have HC := Lib.hid (iSwap H9.out (by omega) a b (by omega) (by omega))
                clear H9
                as_aux_lemma =>
                  go_wp2_with fail
                  refine HC.out.mono ?_
                  rintro e w10 ⟨b10, rfl, h10⟩
                  have H10 := Lib.hid h10
                  clear h10 HC
                  go_wp2_with fail
                  go_meet
                  exact H10.out
              · have HC := Lib.hid (iDrop H9.out (by omega) a (by omega))
                clear H9
                as_aux_lemma =>
                  go_wp2_with fail
                  refine HC.out.mono ?_
                  rintro e w10 ⟨b10, rfl, h10⟩
                  have H10 := Lib.hid h10
                  clear h10 HC
                  go_wp2_with fail
                  go_meet
                  exact H10.out
              · have HC := Lib.hid (iPush H9.out (by omega) a (by omega))
                clear H9
                as_aux_lemma =>
                  go_wp2_with fail
                  refine HC.out.mono ?_
                  rintro e w10 ⟨b10, rfl, h10⟩
                  have H10 := Lib.hid h10
                  clear h10 HC
                  go_wp2_with fail
                  go_meet
                  exact H10.out
              · have HC := Lib.hid (iPush H9.out (by omega) a (by omega))
                clear H9
                as_aux_lemma =>
                  go_wp2_with fail
                  refine HC.out.mono ?_
                  rintro e w10 ⟨b10, rfl, h10⟩
                  have H10 := Lib.hid h10
                  clear h10 HC
                  go_wp2_with fail
                  go_meet
                  exact H10.out
            case rest =>
              clear H9
              have H10 := Lib.hid hcut
              clear hcut
              generalize wc = w10 at *
              as_aux_lemma =>
                obtain ⟨R, ok, hop, htop⟩ := iOpen H10.out (by omega)
                have HOP := Lib.hid hop
                have OK := Lib.hid ok
                have HTP := Lib.hid htop
                clear hop ok htop
                go_wp2_with fail
                refine HOP.out.mono ?_
                rintro e w11 ⟨rfl, hrow, hb⟩
                have H11 := Lib.hid (H10.out.on hb)
                have HROW := Lib.hid hrow
                have hpos := OK.out.pos
                have hlen := OK.out.len
                have z0 := numsAt hrow hpos
                have zl := numsAt hrow (j := R.length - 1) (by omega)
                have hr0 : R[0].n = 0 := by
                  have := OK.out.head
                  rw [List.getElem?_eq_getElem hpos] at this
                  injection this with this
                  rw [this]; rfl
                rw [hr0] at z0
                have HTOP : Hid (∀ W, Below w11.heap.size w11 W → Calls Try.prog 71 #[.pointer (some ⟨B, 0, none⟩)] W (Brings (.int .i64 (lastE R).n) W)) := Lib.hid fun W h => HTP.out W (hb.trans (h.mono hb.size))
                rw [lastE_at hpos] at HTOP
                have hglt := (hrow.lt w10.heap.size rfl).2
                obtain ⟨z, hz⟩ : ∃ z, R[R.length - 1].n = z := ⟨_, rfl⟩
                rw [hz] at zl HTOP
                obtain ⟨k1, hk1⟩ : ∃ k1, R.length - 1 = k1 := ⟨_, rfl⟩
                rw [hk1] at zl
                have hk2 : R.length = k1 + 1 := by omega
                have hkb : k1 ≤ 50 := by omega
                have HNUM : Hid (∀ W, Below w11.heap.size w11 W → ∀ j (hj : j < R.length), W.cell? ⟨w10.heap.size, j, none⟩ = some (.int .i64 R[j].n)) := Lib.hid fun W h j hj => (h.cell hglt).trans (numsAt hrow hj)
                have HK2 := Lib.hid hk2
                clear hz hr0 hb HTP HOP H10 hrow hlen hpos
                generalize hG : w10.heap.size = G at *
                clear hG
                have HS0 : Hid (∀ W, W = w11.drew → (fun W => W.cell? ⟨G, 0, none⟩ = some (.int .i64 0) ∧ W.cell? ⟨G, k1, none⟩ = some (.int .i64 z) ∧ Below w11.heap.size w11 W) W) := Lib.hid fun W e => by
                  subst e
                  exact ⟨z0, zl, (Below.refl _ _).drew⟩
                have HSB : Hid (∀ W W', (fun W => W.cell? ⟨G, 0, none⟩ = some (.int .i64 0) ∧ W.cell? ⟨G, k1, none⟩ = some (.int .i64 z) ∧ Below w11.heap.size w11 W) W → Below W.heap.size W W' → (fun W => W.cell? ⟨G, 0, none⟩ = some (.int .i64 0) ∧ W.cell? ⟨G, k1, none⟩ = some (.int .i64 z) ∧ Below w11.heap.size w11 W) W') := Lib.hid fun W W' hs hb => by
                  obtain ⟨q0, q1, q2⟩ := hs
                  have hl := cell_lt q0
                  exact ⟨(hb.cell hl).trans q0, (hb.cell hl).trans q1, q2.trans (hb.mono q2.size)⟩
                have p0 : ((k1 + 1 : Nat) : Int) - 1 = (k1 : Int) := by omega
                have p1 : (0 : Int) ≤ (k1 : Int) := by omega
                have p2 : (k1 : Int) < ((k1 + 1 : Nat) : Int) := by omega
                have p5 : (k1 : Int) < (k1 : Int) + 1 := by omega
                have p3 : IntKind.i64.wrap (k1 : Int) = (k1 : Int) := by rw [IntWalk.i64_in _ (by have := OK.out.len; omega)]
                have p4 : IntKind.i64.wrap (((k1 + 1 : Nat) : Int) - 1) = (k1 : Int) := by rw [p0, p3]
                rw [hk2] at HROW ⊢
                clear z0 zl
                go_wp2_with fail
                go_cut [95] (fun c wx => c = .bool false ∧ Below w11.heap.size w11 wx)
                case first =>
                  as_aux_lemma =>
                    refine wp_region_held_drew (S := (fun W => W.cell? ⟨G, 0, none⟩ = some (.int .i64 0) ∧ W.cell? ⟨G, k1, none⟩ = some (.int .i64 z) ∧ Below w11.heap.size w11 W)) (by kernel_rfl) (by exact HS0.out _ rfl) (fun hHeld => ?_)
                    generalize w11.drew = w11d at *
                    refine wpAnyH_take (i := 0) (oi := { dst := some 76, op := Op.move (Operand.tmp 10), type := 32, pos := "more.go:131", after := #[], guard := none }) (v := ?_) rfl (by kernel_rfl) (by kernel_rfl) (by kernel_rfl) (fun _ _ _ h => h) (Or.inl ⟨by rfl, ?_⟩) (by assumption) ?_
                    rotate_left
                    focus (intro w hSw; (try dsimp only at hSw); go_simp; (try with_reducible rfl))
                    try simp only [Act.put, List.setIfInBounds_toArray, List.set_cons_zero, List.set_cons_succ]
                    refine wpAnyH_take (i := 1) (oi := { dst := some 77, op := Op.call { callee := Callee.builtin Builtin.len, args := #[Operand.tmp 76], argTypes := #[ 32 ] }, type := 3, pos := "more.go:131", after := #[{ on := 0, ground := Ground.data }], guard := none }) (v := ?_) rfl (by kernel_rfl) (by kernel_rfl) (by kernel_rfl) (fun _ _ _ h => h) (Or.inl ⟨by rfl, ?_⟩) (by assumption) ?_
                    rotate_left
                    focus (intro w hSw; (try dsimp only at hSw); go_simp; (try with_reducible rfl))
                    try simp only [Act.put, List.setIfInBounds_toArray, List.set_cons_zero, List.set_cons_succ]
                    refine wpAnyH_take (i := 2) (oi := { dst := some 78, op := Op.binOp BinOp.eql 3 (Operand.tmp 77) (Operand.const (Value.int IntKind.i64 0)) 3, type := 4, pos := "more.go:131", after := #[{ on := 1, ground := Ground.data }], guard := none }) (v := ?_) rfl (by kernel_rfl) (by kernel_rfl) (by kernel_rfl) (fun _ _ _ h => h) (Or.inl ⟨by rfl, ?_⟩) (by assumption) ?_
                    rotate_left
                    focus (intro w hSw; (try dsimp only at hSw); go_simp; (try with_reducible rfl))
                    try simp only [Act.put, List.setIfInBounds_toArray, List.set_cons_zero, List.set_cons_succ]
                    refine wpAnyH_take (i := 3) (oi := { dst := some 79, op := Op.move (Operand.tmp 78), type := 4, pos := "more.go:131", after := #[{ on := 2, ground := Ground.data }], guard := none }) (v := ?_) rfl (by kernel_rfl) (by kernel_rfl) (by kernel_rfl) (fun _ _ _ h => h) (Or.inl ⟨by rfl, ?_⟩) (by assumption) ?_
                    rotate_left
                    focus (intro w hSw; (try dsimp only at hSw); go_simp; (try with_reducible rfl))
                    try simp only [Act.put, List.setIfInBounds_toArray, List.set_cons_zero, List.set_cons_succ]
                    refine wpAnyH_take (i := 4) (oi := { dst := some 80, op := Op.move (Operand.tmp 10), type := 32, pos := "more.go:131", after := #[{ on := 3, ground := Ground.guard }], guard := some (3, false) }) (v := ?_) rfl (by kernel_rfl) (by kernel_rfl) (by kernel_rfl) (fun _ _ _ h => h) (Or.inl ⟨by rfl, ?_⟩) (by assumption) ?_
                    rotate_left
                    focus (intro w hSw; (try dsimp only at hSw); go_simp; (try with_reducible rfl))
                    try simp only [Act.put, List.setIfInBounds_toArray, List.set_cons_zero, List.set_cons_succ]
                    refine wpAnyH_take (i := 5) (oi := { dst := some 81, op := Op.indexAddr 32 (Operand.tmp 80) (Operand.const (Value.int IntKind.i64 0)), type := 0, pos := "more.go:131", after := #[{ on := 4, ground := Ground.data }, { on := 3, ground := Ground.guard }], guard := some (3, false) }) (v := ?_) rfl (by kernel_rfl) (by kernel_rfl) (by kernel_rfl) (fun _ _ _ h => h) (Or.inl ⟨by rfl, ?_⟩) (by assumption) ?_
                    rotate_left
                    focus (intro w hSw; (try dsimp only at hSw); go_simp; (try with_reducible rfl))
                    try simp only [Act.put, List.setIfInBounds_toArray, List.set_cons_zero, List.set_cons_succ]
                    refine wpAnyH_take (i := 6) (oi := { dst := some 82, op := Op.load 3 (Operand.tmp 81), type := 3, pos := "more.go:131", after := #[{ on := 5, ground := Ground.data }, { on := 3, ground := Ground.guard }], guard := some (3, false) }) (v := ?_) rfl (by kernel_rfl) (by kernel_rfl) (by kernel_rfl) (fun _ _ _ h => h) (Or.inl ⟨by rfl, ?_⟩) (by assumption) ?_
                    rotate_left
                    focus (intro w hSw; (try dsimp only at hSw); go_simp; (try with_reducible rfl))
                    try simp only [Act.put, List.setIfInBounds_toArray, List.set_cons_zero, List.set_cons_succ]
                    refine wpAnyH_take (i := 7) (oi := { dst := some 83, op := Op.binOp BinOp.neq 3 (Operand.tmp 82) (Operand.const (Value.int IntKind.i64 0)) 3, type := 4, pos := "more.go:131", after := #[{ on := 6, ground := Ground.data }, { on := 3, ground := Ground.guard }], guard := some (3, false) }) (v := ?_) rfl (by kernel_rfl) (by kernel_rfl) (by kernel_rfl) (fun _ _ _ h => h) (Or.inl ⟨by rfl, ?_⟩) (by assumption) ?_
                    rotate_left
                    focus (intro w hSw; (try dsimp only at hSw); go_simp; (try with_reducible rfl))
                    try simp only [Act.put, List.setIfInBounds_toArray, List.set_cons_zero, List.set_cons_succ]
                    refine wpAnyH_take (i := 8) (oi := { dst := some 84, op := Op.pick (Operand.tmp 79) (Operand.const (Value.bool true)) (Operand.tmp 83), type := 4, pos := "more.go:131", after := #[{ on := 3, ground := Ground.data }, { on := 7, ground := Ground.data }], guard := none }) (v := ?_) rfl (by kernel_rfl) (by kernel_rfl) (by kernel_rfl) (fun _ _ _ h => h) (Or.inl ⟨by rfl, ?_⟩) (by assumption) ?_
                    rotate_left
                    focus (intro w hSw; (try dsimp only at hSw); go_simp; (try with_reducible rfl))
                    try simp only [Act.put, List.setIfInBounds_toArray, List.set_cons_zero, List.set_cons_succ]
                    refine wpAnyH_take (i := 9) (oi := { dst := some 85, op := Op.move (Operand.tmp 84), type := 4, pos := "more.go:131", after := #[{ on := 8, ground := Ground.data }, { on := 3, ground := Ground.chain }], guard := none }) (v := ?_) rfl (by kernel_rfl) (by kernel_rfl) (by kernel_rfl) (fun _ _ _ h => h) (Or.inl ⟨by rfl, ?_⟩) (by assumption) ?_
                    rotate_left
                    focus (intro w hSw; (try dsimp only at hSw); go_simp; (try with_reducible rfl))
                    try simp only [Act.put, List.setIfInBounds_toArray, List.set_cons_zero, List.set_cons_succ]
                    refine wpAnyH_take (i := 10) (oi := { dst := some 86, op := Op.move (Operand.tmp 3), type := 73, pos := "more.go:131", after := #[{ on := 9, ground := Ground.guard }], guard := some (9, false) }) (v := ?_) rfl (by kernel_rfl) (by kernel_rfl) (by kernel_rfl) (fun _ _ _ h => h) (Or.inl ⟨by rfl, ?_⟩) (by assumption) ?_
                    rotate_left
                    focus (intro w hSw; (try dsimp only at hSw); go_simp; (try with_reducible rfl))
                    try simp only [Act.put, List.setIfInBounds_toArray, List.set_cons_zero, List.set_cons_succ]
                    refine wpAnyH_take (i := 12) (oi := { dst := some 88, op := Op.move (Operand.tmp 10), type := 32, pos := "more.go:131", after := #[{ on := 9, ground := Ground.guard }], guard := some (9, false) }) (v := ?_) rfl (by kernel_rfl) (by kernel_rfl) (by kernel_rfl) (fun _ _ _ h => h) (Or.inl ⟨by rfl, ?_⟩) (by assumption) ?_
                    rotate_left
                    focus (intro w hSw; (try dsimp only at hSw); go_simp; (try with_reducible rfl))
                    try simp only [Act.put, List.setIfInBounds_toArray, List.set_cons_zero, List.set_cons_succ]
                    refine wpAnyH_take (i := 13) (oi := { dst := some 89, op := Op.move (Operand.tmp 10), type := 32, pos := "more.go:131", after := #[{ on := 9, ground := Ground.guard }], guard := some (9, false) }) (v := ?_) rfl (by kernel_rfl) (by kernel_rfl) (by kernel_rfl) (fun _ _ _ h => h) (Or.inl ⟨by rfl, ?_⟩) (by assumption) ?_
                    rotate_left
                    focus (intro w hSw; (try dsimp only at hSw); go_simp; (try with_reducible rfl))
                    try simp only [Act.put, List.setIfInBounds_toArray, List.set_cons_zero, List.set_cons_succ]
                    refine wpAnyH_take (i := 14) (oi := { dst := some 90, op := Op.call { callee := Callee.builtin Builtin.len, args := #[Operand.tmp 89], argTypes := #[ 32 ] }, type := 3, pos := "more.go:131", after := #[{ on := 13, ground := Ground.data }, { on := 9, ground := Ground.guard }], guard := some (9, false) }) (v := ?_) rfl (by kernel_rfl) (by kernel_rfl) (by kernel_rfl) (fun _ _ _ h => h) (Or.inl ⟨by rfl, ?_⟩) (by assumption) ?_
                    rotate_left
                    focus (intro w hSw; (try dsimp only at hSw); go_simp; (try with_reducible rfl))
                    try simp only [Act.put, List.setIfInBounds_toArray, List.set_cons_zero, List.set_cons_succ]
                    refine wpAnyH_take (i := 15) (oi := { dst := some 91, op := Op.binOp BinOp.sub 3 (Operand.tmp 90) (Operand.const (Value.int IntKind.i64 1)) 3, type := 3, pos := "more.go:131", after := #[{ on := 14, ground := Ground.data }, { on := 9, ground := Ground.guard }], guard := some (9, false) }) (v := ?_) rfl (by kernel_rfl) (by kernel_rfl) (by kernel_rfl) (fun _ _ _ h => h) (Or.inl ⟨by rfl, ?_⟩) (by assumption) ?_
                    rotate_left
                    focus (intro w hSw; (try dsimp only at hSw); go_simp; (try with_reducible rfl))
                    try simp only [Act.put, List.setIfInBounds_toArray, List.set_cons_zero, List.set_cons_succ]
                    refine wpAnyH_take (i := 16) (oi := { dst := some 92, op := Op.indexAddr 32 (Operand.tmp 88) (Operand.tmp 91), type := 0, pos := "more.go:131", after := #[{ on := 12, ground := Ground.data }, { on := 15, ground := Ground.data }, { on := 9, ground := Ground.guard }], guard := some (9, false) }) (v := ?_) rfl (by kernel_rfl) (by kernel_rfl) (by kernel_rfl) (fun _ _ _ h => h) (Or.inl ⟨by rfl, ?_⟩) (by assumption) ?_
                    rotate_left
                    focus (intro w hSw; (try dsimp only at hSw); go_simp; (try with_reducible rfl))
                    try simp only [Act.put, List.setIfInBounds_toArray, List.set_cons_zero, List.set_cons_succ]
                    refine wpAnyH_take (i := 17) (oi := { dst := some 93, op := Op.load 3 (Operand.tmp 92), type := 3, pos := "more.go:131", after := #[{ on := 16, ground := Ground.data }, { on := 9, ground := Ground.guard }], guard := some (9, false) }) (v := ?_) rfl (by kernel_rfl) (by kernel_rfl) (by kernel_rfl) (fun _ _ _ h => h) (Or.inl ⟨by rfl, ?_⟩) (by assumption) ?_
                    rotate_left
                    focus (intro w hSw; (try dsimp only at hSw); go_simp; (try with_reducible rfl))
                    try simp only [Act.put, List.setIfInBounds_toArray, List.set_cons_zero, List.set_cons_succ]
                    refine wpAnyH_ready (rs := [11]) (by kernel_rfl) (by simp) ?_
                    refine AllReadyH.cons (o := { dst := some 87, op := Op.call { callee := Callee.value (Operand.func 71), args := #[Operand.tmp 86], argTypes := #[ 73 ] }, type := 3, pos := "more.go:131", after := #[{ on := 10, ground := Ground.data }, { on := 9, ground := Ground.chain }, { on := 9, ground := Ground.guard }], guard := some (9, false) }) rfl (fun K hK => ?_) AllReadyH.nil
                    go_simp
                    refine (HTOP.out _ hHeld.2.2).mono ?_
                    rintro e w12 ⟨rfl, hb12⟩
                    have hS12 := HSB.out _ _ hHeld hb12
                    go_wp2_with fail
                    refine hK.out _ _ (by exact hS12) (fun hHeld => ?_)
                    clear hK K
                    try simp only [Act.put, List.setIfInBounds_toArray, List.set_cons_zero, List.set_cons_succ]
                    refine wpAnyH_take (i := 18) (oi := { dst := some 94, op := Op.binOp BinOp.neq 3 (Operand.tmp 87) (Operand.tmp 93) 3, type := 4, pos := "more.go:131", after := #[{ on := 11, ground := Ground.data }, { on := 17, ground := Ground.data }, { on := 9, ground := Ground.guard }], guard := some (9, false) }) (v := ?_) rfl (by kernel_rfl) (by kernel_rfl) (by kernel_rfl) (fun _ _ _ h => h) (Or.inl ⟨by rfl, ?_⟩) (by assumption) ?_
                    rotate_left
                    focus (intro w hSw; (try dsimp only at hSw); go_simp; (try with_reducible rfl))
                    try simp only [Act.put, List.setIfInBounds_toArray, List.set_cons_zero, List.set_cons_succ]
                    refine wpAnyH_take (i := 19) (oi := { dst := some 95, op := Op.pick (Operand.tmp 85) (Operand.const (Value.bool true)) (Operand.tmp 94), type := 4, pos := "more.go:131", after := #[{ on := 9, ground := Ground.data }, { on := 18, ground := Ground.data }], guard := none }) (v := ?_) rfl (by kernel_rfl) (by kernel_rfl) (by kernel_rfl) (fun _ _ _ h => h) (Or.inl ⟨by rfl, ?_⟩) (by assumption) ?_
                    rotate_left
                    focus (intro w hSw; (try dsimp only at hSw); go_simp; (try with_reducible rfl))
                    try simp only [Act.put, List.setIfInBounds_toArray, List.set_cons_zero, List.set_cons_succ]
                    refine wpAnyH_done (by kernel_rfl) ?_ _
                    go_wp2_with fail
                    go_meet
                    exact ⟨rfl, hHeld.2.2⟩
                case rest =>
                  obtain ⟨rfl, hW12⟩ := hcut
                  have HW12 := Lib.hid hW12
                  clear hW12 HS0 HSB HTOP
                  as_aux_lemma =>
                    go_wp2_with fail
                    go_loopw [11] (fun i wq => ∃ k : Nat, 1 ≤ k ∧ k ≤ k1 + 1 ∧ i = .int .i64 (k : Int) ∧ Below w11.heap.size w11 wq) (fun i _ => k1 + 1 - (intOf i).toNat)
                    case atStart => exact ⟨1, by omega, by omega, rfl, HW12.out⟩
                    case round =>
                      obtain ⟨k, hk0, hk, rfl, hbq⟩ := hrel
                      have HBQ := Lib.hid hbq
                      clear hbq
                      by_cases hlk : k < k1 + 1
                      · have hkR : k < R.length := by rw [hk2]; exact hlk
                        have hn := OK.out.at_ (by omega) hkR
                        have ck := HNUM.out _ HBQ.out k hkR
                        have HNE : Hid (∀ j (hj : j < k), (R[j].n == R[k].n) = false) := Lib.hid fun j hj => by have := OK.out.ne hj hkR; simpa using this
                        obtain ⟨nk, hnk⟩ : ∃ nk, R[k].n = nk := ⟨_, rfl⟩
                        rw [hnk] at hn ck HNE
                        have s0 : ¬ nk ≤ 0 := by omega
                        have s1 : ¬ 7 ≤ nk := by omega
                        have s2 : (0 : Int) < nk := by omega
                        have s3 : nk < 7 := by omega
                        have s4 : (0 : Int) ≤ (k : Int) := by omega
                        have s5 : (k : Int) < (k1 : Int) + 1 := by omega
                        have hgq : G < wr.heap.size := cell_lt ck
                        clear hn
                        go_wp2_with fail
                        go_loopw [12] (fun i wq => ∃ j : Nat, j ≤ k ∧ i = .int .i64 (j : Int) ∧ Below w11.heap.size w11 wq) (fun i _ => k - (intOf i).toNat)
                        case atStart => exact ⟨0, by omega, rfl, HBQ.out⟩
                        case round =>
                          obtain ⟨j, hj, rfl, hbr⟩ := hrel
                          have HBR := Lib.hid hbr
                          clear hbr ck
                          by_cases hlj : j < k
                          · have hjR : j < R.length := by omega
                            have cj := HNUM.out _ HBR.out j hjR
                            have ck := HNUM.out _ HBR.out k hkR
                            have hne := HNE.out j hlj
                            rw [hnk] at ck
                            obtain ⟨nj, hnj⟩ : ∃ nj, R[j].n = nj := ⟨_, rfl⟩
                            rw [hnj] at cj hne
                            have t4 : (0 : Int) ≤ (j : Int) := by omega
                            have t5 : (j : Int) < (k1 : Int) + 1 := by omega
                            have hBD := Lib.hid (HBR.out.drew)
                            clear hnj
                            go_wp2_with fail
                            go_still (by kernel_rfl)
                            go_wp2_with fail
                            exact ⟨⟨j + 1, by omega, by go_num, hBD.out⟩, by simp [intOf]; omega⟩
                          · have hjk : j = k := by omega
                            subst hjk
                            go_wp2_with fail
                            refine ⟨?_, ?_⟩
                            · repeat refine Exists.intro undef ?_
                              exact ⟨j + 1, by omega, by omega, by go_num, HBR.out⟩
                            · simp [intOf]; omega
                      · have hkk : k = k1 + 1 := by omega
                        subst hkk
                        go_wp2_with fail
                        exact ⟨⟨c + 1, by omega, by go_num, H11.out.on HBQ.out⟩, by simp [intOf]; omega⟩
        · have HQ := Lib.hid hq
          clear hq
          go_wp2_with fail
          go_ret
          exact ⟨rfl, HBL.out⟩
end Go.Proofs.Ytmhjfbdldpehdaa
