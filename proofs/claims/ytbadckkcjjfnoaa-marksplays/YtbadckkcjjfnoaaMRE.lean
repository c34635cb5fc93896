/-
  The walk of the laws' own same: the program's Marks and the reference's are alike. Any marks, not too many.
-/
import Derived.Test.YtbadckkcjjfnoaaMRD
namespace Go.Proofs.Ytbadckkcjjfnoaa
open Go.RowKit

def atY (S : List MK) (i : Int) : MK := if mHas S i = true then S.getD i.toNat mZero else mZero
theorem AtM.plain {S : List MK} {i : Int} {w w' : World} {e : Ending} (h : AtM S i w e w') : ∃ va, e = .returned (.tuple #[.agg #[.int .i64 (atY S i).node, .string ⟨(atY S i).name.toArray⟩, va], .bool (mHas S i)]) ∧ AttrsP (fun _ => True) w' va (atY S i).attrs ∧ Below w.heap.size w w' := by
  obtain ⟨h, hb⟩ := h
  unfold atY
  rcases h with ⟨c, rfl⟩ | ⟨c, p, q, rfl, ha⟩
  · rw [c]
    exact ⟨.slice none 0 0, rfl, AttrsP.nil _ _ _ _, hb⟩
  · rw [c]
    exact ⟨_, rfl, ha.mono fun _ _ _ => trivial, hb⟩
theorem AtR.plain {P : Nat → Prop} {S : List MK} {i : Int} {w w' : World} {e : Ending} (h : AtR P S i w e w') : ∃ va, e = .returned (.tuple #[.agg #[.int .i64 (atY S i).node, .string ⟨(atY S i).name.toArray⟩, va], .bool (mHas S i)]) ∧ AttrsP (fun _ => True) w' va (atY S i).attrs ∧ Below w.heap.size w w' := by
  obtain ⟨h, hb⟩ := h
  unfold atY
  rcases h with ⟨c, rfl⟩ | ⟨c, p, q, rfl, ha⟩
  · rw [c]
    exact ⟨.slice none 0 0, rfl, AttrsP.nil _ _ _ _, hb⟩
  · rw [c]
    exact ⟨_, rfl, ha.mono fun _ _ _ => trivial, hb⟩
theorem atY_len {S : List MK} (hf : ∀ y ∈ S, y.fits) (i : Int) : (atY S i).attrs.length ≤ 4294967296 := by
  unfold atY
  split
  · rename_i c
    have hc : 0 ≤ i ∧ i < S.length := by unfold mHas at c; simpa using c
    rw [show S.getD i.toNat mZero = S[i.toNat]'(by omega) from getD_at (by omega)]
    exact Nat.le_trans (hf _ (List.getElem_mem _)).1 (by decide)
  · exact Nat.zero_le _
theorem AttrsP.slice {P : Nat → Prop} {w : World} {v : Value} {l : List (List UInt8 × List UInt8)} (h : AttrsP P w v l) : ∃ p n c, v = .slice p n c := by
  obtain ⟨p, c, e, _⟩ := h
  exact ⟨_, _, _, e⟩
theorem one_same {w : World} {Y : MK} {va vb : Value} {P Q : Nat → Prop} (ha : AttrsP P w va Y.attrs) (hb : AttrsP Q w vb Y.attrs) (hl : Y.attrs.length ≤ 4294967296) :
    Calls Try.prog 96 #[.slice (some ⟨w.heap.size, 0, none⟩) 1 1, .slice (some ⟨w.heap.size + 1, 0, none⟩) 1 1] ((w.alloc (.cells #[.int .i64 Y.node, .string ⟨Y.name.toArray⟩, va] 63)).alloc (.cells #[.int .i64 Y.node, .string ⟨Y.name.toArray⟩, vb] 63)) (fun e w' => e = .returned (.bool true) ∧ Below w.heap.size w w') := by
  have b1 : Below w.heap.size w (w.alloc (.cells #[.int .i64 Y.node, .string ⟨Y.name.toArray⟩, va] 63)) := (Below.refl _ _).alloc (Nat.le_refl _) _
  have x1 := heap_alloc_new w (.cells #[.int .i64 Y.node, .string ⟨Y.name.toArray⟩, va] 63)
  have z1 : (w.alloc (.cells #[.int .i64 Y.node, .string ⟨Y.name.toArray⟩, va] 63)).heap.size = w.heap.size + 1 := by simp
  generalize w.alloc (.cells #[.int .i64 Y.node, .string ⟨Y.name.toArray⟩, va] 63) = w1 at *
  have b2 : Below w1.heap.size w1 (w1.alloc (.cells #[.int .i64 Y.node, .string ⟨Y.name.toArray⟩, vb] 63)) := (Below.refl _ _).alloc (Nat.le_refl _) _
  have x2 := heap_alloc_new w1 (.cells #[.int .i64 Y.node, .string ⟨Y.name.toArray⟩, vb] 63)
  rw [← z1]
  generalize w1.alloc (.cells #[.int .i64 Y.node, .string ⟨Y.name.toArray⟩, vb] 63) = w2 at *
  have x12 := (b2.block _ (heap_lt x1)).trans x1
  have b12 := b1.trans (b2.mono b1.size)
  have hs := rsameM _ _ _ _ _ _ w2 (RowP.one (x := Y) x12 (ha.kept (.of_below b12))) (RowP.one (x := Y) x2 (hb.kept (.of_below b12))) (by simp) (fun q hq => by rw [List.mem_singleton.1 hq]; exact hl)
  refine hs.mono ?_
  rintro e w' ⟨rfl, b⟩
  exact ⟨by simp, b12.trans (b.mono b12.size)⟩
set_option maxHeartbeats 2000000 in
set_option maxRecDepth 100000 in
theorem same7P {w0 W : World} {M P : Nat → Prop} {B R : Nat} {S : List MK} (h : MarkB w0 W M B S) (hr : RefM P W R S) (hs : S.length ≤ 1000) (hsg : Sign S) : Calls Try.prog 40 #[.pointer (some ⟨B, 0, none⟩), .pointer (some ⟨R, 0, none⟩)] W (Brings (.bool true) W) := by
  have H := Lib.hid h
  have HR := Lib.hid hr
  have HSG := Lib.hid hsg
  have HLM := Lib.hid (mkB_len h)
  have HLR : Hid (∀ W', Below W.heap.size W W' → Calls Try.prog 27 #[.pointer (some ⟨R, 0, none⟩)] W' (Gives (.int .i64 (S.length : Int)) W')) := Lib.hid fun W' b => rlenP S R P W' (hr.below b)
  have HLR0 := Lib.hid (HLR.out W (Below.refl _ _))
  obtain ⟨v, qs, hqs, hq⟩ := hr
  have c0 := hq.cell
  have hRlt := hq.lt
  have HQ := Lib.hid hq
  have HQS := Lib.hid hqs
  have HFT : Hid (∀ q ∈ S, q.attrs.length ≤ 4294967296) := Lib.hid fun y hy => Nat.le_trans (h.fit y hy).1 (by decide)
  clear h hsg hq hqs
  go_enter Try.func40, Try.ntmps40
  go_upto_region 1 with fail
  refine wp_region_held_drew (S := (fun w' => w'.cell? ⟨R, 0, none⟩ = some v ∧ Below W.heap.size W w')) (by kernel_rfl) (by exact ⟨((Below.refl _ W).drew.cell (p := ⟨R, 0, none⟩) hRlt).trans c0, (Below.refl _ _).drew⟩) (fun hHeld => ?_)
  refine wpAnyH_take (i := 0) (oi := { dst := some 11, op := Op.move (Operand.tmp 0), type := 54, pos := "law.go:61", after := #[], guard := none }) (v := ?_) rfl (by kernel_rfl) (by kernel_rfl) (by kernel_rfl) (fun _ _ _ h => h) (Or.inl ⟨by rfl, ?_⟩) (by assumption) ?_
  rotate_left
  focus (intro w hSw; (try dsimp only at hSw); go_simp; (try with_reducible rfl))
  try simp only [Act.put, List.setIfInBounds_toArray, List.set_cons_zero, List.set_cons_succ]
  refine wpAnyH_take (i := 2) (oi := { dst := some 13, op := Op.move (Operand.tmp 1), type := 56, pos := "law.go:61", after := #[], guard := none }) (v := ?_) rfl (by kernel_rfl) (by kernel_rfl) (by kernel_rfl) (fun _ _ _ h => h) (Or.inl ⟨by rfl, ?_⟩) (by assumption) ?_
  rotate_left
  focus (intro w hSw; (try dsimp only at hSw); go_simp; (try with_reducible rfl))
  try simp only [Act.put, List.setIfInBounds_toArray, List.set_cons_zero, List.set_cons_succ]
  refine wpAnyH_ready (rs := [1]) (by kernel_rfl) (by simp) ?_
  refine AllReadyH.cons (o := { dst := some 12, op := Op.call { callee := Callee.value (Operand.func 85), args := #[Operand.tmp 11], argTypes := #[ 54 ] }, type := 3, pos := "law.go:61", after := #[{ on := 0, ground := Ground.data }], guard := none }) rfl (fun K hK => ?_) AllReadyH.nil
  go_simp
  refine ((mkB_len (H.out.on hHeld.2))).mono ?_; rintro e w2 ⟨rfl, rfl⟩
  go_wp2_with fail
  refine hK.out _ _ (by exact hHeld) (fun hHeld => ?_)
  clear hK K
  try simp only [Act.put, List.setIfInBounds_toArray, List.set_cons_zero, List.set_cons_succ]
  refine wpAnyH_ready (rs := [3]) (by kernel_rfl) (by simp) ?_
  refine AllReadyH.cons (o := { dst := some 14, op := Op.call { callee := Callee.value (Operand.func 27), args := #[Operand.tmp 13], argTypes := #[ 56 ] }, type := 3, pos := "law.go:61", after := #[{ on := 2, ground := Ground.data }, { on := 1, ground := Ground.chain }], guard := none }) rfl (fun K hK => ?_) AllReadyH.nil
  go_simp
  refine (HLR.out _ hHeld.2).mono ?_; rintro e w3 ⟨rfl, rfl⟩
  go_wp2_with fail
  refine hK.out _ _ (by exact hHeld) (fun hHeld => ?_)
  clear hK K
  try simp only [Act.put, List.setIfInBounds_toArray, List.set_cons_zero, List.set_cons_succ]
  refine wpAnyH_take (i := 4) (oi := { dst := some 15, op := Op.binOp BinOp.neq 3 (Operand.tmp 12) (Operand.tmp 14) 3, type := 4, pos := "law.go:61", after := #[{ on := 1, ground := Ground.data }, { on := 3, ground := Ground.data }], guard := none }) (v := ?_) rfl (by kernel_rfl) (by kernel_rfl) (by kernel_rfl) (fun _ _ _ h => h) (Or.inl ⟨by rfl, ?_⟩) (by assumption) ?_
  rotate_left
  focus (intro w hSw; (try dsimp only at hSw); go_simp; (try with_reducible rfl))
  try simp only [Act.put, List.setIfInBounds_toArray, List.set_cons_zero, List.set_cons_succ]
  refine wpAnyH_take (i := 5) (oi := { dst := some 16, op := Op.move (Operand.tmp 15), type := 4, pos := "law.go:61", after := #[{ on := 4, ground := Ground.data }, { on := 3, ground := Ground.chain }], guard := none }) (v := ?_) rfl (by kernel_rfl) (by kernel_rfl) (by kernel_rfl) (fun _ _ _ h => h) (Or.inl ⟨by rfl, ?_⟩) (by assumption) ?_
  rotate_left
  focus (intro w hSw; (try dsimp only at hSw); go_simp; (try with_reducible rfl))
  try simp only [Act.put, List.setIfInBounds_toArray, List.set_cons_zero, List.set_cons_succ]
  refine wpAnyH_take (i := 6) (oi := { dst := some 17, op := Op.move (Operand.tmp 0), type := 54, pos := "law.go:61", after := #[{ on := 5, ground := Ground.guard }], guard := some (5, false) }) (v := ?_) rfl (by kernel_rfl) (by kernel_rfl) (by kernel_rfl) (fun _ _ _ h => h) (Or.inl ⟨by rfl, ?_⟩) (by assumption) ?_
  rotate_left
  focus (intro w hSw; (try dsimp only at hSw); go_simp; (try with_reducible rfl))
  try simp only [Act.put, List.setIfInBounds_toArray, List.set_cons_zero, List.set_cons_succ]
  refine wpAnyH_take (i := 8) (oi := { dst := some 19, op := Op.move (Operand.tmp 1), type := 56, pos := "law.go:61", after := #[{ on := 5, ground := Ground.guard }], guard := some (5, false) }) (v := ?_) rfl (by kernel_rfl) (by kernel_rfl) (by kernel_rfl) (fun _ _ _ h => h) (Or.inl ⟨by rfl, ?_⟩) (by assumption) ?_
  rotate_left
  focus (intro w hSw; (try dsimp only at hSw); go_simp; (try with_reducible rfl))
  try simp only [Act.put, List.setIfInBounds_toArray, List.set_cons_zero, List.set_cons_succ]
  refine wpAnyH_take (i := 9) (oi := { dst := some 20, op := Op.nilCheck (Operand.tmp 19), type := 0, pos := "law.go:61", after := #[{ on := 8, ground := Ground.data }, { on := 5, ground := Ground.guard }], guard := some (5, false) }) (v := ?_) rfl (by kernel_rfl) (by kernel_rfl) (by kernel_rfl) (fun _ _ _ h => h) (Or.inl ⟨by rfl, ?_⟩) (by assumption) ?_
  rotate_left
  focus (intro w hSw; (try dsimp only at hSw); go_simp; (try with_reducible rfl))
  try simp only [Act.put, List.setIfInBounds_toArray, List.set_cons_zero, List.set_cons_succ]
  refine wpAnyH_take (i := 10) (oi := { dst := some 21, op := Op.fieldAddr 106 (Operand.tmp 20) 0, type := 0, pos := "law.go:61", after := #[{ on := 9, ground := Ground.data }, { on := 5, ground := Ground.guard }], guard := some (5, false) }) (v := ?_) rfl (by kernel_rfl) (by kernel_rfl) (by kernel_rfl) (fun _ _ _ h => h) (Or.inl ⟨by rfl, ?_⟩) (by assumption) ?_
  rotate_left
  focus (intro w hSw; (try dsimp only at hSw); go_simp; (try with_reducible rfl))
  try simp only [Act.put, List.setIfInBounds_toArray, List.set_cons_zero, List.set_cons_succ]
  refine wpAnyH_take (i := 11) (oi := { dst := some 22, op := Op.load 102 (Operand.tmp 21), type := 102, pos := "law.go:61", after := #[{ on := 10, ground := Ground.data }, { on := 5, ground := Ground.guard }], guard := some (5, false) }) (v := ?_) rfl (by kernel_rfl) (by kernel_rfl) (by kernel_rfl) (fun _ _ _ h => h) (Or.inl ⟨by rfl, ?_⟩) (by assumption) ?_
  rotate_left
  focus (intro w hSw; (try dsimp only at hSw); go_simp; (try with_reducible rfl))
  try simp only [Act.put, List.setIfInBounds_toArray, List.set_cons_zero, List.set_cons_succ]
  refine wpAnyH_ready (rs := [7]) (by kernel_rfl) (by simp) ?_
  refine AllReadyH.cons (o := { dst := some 18, op := Op.call { callee := Callee.value (Operand.func 97), args := #[Operand.tmp 17], argTypes := #[ 54 ] }, type := 102, pos := "law.go:61", after := #[{ on := 6, ground := Ground.data }, { on := 5, ground := Ground.chain }, { on := 5, ground := Ground.guard }], guard := some (5, false) }) rfl (fun K hK => ?_) AllReadyH.nil
  go_simp
  refine (mkB_all (H.out.on hHeld.2) (by omega)).mono ?_; rintro e w4 ⟨va, ra, rfl, hm4, hr4, hb4, _, _⟩; have hb4 := hHeld.2.trans (hb4.mono hHeld.2.size)
  go_wp2_with fail
  refine hK.out _ _ (by exact ⟨(hb4.cell (p := ⟨R, 0, none⟩) hRlt).trans c0, hb4⟩) (fun hHeld => ?_)
  clear hK K
  try simp only [Act.put, List.setIfInBounds_toArray, List.set_cons_zero, List.set_cons_succ]
  refine wpAnyH_ready (rs := [12]) (by kernel_rfl) (by simp) ?_
  refine AllReadyH.cons (o := { dst := some 23, op := Op.call { callee := Callee.value (Operand.func 96), args := #[Operand.tmp 18, Operand.tmp 22], argTypes := #[ 102, 102 ] }, type := 4, pos := "law.go:61", after := #[{ on := 7, ground := Ground.data }, { on := 11, ground := Ground.data }, { on := 7, ground := Ground.chain }, { on := 5, ground := Ground.guard }], guard := some (5, false) }) rfl (fun K hK => ?_) AllReadyH.nil
  go_simp
  refine ((show Calls Try.prog _ _ _ (Brings (.bool true) _) by have hs := rsameM _ _ _ _ _ _ _ hr4 (HQ.out.below hHeld.2).row (by rw [← List.length_map (f := (·.1)), hm4]; omega) (fun q hq => HFT.out q.1 (by rw [← hm4]; exact List.mem_map_of_mem hq)); rw [decide_eq_true (by rw [hm4, HQS.out])] at hs; exact hs)).mono ?_; rintro e w5 ⟨rfl, b5⟩; have hb5 := hHeld.2.trans (b5.mono hHeld.2.size)
  go_wp2_with fail
  refine hK.out _ _ (by exact ⟨(hb5.cell (p := ⟨R, 0, none⟩) hRlt).trans c0, hb5⟩) (fun hHeld => ?_)
  clear hK K
  try simp only [Act.put, List.setIfInBounds_toArray, List.set_cons_zero, List.set_cons_succ]
  refine wpAnyH_take (i := 13) (oi := { dst := some 24, op := Op.unOp UnOp.not 4 (Operand.tmp 23), type := 4, pos := "law.go:61", after := #[{ on := 12, ground := Ground.data }, { on := 5, ground := Ground.guard }], guard := some (5, false) }) (v := ?_) rfl (by kernel_rfl) (by kernel_rfl) (by kernel_rfl) (fun _ _ _ h => h) (Or.inl ⟨by rfl, ?_⟩) (by assumption) ?_
  rotate_left
  focus (intro w hSw; (try dsimp only at hSw); go_simp; (try with_reducible rfl))
  try simp only [Act.put, List.setIfInBounds_toArray, List.set_cons_zero, List.set_cons_succ]
  refine wpAnyH_take (i := 14) (oi := { dst := some 25, op := Op.pick (Operand.tmp 16) (Operand.const (Value.bool true)) (Operand.tmp 24), type := 4, pos := "law.go:61", after := #[{ on := 5, ground := Ground.data }, { on := 13, ground := Ground.data }], guard := none }) (v := ?_) rfl (by kernel_rfl) (by kernel_rfl) (by kernel_rfl) (fun _ _ _ h => h) (Or.inl ⟨by rfl, ?_⟩) (by assumption) ?_
  rotate_left
  focus (intro w hSw; (try dsimp only at hSw); go_simp; (try with_reducible rfl))
  try simp only [Act.put, List.setIfInBounds_toArray, List.set_cons_zero, List.set_cons_succ]
  refine wpAnyH_done (by kernel_rfl) ?_ _
  have HB1 := Lib.hid hHeld.2
  clear hHeld
  go_wp2_with fail
  go_loopw [5] (fun iv wr => ∃ k : Nat, k ≤ S.length + 2 ∧ iv = .int .i64 ((k : Int) - 1) ∧ Below W.heap.size W wr) (fun iv _ => S.length + 2 - (intOf iv + 1).toNat)
  case atStart => exact ⟨0, by omega, rfl, HB1.out⟩
  case round =>
    obtain ⟨k, hk, rfl, hbw⟩ := hrel
    have HBW := Lib.hid hbw
    have hrc := (hbw.cell (p := ⟨R, 0, none⟩) hRlt).trans c0
    have HLW := Lib.hid (HLR.out _ hbw)
    clear hbw
    by_cases c : k < S.length + 2
    · have j0 : (k : Int) - 1 ≤ (S.length : Int) := by omega
      have HAM := Lib.hid (matP S B M wr ((k : Int) - 1) (H.out.on HBW.out).marks (by omega) HFT.out)
      go_wp2_with fail
      refine HLW.out.mono ?_
      rintro e w2 ⟨rfl, rfl⟩
      go_wp2_with fail
      refine HAM.out.mono ?_
      intro e w3 hA
      obtain ⟨va, rfl, ha, b3⟩ := hA.plain
      obtain ⟨pa, la, ca, rfl⟩ := AttrsP.slice ha
      have HA := Lib.hid ha
      have HB3 := Lib.hid (HBW.out.trans (b3.mono HBW.out.size))
      have HYL := Lib.hid (atY_len H.out.fit ((k : Int) - 1))
      obtain ⟨Y, hY⟩ : ∃ Y, Y = atY S ((k : Int) - 1) := ⟨_, rfl⟩
      have HRA : Hid (∀ W', Below W.heap.size W W' → Calls Try.prog 99 #[.pointer (some ⟨R, 0, none⟩), .int .i64 ((k : Int) - 1)] W' (AtR P S ((k : Int) - 1) W')) := Lib.hid fun W' b => ratP S R P W' _ (HR.out.below b) (by omega)
      rw [← hY] at HA HYL ⊢
      have HYY := Lib.hid hY
      clear hA ha b3 hY HAM HLW hrc
      obtain ⟨N0, hN0⟩ : ∃ N0, N0 = Y.node := ⟨_, rfl⟩
      obtain ⟨NM, hNM⟩ : ∃ NM : ByteArray, NM = ⟨Y.name.toArray⟩ := ⟨_, rfl⟩
      rw [← hN0, ← hNM]
      have HN := Lib.hid (And.intro hN0 hNM)
      clear hN0 hNM
      go_wp2_with fail
      obtain ⟨w4, hw4⟩ : ∃ w4, w4 = w3.alloc (.cells #[.int .i64 N0, .string NM, .slice pa la ca] 63) := ⟨_, rfl⟩
      have b4 : Below w3.heap.size w3 w4 := by rw [hw4]; exact (Below.refl _ _).alloc (Nat.le_refl _) _
      have x4 : w4.heap[w3.heap.size]? = some (.cells #[.int .i64 N0, .string NM, .slice pa la ca] 63 (0, 0)) := by rw [hw4]; exact heap_alloc_new w3 _
      rw [← hw4]
      have HA4 := Lib.hid (HA.out.kept (.of_below b4))
      have HB4 := Lib.hid (HB3.out.trans (b4.mono HB3.out.size))
      have HX4 := Lib.hid x4
      clear hw4 b4 x4 HA HB3
      generalize w3.heap.size = X at *
      refine (HRA.out _ HB4.out).mono ?_
      intro e w5 hA
      obtain ⟨vb, rfl, hb, b5⟩ := hA.plain
      obtain ⟨pb, lb, cb, rfl⟩ := AttrsP.slice hb
      rw [← HYY.out] at hb ⊢
      rw [← HN.out.1, ← HN.out.2]
      have HA5 := Lib.hid (HA4.out.kept (.of_below b5))
      have HC5 := Lib.hid hb
      have HB5 := Lib.hid (HB4.out.trans (b5.mono HB4.out.size))
      have x5 := (b5.block _ (heap_lt HX4.out)).trans HX4.out
      have HX5 := Lib.hid x5
      clear hA hb b5 HA4 HB4 HX4 HRA x5
      go_upto_region 8 with fail
      obtain ⟨w6, hw6⟩ : ∃ w6, w6 = w5.alloc (.cells #[.int .i64 N0, .string NM, .slice pb lb cb] 63) := ⟨_, rfl⟩
      have b6 : Below w5.heap.size w5 w6 := by rw [hw6]; exact (Below.refl _ _).alloc (Nat.le_refl _) _
      have y6 : w6.heap[w5.heap.size]? = some (.cells #[.int .i64 N0, .string NM, .slice pb lb cb] 63 (0, 0)) := by rw [hw6]; exact heap_alloc_new w5 _
      rw [← hw6]
      have HA6 := Lib.hid (HA5.out.kept (.of_below b6))
      have HC6 := Lib.hid (HC5.out.kept (.of_below b6))
      have HB6 := Lib.hid (HB5.out.trans (b6.mono HB5.out.size))
      have x6 := (b6.block _ (heap_lt HX5.out)).trans HX5.out
      have x60 := (block_cell x6 0).1
      have x61 := (block_cell x6 1).1
      have x62 := (block_cell x6 2).1
      have y60 := (block_cell y6 0).1
      have y61 := (block_cell y6 1).1
      have y62 := (block_cell y6 2).1
      have xl := heap_lt x6
      have yl := heap_lt y6
      simp at x60 x61 x62 y60 y61 y62
      clear hw6 b6 y6 x6 HA5 HC5 HB5 HX5
      generalize w5.heap.size = Z at *
      have qh : (mHas S ((k : Int) - 1) != mHas S ((k : Int) - 1)) = false := by simp
      generalize mHas S ((k : Int) - 1) = has at *
      go_wp2_with fail
      have HS := Lib.hid (one_same HA6.out HC6.out HYL.out)
      rw [← HN.out.1, ← HN.out.2] at HS
      refine HS.out.mono ?_
      rintro e w9 ⟨rfl, b9⟩
      have HB9 := Lib.hid (HB6.out.trans (b9.mono HB6.out.size))
      clear b9 HS
      go_wp2_with fail
      exact ⟨⟨k + 1, by omega, by go_num, HB9.out⟩, by simp [intOf]; omega⟩
    · obtain rfl : k = S.length + 2 := by omega
      have j0 : ¬ ((S.length + 2 : Nat) : Int) - 1 ≤ (S.length : Int) := by omega
      go_wp2_with fail
      refine HLW.out.mono ?_
      rintro e w2 ⟨rfl, rfl⟩
      go_wp2_with fail
      go_loopw [10] (fun jv wr => ∃ j : Nat, j ≤ 5 ∧ jv = .int .i64 (j : Int) ∧ Below W.heap.size W wr) (fun jv _ => 5 - (intOf jv).toNat)
      case atStart => exact ⟨0, by omega, rfl, HBW.out⟩
      case round =>
        obtain ⟨j, hj, rfl, hbj⟩ := hrel
        have HBJ := Lib.hid hbj
        clear hbj
        by_cases cj : j < 5
        · have j1 : (j : Int) < 5 := by omega
          go_wp2_with fail
          refine (name7 _ _ (by omega) (by omega)).mono ?_
          rintro e w3 ⟨rfl, b3⟩
          have HB3 := Lib.hid (HBJ.out.trans (b3.mono HBJ.out.size))
          have HFM := Lib.hid (mkB_find (H.out.on HB3.out) (nm7 (Within (j : Int) 5)) (by omega))
          generalize hnn : nm7 (Within (j : Int) 5) = nn at *
          have HNN := Lib.hid hnn
          obtain ⟨NB, hNB⟩ : ∃ NB : ByteArray, NB = ⟨nn.toArray⟩ := ⟨_, rfl⟩
          have HNB := Lib.hid hNB
          rw [← hNB] at HFM ⊢
          clear b3 hnn hNB
          go_wp2_with fail
          refine HFM.out.mono ?_
          rintro e w4 ⟨rfl, rfl⟩
          clear HFM
          go_wp2_with fail
          refine (name7 _ _ (by omega) (by omega)).mono ?_
          rintro e w5 ⟨rfl, b5⟩
          have HB5 := Lib.hid (HB3.out.trans (b5.mono HB3.out.size))
          have HFR := Lib.hid (rfindP S R P w5 nn (HR.out.below HB5.out) (by omega) HSG.out)
          rw [HNN.out, ← HNB.out]
          rw [← HNB.out] at HFR
          clear b5
          go_wp2_with fail
          refine HFR.out.mono ?_
          rintro e w6 ⟨rfl, rfl⟩
          have qf : (mFind S nn S.length != mFind S nn S.length) = false := by simp
          generalize mFind S nn S.length = fnd at *
          clear HFR
          go_wp2_with fail
          exact ⟨⟨j + 1, by omega, by go_num, HB5.out⟩, by simp [intOf]; omega⟩
        · obtain rfl : j = 5 := by omega
          have j1 : ¬ ((5 : Nat) : Int) < 5 := by omega
          go_wp2_with fail
          go_ret
          exact ⟨rfl, HBJ.out⟩
end Go.Proofs.Ytbadckkcjjfnoaa
