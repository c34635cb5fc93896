/-
  The walk of what makes the reference's names: all. No argument.
-/
import Derived.Test.YtgelgfgcdfnacaaGreatDoorRTab
import Derived.IntWalk
namespace Go.Proofs.YtgelgfgcdfnacaaGreatDoor
open Go.RowKit
attribute [local go_sem ↓] Go.wp_at_zero Go.wp_at_succ

/-- A row of texts that a call owns, at a block. -/
def RowAt (w : World) (B g n cap : Nat) (ls : List (List UInt8)) : Prop := w.ownsRow B 9 1 (.slice (some ⟨g, 0, none⟩) n cap) n (ls.map strV)

theorem RowAt.new (w : World) (B : Nat) (ls : List (List UInt8)) (hB : B ≤ w.heap.size) (hn : ls.length ≤ maxLen) : RowAt (w.alloc (.cells (ls.map strV).toArray 9)) B w.heap.size ls.length ls.length ls :=
  ⟨by simp, .inr ⟨w.heap.size, ls.length, (ls.map strV).toArray, rfl, hB, heap_alloc_new w _, Nat.le_refl _, hn, by simp, by rw [List.toList_toArray, Nat.mul_one, List.take_of_length_le (by simp)]⟩⟩
theorem RowAt.alloc {w : World} {B g n cap : Nat} {ls : List (List UInt8)} (h : RowAt w B g n cap ls) (o : Obj) : RowAt (w.alloc o) B g n cap ls := World.ownsRow.alloc h o
theorem RowAt.drew {w : World} {B g n cap : Nat} {ls : List (List UInt8)} (h : RowAt w B g n cap ls) : RowAt w.drew B g n cap ls := h
theorem RowAt.kept {w w' : World} {B g n cap x : Nat} {ls : List (List UInt8)} (h : RowAt w B g n cap ls) (hg : w.grownBy w' (some x)) (hne : g ≠ x) : RowAt w' B g n cap ls := World.ownsRow.kept h hg (Or.inr (by simpa [Value.ownBlock] using hne))
theorem RowAt.lt {w : World} {B g n cap : Nat} {ls : List (List UInt8)} (h : RowAt w B g n cap ls) : B ≤ g ∧ g < w.heap.size := World.ownsRow.lt h g rfl

/-- A block that is known whole. -/
def BlkAt (w : World) (g : Nat) (cs : Array Value) : Prop := w.heap[g]? = some (.cells cs 9 (0, 0))
theorem BlkAt.new {w : World} {g : Nat} (cs : Array Value) (h : w.heap.size = g) : BlkAt (w.alloc (.cells cs 9)) g cs := by subst h; exact heap_alloc_new w _
theorem BlkAt.alloc {w : World} {g : Nat} {cs : Array Value} (h : BlkAt w g cs) (o : Obj) : BlkAt (w.alloc o) g cs := by
  unfold BlkAt
  rw [heap_alloc_old w o (Array.getElem?_eq_some_iff.1 h).1]
  exact h
theorem BlkAt.drew {w : World} {g : Nat} {cs : Array Value} (h : BlkAt w g cs) : BlkAt w.drew g cs := h
theorem BlkAt.kept {w w' : World} {g x : Nat} {cs : Array Value} (h : BlkAt w g cs) (hg : w.grownBy w' (some x)) (hne : g ≠ x) : BlkAt w' g cs := by
  unfold BlkAt
  rw [hg.block g (Array.getElem?_eq_some_iff.1 h).1 (by simpa using hne)]
  exact h

theorem short_step : ∀ k, k < 13 → Plain.names.take (2 + 2 * (k + 1)) = Plain.names.take (2 + 2 * k) ++ [(Plain.shortW.getD k [], Plain.enc (Plain.shortN.getD k 0)), (Plain.shortW.getD k [] ++ [59], Plain.enc (Plain.shortN.getD k 0))] := by decide
theorem long_step : ∀ k, k < 18 → Plain.names.take (28 + (k + 1)) = Plain.names.take (28 + k) ++ [(Plain.longW.getD k [] ++ [59], Plain.enc (Plain.longN.getD k 0))] := by decide
theorem short_facts : ∀ k, k < 13 → (Plain.shortW.getD k []).length ≤ 10 ∧ Plain.shortN.getD k 0 ≤ 9000 := by decide
theorem long_facts : ∀ k, k < 18 → (Plain.longW.getD k []).length ≤ 10 ∧ Plain.longN.getD k 0 ≤ 9000 := by decide

theorem far {W w' : World} {x b o : Nat} {v : Value} (hg : W.grownBy w' (some x)) (hc : W.cell? ⟨b, o, none⟩ = some v) (hne : b ≠ x) : w'.cell? ⟨b, o, none⟩ = some v := hg.cell hc (by simpa using hne)

theorem enc_val (N : Nat) (h : Plain.Valid N) : strV (Plain.enc N) = .string (Utf8.encode (N : Int)) := (str_of _ _ (Plain.enc_is N h)).symm

/-- What all tells: names and what they stand for. -/
def AllOut (w : World) (e : Ending) (w' : World) : Prop :=
  ∃ l v, e = .returned (.tuple #[l, v]) ∧ TextsAt w' l (Plain.names.map (·.1)) ∧ TextsAt w' v (Plain.names.map (·.2)) ∧ Below w.heap.size w w'

theorem getD_at {α : Type} (l : List α) (k : Nat) (d : α) (h : k < l.length) : l[k] = l.getD k d := by
  rw [List.getD_eq_getElem?_getD, List.getElem?_eq_getElem h]
  rfl

set_option maxHeartbeats 4000000 in
set_option maxRecDepth 100000 in
theorem all_any (w : World) : Calls Tryz.prog 80 #[] w (AllOut w) := by
  obtain ⟨i0, hi, hz0, hz1, hz2⟩ := info9
  have HI := Lib.hid (And.intro hi (And.intro hz0 (And.intro hz1 hz2)))
  clear hi hz0 hz1 hz2
  go_enter Tryz.func80, Tryz.ntmps80
  go_wp2_with fail
  refine (short_any w).mono ?_
  rintro e w1 ⟨a, n, rfl, ha, hn, hb1⟩
  go_wp2_with fail
  refine (long_any w1).mono ?_
  rintro e w2 ⟨b, m, rfl, hb, hm, hb2⟩
  have ha := ha.below hb2
  have hn := hn.below hb2
  have hb12 := hb1.trans (hb2.mono hb1.size)
  obtain ⟨pa, ca, va, _, hca⟩ := ha.slice
  obtain rfl : a = .slice pa 13 ca := va
  obtain ⟨gn, vn, hgn, hcn⟩ := hn
  obtain rfl : n = .slice (some ⟨gn, 0, none⟩) 13 13 := vn
  obtain ⟨pb, cb, vb, _, hcb⟩ := hb.slice
  obtain rfl : b = .slice pb 18 cb := vb
  obtain ⟨gm, vm, hgm, hcm⟩ := hm
  obtain rfl : m = .slice (some ⟨gm, 0, none⟩) 18 18 := vm
  have HCA := Lib.hid hca
  have HCN := Lib.hid hcn
  have HCB := Lib.hid hcb
  have HCM := Lib.hid hcm
  have HB := Lib.hid hb12
  clear ha hb hb1 hb2 hca hcn hcb hcm hb12
  go_wp2
  go_loopw [6, 7, 8] (fun l v i wr => ∃ k gl cl gv cv : Nat, k ≤ 13 ∧ i = .int .i64 (k : Int) ∧ l = .slice (some ⟨gl, 0, none⟩) (2 + 2 * k) cl ∧ v = .slice (some ⟨gv, 0, none⟩) (2 + 2 * k) cv ∧ gl ≠ gv ∧ RowAt wr w2.heap.size gl (2 + 2 * k) cl ((Plain.names.take (2 + 2 * k)).map (·.1)) ∧ RowAt wr w2.heap.size gv (2 + 2 * k) cv ((Plain.names.take (2 + 2 * k)).map (·.2)) ∧ Below w2.heap.size w2 wr) (fun _ _ i _ => 13 - (intOf i).toNat)
  case atStart =>
    refine ⟨0, w2.heap.size, 2, w2.heap.size + 1, 2, by omega, rfl, rfl, rfl, by omega, ?_, ?_, ((Below.refl _ w2).alloc (Nat.le_refl _) _).alloc (by simp) _⟩
    · exact (RowAt.new w2 w2.heap.size [[98, 110, 101, 59], [110, 118, 108, 116, 59]] (Nat.le_refl _) (by decide)).alloc _
    · have := RowAt.new (w2.alloc (.cells #[.string ⟨#[98, 110, 101, 59]⟩, .string ⟨#[110, 118, 108, 116, 59]⟩] 9)) w2.heap.size [[61, 226, 131, 165], [60, 226, 131, 146]] (by simp) (by decide)
      simp only [World.size_alloc] at this
      exact this
  case round =>
    obtain ⟨k, gl, cl, gv, cv, hk, rfl, rfl, rfl, hne, hL, hV, hbw⟩ := hrel
    by_cases hlt : k < 13
    · obtain ⟨ga, rfl, hga, hcak⟩ := HCA.out k hlt
      have hcnk := HCN.out k hlt
      have hcak := (hbw.cell (p := ⟨ga, k, none⟩) hga).trans hcak
      have hcnk := (hbw.cell (p := ⟨gn, k, none⟩) hgn).trans hcnk
      rw [getD_at Plain.shortW k [] hlt] at hcak
      rw [getD_at Plain.shortN k 0 hlt] at hcnk
      have hstep := short_step k hlt
      obtain ⟨hf1, hf2⟩ := short_facts k hlt
      generalize Plain.shortW.getD k [] = A at *
      generalize Plain.shortN.getD k 0 = N at *
      have HST := Lib.hid hstep
      have HL := Lib.hid hL
      have HV := Lib.hid hV
      have hl1 := hL.lt
      have hv1 := hV.lt
      have hbs := hbw.size
      clear hstep hL hV
      have k0 : (0 : Int) ≤ (k : Int) := by omega
      have k1 : (k : Int) < 13 := by omega
      have hsA : (⟨A.toArray⟩ : ByteArray).size ≤ 10 := by show A.toArray.size ≤ 10; rw [List.size_toArray]; exact hf1
      have hwr : IntKind.i32.wrap (N : Int) = (N : Int) := IntWalk.i32_in _ (by omega)
      have hadd : ∀ W, (Op.stringOp .add ⟨A.toArray⟩ ⟨#[59]⟩).run Tryz.prog W = .ok (.string (⟨A.toArray⟩ ++ ⟨#[59]⟩)) W := fun W => run_string_add_sum W _ _ (by show A.toArray.size + 1 ≤ _; rw [List.size_toArray]; omega)
      have nal : ga ≠ gl := by omega
      have nav : ga ≠ gv := by omega
      have nnl : gn ≠ gl := by omega
      have nnv : gn ≠ gv := by omega
      have za : ga < wr.heap.size := by omega
      have zn : gn < wr.heap.size := by omega
      clear hwr
      have hwr : IntKind.i32.wrap (N : Int) = (N : Int) := IntWalk.i32_in _ (by omega)
      go_wp2_with fail
      go_region_held3 (fun w' => w'.cell? ⟨ga, k, none⟩ = some (.string ⟨A.toArray⟩) ∧ w'.cell? ⟨gn, k, none⟩ = some (.int .i64 (N : Int)))
        (first
          | go_keep
          | (go_split_ands; exact ⟨far hgL (by assumption) nal, far hgL (by assumption) nnl⟩)
          | (go_split_ands; exact ⟨far hgV (by assumption) nav, far hgV (by assumption) nnv⟩)
          | fail)
        (first
          | (refine step_append_lies _ (by rfl) _ _ _ (by rfl) w2.heap.size 9 i0 (.string ByteArray.empty) 1 16 Tryz.underlying41 HI.out.1 HI.out.2.1 HI.out.2.2.1 HI.out.2.2.2 rfl (by omega) (.slice (some ⟨gl, 0, none⟩) (2 + 2 * k) cl) (2 + 2 * k) (((Plain.names.take (2 + 2 * k)).map (·.1)).map strV) (by rfl) ?_ ?_ 2 2 [.string ⟨A.toArray⟩, .string (⟨A.toArray⟩ ++ ⟨#[59]⟩)] ?_ (by rfl) ?_ (by simp [Value.oneCell']) (by omega) (by unfold maxLen; omega) (by omega) (by first | omega | (simp; omega)) _ rfl ?_
             rotate_left 2
             focus rfl
             focus (refine World.news_of_block (cs := #[.string ⟨A.toArray⟩, .string (⟨A.toArray⟩ ++ ⟨#[59]⟩)]) (t := 9) (fr := (0, 0)) ?_; show BlkAt _ _ _; repeat (first | ((with_reducible refine BlkAt.new _ ?_); simp; done) | with_reducible refine BlkAt.drew ?_ | with_reducible refine BlkAt.alloc ?_ _ | ((with_reducible refine BlkAt.kept ?_ hgV ?_); rotate_left; omega)))
             rotate_left
             focus (show RowAt _ w2.heap.size gl (2 + 2 * k) cl ((Plain.names.take (2 + 2 * k)).map (·.1)); repeat (first | with_reducible exact HL.out | with_reducible refine RowAt.drew ?_ | with_reducible refine RowAt.alloc ?_ _ | with_reducible refine RowAt.kept ?_ hgV hne))
             intro gl' cl' wl hoL hgL haL hlL
             replace hgL : World.grownBy _ wl (some gl) := hgL
             have hsL := hgL.size
             try simp at hsL)
          | (refine step_append_lies _ (by rfl) _ _ _ (by rfl) w2.heap.size 9 i0 (.string ByteArray.empty) 1 16 Tryz.underlying41 HI.out.1 HI.out.2.1 HI.out.2.2.1 HI.out.2.2.2 rfl (by omega) (.slice (some ⟨gv, 0, none⟩) (2 + 2 * k) cv) (2 + 2 * k) (((Plain.names.take (2 + 2 * k)).map (·.2)).map strV) (by rfl) ?_ ?_ 2 2 [.string (Utf8.encode (N : Int)), .string (Utf8.encode (N : Int))] ?_ (by rfl) ?_ (by simp [Value.oneCell']) (by omega) (by unfold maxLen; omega) (by omega) (by first | omega | (simp; omega)) _ rfl ?_
             rotate_left 2
             focus rfl
             focus (refine World.news_of_block (cs := #[.string (Utf8.encode (N : Int)), .string (Utf8.encode (N : Int))]) (t := 9) (fr := (0, 0)) ?_; show BlkAt _ _ _; repeat (first | ((with_reducible refine BlkAt.new _ ?_); simp; done) | with_reducible refine BlkAt.drew ?_ | with_reducible refine BlkAt.alloc ?_ _ | ((with_reducible refine BlkAt.kept ?_ hgL ?_); rotate_left; omega)))
             rotate_left
             focus (show RowAt _ w2.heap.size gv (2 + 2 * k) cv ((Plain.names.take (2 + 2 * k)).map (·.2)); repeat (first | with_reducible exact HV.out | with_reducible refine RowAt.drew ?_ | with_reducible refine RowAt.alloc ?_ _ | with_reducible refine RowAt.kept ?_ hgL (Ne.symm hne)))
             intro gv' cv' wv hoV hgV haV hlV
             replace hgV : World.grownBy _ wv (some gv) := hgV
             have hsV := hgV.size
             try simp at hsV)
          | fail)
      all_goals
        have haL' : gl = gl' ∨ wr.heap.size ≤ gl' := by
          rcases haL with h | h
          · exact Or.inl (by simpa [Value.ownBlock] using h)
          · refine Or.inr ?_
            rw [h]
            simp <;> omega
        have haV' : gv = gv' ∨ wl.heap.size ≤ gv' := by
          rcases haV with h | h
          · exact Or.inl (by simpa [Value.ownBlock] using h)
          · refine Or.inr ?_
            rw [h]
            simp
        have hne' : gl' ≠ gv' := by omega
        have hne2 : gl' ≠ gv := by omega
        have HOL : Hid (RowAt wv w2.heap.size gl' (2 + 2 * (k + 1)) cl' ((Plain.names.take (2 + 2 * (k + 1))).map (·.1))) := by
          rw [HST.out, show 2 + 2 * (k + 1) = 2 + 2 * k + 2 by omega, List.map_append]
          have h0 : RowAt wl w2.heap.size gl' (2 + 2 * k + 2) cl' (List.map (fun x => x.1) (Plain.names.take (2 + 2 * k)) ++ [A, A ++ [59]]) := by
            unfold RowAt
            rw [List.map_append]
            have e : List.map strV [A, A ++ [59]] = [.string ⟨A.toArray⟩, .string (⟨A.toArray⟩ ++ ⟨#[59]⟩)] := by
              simp only [List.map_cons, List.map_nil, strV]
              rw [show (⟨#[59]⟩ : ByteArray) = ⟨[59].toArray⟩ from rfl, str_append]
            rw [e]
            exact hoL
          refine Lib.hid ?_
          show RowAt wv w2.heap.size gl' (2 + 2 * k + 2) cl' (List.map (fun x => x.1) (Plain.names.take (2 + 2 * k)) ++ [A, A ++ [59]])
          repeat (first | with_reducible exact h0 | with_reducible refine RowAt.drew ?_ | with_reducible refine RowAt.alloc ?_ _ | with_reducible refine RowAt.kept ?_ hgV hne2)
        have HOV : Hid (RowAt wv w2.heap.size gv' (2 + 2 * (k + 1)) cv' ((Plain.names.take (2 + 2 * (k + 1))).map (·.2))) := by
          rw [HST.out, show 2 + 2 * (k + 1) = 2 + 2 * k + 2 by omega, List.map_append]
          unfold RowAt
          rw [List.map_append]
          have e : List.map strV (List.map (fun x : List UInt8 × List UInt8 => x.2) [(A, Plain.enc N), (A ++ [59], Plain.enc N)]) = [.string (Utf8.encode (N : Int)), .string (Utf8.encode (N : Int))] := by
            simp only [List.map_cons, List.map_nil]
            rw [enc_val N ⟨by omega, by omega⟩]
          rw [e]
          exact hoV
        have HBW : Hid (Below w2.heap.size w2 wv) := by
          have hb1 : Below w2.heap.size w2 wl := by
            refine Below.grown ?_ hgL (by first | omega | (simp; omega)) (fun q hq => by simp at hq; omega)
            repeat (first | with_reducible exact hbw | with_reducible refine Below.drew ?_ | ((with_reducible refine Below.alloc ?_ ?_ _); rotate_left; (first | omega | (simp; omega))))
          refine Lib.hid (Below.grown ?_ hgV (by first | omega | (simp; omega)) (fun q hq => by simp at hq; omega))
          repeat (first | with_reducible exact hb1 | with_reducible refine Below.drew ?_ | ((with_reducible refine Below.alloc ?_ ?_ _); rotate_left; (first | omega | (simp; omega))))
        clear hoL hgL haL hoV hgV haV hwr hadd
        go_wp2
        go_roundw
        case rel =>
          exact ⟨k + 1, gl', cl', gv', cv', by omega, by go_num, rfl, rfl, hne', HOL.out, HOV.out, HBW.out⟩
        case measure => simp [intOf]; omega
    · have e13 : k = 13 := by omega
      have E13 := Lib.hid e13
      clear e13
      have HL0 := Lib.hid hL
      have HV0 := Lib.hid hV
      have HBW0 := Lib.hid hbw
      clear hL hV
      go_wp2
      go_loopw [6, 7, 9] (fun l v i wr => ∃ k gl cl gv cv : Nat, k ≤ 18 ∧ i = .int .i64 (k : Int) ∧ l = .slice (some ⟨gl, 0, none⟩) (28 + k) cl ∧ v = .slice (some ⟨gv, 0, none⟩) (28 + k) cv ∧ gl ≠ gv ∧ RowAt wr w2.heap.size gl (28 + k) cl ((Plain.names.take (28 + k)).map (·.1)) ∧ RowAt wr w2.heap.size gv (28 + k) cv ((Plain.names.take (28 + k)).map (·.2)) ∧ Below w2.heap.size w2 wr) (fun _ _ i _ => 18 - (intOf i).toNat)
      case atStart =>
        have hl0 := HL0.out
        have hv0 := HV0.out
        rw [E13.out] at hl0 hv0
        exact ⟨0, gl, cl, gv, cv, by omega, rfl, by rw [E13.out], by rw [E13.out], hne, hl0, hv0, HBW0.out⟩
      case round =>
        clear hbw HL0 HV0 HBW0 hne
        obtain ⟨k, gl, cl, gv, cv, hk, rfl, rfl, rfl, hne, hL, hV, hbw⟩ := hrel
        by_cases hlt : k < 18
        · obtain ⟨ga, rfl, hga, hcak⟩ := HCB.out k hlt
          have hcnk := HCM.out k hlt
          have hcak := (hbw.cell (p := ⟨ga, k, none⟩) hga).trans hcak
          have hcnk := (hbw.cell (p := ⟨gm, k, none⟩) hgm).trans hcnk
          rw [getD_at Plain.longW k [] hlt] at hcak
          rw [getD_at Plain.longN k 0 hlt] at hcnk
          have hstep := long_step k hlt
          obtain ⟨hf1, hf2⟩ := long_facts k hlt
          generalize Plain.longW.getD k [] = A at *
          generalize Plain.longN.getD k 0 = N at *
          have HST := Lib.hid hstep
          have HL := Lib.hid hL
          have HV := Lib.hid hV
          have hl1 := hL.lt
          have hv1 := hV.lt
          have hbs := hbw.size
          clear hstep hL hV
          have k0 : (0 : Int) ≤ (k : Int) := by omega
          have k1 : (k : Int) < 18 := by omega
          have hsA : (⟨A.toArray⟩ : ByteArray).size ≤ 10 := by show A.toArray.size ≤ 10; rw [List.size_toArray]; exact hf1
          have hwr : IntKind.i32.wrap (N : Int) = (N : Int) := IntWalk.i32_in _ (by omega)
          have hadd : ∀ W, (Op.stringOp .add ⟨A.toArray⟩ ⟨#[59]⟩).run Tryz.prog W = .ok (.string (⟨A.toArray⟩ ++ ⟨#[59]⟩)) W := fun W => run_string_add_sum W _ _ (by show A.toArray.size + 1 ≤ _; rw [List.size_toArray]; omega)
          have nal : ga ≠ gl := by omega
          have nav : ga ≠ gv := by omega
          have nnl : gm ≠ gl := by omega
          have nnv : gm ≠ gv := by omega
          have za : ga < wr.heap.size := by omega
          have zn : gm < wr.heap.size := by omega
          clear hwr
          have hwr : IntKind.i32.wrap (N : Int) = (N : Int) := IntWalk.i32_in _ (by omega)
          go_wp2_with fail
          go_region_held3 (fun w' => w'.cell? ⟨ga, k, none⟩ = some (.string ⟨A.toArray⟩) ∧ w'.cell? ⟨gm, k, none⟩ = some (.int .i64 (N : Int)))
            (first
              | go_keep
              | (go_split_ands; exact ⟨far hgL (by assumption) nal, far hgL (by assumption) nnl⟩)
              | (go_split_ands; exact ⟨far hgV (by assumption) nav, far hgV (by assumption) nnv⟩)
              | fail)
            (first
              | (refine step_append_lies _ (by rfl) _ _ _ (by rfl) w2.heap.size 9 i0 (.string ByteArray.empty) 1 16 Tryz.underlying41 HI.out.1 HI.out.2.1 HI.out.2.2.1 HI.out.2.2.2 rfl (by omega) (.slice (some ⟨gl, 0, none⟩) (28 + k) cl) (28 + k) (((Plain.names.take (28 + k)).map (·.1)).map strV) (by rfl) ?_ ?_ 1 1 [.string (⟨A.toArray⟩ ++ ⟨#[59]⟩)] ?_ (by rfl) ?_ (by simp [Value.oneCell']) (by omega) (by unfold maxLen; omega) (by omega) (by first | omega | (simp; omega)) _ rfl ?_
                 rotate_left 2
                 focus rfl
                 focus (refine World.news_of_block (cs := #[.string (⟨A.toArray⟩ ++ ⟨#[59]⟩)]) (t := 9) (fr := (0, 0)) ?_; show BlkAt _ _ _; repeat (first | ((with_reducible refine BlkAt.new _ ?_); simp; done) | with_reducible refine BlkAt.drew ?_ | with_reducible refine BlkAt.alloc ?_ _ | ((with_reducible refine BlkAt.kept ?_ hgV ?_); rotate_left; omega)))
                 rotate_left
                 focus (show RowAt _ w2.heap.size gl (28 + k) cl ((Plain.names.take (28 + k)).map (·.1)); repeat (first | with_reducible exact HL.out | with_reducible refine RowAt.drew ?_ | with_reducible refine RowAt.alloc ?_ _ | with_reducible refine RowAt.kept ?_ hgV hne))
                 intro gl' cl' wl hoL hgL haL hlL
                 replace hgL : World.grownBy _ wl (some gl) := hgL
                 have hsL := hgL.size
                 try simp at hsL)
              | (refine step_append_lies _ (by rfl) _ _ _ (by rfl) w2.heap.size 9 i0 (.string ByteArray.empty) 1 16 Tryz.underlying41 HI.out.1 HI.out.2.1 HI.out.2.2.1 HI.out.2.2.2 rfl (by omega) (.slice (some ⟨gv, 0, none⟩) (28 + k) cv) (28 + k) (((Plain.names.take (28 + k)).map (·.2)).map strV) (by rfl) ?_ ?_ 1 1 [.string (Utf8.encode (N : Int))] ?_ (by rfl) ?_ (by simp [Value.oneCell']) (by omega) (by unfold maxLen; omega) (by omega) (by first | omega | (simp; omega)) _ rfl ?_
                 rotate_left 2
                 focus rfl
                 focus (refine World.news_of_block (cs := #[.string (Utf8.encode (N : Int))]) (t := 9) (fr := (0, 0)) ?_; show BlkAt _ _ _; repeat (first | ((with_reducible refine BlkAt.new _ ?_); simp; done) | with_reducible refine BlkAt.drew ?_ | with_reducible refine BlkAt.alloc ?_ _ | ((with_reducible refine BlkAt.kept ?_ hgL ?_); rotate_left; omega)))
                 rotate_left
                 focus (show RowAt _ w2.heap.size gv (28 + k) cv ((Plain.names.take (28 + k)).map (·.2)); repeat (first | with_reducible exact HV.out | with_reducible refine RowAt.drew ?_ | with_reducible refine RowAt.alloc ?_ _ | with_reducible refine RowAt.kept ?_ hgL (Ne.symm hne)))
                 intro gv' cv' wv hoV hgV haV hlV
                 replace hgV : World.grownBy _ wv (some gv) := hgV
                 have hsV := hgV.size
                 try simp at hsV)
              | fail)
          all_goals
            have haL' : gl = gl' ∨ wr.heap.size ≤ gl' := by
              rcases haL with h | h
              · exact Or.inl (by simpa [Value.ownBlock] using h)
              · refine Or.inr ?_
                rw [h]
                simp <;> omega
            have haV' : gv = gv' ∨ wl.heap.size ≤ gv' := by
              rcases haV with h | h
              · exact Or.inl (by simpa [Value.ownBlock] using h)
              · refine Or.inr ?_
                rw [h]
                simp
            have hne' : gl' ≠ gv' := by omega
            have hne2 : gl' ≠ gv := by omega
            have HOL : Hid (RowAt wv w2.heap.size gl' (28 + (k + 1)) cl' ((Plain.names.take (28 + (k + 1))).map (·.1))) := by
              rw [HST.out, show 28 + (k + 1) = 28 + k + 1 by omega, List.map_append]
              have h0 : RowAt wl w2.heap.size gl' (28 + k + 1) cl' (List.map (fun x => x.1) (Plain.names.take (28 + k)) ++ [A ++ [59]]) := by
                unfold RowAt
                rw [List.map_append]
                have e : List.map strV [A ++ [59]] = [.string (⟨A.toArray⟩ ++ ⟨#[59]⟩)] := by
                  simp only [List.map_cons, List.map_nil, strV]
                  rw [show (⟨#[59]⟩ : ByteArray) = ⟨[59].toArray⟩ from rfl, str_append]
                rw [e]
                exact hoL
              refine Lib.hid ?_
              show RowAt wv w2.heap.size gl' (28 + k + 1) cl' (List.map (fun x => x.1) (Plain.names.take (28 + k)) ++ [A ++ [59]])
              repeat (first | with_reducible exact h0 | with_reducible refine RowAt.drew ?_ | with_reducible refine RowAt.alloc ?_ _ | with_reducible refine RowAt.kept ?_ hgV hne2)
            have HOV : Hid (RowAt wv w2.heap.size gv' (28 + (k + 1)) cv' ((Plain.names.take (28 + (k + 1))).map (·.2))) := by
              rw [HST.out, show 28 + (k + 1) = 28 + k + 1 by omega, List.map_append]
              unfold RowAt
              rw [List.map_append]
              have e : List.map strV (List.map (fun x : List UInt8 × List UInt8 => x.2) [(A ++ [59], Plain.enc N)]) = [.string (Utf8.encode (N : Int))] := by
                simp only [List.map_cons, List.map_nil]
                rw [enc_val N ⟨by omega, by omega⟩]
              rw [e]
              exact hoV
            have HBW : Hid (Below w2.heap.size w2 wv) := by
              have hb1 : Below w2.heap.size w2 wl := by
                refine Below.grown ?_ hgL (by first | omega | (simp; omega)) (fun q hq => by simp at hq; omega)
                repeat (first | with_reducible exact hbw | with_reducible refine Below.drew ?_ | ((with_reducible refine Below.alloc ?_ ?_ _); rotate_left; (first | omega | (simp; omega))))
              refine Lib.hid (Below.grown ?_ hgV (by first | omega | (simp; omega)) (fun q hq => by simp at hq; omega))
              repeat (first | with_reducible exact hb1 | with_reducible refine Below.drew ?_ | ((with_reducible refine Below.alloc ?_ ?_ _); rotate_left; (first | omega | (simp; omega))))
            clear hoL hgL haL hoV hgV haV hwr hadd
            go_wp2
            go_roundw
            case rel =>
              exact ⟨k + 1, gl', cl', gv', cv', by omega, by go_num, rfl, rfl, hne', HOL.out, HOV.out, HBW.out⟩
            case measure => simp [intOf]; omega
        · have e18 : k = 18 := by omega
          subst e18
          have HL0 := Lib.hid hL
          have HV0 := Lib.hid hV
          clear hL hV
          go_wp2
          go_ret2
          have hl0 : World.ownsRow wr w2.heap.size 9 1 (.slice (some ⟨gl, 0, none⟩) 46 cl) (Plain.names.map (·.1)).length ((Plain.names.map (·.1)).map strV) := HL0.out
          have hv0 : World.ownsRow wr w2.heap.size 9 1 (.slice (some ⟨gv, 0, none⟩) 46 cv) (Plain.names.map (·.2)).length ((Plain.names.map (·.2)).map strV) := HV0.out
          exact ⟨_, _, rfl, TextsAt.of_row hl0, TextsAt.of_row hv0, HB.out.trans (hbw.mono HB.out.size)⟩
end Go.Proofs.YtgelgfgcdfnacaaGreatDoor
