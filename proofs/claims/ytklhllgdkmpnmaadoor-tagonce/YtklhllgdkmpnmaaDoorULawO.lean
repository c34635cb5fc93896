/-
  The walk of the law TagOnce: true, and nothing old is changed. The library's number MaxLen and the table of package refs are there.
-/
import Derived.Test.YtklhllgdkmpnmaaDoorUGood
import Derived.Test.YtklhllgdkmpnmaaDoorUFind
import Derived.Deep.RegionHeld3
import Derived.Deep.RegionWith
import Derived.Deep.QuietTactic
import Derived.BigQuiet
import Derived.Deep.DeepCutAuto
import Derived.Deep.CutBlock
namespace Go.Proofs.YtklhllgdkmpnmaaDoor
open Go.RowKit

theorem tagT_nlen (l : List UInt8) (k : Nat) : (tagT l k).name.length ≤ 3 * l.length := by
  rcases tagT_cases l k with ⟨_, h⟩ | ⟨rs, self, n, _, h⟩
  · rw [h]; simp
  · rw [h]
    show (tagNm l k).length ≤ _
    unfold tagNm
    have h1 := Plain.clear_len (Plain.fold ((l.take (Plain.nameEnd l (Plain.tagName l k))).drop (Plain.tagName l k)))
    rw [Plain.fold_length, List.length_drop, List.length_take] at h1
    omega
theorem readR_all (st : Bool) (l : List UInt8) (P : List UInt8 × List UInt8 → Prop) (hP : ∀ p, p < l.length → P (Plain.attrAt l p).1) : ∀ (f q : Nat) (xs rs : List (List UInt8 × List UInt8)) (self : Bool) (n : Nat), (∀ a ∈ xs, P a) → Plain.readR st l f q xs = (some (rs, self), n) → ∀ a ∈ rs, P a
  | 0, _, _, _, _, _, _, h => by simp [Plain.readR] at h
  | f + 1, q, xs, rs, self, n, hx, h => by
    rw [Plain.readR] at h
    split at h
    · simp at h
    · rename_i h1
      split at h
      · have e1 := Prod.mk.inj (Option.some.inj (Prod.mk.inj h).1)
        obtain ⟨rfl, _⟩ := e1
        exact hx
      · refine readR_all st l P hP f _ _ rs self n ?_ h
        intro a ha
        unfold Plain.addAttr at ha
        split at ha
        · rcases List.mem_append.1 ha with ha | ha
          · exact hx a ha
          · rw [List.mem_singleton.1 ha]; exact hP _ (by omega)
        · exact hx a ha
theorem tagT_bound (l : List UInt8) (k : Nat) : ∀ a ∈ (tagT l k).attrs, a.1.length ≤ 3 * l.length ∧ a.2.length ≤ 12 * l.length := by
  rcases tagT_cases l k with ⟨_, h⟩ | ⟨rs, self, n, hr, h⟩
  · rw [h]; intro a ha; cases ha
  · rw [h]
    refine readR_all _ l _ ?_ _ _ _ _ _ _ (fun a ha => by cases ha) hr
    intro p _
    rw [Plain.attrAt_raw]
    refine ⟨?_, ?_⟩
    · show (Plain.attrName l p).length ≤ _
      unfold Plain.attrName
      have h1 := Plain.clear_len (Plain.fold ((l.take (Plain.attrEnd l p)).drop p))
      rw [Plain.fold_length, List.length_drop, List.length_take] at h1
      omega
    · have h1 := Plain.clear_len (Plain.expand (Plain.rawRest l (Plain.attrMid l p)).1 true)
      have h2 := Plain.expand_len _ (Plain.rawRest l (Plain.attrMid l p)).1 true (Nat.le_refl _)
      have h3 := Plain.rawRest_len l (Plain.attrMid l p)
      show (Plain.clear (Plain.expand (Plain.rawRest l (Plain.attrMid l p)).1 true)).length ≤ _
      omega
theorem findI_no0 (l : List UInt8) (h : (0 : UInt8) ∉ l) : findI 0 l 0 = -1 := by
  unfold findI Plain.findB
  rw [List.drop_zero, if_neg (by rw [List.contains_eq_mem]; simpa using h)]
def ThreeAt (B : Nat) (W : World) : Prop := ∀ i, i < 3 → ∃ x : ByteArray, x.size ≤ 1000 ∧ W.cell? ⟨B, i, none⟩ = some (.string x)
theorem ThreeAt.mk (W : World) (x0 x1 x2 : ByteArray) (h : x0.size ≤ 1000 ∧ x1.size ≤ 1000 ∧ x2.size ≤ 1000) : ThreeAt W.heap.size (W.alloc (.cells #[.string x0, .string x1, .string x2] 9)) := by
  intro i hi
  have c : ∀ j, (W.alloc (.cells #[.string x0, .string x1, .string x2] 9)).cell? ⟨W.heap.size, j, none⟩ = (#[.string x0, .string x1, .string x2] : Array Value)[j]? := fun j => World.cell?_alloc_mark W _ 9 (0, 0) j
  rw [c i]
  match i, hi with
  | 0, _ => exact ⟨x0, h.1, rfl⟩
  | 1, _ => exact ⟨x1, h.2.1, rfl⟩
  | 2, _ => exact ⟨x2, h.2.2, rfl⟩
theorem ThreeAt.on {B : Nat} {W W' : World} (h : ThreeAt B W) (hb : Below W.heap.size W W') (hB : B < W.heap.size) : ThreeAt B W' := fun i hi => by
  obtain ⟨x, hx, hc⟩ := h i hi
  exact ⟨x, hx, (hb.cell (p := ⟨B, i, none⟩) hB).trans hc⟩

set_option maxHeartbeats 4000000 in
set_option maxRecDepth 100000 in
theorem tagOnce_walk (v : Value) (n : Nat) (raw : ByteArray) (w : World) (hv : IntsIn w v n) (hraw : raw.size ≤ maxLen) (hmax : HasMax w) (hea : HasEarly w) :
    Calls Tryd.prog 8 #[v, .string raw] w (Yes w) := by
  have HK := Lib.hid (known3_yes w hmax hea)
  have HV := Lib.hid hv
  have HMX := Lib.hid hmax
  have HEA := Lib.hid hea
  have hE := hea.size
  unfold maxLen at hraw
  clear hmax hea hv
  by_cases hb : 200 < raw.size
  · go_enter Tryd.func8, Tryd.ntmps8
    go_wp2_with fail
    refine HK.out.mono ?_
    rintro e w1 ⟨rfl, b1⟩
    have hb' : (200 : Int) < (raw.size : Int) := by omega
    go_wp2
    go_ret
    exact ⟨rfl, b1⟩
  · have hb' : ¬ (200 : Int) < (raw.size : Int) := by omega
    go_enter Tryd.func8, Tryd.ntmps8
    go_wp2_with fail
    refine HK.out.mono ?_
    rintro e w1 ⟨rfl, b1⟩
    go_wp2_with fail
    refine (html3_any v n w1 (HV.out.below b1)).mono ?_
    rintro e w3 ⟨l, rfl, hl1, hl2, b2⟩
    have B3 := Lib.hid (b1.trans (b2.mono b1.size))
    have hsl : (⟨l.toArray⟩ : ByteArray).size ≤ 400 := by show l.toArray.size ≤ _; simp; omega
    clear b1 b2 HK HV
    generalize (⟨l.toArray⟩ : ByteArray) = s1 at *
    have z1 : (⟨#[60, 113]⟩ : ByteArray).size = 2 := rfl
    have z2 : (⟨#[60, 47, 113]⟩ : ByteArray).size = 3 := rfl
    have z3 : (⟨#[62]⟩ : ByteArray).size = 1 := rfl
    have HS := Lib.hid (ThreeAt.mk w3 s1 (⟨#[60, 113]⟩ ++ raw ++ ⟨#[62]⟩) (⟨#[60, 47, 113]⟩ ++ raw ++ ⟨#[62]⟩) (by simp only [ByteArray.size_append, z1, z2, z3]; omega))
    clear z1 z2 z3
    go_wp2_with fail
    go_loopw [6] (fun x wr => ∃ i : Nat, i ≤ 3 ∧ x = .int .i64 (i : Int) ∧ Below w.heap.size w wr ∧ ThreeAt w3.heap.size wr ∧ w3.heap.size < wr.heap.size) (fun x _ => 3 - (intOf x).toNat)
    case atStart => exact ⟨0, by omega, rfl, B3.out.alloc B3.out.size _, HS.out, by simp⟩
    case round =>
      clear HS B3
      obtain ⟨i, hi, rfl, hB, hX, hz⟩ := hrel
      have HB := Lib.hid hB
      have HX := Lib.hid hX
      clear hB hX
      by_cases hlt : i < 3
      · obtain ⟨x, hx, hc⟩ := HX.out i hlt
        have HA := fun W => Lib.hid (rat_any x 0 W (by omega) (by omega) (by omega))
        cases hat : atPlace x.data.toList 0
        · rw [hat] at HA
          clear hat
          go_wp2_with fail
          refine (HA _).out.mono ?_
          rintro e w4 ⟨rfl, rfl⟩
          go_wp2
          exact ⟨⟨i + 1, by omega, by go_num, HB.out, HX.out, hz⟩, by simp [intOf]; omega⟩
        · rw [hat] at HA
          have HT := Lib.hid (read_tk x 0 wr (HMX.out.below HB.out) (HEA.out.below HB.out hE) hat (by omega))
          have HG := Lib.hid (tagT_good x hat)
          have hlen := tagT_len x.data.toList 0
          have hnlen := tagT_nlen x.data.toList 0
          have HBD := Lib.hid (tagT_bound x.data.toList 0)
          rw [len_of] at HBD
          rw [len_of] at hnlen
          rw [len_of] at hlen
          clear hat
          generalize tagT x.data.toList 0 = T at *
          obtain ⟨tk, tn, ta, ts, tb⟩ := T
          simp only at hlen hnlen HBD
          have g1 := HG.out.pos
          have g2 := HG.out.le
          simp only at g1 g2
          go_wp2_with fail
          refine (HA _).out.mono ?_
          rintro e w4 ⟨rfl, rfl⟩
          go_wp2_with fail
          refine HT.out.mono ?_
          rintro e w4 ⟨v4, rfl, ha4, b4⟩
          simp only at ha4
          have HA4 := Lib.hid ha4
          obtain ⟨p4, c4, rfl, hq4⟩ := ha4
          clear hq4
          have b5 := b4.alloc b4.size (.cells #[.int .i64 tk, .string ⟨tn.toArray⟩, .slice p4 ta.length c4, .bool ts, .string ⟨#[]⟩] 31)
          have k5 := tok_cells w4 (.int .i64 tk) (.string ⟨tn.toArray⟩) (.slice p4 ta.length c4) (.bool ts) (.string ⟨#[]⟩)
          have hz5 : w4.heap.size < (w4.alloc (.cells #[.int .i64 tk, .string ⟨tn.toArray⟩, .slice p4 ta.length c4, .bool ts, .string ⟨#[]⟩] 31)).heap.size := by simp
          have HA5 := Lib.hid (HA4.out.below ((Below.refl _ w4).alloc (Nat.le_refl _) (.cells #[.int .i64 tk, .string ⟨tn.toArray⟩, .slice p4 ta.length c4, .bool ts, .string ⟨#[]⟩] 31)))
          have hc5 := (b5.cell (p := ⟨w3.heap.size, i, none⟩) hz).trans hc
          have hz4 := b4.size
          have HB5 := Lib.hid (HB.out.trans (b5.mono HB.out.size))
          have HX5 := Lib.hid (HX.out.on b5 hz)
          have hz6 := Nat.lt_of_lt_of_le hz b5.size
          go_upto_region 11 with fail
          generalize w4.alloc (.cells #[.int .i64 tk, .string ⟨tn.toArray⟩, .slice p4 ta.length c4, .bool ts, .string ⟨#[]⟩] 31) = W5 at *
          clear b4 b5 HA4 HT HA hc HB HX
          have m0 := k5 0
          have m1 := k5 1
          have m2 := k5 2
          have m3 := k5 3
          clear k5
          obtain ⟨tm, rfl⟩ : ∃ tm, tb = tm + 1 := ⟨tb - 1, by omega⟩
          have hnm := HG.out.name
          simp only [Nat.add_sub_cancel] at hnm
          have HNM := Lib.hid hnm
          have HEN := Lib.hid HG.out.end_
          simp only at HEN
          have HTS : Hid (∀ TN : ByteArray, TN = ⟨tn.toArray⟩ → TN.size ≤ maxLen) := Lib.hid (fun TN h => by
            rw [h]
            show tn.toArray.size ≤ maxLen
            rw [List.size_toArray]
            unfold maxLen
            omega)
          have hkinds := HG.out.kinds
          simp only at hkinds
          clear hnm
          rw [show ((tm + 1 : Nat) : Int) = (tm : Int) + 1 by omega]
          have d1 : decide ((tm : Int) + 1 ≤ 0) = false := decide_eq_false (by omega)
          have d2 : decide ((x.size : Int) < (tm : Int) + 1) = false := decide_eq_false (by omega)
          have d3 : ¬ (x.size : Int) < (tm : Int) + 1 := by omega
          have d4 : ¬ (tm : Int) + 1 ≤ 0 := by omega
          have i0 : (0 : Int) ≤ (i : Int) := by omega
          have i3 : (i : Int) < 3 := by omega
          go_cut [99] (fun b wx => b = .bool false ∧ Below W5.heap.size W5 wx)
          case first =>
            rcases hkinds with rfl | rfl | rfl
            · clear HNM HEN
              go_wp2_with fail
              go_quiet (fail)
              go_wp2
              go_meet
              exact ⟨rfl, below_drewN (Below.refl _ _) _⟩
            · obtain ⟨hn1, hn2, hn3⟩ := HNM.out (by decide)
              have htm : tm < x.size := by omega
              rw [Plain.getD_get x tm htm] at hn3
              have h8 : x[tm].toNat < 256 := x[tm].toNat_lt
              have q62 : ((x[tm].toNat : Int) != 62) = false := by simp [hn3]
              obtain ⟨TN, hTN⟩ : ∃ TN : ByteArray, TN = ⟨tn.toArray⟩ := ⟨_, rfl⟩
              have hTl : TN.data.toList = tn := by rw [hTN]
              have hTs : TN.size ≤ maxLen := HTS.out TN hTN
              have HF : Hid (∀ W, (W.cell? ⟨w3.heap.size, i, none⟩ = some (.string x) ∧ W.cell? ⟨w4.heap.size, 0, none⟩ = some (.int .i64 1) ∧ W.cell? ⟨w4.heap.size, 1, none⟩ = some (.string TN) ∧ W.cell? ⟨w4.heap.size, 2, none⟩ = some (.slice p4 ta.length c4) ∧ W.cell? ⟨w4.heap.size, 3, none⟩ = some (.bool ts) ∧ Below W5.heap.size W5 W) →
                  Calls Tryd.prog 26 #[.string TN] W (fun e w' => e = .returned (.string TN) ∧ (w'.cell? ⟨w3.heap.size, i, none⟩ = some (.string x) ∧ w'.cell? ⟨w4.heap.size, 0, none⟩ = some (.int .i64 1) ∧ w'.cell? ⟨w4.heap.size, 1, none⟩ = some (.string TN) ∧ w'.cell? ⟨w4.heap.size, 2, none⟩ = some (.slice p4 ta.length c4) ∧ w'.cell? ⟨w4.heap.size, 3, none⟩ = some (.bool ts) ∧ Below W5.heap.size W5 w'))) := by
                refine Lib.hid fun W hW => (rfold_any TN W hTs).mono fun e w' ⟨he, hb'⟩ => ?_
                have hzW := hW.2.2.2.2.2.size
                refine ⟨?_, (hb'.cell (p := ⟨w3.heap.size, i, none⟩) (by show w3.heap.size < W.heap.size; omega)).trans hW.1, (hb'.cell (p := ⟨w4.heap.size, 0, none⟩) (by show w4.heap.size < W.heap.size; omega)).trans hW.2.1, (hb'.cell (p := ⟨w4.heap.size, 1, none⟩) (by show w4.heap.size < W.heap.size; omega)).trans hW.2.2.1, (hb'.cell (p := ⟨w4.heap.size, 2, none⟩) (by show w4.heap.size < W.heap.size; omega)).trans hW.2.2.2.1, (hb'.cell (p := ⟨w4.heap.size, 3, none⟩) (by show w4.heap.size < W.heap.size; omega)).trans hW.2.2.2.2.1, hW.2.2.2.2.2.trans (hb'.mono hzW)⟩
                rw [he, hTl, hn2, ← hTN]
              rw [← hTN]
              rw [← hTN] at m1
              have t1 : ¬ TN.toList = [] := by rw [Lib.toList_data, hTl]; exact hn1
              have t2 : (TN.toList == []) = false := by rw [beq_eq_false_iff_ne]; exact t1
              have t3 : TN.toList.isEmpty = false := by
                cases h : TN.toList.isEmpty
                · rfl
                · exact absurd (List.isEmpty_iff.1 h) t1
              have t4 : (TN.toList != TN.toList) = false := by simp
              have e1 : (tm : Int) + 1 - 1 = (tm : Int) := by omega
              have e2 : IntKind.i64.wrap (tm : Int) = (tm : Int) := IntWalk.i64_in _ (by omega)
              have e3 : (0 : Int) ≤ (tm : Int) := by omega
              have e4 : (tm : Int) < (x.size : Int) := by omega
              have HRF := Lib.hid (Below.refl W5.heap.size W5)
              have u1 : ((1 : Int) == 2) = false := by decide
              have hun : (undef : Value) = .tuple #[] := rfl
              have u2 : ((1 : Int) != 0) = true := by decide
              clear hn1 hn2 hn3 HNM HEN hTN hTl hTs
              go_wp2_with fail
              refine wp_region_held_drew (S := (fun w' => w'.cell? ⟨w3.heap.size, i, none⟩ = some (.string x) ∧ w'.cell? ⟨w4.heap.size, 0, none⟩ = some (.int .i64 1) ∧ w'.cell? ⟨w4.heap.size, 1, none⟩ = some (.string TN) ∧ w'.cell? ⟨w4.heap.size, 2, none⟩ = some (.slice p4 ta.length c4) ∧ w'.cell? ⟨w4.heap.size, 3, none⟩ = some (.bool ts) ∧ Below W5.heap.size W5 w')) (by kernel_rfl) ⟨hc5, m0, m1, m2, m3, HRF.out.drew⟩ (fun hHeld => ?_)
              refine wpAnyH_take (i := 0) (oi := { dst := some 46, op := Op.move (Operand.tmp 8), type := 3, pos := "more.go:65", after := #[], guard := none }) (v := ?_) rfl (by kernel_rfl) (by kernel_rfl) (by kernel_rfl) (fun _ _ _ h => h) (Or.inl ⟨by rfl, ?_⟩) (by assumption) ?_
              rotate_left
              focus (intro w hSw; (try dsimp only at hSw); go_simp; (try with_reducible rfl))
              try simp only [Act.put, List.setIfInBounds_toArray, List.set_cons_zero, List.set_cons_succ]
              refine wpAnyH_take (i := 1) (oi := { dst := some 47, op := Op.binOp BinOp.leq 3 (Operand.tmp 46) (Operand.const (Value.int IntKind.i64 0)) 3, type := 4, pos := "more.go:65", after := #[{ on := 0, ground := Ground.data }], guard := none }) (v := ?_) rfl (by kernel_rfl) (by kernel_rfl) (by kernel_rfl) (fun _ _ _ h => h) (Or.inl ⟨by rfl, ?_⟩) (by assumption) ?_
              rotate_left
              focus (intro w hSw; (try dsimp only at hSw); go_simp; (try with_reducible rfl))
              try simp only [Act.put, List.setIfInBounds_toArray, List.set_cons_zero, List.set_cons_succ]
              refine wpAnyH_take (i := 2) (oi := { dst := some 48, op := Op.move (Operand.tmp 47), type := 4, pos := "more.go:65", after := #[{ on := 1, ground := Ground.data }], guard := none }) (v := ?_) rfl (by kernel_rfl) (by kernel_rfl) (by kernel_rfl) (fun _ _ _ h => h) (Or.inl ⟨by rfl, ?_⟩) (by assumption) ?_
              rotate_left
              focus (intro w hSw; (try dsimp only at hSw); go_simp; (try with_reducible rfl))
              try simp only [Act.put, List.setIfInBounds_toArray, List.set_cons_zero, List.set_cons_succ]
              refine wpAnyH_take (i := 3) (oi := { dst := some 49, op := Op.move (Operand.tmp 8), type := 3, pos := "more.go:65", after := #[{ on := 2, ground := Ground.guard }], guard := some (2, false) }) (v := ?_) rfl (by kernel_rfl) (by kernel_rfl) (by kernel_rfl) (fun _ _ _ h => h) (Or.inl ⟨by rfl, ?_⟩) (by assumption) ?_
              rotate_left
              focus (intro w hSw; (try dsimp only at hSw); go_simp; (try with_reducible rfl))
              try simp only [Act.put, List.setIfInBounds_toArray, List.set_cons_zero, List.set_cons_succ]
              refine wpAnyH_take (i := 4) (oi := { dst := some 50, op := Op.move (Operand.tmp 5), type := 28, pos := "more.go:65", after := #[{ on := 2, ground := Ground.guard }], guard := some (2, false) }) (v := ?_) rfl (by kernel_rfl) (by kernel_rfl) (by kernel_rfl) (fun _ _ _ h => h) (Or.inl ⟨by rfl, ?_⟩) (by assumption) ?_
              rotate_left
              focus (intro w hSw; (try dsimp only at hSw); go_simp; (try with_reducible rfl))
              try simp only [Act.put, List.setIfInBounds_toArray, List.set_cons_zero, List.set_cons_succ]
              refine wpAnyH_take (i := 5) (oi := { dst := some 51, op := Op.move (Operand.tmp 6), type := 3, pos := "more.go:65", after := #[{ on := 2, ground := Ground.guard }], guard := some (2, false) }) (v := ?_) rfl (by kernel_rfl) (by kernel_rfl) (by kernel_rfl) (fun _ _ _ h => h) (Or.inl ⟨by rfl, ?_⟩) (by assumption) ?_
              rotate_left
              focus (intro w hSw; (try dsimp only at hSw); go_simp; (try with_reducible rfl))
              try simp only [Act.put, List.setIfInBounds_toArray, List.set_cons_zero, List.set_cons_succ]
              refine wpAnyH_take (i := 6) (oi := { dst := some 52, op := Op.indexAddr 28 (Operand.tmp 50) (Operand.tmp 51), type := 0, pos := "more.go:65", after := #[{ on := 4, ground := Ground.data }, { on := 5, ground := Ground.data }, { on := 2, ground := Ground.guard }], guard := some (2, false) }) (v := ?_) rfl (by kernel_rfl) (by kernel_rfl) (by kernel_rfl) (fun _ _ _ h => h) (Or.inl ⟨by rfl, ?_⟩) (by assumption) ?_
              rotate_left
              focus (intro w hSw; (try dsimp only at hSw); go_simp; (try with_reducible rfl))
              try simp only [Act.put, List.setIfInBounds_toArray, List.set_cons_zero, List.set_cons_succ]
              refine wpAnyH_take (i := 7) (oi := { dst := some 53, op := Op.load 9 (Operand.tmp 52), type := 9, pos := "more.go:65", after := #[{ on := 6, ground := Ground.data }, { on := 2, ground := Ground.guard }], guard := some (2, false) }) (v := ?_) rfl (by kernel_rfl) (by kernel_rfl) (by kernel_rfl) (fun _ _ _ h => h) (Or.inl ⟨by rfl, ?_⟩) (by assumption) ?_
              rotate_left
              focus (intro w hSw; (try dsimp only at hSw); go_simp; (try with_reducible rfl))
              try simp only [Act.put, List.setIfInBounds_toArray, List.set_cons_zero, List.set_cons_succ]
              refine wpAnyH_take (i := 8) (oi := { dst := some 54, op := Op.call { callee := Callee.builtin Builtin.len, args := #[Operand.tmp 53], argTypes := #[9] }, type := 3, pos := "more.go:65", after := #[{ on := 7, ground := Ground.data }, { on := 2, ground := Ground.guard }], guard := some (2, false) }) (v := ?_) rfl (by kernel_rfl) (by kernel_rfl) (by kernel_rfl) (fun _ _ _ h => h) (Or.inl ⟨by rfl, ?_⟩) (by assumption) ?_
              rotate_left
              focus (intro w hSw; (try dsimp only at hSw); go_simp; (try with_reducible rfl))
              try simp only [Act.put, List.setIfInBounds_toArray, List.set_cons_zero, List.set_cons_succ]
              refine wpAnyH_take (i := 9) (oi := { dst := some 55, op := Op.binOp BinOp.gtr 3 (Operand.tmp 49) (Operand.tmp 54) 3, type := 4, pos := "more.go:65", after := #[{ on := 3, ground := Ground.data }, { on := 8, ground := Ground.data }, { on := 2, ground := Ground.guard }], guard := some (2, false) }) (v := ?_) rfl (by kernel_rfl) (by kernel_rfl) (by kernel_rfl) (fun _ _ _ h => h) (Or.inl ⟨by rfl, ?_⟩) (by assumption) ?_
              rotate_left
              focus (intro w hSw; (try dsimp only at hSw); go_simp; (try with_reducible rfl))
              try simp only [Act.put, List.setIfInBounds_toArray, List.set_cons_zero, List.set_cons_succ]
              refine wpAnyH_take (i := 10) (oi := { dst := some 56, op := Op.pick (Operand.tmp 48) (Operand.const (Value.bool true)) (Operand.tmp 55), type := 4, pos := "more.go:65", after := #[{ on := 2, ground := Ground.data }, { on := 9, ground := Ground.data }], guard := none }) (v := ?_) rfl (by kernel_rfl) (by kernel_rfl) (by kernel_rfl) (fun _ _ _ h => h) (Or.inl ⟨by rfl, ?_⟩) (by assumption) ?_
              rotate_left
              focus (intro w hSw; (try dsimp only at hSw); go_simp; (try with_reducible rfl))
              try simp only [Act.put, List.setIfInBounds_toArray, List.set_cons_zero, List.set_cons_succ]
              refine wpAnyH_take (i := 11) (oi := { dst := some 57, op := Op.move (Operand.tmp 56), type := 4, pos := "more.go:65", after := #[{ on := 10, ground := Ground.data }, { on := 2, ground := Ground.chain }], guard := none }) (v := ?_) rfl (by kernel_rfl) (by kernel_rfl) (by kernel_rfl) (fun _ _ _ h => h) (Or.inl ⟨by rfl, ?_⟩) (by assumption) ?_
              rotate_left
              focus (intro w hSw; (try dsimp only at hSw); go_simp; (try with_reducible rfl))
              try simp only [Act.put, List.setIfInBounds_toArray, List.set_cons_zero, List.set_cons_succ]
              refine wpAnyH_take (i := 12) (oi := { dst := some 58, op := Op.fieldAddr 31 (Operand.tmp 7) 0, type := 0, pos := "more.go:65", after := #[{ on := 11, ground := Ground.guard }], guard := some (11, false) }) (v := ?_) rfl (by kernel_rfl) (by kernel_rfl) (by kernel_rfl) (fun _ _ _ h => h) (Or.inl ⟨by rfl, ?_⟩) (by assumption) ?_
              rotate_left
              focus (intro w hSw; (try dsimp only at hSw); go_simp; (try with_reducible rfl))
              try simp only [Act.put, List.setIfInBounds_toArray, List.set_cons_zero, List.set_cons_succ]
              refine wpAnyH_take (i := 13) (oi := { dst := some 59, op := Op.load 3 (Operand.tmp 58), type := 3, pos := "more.go:65", after := #[{ on := 12, ground := Ground.data }, { on := 11, ground := Ground.guard }], guard := some (11, false) }) (v := ?_) rfl (by kernel_rfl) (by kernel_rfl) (by kernel_rfl) (fun _ _ _ h => h) (Or.inl ⟨by rfl, ?_⟩) (by assumption) ?_
              rotate_left
              focus (intro w hSw; (try dsimp only at hSw); go_simp; (try with_reducible rfl))
              try simp only [Act.put, List.setIfInBounds_toArray, List.set_cons_zero, List.set_cons_succ]
              refine wpAnyH_take (i := 14) (oi := { dst := some 60, op := Op.binOp BinOp.eql 3 (Operand.tmp 59) (Operand.const (Value.int IntKind.i64 2)) 3, type := 4, pos := "more.go:65", after := #[{ on := 13, ground := Ground.data }, { on := 11, ground := Ground.guard }], guard := some (11, false) }) (v := ?_) rfl (by kernel_rfl) (by kernel_rfl) (by kernel_rfl) (fun _ _ _ h => h) (Or.inl ⟨by rfl, ?_⟩) (by assumption) ?_
              rotate_left
              focus (intro w hSw; (try dsimp only at hSw); go_simp; (try with_reducible rfl))
              try simp only [Act.put, List.setIfInBounds_toArray, List.set_cons_zero, List.set_cons_succ]
              refine wpAnyH_take (i := 15) (oi := { dst := some 61, op := Op.move (Operand.tmp 60), type := 4, pos := "more.go:65", after := #[{ on := 14, ground := Ground.data }, { on := 11, ground := Ground.chain }, { on := 11, ground := Ground.guard }], guard := some (11, false) }) (v := ?_) rfl (by kernel_rfl) (by kernel_rfl) (by kernel_rfl) (fun _ _ _ h => h) (Or.inl ⟨by rfl, ?_⟩) (by assumption) ?_
              rotate_left
              focus (intro w hSw; (try dsimp only at hSw); go_simp; (try with_reducible rfl))
              try simp only [Act.put, List.setIfInBounds_toArray, List.set_cons_zero, List.set_cons_succ]
              refine wpAnyH_take (i := 16) (oi := { dst := some 62, op := Op.fieldAddr 31 (Operand.tmp 7) 2, type := 0, pos := "more.go:65", after := #[{ on := 15, ground := Ground.guard }], guard := some (15, true) }) (v := undef) rfl (by kernel_rfl) (by kernel_rfl) (by kernel_rfl) (fun _ _ _ h => h) (Or.inr ⟨by rfl, rfl⟩) (by assumption) ?_
              simp only [Act.put, List.setIfInBounds_toArray, List.set_cons_zero, List.set_cons_succ]
              refine wpAnyH_take (i := 17) (oi := { dst := some 63, op := Op.load 29 (Operand.tmp 62), type := 29, pos := "more.go:65", after := #[{ on := 16, ground := Ground.data }, { on := 15, ground := Ground.guard }], guard := some (15, true) }) (v := undef) rfl (by kernel_rfl) (by kernel_rfl) (by kernel_rfl) (fun _ _ _ h => h) (Or.inr ⟨by rfl, rfl⟩) (by assumption) ?_
              simp only [Act.put, List.setIfInBounds_toArray, List.set_cons_zero, List.set_cons_succ]
              refine wpAnyH_take (i := 18) (oi := { dst := some 64, op := Op.call { callee := Callee.builtin Builtin.len, args := #[Operand.tmp 63], argTypes := #[29] }, type := 3, pos := "more.go:65", after := #[{ on := 17, ground := Ground.data }, { on := 15, ground := Ground.guard }], guard := some (15, true) }) (v := undef) rfl (by kernel_rfl) (by kernel_rfl) (by kernel_rfl) (fun _ _ _ h => h) (Or.inr ⟨by rfl, rfl⟩) (by assumption) ?_
              simp only [Act.put, List.setIfInBounds_toArray, List.set_cons_zero, List.set_cons_succ]
              refine wpAnyH_take (i := 19) (oi := { dst := some 65, op := Op.binOp BinOp.gtr 3 (Operand.tmp 64) (Operand.const (Value.int IntKind.i64 0)) 3, type := 4, pos := "more.go:65", after := #[{ on := 18, ground := Ground.data }, { on := 15, ground := Ground.guard }], guard := some (15, true) }) (v := undef) rfl (by kernel_rfl) (by kernel_rfl) (by kernel_rfl) (fun _ _ _ h => h) (Or.inr ⟨by rfl, rfl⟩) (by assumption) ?_
              simp only [Act.put, List.setIfInBounds_toArray, List.set_cons_zero, List.set_cons_succ]
              refine wpAnyH_take (i := 20) (oi := { dst := some 66, op := Op.move (Operand.tmp 65), type := 4, pos := "more.go:65", after := #[{ on := 19, ground := Ground.data }, { on := 15, ground := Ground.chain }, { on := 15, ground := Ground.guard }], guard := some (15, true) }) (v := undef) rfl (by kernel_rfl) (by kernel_rfl) (by kernel_rfl) (fun _ _ _ h => h) (Or.inr ⟨by rfl, rfl⟩) (by assumption) ?_
              simp only [Act.put, List.setIfInBounds_toArray, List.set_cons_zero, List.set_cons_succ]
              refine wpAnyH_take (i := 21) (oi := { dst := some 67, op := Op.fieldAddr 31 (Operand.tmp 7) 3, type := 0, pos := "more.go:65", after := #[{ on := 20, ground := Ground.guard }], guard := some (20, false) }) (v := undef) rfl (by kernel_rfl) (by kernel_rfl) (by kernel_rfl) (fun _ _ _ h => h) (Or.inr ⟨by rfl, rfl⟩) (by assumption) ?_
              simp only [Act.put, List.setIfInBounds_toArray, List.set_cons_zero, List.set_cons_succ]
              refine wpAnyH_take (i := 22) (oi := { dst := some 68, op := Op.load 4 (Operand.tmp 67), type := 4, pos := "more.go:65", after := #[{ on := 21, ground := Ground.data }, { on := 20, ground := Ground.guard }], guard := some (20, false) }) (v := undef) rfl (by kernel_rfl) (by kernel_rfl) (by kernel_rfl) (fun _ _ _ h => h) (Or.inr ⟨by rfl, rfl⟩) (by assumption) ?_
              simp only [Act.put, List.setIfInBounds_toArray, List.set_cons_zero, List.set_cons_succ]
              refine wpAnyH_take (i := 23) (oi := { dst := some 69, op := Op.pick (Operand.tmp 66) (Operand.const (Value.bool true)) (Operand.tmp 68), type := 4, pos := "more.go:65", after := #[{ on := 20, ground := Ground.data }, { on := 22, ground := Ground.data }, { on := 15, ground := Ground.guard }], guard := some (15, true) }) (v := undef) rfl (by kernel_rfl) (by kernel_rfl) (by kernel_rfl) (fun _ _ _ h => h) (Or.inr ⟨by rfl, rfl⟩) (by assumption) ?_
              simp only [Act.put, List.setIfInBounds_toArray, List.set_cons_zero, List.set_cons_succ]
              refine wpAnyH_take (i := 24) (oi := { dst := some 70, op := Op.pick (Operand.tmp 61) (Operand.tmp 69) (Operand.const (Value.bool false)), type := 4, pos := "more.go:65", after := #[{ on := 15, ground := Ground.data }, { on := 23, ground := Ground.data }, { on := 11, ground := Ground.guard }], guard := some (11, false) }) (v := ?_) rfl (by kernel_rfl) (by kernel_rfl) (by kernel_rfl) (fun _ _ _ h => h) (Or.inl ⟨by rfl, ?_⟩) (by assumption) ?_
              rotate_left
              focus (intro w hSw; (try dsimp only at hSw); go_simp; (try with_reducible rfl))
              try simp only [Act.put, List.setIfInBounds_toArray, List.set_cons_zero, List.set_cons_succ]
              refine wpAnyH_take (i := 25) (oi := { dst := some 71, op := Op.pick (Operand.tmp 57) (Operand.const (Value.bool true)) (Operand.tmp 70), type := 4, pos := "more.go:65", after := #[{ on := 11, ground := Ground.data }, { on := 24, ground := Ground.data }], guard := none }) (v := ?_) rfl (by kernel_rfl) (by kernel_rfl) (by kernel_rfl) (fun _ _ _ h => h) (Or.inl ⟨by rfl, ?_⟩) (by assumption) ?_
              rotate_left
              focus (intro w hSw; (try dsimp only at hSw); go_simp; (try with_reducible rfl))
              try simp only [Act.put, List.setIfInBounds_toArray, List.set_cons_zero, List.set_cons_succ]
              refine wpAnyH_take (i := 26) (oi := { dst := some 72, op := Op.move (Operand.tmp 71), type := 4, pos := "more.go:65", after := #[{ on := 25, ground := Ground.data }, { on := 20, ground := Ground.chain }], guard := none }) (v := ?_) rfl (by kernel_rfl) (by kernel_rfl) (by kernel_rfl) (fun _ _ _ h => h) (Or.inl ⟨by rfl, ?_⟩) (by assumption) ?_
              rotate_left
              focus (intro w hSw; (try dsimp only at hSw); go_simp; (try with_reducible rfl))
              try simp only [Act.put, List.setIfInBounds_toArray, List.set_cons_zero, List.set_cons_succ]
              refine wpAnyH_take (i := 27) (oi := { dst := some 73, op := Op.fieldAddr 31 (Operand.tmp 7) 0, type := 0, pos := "more.go:65", after := #[{ on := 26, ground := Ground.guard }], guard := some (26, false) }) (v := ?_) rfl (by kernel_rfl) (by kernel_rfl) (by kernel_rfl) (fun _ _ _ h => h) (Or.inl ⟨by rfl, ?_⟩) (by assumption) ?_
              rotate_left
              focus (intro w hSw; (try dsimp only at hSw); go_simp; (try with_reducible rfl))
              try simp only [Act.put, List.setIfInBounds_toArray, List.set_cons_zero, List.set_cons_succ]
              refine wpAnyH_take (i := 28) (oi := { dst := some 74, op := Op.load 3 (Operand.tmp 73), type := 3, pos := "more.go:65", after := #[{ on := 27, ground := Ground.data }, { on := 26, ground := Ground.guard }], guard := some (26, false) }) (v := ?_) rfl (by kernel_rfl) (by kernel_rfl) (by kernel_rfl) (fun _ _ _ h => h) (Or.inl ⟨by rfl, ?_⟩) (by assumption) ?_
              rotate_left
              focus (intro w hSw; (try dsimp only at hSw); go_simp; (try with_reducible rfl))
              try simp only [Act.put, List.setIfInBounds_toArray, List.set_cons_zero, List.set_cons_succ]
              refine wpAnyH_take (i := 29) (oi := { dst := some 75, op := Op.binOp BinOp.neq 3 (Operand.tmp 74) (Operand.const (Value.int IntKind.i64 0)) 3, type := 4, pos := "more.go:65", after := #[{ on := 28, ground := Ground.data }, { on := 26, ground := Ground.guard }], guard := some (26, false) }) (v := ?_) rfl (by kernel_rfl) (by kernel_rfl) (by kernel_rfl) (fun _ _ _ h => h) (Or.inl ⟨by rfl, ?_⟩) (by assumption) ?_
              rotate_left
              focus (intro w hSw; (try dsimp only at hSw); go_simp; (try with_reducible rfl))
              try simp only [Act.put, List.setIfInBounds_toArray, List.set_cons_zero, List.set_cons_succ]
              refine wpAnyH_take (i := 30) (oi := { dst := some 76, op := Op.move (Operand.tmp 75), type := 4, pos := "more.go:65", after := #[{ on := 29, ground := Ground.data }, { on := 26, ground := Ground.chain }, { on := 26, ground := Ground.guard }], guard := some (26, false) }) (v := ?_) rfl (by kernel_rfl) (by kernel_rfl) (by kernel_rfl) (fun _ _ _ h => h) (Or.inl ⟨by rfl, ?_⟩) (by assumption) ?_
              rotate_left
              focus (intro w hSw; (try dsimp only at hSw); go_simp; (try with_reducible rfl))
              try simp only [Act.put, List.setIfInBounds_toArray, List.set_cons_zero, List.set_cons_succ]
              refine wpAnyH_take (i := 31) (oi := { dst := some 77, op := Op.fieldAddr 31 (Operand.tmp 7) 1, type := 0, pos := "more.go:65", after := #[{ on := 30, ground := Ground.guard }], guard := some (30, true) }) (v := ?_) rfl (by kernel_rfl) (by kernel_rfl) (by kernel_rfl) (fun _ _ _ h => h) (Or.inl ⟨by rfl, ?_⟩) (by assumption) ?_
              rotate_left
              focus (intro w hSw; (try dsimp only at hSw); go_simp; (try with_reducible rfl))
              try simp only [Act.put, List.setIfInBounds_toArray, List.set_cons_zero, List.set_cons_succ]
              refine wpAnyH_take (i := 32) (oi := { dst := some 78, op := Op.load 9 (Operand.tmp 77), type := 9, pos := "more.go:65", after := #[{ on := 31, ground := Ground.data }, { on := 30, ground := Ground.guard }], guard := some (30, true) }) (v := ?_) rfl (by kernel_rfl) (by kernel_rfl) (by kernel_rfl) (fun _ _ _ h => h) (Or.inl ⟨by rfl, ?_⟩) (by assumption) ?_
              rotate_left
              focus (intro w hSw; (try dsimp only at hSw); go_simp; (try with_reducible rfl))
              try simp only [Act.put, List.setIfInBounds_toArray, List.set_cons_zero, List.set_cons_succ]
              refine wpAnyH_take (i := 33) (oi := { dst := some 79, op := Op.binOp BinOp.eql 9 (Operand.tmp 78) (Operand.const (Value.string { data := #[] })) 9, type := 4, pos := "more.go:65", after := #[{ on := 32, ground := Ground.data }, { on := 30, ground := Ground.guard }], guard := some (30, true) }) (v := ?_) rfl (by kernel_rfl) (by kernel_rfl) (by kernel_rfl) (fun _ _ _ h => h) (Or.inl ⟨by rfl, ?_⟩) (by assumption) ?_
              rotate_left
              focus (intro w hSw; (try dsimp only at hSw); go_simp; (try with_reducible rfl))
              try simp only [Act.put, List.setIfInBounds_toArray, List.set_cons_zero, List.set_cons_succ]
              refine wpAnyH_take (i := 34) (oi := { dst := some 80, op := Op.move (Operand.tmp 79), type := 4, pos := "more.go:65", after := #[{ on := 33, ground := Ground.data }, { on := 30, ground := Ground.chain }, { on := 30, ground := Ground.guard }], guard := some (30, true) }) (v := ?_) rfl (by kernel_rfl) (by kernel_rfl) (by kernel_rfl) (fun _ _ _ h => h) (Or.inl ⟨by rfl, ?_⟩) (by assumption) ?_
              rotate_left
              focus (intro w hSw; (try dsimp only at hSw); go_simp; (try with_reducible rfl))
              try simp only [Act.put, List.setIfInBounds_toArray, List.set_cons_zero, List.set_cons_succ]
              refine wpAnyH_take (i := 35) (oi := { dst := some 81, op := Op.fieldAddr 31 (Operand.tmp 7) 1, type := 0, pos := "more.go:65", after := #[{ on := 34, ground := Ground.guard }], guard := some (34, false) }) (v := ?_) rfl (by kernel_rfl) (by kernel_rfl) (by kernel_rfl) (fun _ _ _ h => h) (Or.inl ⟨by rfl, ?_⟩) (by assumption) ?_
              rotate_left
              focus (intro w hSw; (try dsimp only at hSw); go_simp; (try with_reducible rfl))
              try simp only [Act.put, List.setIfInBounds_toArray, List.set_cons_zero, List.set_cons_succ]
              refine wpAnyH_take (i := 36) (oi := { dst := some 82, op := Op.load 9 (Operand.tmp 81), type := 9, pos := "more.go:65", after := #[{ on := 35, ground := Ground.data }, { on := 34, ground := Ground.guard }], guard := some (34, false) }) (v := ?_) rfl (by kernel_rfl) (by kernel_rfl) (by kernel_rfl) (fun _ _ _ h => h) (Or.inl ⟨by rfl, ?_⟩) (by assumption) ?_
              rotate_left
              focus (intro w hSw; (try dsimp only at hSw); go_simp; (try with_reducible rfl))
              try simp only [Act.put, List.setIfInBounds_toArray, List.set_cons_zero, List.set_cons_succ]
              refine wpAnyH_take (i := 37) (oi := { dst := some 83, op := Op.fieldAddr 31 (Operand.tmp 7) 1, type := 0, pos := "more.go:65", after := #[{ on := 34, ground := Ground.guard }], guard := some (34, false) }) (v := ?_) rfl (by kernel_rfl) (by kernel_rfl) (by kernel_rfl) (fun _ _ _ h => h) (Or.inl ⟨by rfl, ?_⟩) (by assumption) ?_
              rotate_left
              focus (intro w hSw; (try dsimp only at hSw); go_simp; (try with_reducible rfl))
              try simp only [Act.put, List.setIfInBounds_toArray, List.set_cons_zero, List.set_cons_succ]
              refine wpAnyH_take (i := 38) (oi := { dst := some 84, op := Op.load 9 (Operand.tmp 83), type := 9, pos := "more.go:65", after := #[{ on := 37, ground := Ground.data }, { on := 34, ground := Ground.guard }], guard := some (34, false) }) (v := ?_) rfl (by kernel_rfl) (by kernel_rfl) (by kernel_rfl) (fun _ _ _ h => h) (Or.inl ⟨by rfl, ?_⟩) (by assumption) ?_
              rotate_left
              focus (intro w hSw; (try dsimp only at hSw); go_simp; (try with_reducible rfl))
              try simp only [Act.put, List.setIfInBounds_toArray, List.set_cons_zero, List.set_cons_succ]
              refine wpAnyH_ready (rs := [39]) (by kernel_rfl) (by simp) ?_
              refine AllReadyH.cons (o := { dst := some 85, op := Op.call { callee := Callee.value (Operand.func 26), args := #[Operand.tmp 84], argTypes := #[9] }, type := 9, pos := "more.go:65", after := #[{ on := 38, ground := Ground.data }, { on := 34, ground := Ground.chain }, { on := 34, ground := Ground.guard }], guard := some (34, false) }) rfl (fun K hK => ?_) AllReadyH.nil
              go_simp
              refine (HF.out _ hHeld).mono ?_
              rintro e w9 ⟨rfl, hS9⟩
              refine hK.out _ _ hS9 (fun hHeld => ?_)
              clear hK K
              try simp only [Act.put, List.setIfInBounds_toArray, List.set_cons_zero, List.set_cons_succ]
              refine wpAnyH_take (i := 40) (oi := { dst := some 86, op := Op.binOp BinOp.neq 9 (Operand.tmp 82) (Operand.tmp 85) 9, type := 4, pos := "more.go:65", after := #[{ on := 36, ground := Ground.data }, { on := 39, ground := Ground.data }, { on := 34, ground := Ground.guard }], guard := some (34, false) }) (v := ?_) rfl (by kernel_rfl) (by kernel_rfl) (by kernel_rfl) (fun _ _ _ h => h) (Or.inl ⟨by rfl, ?_⟩) (by assumption) ?_
              rotate_left
              focus (intro w hSw; (try dsimp only at hSw); go_simp; (try with_reducible rfl))
              try simp only [Act.put, List.setIfInBounds_toArray, List.set_cons_zero, List.set_cons_succ]
              refine wpAnyH_take (i := 41) (oi := { dst := some 87, op := Op.pick (Operand.tmp 80) (Operand.const (Value.bool true)) (Operand.tmp 86), type := 4, pos := "more.go:65", after := #[{ on := 34, ground := Ground.data }, { on := 40, ground := Ground.data }, { on := 30, ground := Ground.guard }], guard := some (30, true) }) (v := ?_) rfl (by kernel_rfl) (by kernel_rfl) (by kernel_rfl) (fun _ _ _ h => h) (Or.inl ⟨by rfl, ?_⟩) (by assumption) ?_
              rotate_left
              focus (intro w hSw; (try dsimp only at hSw); go_simp; (try with_reducible rfl))
              try simp only [Act.put, List.setIfInBounds_toArray, List.set_cons_zero, List.set_cons_succ]
              refine wpAnyH_take (i := 42) (oi := { dst := some 88, op := Op.move (Operand.tmp 87), type := 4, pos := "more.go:65", after := #[{ on := 41, ground := Ground.data }, { on := 39, ground := Ground.chain }, { on := 30, ground := Ground.guard }], guard := some (30, true) }) (v := ?_) rfl (by kernel_rfl) (by kernel_rfl) (by kernel_rfl) (fun _ _ _ h => h) (Or.inl ⟨by rfl, ?_⟩) (by assumption) ?_
              rotate_left
              focus (intro w hSw; (try dsimp only at hSw); go_simp; (try with_reducible rfl))
              try simp only [Act.put, List.setIfInBounds_toArray, List.set_cons_zero, List.set_cons_succ]
              refine wpAnyH_take (i := 43) (oi := { dst := some 89, op := Op.move (Operand.tmp 5), type := 28, pos := "more.go:65", after := #[{ on := 42, ground := Ground.guard }], guard := some (42, false) }) (v := ?_) rfl (by kernel_rfl) (by kernel_rfl) (by kernel_rfl) (fun _ _ _ h => h) (Or.inl ⟨by rfl, ?_⟩) (by assumption) ?_
              rotate_left
              focus (intro w hSw; (try dsimp only at hSw); go_simp; (try with_reducible rfl))
              try simp only [Act.put, List.setIfInBounds_toArray, List.set_cons_zero, List.set_cons_succ]
              refine wpAnyH_take (i := 44) (oi := { dst := some 90, op := Op.move (Operand.tmp 6), type := 3, pos := "more.go:65", after := #[{ on := 42, ground := Ground.guard }], guard := some (42, false) }) (v := ?_) rfl (by kernel_rfl) (by kernel_rfl) (by kernel_rfl) (fun _ _ _ h => h) (Or.inl ⟨by rfl, ?_⟩) (by assumption) ?_
              rotate_left
              focus (intro w hSw; (try dsimp only at hSw); go_simp; (try with_reducible rfl))
              try simp only [Act.put, List.setIfInBounds_toArray, List.set_cons_zero, List.set_cons_succ]
              refine wpAnyH_take (i := 45) (oi := { dst := some 91, op := Op.indexAddr 28 (Operand.tmp 89) (Operand.tmp 90), type := 0, pos := "more.go:65", after := #[{ on := 43, ground := Ground.data }, { on := 44, ground := Ground.data }, { on := 42, ground := Ground.guard }], guard := some (42, false) }) (v := ?_) rfl (by kernel_rfl) (by kernel_rfl) (by kernel_rfl) (fun _ _ _ h => h) (Or.inl ⟨by rfl, ?_⟩) (by assumption) ?_
              rotate_left
              focus (intro w hSw; (try dsimp only at hSw); go_simp; (try with_reducible rfl))
              try simp only [Act.put, List.setIfInBounds_toArray, List.set_cons_zero, List.set_cons_succ]
              refine wpAnyH_take (i := 46) (oi := { dst := some 92, op := Op.load 9 (Operand.tmp 91), type := 9, pos := "more.go:65", after := #[{ on := 45, ground := Ground.data }, { on := 42, ground := Ground.guard }], guard := some (42, false) }) (v := ?_) rfl (by kernel_rfl) (by kernel_rfl) (by kernel_rfl) (fun _ _ _ h => h) (Or.inl ⟨by rfl, ?_⟩) (by assumption) ?_
              rotate_left
              focus (intro w hSw; (try dsimp only at hSw); go_simp; (try with_reducible rfl))
              try simp only [Act.put, List.setIfInBounds_toArray, List.set_cons_zero, List.set_cons_succ]
              refine wpAnyH_take (i := 47) (oi := { dst := some 93, op := Op.move (Operand.tmp 8), type := 3, pos := "more.go:65", after := #[{ on := 42, ground := Ground.guard }], guard := some (42, false) }) (v := ?_) rfl (by kernel_rfl) (by kernel_rfl) (by kernel_rfl) (fun _ _ _ h => h) (Or.inl ⟨by rfl, ?_⟩) (by assumption) ?_
              rotate_left
              focus (intro w hSw; (try dsimp only at hSw); go_simp; (try with_reducible rfl))
              try simp only [Act.put, List.setIfInBounds_toArray, List.set_cons_zero, List.set_cons_succ]
              refine wpAnyH_take (i := 48) (oi := { dst := some 94, op := Op.binOp BinOp.sub 3 (Operand.tmp 93) (Operand.const (Value.int IntKind.i64 1)) 3, type := 3, pos := "more.go:65", after := #[{ on := 47, ground := Ground.data }, { on := 42, ground := Ground.guard }], guard := some (42, false) }) (v := ?_) rfl (by kernel_rfl) (by kernel_rfl) (by kernel_rfl) (fun _ _ _ h => h) (Or.inl ⟨by rfl, ?_⟩) (by assumption) ?_
              rotate_left
              focus (intro w hSw; (try dsimp only at hSw); go_simp; (try with_reducible rfl))
              try simp only [Act.put, List.setIfInBounds_toArray, List.set_cons_zero, List.set_cons_succ]
              refine wpAnyH_take (i := 49) (oi := { dst := some 95, op := Op.index 9 (Operand.tmp 92) (Operand.tmp 94), type := 5, pos := "more.go:65", after := #[{ on := 46, ground := Ground.data }, { on := 48, ground := Ground.data }, { on := 42, ground := Ground.guard }], guard := some (42, false) }) (v := ?_) rfl (by kernel_rfl) (by kernel_rfl) (by kernel_rfl) (fun _ _ _ h => h) (Or.inl ⟨by rfl, ?_⟩) (by assumption) ?_
              rotate_left
              focus (intro w hSw; (try dsimp only at hSw); go_simp; (try with_reducible rfl))
              try simp only [Act.put, List.setIfInBounds_toArray, List.set_cons_zero, List.set_cons_succ]
              refine wpAnyH_take (i := 50) (oi := { dst := some 96, op := Op.binOp BinOp.neq 5 (Operand.tmp 95) (Operand.const (Value.int IntKind.u8 62)) 5, type := 4, pos := "more.go:65", after := #[{ on := 49, ground := Ground.data }, { on := 42, ground := Ground.guard }], guard := some (42, false) }) (v := ?_) rfl (by kernel_rfl) (by kernel_rfl) (by kernel_rfl) (fun _ _ _ h => h) (Or.inl ⟨by rfl, ?_⟩) (by assumption) ?_
              rotate_left
              focus (intro w hSw; (try dsimp only at hSw); go_simp; (try with_reducible rfl))
              try simp only [Act.put, List.setIfInBounds_toArray, List.set_cons_zero, List.set_cons_succ]
              refine wpAnyH_take (i := 51) (oi := { dst := some 97, op := Op.pick (Operand.tmp 88) (Operand.const (Value.bool true)) (Operand.tmp 96), type := 4, pos := "more.go:65", after := #[{ on := 42, ground := Ground.data }, { on := 50, ground := Ground.data }, { on := 30, ground := Ground.guard }], guard := some (30, true) }) (v := ?_) rfl (by kernel_rfl) (by kernel_rfl) (by kernel_rfl) (fun _ _ _ h => h) (Or.inl ⟨by rfl, ?_⟩) (by assumption) ?_
              rotate_left
              focus (intro w hSw; (try dsimp only at hSw); go_simp; (try with_reducible rfl))
              try simp only [Act.put, List.setIfInBounds_toArray, List.set_cons_zero, List.set_cons_succ]
              refine wpAnyH_take (i := 52) (oi := { dst := some 98, op := Op.pick (Operand.tmp 76) (Operand.tmp 97) (Operand.const (Value.bool false)), type := 4, pos := "more.go:65", after := #[{ on := 30, ground := Ground.data }, { on := 51, ground := Ground.data }, { on := 26, ground := Ground.guard }], guard := some (26, false) }) (v := ?_) rfl (by kernel_rfl) (by kernel_rfl) (by kernel_rfl) (fun _ _ _ h => h) (Or.inl ⟨by rfl, ?_⟩) (by assumption) ?_
              rotate_left
              focus (intro w hSw; (try dsimp only at hSw); go_simp; (try with_reducible rfl))
              try simp only [Act.put, List.setIfInBounds_toArray, List.set_cons_zero, List.set_cons_succ]
              refine wpAnyH_take (i := 53) (oi := { dst := some 99, op := Op.pick (Operand.tmp 72) (Operand.const (Value.bool true)) (Operand.tmp 98), type := 4, pos := "more.go:65", after := #[{ on := 26, ground := Ground.data }, { on := 52, ground := Ground.data }], guard := none }) (v := ?_) rfl (by kernel_rfl) (by kernel_rfl) (by kernel_rfl) (fun _ _ _ h => h) (Or.inl ⟨by rfl, ?_⟩) (by assumption) ?_
              rotate_left
              focus (intro w hSw; (try dsimp only at hSw); go_simp; (try with_reducible rfl))
              try simp only [Act.put, List.setIfInBounds_toArray, List.set_cons_zero, List.set_cons_succ]
              refine wpAnyH_done (by kernel_rfl) ?_ _
              go_wp2
              go_meet
              exact ⟨by simp, hS9.2.2.2.2.2⟩
            · obtain ⟨hn1, hn2, hn3⟩ := HNM.out (by decide)
              obtain ⟨rfl, rfl⟩ := HEN.out rfl
              have m2 : W5.cell? ⟨w4.heap.size, 2, none⟩ = some (.slice p4 0 c4) := m2
              have htm : tm < x.size := by omega
              rw [Plain.getD_get x tm htm] at hn3
              have h8 : x[tm].toNat < 256 := x[tm].toNat_lt
              have q62 : ((x[tm].toNat : Int) != 62) = false := by simp [hn3]
              obtain ⟨TN, hTN⟩ : ∃ TN : ByteArray, TN = ⟨tn.toArray⟩ := ⟨_, rfl⟩
              have hTl : TN.data.toList = tn := by rw [hTN]
              have hTs : TN.size ≤ maxLen := HTS.out TN hTN
              have HF : Hid (∀ W, (W.cell? ⟨w3.heap.size, i, none⟩ = some (.string x) ∧ W.cell? ⟨w4.heap.size, 0, none⟩ = some (.int .i64 2) ∧ W.cell? ⟨w4.heap.size, 1, none⟩ = some (.string TN) ∧ W.cell? ⟨w4.heap.size, 2, none⟩ = some (.slice p4 0 c4) ∧ W.cell? ⟨w4.heap.size, 3, none⟩ = some (.bool false) ∧ Below W5.heap.size W5 W) →
                  Calls Tryd.prog 26 #[.string TN] W (fun e w' => e = .returned (.string TN) ∧ (w'.cell? ⟨w3.heap.size, i, none⟩ = some (.string x) ∧ w'.cell? ⟨w4.heap.size, 0, none⟩ = some (.int .i64 2) ∧ w'.cell? ⟨w4.heap.size, 1, none⟩ = some (.string TN) ∧ w'.cell? ⟨w4.heap.size, 2, none⟩ = some (.slice p4 0 c4) ∧ w'.cell? ⟨w4.heap.size, 3, none⟩ = some (.bool false) ∧ Below W5.heap.size W5 w'))) := by
                refine Lib.hid fun W hW => (rfold_any TN W hTs).mono fun e w' ⟨he, hb'⟩ => ?_
                have hzW := hW.2.2.2.2.2.size
                refine ⟨?_, (hb'.cell (p := ⟨w3.heap.size, i, none⟩) (by show w3.heap.size < W.heap.size; omega)).trans hW.1, (hb'.cell (p := ⟨w4.heap.size, 0, none⟩) (by show w4.heap.size < W.heap.size; omega)).trans hW.2.1, (hb'.cell (p := ⟨w4.heap.size, 1, none⟩) (by show w4.heap.size < W.heap.size; omega)).trans hW.2.2.1, (hb'.cell (p := ⟨w4.heap.size, 2, none⟩) (by show w4.heap.size < W.heap.size; omega)).trans hW.2.2.2.1, (hb'.cell (p := ⟨w4.heap.size, 3, none⟩) (by show w4.heap.size < W.heap.size; omega)).trans hW.2.2.2.2.1, hW.2.2.2.2.2.trans (hb'.mono hzW)⟩
                rw [he, hTl, hn2, ← hTN]
              rw [← hTN]
              rw [← hTN] at m1
              have t1 : ¬ TN.toList = [] := by rw [Lib.toList_data, hTl]; exact hn1
              have t2 : (TN.toList == []) = false := by rw [beq_eq_false_iff_ne]; exact t1
              have t3 : TN.toList.isEmpty = false := by
                cases h : TN.toList.isEmpty
                · rfl
                · exact absurd (List.isEmpty_iff.1 h) t1
              have t4 : (TN.toList != TN.toList) = false := by simp
              have e1 : (tm : Int) + 1 - 1 = (tm : Int) := by omega
              have e2 : IntKind.i64.wrap (tm : Int) = (tm : Int) := IntWalk.i64_in _ (by omega)
              have e3 : (0 : Int) ≤ (tm : Int) := by omega
              have e4 : (tm : Int) < (x.size : Int) := by omega
              have HRF := Lib.hid (Below.refl W5.heap.size W5)
              have u1 : ((2 : Int) == 2) = true := by decide
              have hun : (undef : Value) = .tuple #[] := rfl
              have u2 : ((2 : Int) != 0) = true := by decide
              clear hn1 hn2 hn3 HNM HEN hTN hTl hTs
              go_wp2_with fail
              first
              | (go_region_held3 (fun w' => w'.cell? ⟨w3.heap.size, i, none⟩ = some (.string x) ∧ w'.cell? ⟨w4.heap.size, 0, none⟩ = some (.int .i64 2) ∧ w'.cell? ⟨w4.heap.size, 1, none⟩ = some (.string TN) ∧ w'.cell? ⟨w4.heap.size, 2, none⟩ = some (.slice p4 0 c4) ∧ w'.cell? ⟨w4.heap.size, 3, none⟩ = some (.bool false) ∧ Below W5.heap.size W5 w')
                  (first
                    | assumption
                    | exact ⟨hc5, m0, m1, m2, m3, HRF.out.drew⟩
                    | exact ⟨hc5, m0, m1, m2, m3, HRF.out⟩
                    | fail)
                  (first
                    | (go_at_call 26; refine (HF.out _ (by assumption)).mono ?_; rintro e w9 ⟨rfl, hS9⟩)
                    | fail))
              | fail
              all_goals
                go_wp2
                go_meet
                exact ⟨rfl, hS9.2.2.2.2.2⟩
          case rest =>
            obtain ⟨rfl, hb6⟩ := hcut
            have HAT := Lib.hid (HA5.out)
            have HGA := Lib.hid HG.out.attrs
            have HGO := Lib.hid HG.out.once
            simp only at HGA HGO
            have HB6 := Lib.hid hb6
            clear hb6 HNM HEN HG
            go_wp2_with fail
            go_loopw [9] (fun kk wk => ∃ k : Nat, k ≤ ta.length ∧ kk = .int .i64 (k : Int) ∧ Below W5.heap.size W5 wk) (fun kk _ => ta.length - (intOf kk).toNat)
            case atStart => exact ⟨0, Nat.zero_le _, rfl, HB6.out⟩
            case round =>
              clear HB6
              obtain ⟨wk, hwk⟩ : ∃ wk, wk = wr := ⟨_, rfl⟩
              subst hwk
              obtain ⟨k, hk, rfl, hBk⟩ := hrel
              have HBk := Lib.hid hBk
              have hsk := hBk.size
              have n2 := (hBk.cell (p := ⟨w4.heap.size, 2, none⟩) hz5).trans m2
              clear hBk
              by_cases hkl : k < ta.length
              · have kl1 : (k : Int) < (ta.length : Int) := by omega
                have kl0 : (0 : Int) ≤ (k : Int) := by omega
                obtain ⟨pp, cc, hsl4, hcells⟩ := HAT.out
                have HCE := Lib.hid hcells
                obtain ⟨g, hg0, hg, a0, a1⟩ := HCE.out k hkl
                have hp4 : p4 = some ⟨g, 0, none⟩ := by rw [(Value.slice.inj hsl4).1, hg0]
                have hpp : pp = some ⟨g, 0, none⟩ := hg0
                subst hp4 hpp
                have hga := HGA.out ta[k] (List.getElem_mem hkl)
                have hbd := HBD.out ta[k] (List.getElem_mem hkl)
                have c0 := (HBk.out.cell (p := ⟨g, k * 2, none⟩) hg).trans a0
                have c1 := (HBk.out.cell (p := ⟨g, k * 2 + 1, none⟩) hg).trans a1
                have hgk : g < wk.heap.size := by omega
                clear hcells hsl4 hg0 a0 a1
                obtain ⟨A, hA⟩ : ∃ A : ByteArray, A = ⟨ta[k].1.toArray⟩ := ⟨_, rfl⟩
                obtain ⟨V, hV⟩ : ∃ V : ByteArray, V = ⟨ta[k].2.toArray⟩ := ⟨_, rfl⟩
                rw [← hA] at c0
                rw [← hV] at c1
                have hAl : A.data.toList = ta[k].1 := by rw [hA]
                have hVl : V.data.toList = ta[k].2 := by rw [hV]
                have hAs : A.size ≤ 10000 := by rw [← len_of, hAl]; omega
                have hVs : V.size ≤ 20000 := by rw [← len_of, hVl]; omega
                have HAL := Lib.hid hAl
                have t1 : ¬ A.toList = [] := by rw [Lib.toList_data, hAl]; exact hga.1
                have t2 : (A.toList == []) = false := by rw [beq_eq_false_iff_ne]; exact t1
                have t3 : A.toList.isEmpty = false := by
                  cases h : A.toList.isEmpty
                  · rfl
                  · exact absurd (List.isEmpty_iff.1 h) t1
                have t4 : (A.toList != A.toList) = false := by simp
                have HFO : Hid (∀ W, Calls Tryd.prog 26 #[.string A] W (fun e w' => e = .returned (.string A) ∧ Below W.heap.size W w')) := Lib.hid fun W => (rfold_any A W (by unfold maxLen; omega)).mono fun e w' ⟨he, hb'⟩ => by
                  refine ⟨?_, hb'⟩
                  rw [he, hAl, hga.2.1, hA]
                have HIX : Hid (∀ W, Calls Tryd.prog 20 #[.string (A ++ V), .string ⟨#[0]⟩, .int .i64 0] W (Gives (.int .i64 (-1)) W)) := Lib.hid fun W => by
                  have h := rfind_any (A ++ V) 0 0 W (by omega) (by rw [ByteArray.size_append]; omega)
                  rw [findI_no0 (A ++ V).data.toList (by
                    rw [ByteArray.data_append, Array.toList_append, List.mem_append, hAl, hVl]
                    rintro (h | h)
                    · exact hga.2.2.1 h
                    · exact hga.2.2.2 h)] at h
                  exact h
                clear hA hV hAl hVl hga hbd
                go_upto_region 17 with fail
                have hcp : ∀ j, (wk.alloc (.cells #[.string A, .string V] 44)).cell? ⟨wk.heap.size, j, none⟩ = (#[.string A, .string V] : Array Value)[j]? := fun j => World.cell?_alloc_mark wk _ 44 (0, 0) j
                have HBa := Lib.hid (HBk.out.alloc HBk.out.size (.cells #[.string A, .string V] 44))
                have hza : wk.heap.size < (wk.alloc (.cells #[.string A, .string V] 44)).heap.size := by simp
                generalize wk.alloc (.cells #[.string A, .string V] 44) = WK at *
                have e0 := hcp 0
                have e1 := hcp 1
                clear hcp c0 c1 n2
                have hcat : (A ++ V).size ≤ 1073741824 := by rw [ByteArray.size_append]; omega
                go_cut [131] (fun b wx => b = .bool false ∧ Below WK.heap.size WK wx)
                case first =>
                  have HF : Hid (∀ W, (W.cell? ⟨wk.heap.size, 0, none⟩ = some (.string A) ∧ W.cell? ⟨wk.heap.size, 1, none⟩ = some (.string V) ∧ Below WK.heap.size WK W) → Calls Tryd.prog 26 #[.string A] W (fun e w' => e = .returned (.string A) ∧ (w'.cell? ⟨wk.heap.size, 0, none⟩ = some (.string A) ∧ w'.cell? ⟨wk.heap.size, 1, none⟩ = some (.string V) ∧ Below WK.heap.size WK w'))) := by
                    refine Lib.hid fun W hW => (HFO.out W).mono fun e w' ⟨he, hb'⟩ => ?_
                    have hzW := hW.2.2.size
                    exact ⟨he, (hb'.cell (p := ⟨wk.heap.size, 0, none⟩) (by show wk.heap.size < W.heap.size; omega)).trans hW.1, (hb'.cell (p := ⟨wk.heap.size, 1, none⟩) (by show wk.heap.size < W.heap.size; omega)).trans hW.2.1, hW.2.2.trans (hb'.mono hzW)⟩
                  have HRF := Lib.hid (Below.refl WK.heap.size WK)
                  have hcz : (0 : Int) ≤ -1 → False := by omega
                  have hs1 : ¬ 9223372036854775807 < A.size + V.size := by omega
                  have hs2 : decide (9223372036854775807 < A.size + V.size) = false := decide_eq_false hs1
                  have hs3 : A.size + V.size ≤ 9223372036854775807 := by omega
                  go_wp2_with fail
                  first
                  | (go_region_held3 (fun w' => w'.cell? ⟨wk.heap.size, 0, none⟩ = some (.string A) ∧ w'.cell? ⟨wk.heap.size, 1, none⟩ = some (.string V) ∧ Below WK.heap.size WK w')
                      (first
                        | assumption
                        | exact ⟨e0, e1, HRF.out.drew⟩
                        | exact ⟨e0, e1, HRF.out⟩
                        | fail)
                      (first
                        | (go_at_call 26; refine (HF.out _ (by assumption)).mono ?_; rintro e w9 ⟨rfl, hS9⟩)
                        | (go_at_call 20; refine (HIX.out _).mono ?_; rintro e w8 ⟨rfl, rfl⟩)
                        | fail))
                  | fail
                  all_goals
                    go_wp2
                    go_meet
                    exact ⟨by simp, hS9.2.2⟩
                case rest =>
                  obtain ⟨rfl, hb7⟩ := hcut
                  have HB7 := Lib.hid hb7
                  clear hb7 HFO HIX
                  go_wp2_with fail
                  go_loopw [11] (fun jj wj => ∃ j : Nat, j ≤ k ∧ jj = .int .i64 (j : Int) ∧ Below WK.heap.size WK wj) (fun jj _ => k - (intOf jj).toNat)
                  case atStart => exact ⟨0, Nat.zero_le _, rfl, HB7.out⟩
                  case round =>
                    clear HB7
                    obtain ⟨wj, hwj⟩ : ∃ wj, wj = wr := ⟨_, rfl⟩
                    subst hwj
                    obtain ⟨j, hj, rfl, hBj⟩ := hrel
                    have HBj := Lib.hid hBj
                    have HTO := Lib.hid (HBa.out.trans (hBj.mono HBa.out.size))
                    clear hBj
                    by_cases hjk : j < k
                    · have j0 : (0 : Int) ≤ (j : Int) := by omega
                      have j1 : (j : Int) < (ta.length : Int) := by omega
                      have j2 : (j : Int) < (k : Int) := by omega
                      have hjl : j < ta.length := by omega
                      obtain ⟨g', hg', _, x0, _⟩ := HCE.out j hjl
                      obtain rfl : g = g' := by injection hg' with hq; injection hq
                      have y0 := (HTO.out.cell (p := ⟨g, j * 2, none⟩) hg).trans x0
                      have y2 := (HTO.out.cell (p := ⟨w4.heap.size, 2, none⟩) hz5).trans m2
                      have yc := (HBj.out.cell (p := ⟨wk.heap.size, 0, none⟩) hza).trans e0
                      have hne : ((⟨ta[j].1.toArray⟩ : ByteArray).toList == A.toList) = false := by
                        rw [Lib.toList_data, Lib.toList_data, HAL.out, beq_eq_false_iff_ne]
                        exact List.pairwise_iff_getElem.1 HGO.out j k hjl hkl hjk
                      clear x0 hg'
                      generalize (⟨ta[j].1.toArray⟩ : ByteArray) = J at *
                      go_wp2_with fail
                      go_quiet (fail)
                      have HBd := Lib.hid (below_drewN HBj.out 1)
                      go_wp2
                      exact ⟨⟨j + 1, by omega, by go_num, below_drewN HBj.out _⟩, by simp [intOf]; omega⟩
                    · have j2 : ¬ (j : Int) < (k : Int) := by omega
                      have HFI := Lib.hid (HTO.out)
                      go_wp2
                      exact ⟨⟨k + 1, by omega, by go_num, HFI.out⟩, by simp [intOf]; omega⟩
              · have hkl' : ¬ (k : Int) < (ta.length : Int) := by omega
                have HZ := Lib.hid (HB5.out.trans (HBk.out.mono HB5.out.size))
                have XZ := Lib.hid (HX5.out.on HBk.out hz6)
                have hzz := Nat.lt_of_lt_of_le hz6 HBk.out.size
                go_wp2
                exact ⟨⟨i + 1, by omega, by go_num, HZ.out, XZ.out, hzz⟩, by simp [intOf]; omega⟩
      · go_wp2
        go_ret
        exact ⟨rfl, HB.out⟩
end Go.Proofs.YtklhllgdkmpnmaaDoor
