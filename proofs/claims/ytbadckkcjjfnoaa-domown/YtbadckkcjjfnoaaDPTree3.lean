/-
  The walk of the program's Tree. Any nodes, not too many.
-/
import Derived.Test.YtbadckkcjjfnoaaDPTree2
namespace Go.Proofs.Ytbadckkcjjfnoaa
open Go.RowKit

set_option maxHeartbeats 1000000 in
set_option maxRecDepth 100000 in
theorem dtreeP (S : List PN) (B : Nat) (M : Nat → Prop) (w : World) (kf f : Nat) (n : Int) (r0 row : List Int) (ends : List Nat) (h : DocM M w B S) (hM : ∀ b, M b → b < w.heap.size) (hk : pKidsA S kf n = some r0) (hb : pBfs S kf f r0 [r0.length] 0 = some (row, ends)) (hs : row.length ≤ 4294967296) (ha : ∀ x ∈ S, x.attrs.length ≤ 4294967296) :
    Calls Try.prog 16 #[.pointer (some ⟨B, 0, none⟩), .int .i64 n] w (fun e w' => ∃ v, e = .returned v ∧ NodesP (fun b => w.heap.size ≤ b) w' v (foF S row ends (row.length + 1) 0 r0.length) ∧ Below w.heap.size w w') := by
  have hle := pBfs_len f _ _ _ _ _ hb
  have hhead := pBfs_head f _ _ _ _ _ r0.length hb rfl
  have HK := Lib.hid (dkidsP S B M w kf n r0 h hM hk (by omega))
  have HDM := Lib.hid h
  have HMM := Lib.hid hM
  have HBF := Lib.hid hb
  obtain ⟨i0, hi0, hz0, hz1, hz2⟩ := info_int
  have HI := Lib.hid (And.intro hi0 (And.intro hz0 (And.intro hz1 hz2)))
  clear h hM hb hk hi0 hz0 hz1 hz2
  go_enter Try.func16, Try.ntmps16
  go_wp2_with fail
  refine HK.out.mono ?_
  rintro e w1 ⟨v5, rfl, hR⟩
  obtain ⟨p5, c5, rfl⟩ := row_form hR.row
  have HR := Lib.hid hR
  clear hR
  go_wp2_with fail
  have HT0 : Hid (T1 w (w1.alloc (.cells #[.int .i64 (r0.length : Int)] 3)) (.slice p5 r0.length c5) (.slice (some ⟨w1.heap.size, 0, none⟩) 1 1) r0 [r0.length]) := by
    refine Lib.hid ⟨?_, ?_, ?_, ?_⟩
    · refine (ownsRow_base HR.out.row ?_).alloc _
      intro g e
      rcases HR.out.own g e with k | k
      · cases k
      · exact k
    · refine ⟨rfl, .inr ⟨w1.heap.size, 1, _, rfl, HR.out.turns.size, heap_alloc_new w1 _, Nat.le_refl _, by unfold maxLen; omega, rfl, rfl⟩⟩
    · intro g e k
      injection k with k
      have := (HR.out.row.lt g e).2
      simp at k
      omega
    · exact (HR.out.turns.below (Nat.le_refl _) (fun b _ e => by cases e)).alloc HR.out.turns.size _
  generalize w1.alloc (.cells #[.int .i64 (r0.length : Int)] 3) = w2 at *
  go_loopw [5, 6, 7] (fun a b i wr => ∃ (rk : List Int) (ek : List Nat) (k fk : Nat), i = .int .i64 (k : Int) ∧ pBfs S kf fk rk ek k = some (row, ends) ∧ Bfs S rk ek k ∧ T1 w wr a b rk ek) (fun _ _ i _ => row.length - (intOf i).toNat)
  case atStart => exact ⟨r0, [r0.length], 0, f, rfl, HBF.out, ⟨rfl, Nat.zero_le _, rfl, fun j h => absurd h (by omega), fun j _ h => absurd h (by omega)⟩, HT0.out⟩
  case round =>
    obtain ⟨rk, ek, k, fk, rfl, hb, hB, hT⟩ := hrel
    obtain ⟨p1, c1, rfl⟩ := row_form hT.r5
    obtain ⟨p2, c2, rfl⟩ := row_form hT.r6
    have hle2 := pBfs_len fk _ _ _ _ _ hb
    have HB := Lib.hid hB
    have HT := Lib.hid hT
    have hkl := hB.le
    have hel : ek.length ≤ 4294967297 := by have := hB.len; omega
    cases fk with
    | zero => cases hb
    | succ fk =>
      unfold pBfs at hb
      by_cases hlt : k < rk.length
      · rw [List.getElem?_eq_getElem hlt] at hb
        simp only at hb
        cases hp : pHas S rk[k]
        · rw [hp] at hb; cases hb
        · rw [hp, if_pos rfl] at hb
          cases hks : pKids S kf rk[k] with
          | none => rw [hks] at hb; cases hb
          | some ks =>
            rw [hks] at hb
            simp only at hb
            have hle3 := pBfs_len fk _ _ _ _ _ hb
            rw [List.length_append] at hle3
            have HBS := Lib.hid (HB.out.step (ks := ks) (List.getElem?_eq_getElem hlt) hp)
            have HBF2 := Lib.hid hb
            have hcell : ∃ g, p1 = some ⟨g, 0, none⟩ ∧ wr.cell? ⟨g, k, none⟩ = some (.int .i64 rk[k]) ∧ g < wr.heap.size := by
              rcases hT.r5.2 with ⟨e, e2⟩ | ⟨g, cap, cur, e, _⟩
              · omega
              · injection e with e1 e2 e3
                subst e1
                refine ⟨g, rfl, ?_, (hT.r5.lt g rfl).2⟩
                have h5 := hT.r5
                rw [h5.cellAt k (by omega)]
                simp [intCells, hlt]
            obtain ⟨g1, rfl, hc1, hg1⟩ := hcell
            have HW : Hid (∃ (d : DocM M wr B S), True) := Lib.hid ⟨HDM.out.on (L := fun b => w.heap.size ≤ b) ⟨hT.below.os, hT.below.tape, hT.below.output, hT.below.size, fun b hb hl => hT.below.block b hb⟩ (fun b _ k l => by have := HMM.out b k; omega), trivial⟩
            have HK1 := Lib.hid (dwithKidsP S B M wr kf rk[k] (.slice (some ⟨g1, 0, none⟩) rk.length c1) rk ks HW.out.1 (fun b q => Nat.lt_of_lt_of_le (HMM.out b q) hT.below.size) hp hks (ownsRow_zero hT.r5) (fun g e q => by have := (hT.r5.lt g e).1; have := HMM.out g q; omega) (by omega))
            have k0 : (0 : Int) ≤ (k : Int) := by omega
            have k1 : (k : Int) < (rk.length : Int) := by omega
            clear hb hks hp hB hT
            generalize rk[k] = x at *
            go_wp2_with fail
            refine HK1.out.mono ?_
            rintro e w3 ⟨v3, rfl, hR3⟩
            obtain ⟨p3, c3, rfl⟩ := row_form hR3.row
            have HT3 := Lib.hid (HT.out.kids hR3)
            clear hR3
            rw [List.length_append] at HT3 ⊢
            go_wp2_with (first
              | (at_builtin; refine wpList_append_lies _ rfl _ _ 32 rfl w.heap.size 3 i0 (.int .i64 0) 1 8 Try.underlying32 HI.out.1 HI.out.2.1 HI.out.2.2.1 HI.out.2.2.2 rfl (by omega) (.slice p2 ek.length c2) ek.length (natCells ek) rfl (HT3.out.r6.alloc _) ⟨w3.heap.size, 0, none⟩ 1 1 [.int .i64 ((rk.length + ks.length : Nat) : Int)] rfl rfl (World.news_of_block (cs := #[.int .i64 ((rk.length + ks.length : Nat) : Int)]) (t := 3) (fr := (0, 0)) (heap_alloc_new w3 _)) (by simp [Value.oneCell']) (by omega) (by unfold maxLen; omega) (by omega) (by have := HT3.out.below.size; simp; omega) (w3.heap.size + 1) (by simp) ?_; intro g4 c4 w4 hr4 hg4 hor4 _; have HT4 := Lib.hid (HT3.out.ends hr4 hg4 hor4); clear hr4 hg4 hor4)
              | fail)
            refine ⟨⟨rk ++ ks, ek ++ [rk.length + ks.length], k + 1, fk, by go_num, HBF2.out, HBS.out, ?_⟩, by simp [intOf]; omega⟩
            exact HT4.out
      · rw [List.getElem?_eq_none (by omega)] at hb
        simp only at hb
        injection hb with hb
        injection hb with hb1 hb2
        subst hb1 hb2
        have hkr : k = rk.length := by omega
        subst hkr
        obtain ⟨i7, hi7, hz7, hs7, hb7⟩ := info_node
        obtain ⟨w5, hmk, hown5, hgr5⟩ := run_make_full (P := Try.prog) wr w.heap.size 31 48 i7 _ 7 Try.underlying31 hi7 hz7 hs7 .i64 .i64 rk.length (by rw [hb7]; omega) (by unfold maxLen; omega) hT.below.size
        have hb5 : Below wr.heap.size wr w5 := ⟨hgr5.os, hgr5.tape, hgr5.output, hgr5.size, fun q hq => hgr5.block q hq (by simp)⟩
        have HT5 : Hid (T2 w S rk ek (.slice p1 rk.length c1) (.slice p2 ek.length c2) wr.heap.size 0 w5) := by
          have ht : Turns (fun _ => False) wr w5 := .of_below hb5
          refine Lib.hid ⟨⟨ownsRow_kept hT.r5 ht (fun _ _ k => k), ownsRow_kept hT.r6 ht (fun _ _ k => k), hT.ne, hT.below.trans (hb5.mono hT.below.size)⟩, ⟨_, hown5⟩, fun e => ?_, fun e => ?_, fun i hi => absurd hi (by omega)⟩
          · have := (hT.r5.lt _ e).2; omega
          · have := (hT.r6.lt _ e).2; omega
        have hp2 : ∃ g6, p2 = some ⟨g6, 0, none⟩ := by
          rcases hT.r6.2 with ⟨e, e2⟩ | ⟨g, cap, cur, e, _⟩
          · have := hB.len; omega
          · injection e with e1; exact ⟨g, e1⟩
        obtain ⟨g6, rfl⟩ := hp2
        have HBB := Lib.hid hB
        have HHEAD := Lib.hid hhead
        clear hT hB hown5 hgr5 hb5 hi7 hz7 hs7 hb7 hhead
        generalize wr.heap.size = G at *
        go_wp2_with fail
        go_loopw [40] (fun i wq => ∃ k : Nat, k ≤ rk.length ∧ i = .int .i64 (k : Int) ∧ T2 w S rk ek (.slice p1 rk.length c1) (.slice (some ⟨g6, 0, none⟩) ek.length c2) G k wq) (fun i _ => rk.length - (intOf i).toNat)
        case atStart => exact ⟨0, Nat.zero_le _, rfl, HT5.out⟩
        case round =>
          obtain ⟨k, hk, rfl, hT2⟩ := hrel
          have HT2 := Lib.hid hT2
          obtain ⟨wq, hwq⟩ : ∃ wq, wq = wr := ⟨_, rfl⟩
          subst hwq
          by_cases hlt2 : k < rk.length
          · obtain ⟨a, b, ea, eb, hka, hab, hbl⟩ := HBB.out.at_ k hlt2
            have hx := HBB.out.has k rk[k] hlt2 (List.getElem?_eq_getElem hlt2)
            obtain ⟨j, hj0, hj⟩ := pHas_nat hx
            have hget : pget S (rk.getD k 0) = S[j] := by rw [List.getD_eq_getElem?_getD, List.getElem?_eq_getElem hlt2]; show pget S rk[k] = _; rw [hj0, pget_nat hj]
            have hcx : ∃ g5, p1 = some ⟨g5, 0, none⟩ ∧ wq.cell? ⟨g5, k, none⟩ = some (.int .i64 (j : Int)) ∧ g5 < wq.heap.size := by
              rcases hT2.t1.r5.2 with ⟨_, e2⟩ | ⟨g, cap, cur, e, _⟩
              · omega
              · injection e with e1 e2 e3
                subst e1
                refine ⟨g, rfl, ?_, (hT2.t1.r5.lt g rfl).2⟩
                rw [hT2.t1.r5.cellAt k (by omega)]
                simp [intCells, hlt2, hj0]
            obtain ⟨g5, rfl, hc5, hg5⟩ := hcx
            have hcE : ∀ W, T2 w S rk ek (.slice (some ⟨g5, 0, none⟩) rk.length c1) (.slice (some ⟨g6, 0, none⟩) ek.length c2) G k W → W.cell? ⟨g6, k, none⟩ = some (.int .i64 (a : Int)) ∧ W.cell? ⟨g6, k + 1, none⟩ = some (.int .i64 (b : Int)) := by
              intro W hW
              have h1 := lt_of_some ea
              have h2 := lt_of_some eb
              rw [hW.t1.r6.cellAt k (by omega), hW.t1.r6.cellAt (k + 1) (by omega)]
              unfold natCells
              rw [List.getElem?_map, List.getElem?_map, ea, eb]
              exact ⟨rfl, rfl⟩
            have hDM : DocM M wq B S := HDM.out.on (L := fun b => w.heap.size ≤ b) ⟨hT2.t1.below.os, hT2.t1.below.tape, hT2.t1.below.output, hT2.t1.below.size, fun b hb _ => hT2.t1.below.block b hb⟩ (fun b _ q l => by have := HMM.out b q; omega)
            have HND := Lib.hid (dnodeP S B M wq j hDM hj (ha _ (List.getElem_mem hj)))
            have hGlt := hT2.lt
            have hsz := hT2.t1.below.size
            obtain ⟨NM, hNM⟩ : ∃ NM : ByteArray, (⟨S[j].name.toArray⟩ : ByteArray) = NM := ⟨_, rfl⟩
            obtain ⟨TX, hTX⟩ : ∃ TX : ByteArray, (⟨S[j].text.toArray⟩ : ByteArray) = TX := ⟨_, rfl⟩
            unfold NodeOut at HND
            rw [hNM, hTX] at HND
            have HPUT : Hid (∀ (w6 : World) (p6 : Option Addr) (c6 : Nat), AttrsP (fun b => wq.heap.size ≤ b) w6 (.slice p6 S[j].attrs.length c6) S[j].attrs → Below wq.heap.size wq w6 → ∃ W7, (((((((w6.setCell ⟨G, k * 7, none⟩ (.int .i64 S[j].kind)).setCell ⟨G, k * 7 + 1, none⟩ (.int .i64 S[j].space)).setCell ⟨G, k * 7 + 2, none⟩ (.string NM)).setCell ⟨G, k * 7 + 3, none⟩ (.slice p6 S[j].attrs.length c6)).setCell ⟨G, k * 7 + 4, none⟩ (.string TX)).setCell ⟨G, k * 7 + 5, none⟩ (.int .i64 0)).setCell ⟨G, k * 7 + 6, none⟩ (.slice none 0 0)) = W7 ∧ T2 w S rk ek (.slice (some ⟨g5, 0, none⟩) rk.length c1) (.slice (some ⟨g6, 0, none⟩) ek.length c2) G k W7 ∧ Half w S rk G k (.slice p6 S[j].attrs.length c6) W7) := by
              refine Lib.hid fun w6 p6 c6 hA6 hb6 => ?_
              have := (hT2.on hb6).node hlt2 (.slice p6 S[j].attrs.length c6) NM TX (by rw [hget]; exact hNM) (by rw [hget]; exact hTX) (by rw [hget]; exact hA6.mono (fun q hq _ => ⟨by omega, by omega⟩))
              rw [hget] at this
              exact this
            have HCL : Hid (∀ w6, Below wq.heap.size wq w6 → ∀ o, o < rk.length * 7 → (∃ u, w6.cell? ⟨G, o, none⟩ = some u) ∧ w6.frozen? ⟨G, o, none⟩ = false) := Lib.hid fun w6 hb6 o ho => (hT2.on hb6).cell o ho
            have HKY : ∀ (va : Value), Hid (∀ W, T2 w S rk ek (.slice (some ⟨g5, 0, none⟩) rk.length c1) (.slice (some ⟨g6, 0, none⟩) ek.length c2) G k W → Half w S rk G k va W → W.cell? ⟨g6, k, none⟩ = some (.int .i64 (a : Int)) ∧ W.cell? ⟨g6, k + 1, none⟩ = some (.int .i64 (b : Int)) ∧ T2 w S rk ek (.slice (some ⟨g5, 0, none⟩) rk.length c1) (.slice (some ⟨g6, 0, none⟩) ek.length c2) G k W ∧ Half w S rk G k va W) := fun va => Lib.hid fun W h1 h2 => ⟨(hcE W h1).1, (hcE W h1).2, h1, h2⟩
            have HPC := Lib.hid (fun W => dpieceP G rk.length rk.length a b W hab hbl (Nat.le_refl _))
            obtain ⟨pp, pl, pc, hpv⟩ : ∃ pp pl pc, pieceV G a b = .slice pp pl pc := by unfold pieceV; split <;> exact ⟨_, _, _, rfl⟩
            rw [hpv] at HPC
            have hea : ek.getD k 0 = a := by rw [List.getD_eq_getElem?_getD, ea]; rfl
            have heb : ek.getD (k + 1) 0 = b := by rw [List.getD_eq_getElem?_getD, eb]; rfl
            have HPV : Hid (pieceV G (ek.getD k 0) (ek.getD (k + 1) 0) = .slice pp pl pc) := Lib.hid (by rw [hea, heb]; exact hpv)
            have hekl : k + 1 < ek.length := lt_of_some eb
            have k0 : (0 : Int) ≤ (k : Int) := by omega
            have k1 : (k : Int) < (rk.length : Int) := by omega
            have k2 : (k : Int) < (ek.length : Int) := by omega
            have k3 : (k : Int) + 1 < (ek.length : Int) := by omega
            have k4 : (0 : Int) ≤ (k : Int) + 1 := by omega
            have k5 : IntKind.i64.wrap ((k : Int) + 1) = ((k + 1 : Nat) : Int) := by rw [IntWalk.i64_in _ (by omega)]; omega
            have k6 : ((k + 1 : Nat) : Int) < (ek.length : Int) := by omega
            have k7 : (0 : Int) ≤ ((k + 1 : Nat) : Int) := by omega
            have k8 : ((k : Int) + 1).toNat = k + 1 := by omega
            clear hT2 hcE hDM hpv hea heb ea eb hx hj0 hget hNM hTX
            go_wp2_with fail
            refine HND.out.mono ?_
            rintro e w6 ⟨p6, c6, rfl, hA6, hb6⟩
            obtain ⟨W7, hW7, hT7, hH7⟩ := HPUT.out w6 p6 c6 hA6 hb6
            obtain ⟨⟨u0, hu0⟩, hf0⟩ := HCL.out w6 hb6 (k * 7) (by omega)
            obtain ⟨⟨u1, hu1⟩, hf1⟩ := HCL.out w6 hb6 (k * 7 + 1) (by omega)
            obtain ⟨⟨u2, hu2⟩, hf2⟩ := HCL.out w6 hb6 (k * 7 + 2) (by omega)
            obtain ⟨⟨u3, hu3⟩, hf3⟩ := HCL.out w6 hb6 (k * 7 + 3) (by omega)
            obtain ⟨⟨u4, hu4⟩, hf4⟩ := HCL.out w6 hb6 (k * 7 + 4) (by omega)
            obtain ⟨⟨u5, hu5⟩, hf5⟩ := HCL.out w6 hb6 (k * 7 + 5) (by omega)
            obtain ⟨⟨u6, hu6⟩, hf6⟩ := HCL.out w6 hb6 (k * 7 + 6) (by omega)
            have HKY := HKY (.slice p6 S[j].attrs.length c6)
            have HT7 := Lib.hid hT7
            have HH7 := Lib.hid hH7
            clear hA6 hb6 hT7 hH7
            go_wp2_with fail
            have hS0 := HKY.out W7.drew (HT7.out.on (Below.refl _ _).drew) (HH7.out.drew)
            clear hu0 hu1 hu2 hu3 hu4 hu5 hu6 hf0 hf1 hf2 hf3 hf4 hf5 hf6 hW7
            refine wp_region_held_drew (S := (fun w' => w'.cell? ⟨g6, k, none⟩ = some (.int .i64 (a : Int)) ∧ w'.cell? ⟨g6, k + 1, none⟩ = some (.int .i64 (b : Int)) ∧ T2 w S rk ek (.slice (some ⟨g5, 0, none⟩) rk.length c1) (.slice (some ⟨g6, 0, none⟩) ek.length c2) G k w' ∧ Half w S rk G k (.slice p6 S[j].attrs.length c6) w')) (by kernel_rfl) (by exact hS0) (fun hHeld => ?_)
            refine wpAnyH_take (i := 0) (oi := { dst := some 51, op := Op.move (Operand.tmp 8), type := 31, pos := "dom.go:213", after := #[], guard := none }) (v := ?_) rfl (by kernel_rfl) (by kernel_rfl) (by kernel_rfl) (fun _ _ _ h => h) (Or.inl ⟨by rfl, ?_⟩) (by assumption) ?_
            rotate_left
            focus (intro w hSw; (try dsimp only at hSw); go_simp; (try with_reducible rfl))
            try simp only [Act.put, List.setIfInBounds_toArray, List.set_cons_zero, List.set_cons_succ]
            refine wpAnyH_take (i := 1) (oi := { dst := some 52, op := Op.move (Operand.tmp 9), type := 3, pos := "dom.go:213", after := #[], guard := none }) (v := ?_) rfl (by kernel_rfl) (by kernel_rfl) (by kernel_rfl) (fun _ _ _ h => h) (Or.inl ⟨by rfl, ?_⟩) (by assumption) ?_
            rotate_left
            focus (intro w hSw; (try dsimp only at hSw); go_simp; (try with_reducible rfl))
            try simp only [Act.put, List.setIfInBounds_toArray, List.set_cons_zero, List.set_cons_succ]
            refine wpAnyH_take (i := 2) (oi := { dst := some 53, op := Op.move (Operand.tmp 8), type := 31, pos := "dom.go:213", after := #[], guard := none }) (v := ?_) rfl (by kernel_rfl) (by kernel_rfl) (by kernel_rfl) (fun _ _ _ h => h) (Or.inl ⟨by rfl, ?_⟩) (by assumption) ?_
            rotate_left
            focus (intro w hSw; (try dsimp only at hSw); go_simp; (try with_reducible rfl))
            try simp only [Act.put, List.setIfInBounds_toArray, List.set_cons_zero, List.set_cons_succ]
            refine wpAnyH_take (i := 3) (oi := { dst := some 54, op := Op.move (Operand.tmp 6), type := 32, pos := "dom.go:213", after := #[], guard := none }) (v := ?_) rfl (by kernel_rfl) (by kernel_rfl) (by kernel_rfl) (fun _ _ _ h => h) (Or.inl ⟨by rfl, ?_⟩) (by assumption) ?_
            rotate_left
            focus (intro w hSw; (try dsimp only at hSw); go_simp; (try with_reducible rfl))
            try simp only [Act.put, List.setIfInBounds_toArray, List.set_cons_zero, List.set_cons_succ]
            refine wpAnyH_take (i := 4) (oi := { dst := some 55, op := Op.move (Operand.tmp 9), type := 3, pos := "dom.go:213", after := #[], guard := none }) (v := ?_) rfl (by kernel_rfl) (by kernel_rfl) (by kernel_rfl) (fun _ _ _ h => h) (Or.inl ⟨by rfl, ?_⟩) (by assumption) ?_
            rotate_left
            focus (intro w hSw; (try dsimp only at hSw); go_simp; (try with_reducible rfl))
            try simp only [Act.put, List.setIfInBounds_toArray, List.set_cons_zero, List.set_cons_succ]
            refine wpAnyH_take (i := 5) (oi := { dst := some 56, op := Op.indexAddr 32 (Operand.tmp 54) (Operand.tmp 55), type := 0, pos := "dom.go:213", after := #[{ on := 3, ground := Ground.data }, { on := 4, ground := Ground.data }], guard := none }) (v := ?_) rfl (by kernel_rfl) (by kernel_rfl) (by kernel_rfl) (fun _ _ _ h => h) (Or.inl ⟨by rfl, ?_⟩) (by assumption) ?_
            rotate_left
            focus (intro w hSw; (try dsimp only at hSw); go_simp; (try with_reducible rfl))
            try simp only [Act.put, List.setIfInBounds_toArray, List.set_cons_zero, List.set_cons_succ]
            refine wpAnyH_take (i := 6) (oi := { dst := some 57, op := Op.load 3 (Operand.tmp 56), type := 3, pos := "dom.go:213", after := #[{ on := 5, ground := Ground.data }], guard := none }) (v := ?_) rfl (by kernel_rfl) (by kernel_rfl) (by kernel_rfl) (fun _ _ _ h => h) (Or.inl ⟨by rfl, ?_⟩) (by assumption) ?_
            rotate_left
            focus (intro w hSw; (try dsimp only at hSw); go_simp; (try with_reducible rfl))
            try simp only [Act.put, List.setIfInBounds_toArray, List.set_cons_zero, List.set_cons_succ]
            refine wpAnyH_take (i := 7) (oi := { dst := some 58, op := Op.move (Operand.tmp 6), type := 32, pos := "dom.go:213", after := #[], guard := none }) (v := ?_) rfl (by kernel_rfl) (by kernel_rfl) (by kernel_rfl) (fun _ _ _ h => h) (Or.inl ⟨by rfl, ?_⟩) (by assumption) ?_
            rotate_left
            focus (intro w hSw; (try dsimp only at hSw); go_simp; (try with_reducible rfl))
            try simp only [Act.put, List.setIfInBounds_toArray, List.set_cons_zero, List.set_cons_succ]
            refine wpAnyH_take (i := 8) (oi := { dst := some 59, op := Op.move (Operand.tmp 9), type := 3, pos := "dom.go:213", after := #[], guard := none }) (v := ?_) rfl (by kernel_rfl) (by kernel_rfl) (by kernel_rfl) (fun _ _ _ h => h) (Or.inl ⟨by rfl, ?_⟩) (by assumption) ?_
            rotate_left
            focus (intro w hSw; (try dsimp only at hSw); go_simp; (try with_reducible rfl))
            try simp only [Act.put, List.setIfInBounds_toArray, List.set_cons_zero, List.set_cons_succ]
            refine wpAnyH_take (i := 9) (oi := { dst := some 60, op := Op.binOp BinOp.add 3 (Operand.tmp 59) (Operand.const (Value.int IntKind.i64 1)) 3, type := 3, pos := "dom.go:213", after := #[{ on := 8, ground := Ground.data }], guard := none }) (v := ?_) rfl (by kernel_rfl) (by kernel_rfl) (by kernel_rfl) (fun _ _ _ h => h) (Or.inl ⟨by rfl, ?_⟩) (by assumption) ?_
            rotate_left
            focus (intro w hSw; (try dsimp only at hSw); go_simp; (try with_reducible rfl))
            try simp only [Act.put, List.setIfInBounds_toArray, List.set_cons_zero, List.set_cons_succ]
            refine wpAnyH_take (i := 10) (oi := { dst := some 61, op := Op.indexAddr 32 (Operand.tmp 58) (Operand.tmp 60), type := 0, pos := "dom.go:213", after := #[{ on := 7, ground := Ground.data }, { on := 9, ground := Ground.data }], guard := none }) (v := ?_) rfl (by kernel_rfl) (by kernel_rfl) (by kernel_rfl) (fun _ _ _ h => h) (Or.inl ⟨by rfl, ?_⟩) (by assumption) ?_
            rotate_left
            focus (intro w hSw; (try dsimp only at hSw); go_simp; (try with_reducible rfl))
            try simp only [Act.put, List.setIfInBounds_toArray, List.set_cons_zero, List.set_cons_succ]
            refine wpAnyH_take (i := 11) (oi := { dst := some 62, op := Op.load 3 (Operand.tmp 61), type := 3, pos := "dom.go:213", after := #[{ on := 10, ground := Ground.data }], guard := none }) (v := ?_) rfl (by kernel_rfl) (by kernel_rfl) (by kernel_rfl) (fun _ _ _ h => h) (Or.inl ⟨by rfl, ?_⟩) (by assumption) ?_
            rotate_left
            focus (intro w hSw; (try dsimp only at hSw); go_simp; (try with_reducible rfl))
            try simp only [Act.put, List.setIfInBounds_toArray, List.set_cons_zero, List.set_cons_succ]
            refine wpAnyH_ready (rs := [12]) (by kernel_rfl) (by simp) ?_
            refine AllReadyH.cons (o := { dst := some 63, op := Op.call { callee := Callee.value (Operand.func 80), args := #[Operand.tmp 53, Operand.tmp 57, Operand.tmp 62], argTypes := #[ 31, 3, 3 ] }, type := 31, pos := "dom.go:213", after := #[{ on := 2, ground := Ground.data }, { on := 6, ground := Ground.data }, { on := 11, ground := Ground.data }], guard := none }) rfl (fun K hK => ?_) AllReadyH.nil
            go_simp
            refine (HPC.out _).mono ?_; rintro e w9 ⟨rfl, rfl⟩
            go_wp2_with fail
            refine hK.out _ _ (by exact hHeld) (fun hHeld => ?_)
            clear hK K
            try simp only [Act.put, List.setIfInBounds_toArray, List.set_cons_zero, List.set_cons_succ]
            refine wpAnyH_take (i := 13) (oi := { dst := some 64, op := Op.indexAddr 31 (Operand.tmp 51) (Operand.tmp 52), type := 0, pos := "dom.go:213", after := #[{ on := 0, ground := Ground.data }, { on := 1, ground := Ground.data }, { on := 0, ground := Ground.phase }, { on := 1, ground := Ground.phase }, { on := 2, ground := Ground.phase }, { on := 3, ground := Ground.phase }, { on := 4, ground := Ground.phase }, { on := 5, ground := Ground.phase }, { on := 6, ground := Ground.phase }, { on := 7, ground := Ground.phase }, { on := 8, ground := Ground.phase }, { on := 9, ground := Ground.phase }, { on := 10, ground := Ground.phase }, { on := 11, ground := Ground.phase }, { on := 12, ground := Ground.phase }], guard := none }) (v := ?_) rfl (by kernel_rfl) (by kernel_rfl) (by kernel_rfl) (fun _ _ _ h => h) (Or.inl ⟨by rfl, ?_⟩) (by assumption) ?_
            rotate_left
            focus (intro w hSw; (try dsimp only at hSw); go_simp; (try with_reducible rfl))
            try simp only [Act.put, List.setIfInBounds_toArray, List.set_cons_zero, List.set_cons_succ]
            refine wpAnyH_take (i := 14) (oi := { dst := some 65, op := Op.fieldAddr 48 (Operand.tmp 64) 6, type := 0, pos := "dom.go:213", after := #[{ on := 13, ground := Ground.data }, { on := 0, ground := Ground.phase }, { on := 1, ground := Ground.phase }, { on := 2, ground := Ground.phase }, { on := 3, ground := Ground.phase }, { on := 4, ground := Ground.phase }, { on := 5, ground := Ground.phase }, { on := 6, ground := Ground.phase }, { on := 7, ground := Ground.phase }, { on := 8, ground := Ground.phase }, { on := 9, ground := Ground.phase }, { on := 10, ground := Ground.phase }, { on := 11, ground := Ground.phase }, { on := 12, ground := Ground.phase }], guard := none }) (v := ?_) rfl (by kernel_rfl) (by kernel_rfl) (by kernel_rfl) (fun _ _ _ h => h) (Or.inl ⟨by rfl, ?_⟩) (by assumption) ?_
            rotate_left
            focus (intro w hSw; (try dsimp only at hSw); go_simp; (try with_reducible rfl))
            try simp only [Act.put, List.setIfInBounds_toArray, List.set_cons_zero, List.set_cons_succ]
            refine wpAnyH_ready (rs := [15]) (by kernel_rfl) (by simp) ?_
            refine AllReadyH.cons (o := { dst := none, op := Op.store 31 (Operand.tmp 65) (Operand.tmp 63), type := 0, pos := "dom.go:213", after := #[{ on := 14, ground := Ground.data }, { on := 12, ground := Ground.data }, { on := 12, ground := Ground.chain }, { on := 0, ground := Ground.phase }, { on := 1, ground := Ground.phase }, { on := 2, ground := Ground.phase }, { on := 3, ground := Ground.phase }, { on := 4, ground := Ground.phase }, { on := 5, ground := Ground.phase }, { on := 6, ground := Ground.phase }, { on := 7, ground := Ground.phase }, { on := 8, ground := Ground.phase }, { on := 9, ground := Ground.phase }, { on := 10, ground := Ground.phase }, { on := 11, ground := Ground.phase }, { on := 12, ground := Ground.phase }], guard := none }) rfl (fun K hK => ?_) AllReadyH.nil
            have hH := hHeld
            obtain ⟨_, _, hT8, hH8⟩ := hH
            obtain ⟨⟨u8, hu8⟩, hf8⟩ := hT8.cell (k * 7 + 6) (by omega)
            have HT9 := Lib.hid (hT8.set (k * 7 + 6) (.slice pp pl pc) (by omega))
            have HH9 := Lib.hid (hH8.set (.slice pp pl pc))
            have hc9 := World.cell?_setCell_same _ _ (.slice pp pl pc) hu8
            obtain ⟨w9, hw9⟩ : ∃ w9, W7.drew.setCell ⟨G, k * 7 + 6, none⟩ (.slice pp pl pc) = w9 := ⟨_, rfl⟩
            rw [hw9] at HT9 HH9 hc9
            clear hT8 hH8
            go_simp
            have HS9 := Lib.hid (HKY.out w9 HT9.out HH9.out)
            refine hK.out _ _ (by exact HS9.out) (fun hHeld => ?_)
            clear hK K
            refine wpAnyH_done (by kernel_rfl) ?_ _
            have HTM := Lib.hid (HT9.out.more HH9.out (by rw [hc9, HPV.out]))
            go_wp2_with fail
            exact ⟨⟨k + 1, by omega, by go_num, HTM.out⟩, by simp [intOf]; omega⟩
          · have hkr : k = rk.length := by omega
            subst hkr
            have hc6 : wq.cell? ⟨g6, 0, none⟩ = some (.int .i64 (r0.length : Int)) := by
              have h1 := lt_of_some HHEAD.out
              rw [hT2.t1.r6.cellAt 0 (by omega)]
              unfold natCells
              rw [List.getElem?_map, HHEAD.out]
              rfl
            have hg6 := (hT2.t1.r6.lt g6 rfl).2
            have hekl := lt_of_some HHEAD.out
            have k2 : (0 : Int) < (ek.length : Int) := by omega
            have HPC := Lib.hid (dpieceP G rk.length rk.length 0 r0.length wq (Nat.zero_le _) hle (Nat.le_refl _))
            have HNP : Hid (NodesP (fun b => w.heap.size ≤ b) wq (pieceV G 0 r0.length) (foF S rk ek (rk.length + 1) 0 r0.length)) := by
              refine Lib.hid ?_
              have hl : (foF S rk ek (rk.length + 1) 0 r0.length).len = r0.length := foF_len _ _ _ (by omega)
              have hall := nodes_piece (P := fun b => w.heap.size ≤ b) (w := wq) (g := G) HBB.out hT2.lt.2 hT2.lt.1 (fun i hi => by obtain ⟨va, h7, ha7⟩ := hT2.done i hi; exact ⟨va, h7, ha7.mono (fun q hq _ => hq.1)⟩) (rk.length + 1) 0 r0.length 0 0 (by omega) (by omega) (by omega)
              unfold pieceV
              by_cases hz : 0 = r0.length
              · rw [if_pos hz]
                exact ⟨none, 0, by rw [hl, ← hz], fun h => absurd h (by omega)⟩
              · rw [if_neg hz]
                exact ⟨_, r0.length - 0, by rw [hl]; rfl, fun _ => ⟨G, 0 * 7, rfl, hT2.lt.1, hT2.lt.2, by rw [Nat.zero_mul]; exact hall⟩⟩
            have HBL := Lib.hid hT2.t1.below
            obtain ⟨pp, pl, pc, hpv⟩ : ∃ pp pl pc, pieceV G 0 r0.length = .slice pp pl pc := by unfold pieceV; split <;> exact ⟨_, _, _, rfl⟩
            rw [hpv] at HPC HNP
            clear hT2 hpv
            go_wp2_with fail
            refine HPC.out.mono ?_
            rintro e w9 ⟨rfl, rfl⟩
            go_wp2_with fail
            go_ret
            exact ⟨_, rfl, HNP.out, HBL.out⟩
end Go.Proofs.Ytbadckkcjjfnoaa
