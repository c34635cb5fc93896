/-
  The walk of the law DomMoves: true, and nothing old is changed. Any two numbers.
-/
import Derived.Test.YteikhlonccacbaaDMv
import Derived.Test.YteikhlonccacbaaDTape
import Derived.Deep.RegionWith
namespace Go.Proofs.Yteikhlonccacbaa
open Go.RowKit

/-- A Doc that was made since w1, and a row of numbers beside it. -/
structure MQ (w1 W : World) (B : Nat) (S : List PN) (v : Value) (ks : List Int) : Prop where
  body : ∃ M : Nat → Prop, DocM M W B S ∧ (∀ b, M b → w1.heap.size ≤ b ∧ b < W.heap.size) ∧ ∀ g, v.ownBlock = some g → ¬ M g
  row : W.ownsRow w1.heap.size 3 1 v ks.length (intCells ks)
  below : Below w1.heap.size w1 W
theorem MQ.call {w1 W : World} {B : Nat} {S S' : List PN} {v a : Value} {ks : List Int} {f : FuncId} {args : Array Value} (h : MQ w1 W B S v ks)
    (hc : ∀ M, DocM M W B S → (∀ b, M b → b < W.heap.size) → Calls Try.prog f args W (Adds M W B S' a)) : Calls Try.prog f args W (fun e W' => e = .returned a ∧ MQ w1 W' B S' v ks) := by
  obtain ⟨M, d, hM, hv⟩ := h.body
  refine (hc M d (fun b k => (hM b k).2)).mono ?_
  rintro e W' ⟨rfl, d', t⟩
  have hsz := h.below.size
  refine ⟨rfl, ⟨fun b => New M W b ∧ b < W'.heap.size, d'.mono (fun b hb k => ⟨k, hb⟩), ?_, ?_⟩, ?_, h.below.trans (t.below hsz (fun b hb k => by have := (hM b k).1; omega))⟩
  · rintro b ⟨k | k, hb⟩
    · exact ⟨(hM b k).1, hb⟩
    · exact ⟨by omega, hb⟩
  · rintro g e ⟨k | k, _⟩
    · exact hv g e k
    · have := (h.row.lt g e).2; omega
  · exact ownsRow_kept h.row t hv
theorem MQ.tie {w1 W : World} {B : Nat} {S S' : List PN} {v a : Value} {ks : List Int} {f : FuncId} {args : Array Value} (h : MQ w1 W B S v ks)
    (hc : ∀ M, DocM M W B S → Calls Try.prog f args W (Ties M W B S' a)) : Calls Try.prog f args W (fun e W' => e = .returned a ∧ MQ w1 W' B S' v ks) :=
  h.call (fun M d _ => (hc M d).mono fun _ _ ⟨h1, h2, h3⟩ => ⟨h1, h2.mono (fun _ _ k => .inl k), h3⟩)
theorem MQ.on {w1 W W' : World} {B : Nat} {S : List PN} {v : Value} {ks : List Int} (h : MQ w1 W B S v ks) (hb : Below W.heap.size W W') : MQ w1 W' B S v ks := by
  obtain ⟨M, d, hM, hv⟩ := h.body
  exact ⟨⟨M, d.below hb, fun b k => ⟨(hM b k).1, Nat.lt_of_lt_of_le (hM b k).2 hb.size⟩, hv⟩, ownsRow_kept (M := fun _ => False) h.row (.of_below hb) (fun _ _ k => k), h.below.trans (hb.mono h.below.size)⟩
theorem MQ.start {w1 W : World} {B : Nat} {S : List PN} (h : DocB w1 W B S) : MQ w1 W B S (.slice none 0 0) [] := ⟨⟨_, h.doc, fun _ k => k, fun g e => by cases e⟩, ⟨rfl, .inl ⟨rfl, rfl⟩⟩, h.below⟩
theorem MQ.more {w1 W W3 : World} {B : Nat} {S : List PN} {p : Option Addr} {c g3 c3 : Nat} {ks : List Int} {x : Int} (h : MQ w1 W B S (.slice p ks.length c) ks) (hr : W3.ownsRow w1.heap.size 3 1 (.slice (some ⟨g3, 0, none⟩) (ks.length + 1) c3) (ks.length + 1) (intCells ks ++ [.int .i64 x])) (hg : (W.alloc (.cells #[.int .i64 x] 3)).grownBy W3 (Value.slice p ks.length c).ownBlock) (ho : (Value.slice p ks.length c).ownBlock = some g3 ∨ g3 = W.heap.size + 1) : MQ w1 W3 B S (.slice (some ⟨g3, 0, none⟩) (ks.length + 1) c3) (ks ++ [x]) := by
  obtain ⟨M, d, hM, hv⟩ := h.body
  have hT : Turns (fun b => some b = (Value.slice p ks.length c).ownBlock) W W3 := (Turns.of_below ((Below.refl _ W).alloc (Nat.le_refl _) (.cells #[.int .i64 x] 3))).trans ((Turns.of_grown hg (fun q e => e.symm)).mono (fun b _ k => .inl k))
  refine ⟨⟨M, d.on hT (fun b _ k e => hv b e.symm k), fun b k => ⟨(hM b k).1, Nat.lt_of_lt_of_le (hM b k).2 hT.size⟩, ?_⟩, ?_, h.below.trans (hT.below h.below.size (fun b hb e => by have := (h.row.lt b e.symm).1; omega))⟩
  · intro g e k
    injection e with e
    subst e
    rcases ho with q | q
    · exact hv _ q k
    · have : g3 < W.heap.size := (hM _ k).2
      omega
  · rw [List.length_append]
    have : intCells (ks ++ [x]) = intCells ks ++ [.int .i64 x] := by simp [intCells]
    rw [this]
    exact hr
theorem want_succ (k : Nat) : Mv.want (k + 1) = Mv.want k ++ [((3 + k : Nat) : Int)] := by unfold Mv.want; rw [List.range_succ, List.map_append]; rfl
theorem want_len (k : Nat) : (Mv.want k).length = k := by simp [Mv.want]
set_option maxHeartbeats 2000000 in
set_option maxRecDepth 100000 in
theorem domMoves_walk (n m : Int) (w : World) (hn0 : -9223372036854775808 ≤ n) (hn1 : n ≤ 9223372036854775807) (hm0 : -9223372036854775808 ≤ m) (hm1 : m ≤ 9223372036854775807) : Calls Try.prog 8 #[.int .i64 n, .int .i64 m] w (Yes w) := by
  have HK := Lib.hid (known6_yes w)
  have HN := Lib.hid (fun W => bnew W)
  have HWN := Lib.hid (fun W => within6 n 9 W hn0 hn1 (by omega) (by omega))
  have HWM := Lib.hid (fun W => within6 m 9 W hm0 hm1 (by omega) (by omega))
  have hrn := (within_lt n 9 (by omega)).1
  have hrm := (within_lt m 9 (by omega)).1
  clear hn0 hn1 hm0 hm1
  generalize Within n 9 = nn at *
  generalize Within m 9 = mm at *
  obtain ⟨i0, hi0, hz0, hz1, hz2⟩ := info_int
  have HI := Lib.hid (And.intro hi0 (And.intro hz0 (And.intro hz1 hz2)))
  clear hi0 hz0 hz1 hz2
  have HE : Hid (∀ w1 W B S nm, DocB w1 W B S → S.length ≤ 4294967296 → Calls Try.prog 31 #[.pointer (some ⟨B, 0, none⟩), .int .i64 1, .string ⟨List.toArray nm⟩, .slice none 0 0] W (fun e w' => e = .returned (.int .i64 (S.length : Int)) ∧ DocB w1 w' B (S ++ [elemPN 1 nm []]))) := Lib.hid fun w1 W B S nm h hl => belem h (fun _ => True) 1 nm [] (.slice none 0 0) hl (AttrsP.nil _ _ _ _) (by simp)
  have hok0 := Mv.all_ok.1
  unfold Mv.ok0 at hok0
  rw [Bool.and_eq_true] at hok0
  have HP1 : Hid (∀ w1 W B, DocB w1 W B ([elemPN 1 [] []] ++ [elemPN 1 [97] []] ++ [elemPN 1 [98] []]) → Calls Try.prog 33 #[.pointer (some ⟨B, 0, none⟩), .int .i64 1, .int .i64 0, .int .i64 (-1)] W (fun e w' => ∃ a, e = .returned (.bool a) ∧ DocB w1 w' B (pPut ([elemPN 1 [] []] ++ [elemPN 1 [97] []] ++ [elemPN 1 [98] []]) 1 0 (-1) false).1)) := Lib.hid fun w1 W B h => (bput h 9 1 0 (-1) false (by decide) hok0.1).mono fun _ _ ⟨h1, h2⟩ => ⟨_, h1, h2⟩
  have HP2 : Hid (∀ w1 W B, DocB w1 W B (pPut ([elemPN 1 [] []] ++ [elemPN 1 [97] []] ++ [elemPN 1 [98] []]) 1 0 (-1) false).1 → Calls Try.prog 33 #[.pointer (some ⟨B, 0, none⟩), .int .i64 2, .int .i64 0, .int .i64 (-1)] W (fun e w' => ∃ a, e = .returned (.bool a) ∧ DocB w1 w' B (Mv.st1 0))) := Lib.hid fun w1 W B h => (bput h 9 2 0 (-1) false (by decide) hok0.2).mono fun _ _ ⟨h1, h2⟩ => ⟨_, h1, h2⟩
  clear hok0
  go_enter Try.func8, Try.ntmps8
  go_wp2_with fail
  refine HK.out.mono ?_
  rintro e w1 ⟨rfl, b1⟩
  have B1 := Lib.hid b1
  clear b1
  go_wp2_with fail
  refine (HN.out w1).mono ?_
  rintro e w2 ⟨B, rfl, h2⟩
  have H2 := Lib.hid (HE.out w1 w2 B _ [97] h2 (by decide))
  clear h2
  go_wp2_with fail
  refine H2.out.mono ?_
  rintro e w3 ⟨rfl, h3⟩
  have H3 := Lib.hid (HE.out w1 w3 B _ [98] h3 (by decide))
  clear h3
  go_wp2_with fail
  refine H3.out.mono ?_
  rintro e w4 ⟨rfl, h4⟩
  have H4 := Lib.hid (HP1.out w1 w4 B h4)
  clear h4
  go_wp2_with fail
  refine H4.out.mono ?_
  rintro e w5 ⟨a5, rfl, h5⟩
  have H5 := Lib.hid (HP2.out w1 w5 B h5)
  clear h5
  go_wp2_with fail
  refine H5.out.mono ?_
  rintro e w6 ⟨a6, rfl, h6⟩
  have H6 := Lib.hid (MQ.start h6)
  clear h6
  go_wp2_with fail
  go_loopw [8, 9] (fun v i wr => ∃ k : Nat, k ≤ mm ∧ i = .int .i64 (k : Int) ∧ MQ w1 wr B (Mv.st1 k) v (Mv.want k)) (fun _ i _ => mm - (intOf i).toNat)
  case atStart => exact ⟨0, Nat.zero_le _, rfl, H6.out⟩
  case round =>
    obtain ⟨k, hk, rfl, hQ⟩ := hrel
    obtain ⟨p1, c1, rfl⟩ := row_form hQ.row
    have HQ := Lib.hid hQ
    clear hQ
    by_cases hlt : k < mm
    · have hok := Mv.all_ok.2.1 k (by omega)
      unfold Mv.ok1 at hok
      simp only [Bool.and_eq_true, decide_eq_true_eq] at hok
      obtain ⟨hlen, hok1⟩ := hok
      have HEL : Hid (Calls Try.prog 31 #[.pointer (some ⟨B, 0, none⟩), .int .i64 1, .string ⟨#[120]⟩, .slice none 0 0] wr (fun e w' => e = .returned (.int .i64 ((3 + k : Nat) : Int)) ∧ MQ w1 w' B (Mv.st1 k ++ [elemPN 1 [120] []]) (.slice p1 (Mv.want k).length c1) (Mv.want k))) := by
        refine Lib.hid ?_
        have := HQ.out.call (fun M d hM => delemNewP _ B M (fun _ => True) wr 1 [120] [] (.slice none 0 0) d hM (by omega) (AttrsP.nil _ _ _ _) (by simp))
        rw [hlen] at this
        exact this
      have HPU : Hid (∀ W v ks, MQ w1 W B (Mv.st1 k ++ [elemPN 1 [120] []]) v ks → Calls Try.prog 33 #[.pointer (some ⟨B, 0, none⟩), .int .i64 ((3 + k : Nat) : Int), .int .i64 2, .int .i64 (-1)] W (fun e w' => ∃ a, e = .returned (.bool a) ∧ MQ w1 w' B (Mv.st1 (k + 1)) v ks)) := Lib.hid fun W v ks h => (h.tie (fun M d => dputP _ B M W 9 _ 2 (-1) false d (by simp) hok1)).mono fun _ _ ⟨h1, h2⟩ => ⟨_, h1, h2⟩
      have HWS := Lib.hid (want_succ k)
      have hwl : (Mv.want k).length ≤ 9 := by rw [want_len]; omega
      clear hlen hok1
      generalize ((3 + k : Nat) : Int) = X at *
      go_wp2_with fail
      refine (HWM.out wr).mono ?_
      rintro e w7 ⟨rfl, rfl⟩
      go_wp2_with fail
      refine HEL.out.mono ?_
      rintro e w8 ⟨rfl, h8⟩
      have HPU2 := Lib.hid (HPU.out w8 _ _ h8)
      clear h8
      go_wp2_with fail
      refine HPU2.out.mono ?_
      rintro e w9 ⟨a9, rfl, h9⟩
      have H9 := Lib.hid h9
      clear h9
      go_wp2_with (first
        | (at_builtin; refine wpList_append_lies _ rfl _ _ 32 rfl w1.heap.size 3 i0 (.int .i64 0) 1 8 Try.underlying32 HI.out.1 HI.out.2.1 HI.out.2.2.1 HI.out.2.2.2 rfl (by omega) (.slice p1 (Mv.want k).length c1) (Mv.want k).length (intCells (Mv.want k)) rfl (H9.out.row.alloc _) ⟨w9.heap.size, 0, none⟩ 1 1 [.int .i64 X] rfl rfl (World.news_of_block (cs := #[.int .i64 X]) (t := 3) (fr := (0, 0)) (heap_alloc_new w9 _)) (by simp [Value.oneCell']) (by omega) (by unfold maxLen; omega) (by omega) (by have := H9.out.below.size; simp; omega) (w9.heap.size + 1) (by simp) ?_; intro g3 c3 w6 hr3 hg3 hor3 _; have HM := Lib.hid (MQ.more (x := X) H9.out hr3 hg3 hor3); clear hr3 hg3 hor3)
        | fail)
      refine ⟨⟨k + 1, by omega, by go_num, ?_⟩, by simp [intOf]; omega⟩
      rw [HWS.out]
      exact HM.out
    · have hkm : k = mm := by omega
      subst hkm
      obtain ⟨wz, hwz⟩ : ∃ wz, wz = wr := ⟨_, rfl⟩
      subst hwz
      clear HE HP1 HP2 HN HK
      go_wp2_with fail
      refine (HWM.out wz).mono ?_
      rintro e w7 ⟨rfl, rfl⟩
      go_wp2_with fail
      go_loopw [8, 11] (fun v i wr => ∃ j : Nat, j ≤ nn ∧ i = .int .i64 (j : Int) ∧ MQ w1 wr B (Mv.st2 k j) v (Mv.want (k + j))) (fun _ i _ => nn - (intOf i).toNat)
      case atStart => exact ⟨0, Nat.zero_le _, rfl, HQ.out⟩
      case round =>
        obtain ⟨j, hj, rfl, hQ2⟩ := hrel
        clear HQ
        obtain ⟨p1, c1, rfl⟩ := row_form hQ2.row
        have HQ := Lib.hid hQ2
        clear hQ2
        by_cases hlt2 : j < nn
        · have hok := Mv.all_ok.2.2.1 k (by omega) j (by omega)
          unfold Mv.ok2 at hok
          simp only [Bool.and_eq_true, decide_eq_true_eq] at hok
          obtain ⟨hlen, hok1⟩ := hok
          have HEL : Hid (Calls Try.prog 37 #[.pointer (some ⟨B, 0, none⟩), .string ⟨#[110]⟩] wr (fun e w' => e = .returned (.int .i64 ((3 + k + j : Nat) : Int)) ∧ MQ w1 w' B (Mv.st2 k j ++ [notePN 3 [110]]) (.slice p1 (Mv.want (k + j)).length c1) (Mv.want (k + j)))) := by
            refine Lib.hid ?_
            have := HQ.out.call (fun M d hM => dnoteP _ B M wr [110] d hM (by omega) (by simp))
            rw [hlen] at this
            exact this
          have HPU : Hid (∀ W v ks, MQ w1 W B (Mv.st2 k j ++ [notePN 3 [110]]) v ks → Calls Try.prog 33 #[.pointer (some ⟨B, 0, none⟩), .int .i64 ((3 + k + j : Nat) : Int), .int .i64 1, .int .i64 (-1)] W (fun e w' => ∃ a, e = .returned (.bool a) ∧ MQ w1 w' B (Mv.st2 k (j + 1)) v ks)) := Lib.hid fun W v ks h => (h.tie (fun M d => dputP _ B M W 9 _ 1 (-1) false d (by simp) hok1)).mono fun _ _ ⟨h1, h2⟩ => ⟨_, h1, h2⟩
          have HWS : Hid (Mv.want (k + (j + 1)) = Mv.want (k + j) ++ [((3 + k + j : Nat) : Int)]) := Lib.hid (by rw [show k + (j + 1) = k + j + 1 by omega, want_succ, show 3 + (k + j) = 3 + k + j by omega])
          have hwl : (Mv.want (k + j)).length ≤ 18 := by rw [want_len]; omega
          clear hlen hok1
          generalize ((3 + k + j : Nat) : Int) = X at *
          go_wp2_with fail
          refine (HWN.out wr).mono ?_
          rintro e w7 ⟨rfl, rfl⟩
          go_wp2_with fail
          refine HEL.out.mono ?_
          rintro e w8 ⟨rfl, h8⟩
          have HPU2 := Lib.hid (HPU.out w8 _ _ h8)
          clear h8
          go_wp2_with fail
          refine HPU2.out.mono ?_
          rintro e w9 ⟨a9, rfl, h9⟩
          have H9 := Lib.hid h9
          clear h9
          go_wp2_with (first
            | (at_builtin; refine wpList_append_lies _ rfl _ _ 32 rfl w1.heap.size 3 i0 (.int .i64 0) 1 8 Try.underlying32 HI.out.1 HI.out.2.1 HI.out.2.2.1 HI.out.2.2.2 rfl (by omega) (.slice p1 (Mv.want (k + j)).length c1) (Mv.want (k + j)).length (intCells (Mv.want (k + j))) rfl (H9.out.row.alloc _) ⟨w9.heap.size, 0, none⟩ 1 1 [.int .i64 X] rfl rfl (World.news_of_block (cs := #[.int .i64 X]) (t := 3) (fr := (0, 0)) (heap_alloc_new w9 _)) (by simp [Value.oneCell']) (by omega) (by unfold maxLen; omega) (by omega) (by have := H9.out.below.size; simp; omega) (w9.heap.size + 1) (by simp) ?_; intro g3 c3 w6 hr3 hg3 hor3 _; have HM := Lib.hid (MQ.more (x := X) H9.out hr3 hg3 hor3); clear hr3 hg3 hor3)
            | fail)
          refine ⟨⟨j + 1, by omega, by go_num, ?_⟩, by simp [intOf]; omega⟩
          rw [HWS.out]
          exact HM.out
        · have hjn : j = nn := by omega
          subst hjn
          have hok := Mv.all_ok.2.2.2 k (by omega) j (by omega)
          unfold Mv.ok3 at hok
          simp only [Bool.and_eq_true, decide_eq_true_eq] at hok
          obtain ⟨⟨⟨⟨⟨⟨⟨⟨⟨⟨⟨⟨o1, o2⟩, o3⟩, o4⟩, o5⟩, o6⟩, o7⟩, o8⟩, o9⟩, o10⟩, o11⟩, o12⟩, o13⟩ := hok
          have hwl : (Mv.want (k + j)).length ≤ 18 := by rw [want_len]; omega
          have HM1 : Hid (Calls Try.prog 38 #[.pointer (some ⟨B, 0, none⟩), .int .i64 1, .int .i64 2] wr (fun e w' => e = .returned (.bool true) ∧ MQ w1 w' B (Mv.fin k j) (.slice p1 (Mv.want (k + j)).length c1) (Mv.want (k + j)))) := by
            refine Lib.hid ?_
            have := HQ.out.tie (fun M d => dmoveP (Mv.st2 k j) (Mv.fin k j) B M wr 20 1 2 false d o5 (fun _ _ => o3) (fun _ _ _ => o4))
            have he : pMove (Mv.st2 k j) (Mv.fin k j) 1 2 false = (Mv.fin k j, true) := by unfold pMove; rw [o1, o2]; rfl
            rw [he] at this
            exact this
          have HM2 : Hid (∀ W v ks, MQ w1 W B (Mv.fin k j) v ks → Calls Try.prog 38 #[.pointer (some ⟨B, 0, none⟩), .int .i64 1, .int .i64 1] W (fun e w' => e = .returned (.bool false) ∧ MQ w1 w' B (Mv.fin k j) v ks)) := by
            refine Lib.hid fun W v ks h => ?_
            have := h.tie (fun M d => dmoveP (Mv.fin k j) [] B M W 20 1 1 true d o6 (fun _ _ => o9) (fun _ _ q => by cases q))
            have he : pMove (Mv.fin k j) [] 1 1 true = (Mv.fin k j, false) := by unfold pMove; rw [o8]; rfl
            rw [he] at this
            exact this
          have HM3 : Hid (∀ W v ks, MQ w1 W B (Mv.fin k j) v ks → Calls Try.prog 38 #[.pointer (some ⟨B, 0, none⟩), .int .i64 0, .int .i64 1] W (fun e w' => e = .returned (.bool false) ∧ MQ w1 w' B (Mv.fin k j) v ks)) := by
            refine Lib.hid fun W v ks h => ?_
            have := h.tie (fun M d => dmoveP (Mv.fin k j) [] B M W 20 0 1 true d o6 (fun _ _ => o11) (fun _ _ q => by cases q))
            have he : pMove (Mv.fin k j) [] 0 1 true = (Mv.fin k j, false) := by unfold pMove; rw [o8, o10]; rfl
            rw [he] at this
            exact this
          have HKD : Hid (∀ W v ks (x : Int) (r : List Int), MQ w1 W B (Mv.fin k j) v ks → pKidsA (Mv.fin k j) 40 x = some r → r.length ≤ 100 → Calls Try.prog 39 #[.pointer (some ⟨B, 0, none⟩), .int .i64 x] W (fun e w' => ∃ p c, e = .returned (.slice p r.length c) ∧ w'.ownsRow 0 3 1 (.slice p r.length c) r.length (intCells r) ∧ MQ w1 w' B (Mv.fin k j) v ks)) := by
            refine Lib.hid fun W v ks x r h hr hl => ?_
            obtain ⟨M, d, hM, hv⟩ := h.body
            refine (dkidsP _ B M W 40 x r d (fun b q => (hM b q).2) hr (by omega)).mono ?_
            rintro e w' ⟨v', rfl, hR⟩
            obtain ⟨p, c, rfl⟩ := row_form hR.row
            exact ⟨p, c, rfl, hR.row, h.on (hR.turns.below (Nat.le_refl _) (fun b _ e => by cases e))⟩
          have HUPS : Hid (∀ W v ks, MQ w1 W B (Mv.fin k j) v ks → ∀ x ∈ Mv.want (k + j), Calls Try.prog 40 #[.pointer (some ⟨B, 0, none⟩), .int .i64 x] W (Gives (.int .i64 2) W)) := by
            refine Lib.hid fun W v ks h x hx => ?_
            obtain ⟨M, d, hM, hv⟩ := h.body
            obtain ⟨p, cap, hr⟩ := d.reads
            have := dupP _ B W p cap x hr
            have hu := List.all_eq_true.1 o13 x hx
            rw [decide_eq_true_eq] at hu
            rwa [hu] at this
          have HO7 := Lib.hid o7
          have HO12 := Lib.hid o12
          clear o1 o2 o3 o4 o5 o6 o7 o8 o9 o10 o11 o12 o13
          obtain ⟨wy, hwy⟩ : ∃ wy, wy = wr := ⟨_, rfl⟩
          subst hwy
          go_wp2_with fail
          refine (HWN.out wy).mono ?_
          rintro e w7 ⟨rfl, rfl⟩
          go_wp2_with fail
          refine HM1.out.mono ?_
          rintro e w8 ⟨rfl, h8⟩
          have HK8 := Lib.hid (HKD.out w8 _ _ 1 [] h8 HO7.out (by simp))
          clear h8
          go_wp2_with fail
          refine HK8.out.mono ?_
          rintro e w10 ⟨p10, c10, rfl, _, h10⟩
          have HM10 := Lib.hid (HM2.out w10 _ _ h10)
          clear h10
          go_wp2_with fail
          refine HM10.out.mono ?_
          rintro e w11 ⟨rfl, h11⟩
          have HM11 := Lib.hid (HM3.out w11 _ _ h11)
          clear h11
          go_wp2_with fail
          refine HM11.out.mono ?_
          rintro e w13 ⟨rfl, h13⟩
          have HK13 := Lib.hid (HKD.out w13 _ _ 2 _ h13 HO12.out (by omega))
          clear h13
          go_wp2_with fail
          refine HK13.out.mono ?_
          rintro e w9 ⟨p14, c14, rfl, hrow14, h14⟩
          have HR14 := Lib.hid hrow14
          have H14 := Lib.hid h14
          have q0 : (((Mv.want (k + j)).length : Int) != ((Mv.want (k + j)).length : Int)) = false := by simp
          clear hrow14 h14
          go_wp2_with fail
          go_loopw [14] (fun u wr => ∃ i : Nat, i ≤ (Mv.want (k + j)).length ∧ u = .int .i64 (i : Int) ∧ Below w9.heap.size w9 wr) (fun u _ => (Mv.want (k + j)).length - (intOf u).toNat)
          case atStart => exact ⟨0, Nat.zero_le _, rfl, Below.refl _ _⟩
          case round =>
            obtain ⟨i, hi, rfl, hB⟩ := hrel
            have HB := Lib.hid hB
            by_cases hlt3 : i < (Mv.want (k + j)).length
            · have hgot : ∃ gg, p14 = some ⟨gg, 0, none⟩ ∧ w9.cell? ⟨gg, i, none⟩ = some (.int .i64 (Mv.want (k + j))[i]) ∧ gg < w9.heap.size := by
                rcases HR14.out.2 with ⟨_, e2⟩ | ⟨g, cap, cur, e, _⟩
                · omega
                · injection e with e1 e2 e3
                  subst e1
                  refine ⟨g, rfl, ?_, (HR14.out.lt g rfl).2⟩
                  rw [HR14.out.cellAt i (by omega)]
                  simp [intCells, hlt3]
              have hwan : ∃ gw, p1 = some ⟨gw, 0, none⟩ ∧ w9.cell? ⟨gw, i, none⟩ = some (.int .i64 (Mv.want (k + j))[i]) ∧ gw < w9.heap.size := by
                rcases H14.out.row.2 with ⟨_, e2⟩ | ⟨g, cap, cur, e, _⟩
                · omega
                · injection e with e1 e2 e3
                  subst e1
                  refine ⟨g, rfl, ?_, (H14.out.row.lt g rfl).2⟩
                  rw [H14.out.row.cellAt i (by omega)]
                  simp [intCells, hlt3]
              obtain ⟨gg, rfl, hcg, hlg⟩ := hgot
              obtain ⟨gw, rfl, hcw, hlw⟩ := hwan
              have HUP : Hid (∀ W, Below w9.heap.size w9 W → Calls Try.prog 40 #[.pointer (some ⟨B, 0, none⟩), .int .i64 (Mv.want (k + j))[i]] W (Gives (.int .i64 2) W)) := Lib.hid fun W b => HUPS.out W _ _ (H14.out.on b) _ (List.getElem_mem hlt3)
              generalize (Mv.want (k + j))[i] = x at *
              have hS0 : (fun w' => w'.cell? ⟨gg, i, none⟩ = some (.int .i64 x) ∧ w'.cell? ⟨gw, i, none⟩ = some (.int .i64 x) ∧ Below w9.heap.size w9 w') wr.drew := ⟨((hB.drew).cell (p := ⟨gg, i, none⟩) hlg).trans hcg, ((hB.drew).cell (p := ⟨gw, i, none⟩) hlw).trans hcw, hB.drew⟩
              have q1 : (x != x) = false := by simp
              have q2 : ((2 : Int) != 2) = false := by simp
              have i0' : (0 : Int) ≤ (i : Int) := by omega
              have i1' : (i : Int) < ((Mv.want (k + j)).length : Int) := by omega
              clear hcg hcw hB
              go_wp2_with fail
              refine wp_region_held_drew (S := (fun w' => w'.cell? ⟨gg, i, none⟩ = some (.int .i64 x) ∧ w'.cell? ⟨gw, i, none⟩ = some (.int .i64 x) ∧ Below w9.heap.size w9 w')) (by kernel_rfl) (by exact hS0) (fun hHeld => ?_)
              refine wpAnyH_take (i := 0) (oi := { dst := some 99, op := Op.move (Operand.tmp 13), type := 32, pos := "more.go:114", after := #[], guard := none }) (v := ?_) rfl (by kernel_rfl) (by kernel_rfl) (by kernel_rfl) (fun _ _ _ h => h) (Or.inl ⟨by rfl, ?_⟩) (by assumption) ?_
              rotate_left
              focus (intro w hSw; (try dsimp only at hSw); go_simp; (try with_reducible rfl))
              try simp only [Act.put, List.setIfInBounds_toArray, List.set_cons_zero, List.set_cons_succ]
              refine wpAnyH_take (i := 1) (oi := { dst := some 100, op := Op.move (Operand.tmp 14), type := 3, pos := "more.go:114", after := #[], guard := none }) (v := ?_) rfl (by kernel_rfl) (by kernel_rfl) (by kernel_rfl) (fun _ _ _ h => h) (Or.inl ⟨by rfl, ?_⟩) (by assumption) ?_
              rotate_left
              focus (intro w hSw; (try dsimp only at hSw); go_simp; (try with_reducible rfl))
              try simp only [Act.put, List.setIfInBounds_toArray, List.set_cons_zero, List.set_cons_succ]
              refine wpAnyH_take (i := 2) (oi := { dst := some 101, op := Op.indexAddr 32 (Operand.tmp 99) (Operand.tmp 100), type := 0, pos := "more.go:114", after := #[{ on := 0, ground := Ground.data }, { on := 1, ground := Ground.data }], guard := none }) (v := ?_) rfl (by kernel_rfl) (by kernel_rfl) (by kernel_rfl) (fun _ _ _ h => h) (Or.inl ⟨by rfl, ?_⟩) (by assumption) ?_
              rotate_left
              focus (intro w hSw; (try dsimp only at hSw); go_simp; (try with_reducible rfl))
              try simp only [Act.put, List.setIfInBounds_toArray, List.set_cons_zero, List.set_cons_succ]
              refine wpAnyH_take (i := 3) (oi := { dst := some 102, op := Op.load 3 (Operand.tmp 101), type := 3, pos := "more.go:114", after := #[{ on := 2, ground := Ground.data }], guard := none }) (v := ?_) rfl (by kernel_rfl) (by kernel_rfl) (by kernel_rfl) (fun _ _ _ h => h) (Or.inl ⟨by rfl, ?_⟩) (by assumption) ?_
              rotate_left
              focus (intro w hSw; (try dsimp only at hSw); go_simp; (try with_reducible rfl))
              try simp only [Act.put, List.setIfInBounds_toArray, List.set_cons_zero, List.set_cons_succ]
              refine wpAnyH_take (i := 4) (oi := { dst := some 103, op := Op.move (Operand.tmp 8), type := 32, pos := "more.go:114", after := #[], guard := none }) (v := ?_) rfl (by kernel_rfl) (by kernel_rfl) (by kernel_rfl) (fun _ _ _ h => h) (Or.inl ⟨by rfl, ?_⟩) (by assumption) ?_
              rotate_left
              focus (intro w hSw; (try dsimp only at hSw); go_simp; (try with_reducible rfl))
              try simp only [Act.put, List.setIfInBounds_toArray, List.set_cons_zero, List.set_cons_succ]
              refine wpAnyH_take (i := 5) (oi := { dst := some 104, op := Op.move (Operand.tmp 14), type := 3, pos := "more.go:114", after := #[], guard := none }) (v := ?_) rfl (by kernel_rfl) (by kernel_rfl) (by kernel_rfl) (fun _ _ _ h => h) (Or.inl ⟨by rfl, ?_⟩) (by assumption) ?_
              rotate_left
              focus (intro w hSw; (try dsimp only at hSw); go_simp; (try with_reducible rfl))
              try simp only [Act.put, List.setIfInBounds_toArray, List.set_cons_zero, List.set_cons_succ]
              refine wpAnyH_take (i := 6) (oi := { dst := some 105, op := Op.indexAddr 32 (Operand.tmp 103) (Operand.tmp 104), type := 0, pos := "more.go:114", after := #[{ on := 4, ground := Ground.data }, { on := 5, ground := Ground.data }], guard := none }) (v := ?_) rfl (by kernel_rfl) (by kernel_rfl) (by kernel_rfl) (fun _ _ _ h => h) (Or.inl ⟨by rfl, ?_⟩) (by assumption) ?_
              rotate_left
              focus (intro w hSw; (try dsimp only at hSw); go_simp; (try with_reducible rfl))
              try simp only [Act.put, List.setIfInBounds_toArray, List.set_cons_zero, List.set_cons_succ]
              refine wpAnyH_take (i := 7) (oi := { dst := some 106, op := Op.load 3 (Operand.tmp 105), type := 3, pos := "more.go:114", after := #[{ on := 6, ground := Ground.data }], guard := none }) (v := ?_) rfl (by kernel_rfl) (by kernel_rfl) (by kernel_rfl) (fun _ _ _ h => h) (Or.inl ⟨by rfl, ?_⟩) (by assumption) ?_
              rotate_left
              focus (intro w hSw; (try dsimp only at hSw); go_simp; (try with_reducible rfl))
              try simp only [Act.put, List.setIfInBounds_toArray, List.set_cons_zero, List.set_cons_succ]
              refine wpAnyH_take (i := 8) (oi := { dst := some 107, op := Op.binOp BinOp.neq 3 (Operand.tmp 102) (Operand.tmp 106) 3, type := 4, pos := "more.go:114", after := #[{ on := 3, ground := Ground.data }, { on := 7, ground := Ground.data }], guard := none }) (v := ?_) rfl (by kernel_rfl) (by kernel_rfl) (by kernel_rfl) (fun _ _ _ h => h) (Or.inl ⟨by rfl, ?_⟩) (by assumption) ?_
              rotate_left
              focus (intro w hSw; (try dsimp only at hSw); go_simp; (try with_reducible rfl))
              try simp only [Act.put, List.setIfInBounds_toArray, List.set_cons_zero, List.set_cons_succ]
              refine wpAnyH_take (i := 9) (oi := { dst := some 108, op := Op.move (Operand.tmp 107), type := 4, pos := "more.go:114", after := #[{ on := 8, ground := Ground.data }], guard := none }) (v := ?_) rfl (by kernel_rfl) (by kernel_rfl) (by kernel_rfl) (fun _ _ _ h => h) (Or.inl ⟨by rfl, ?_⟩) (by assumption) ?_
              rotate_left
              focus (intro w hSw; (try dsimp only at hSw); go_simp; (try with_reducible rfl))
              try simp only [Act.put, List.setIfInBounds_toArray, List.set_cons_zero, List.set_cons_succ]
              refine wpAnyH_take (i := 10) (oi := { dst := some 109, op := Op.move (Operand.tmp 5), type := 24, pos := "more.go:114", after := #[{ on := 9, ground := Ground.guard }], guard := some (9, false) }) (v := ?_) rfl (by kernel_rfl) (by kernel_rfl) (by kernel_rfl) (fun _ _ _ h => h) (Or.inl ⟨by rfl, ?_⟩) (by assumption) ?_
              rotate_left
              focus (intro w hSw; (try dsimp only at hSw); go_simp; (try with_reducible rfl))
              try simp only [Act.put, List.setIfInBounds_toArray, List.set_cons_zero, List.set_cons_succ]
              refine wpAnyH_take (i := 11) (oi := { dst := some 110, op := Op.move (Operand.tmp 13), type := 32, pos := "more.go:114", after := #[{ on := 9, ground := Ground.guard }], guard := some (9, false) }) (v := ?_) rfl (by kernel_rfl) (by kernel_rfl) (by kernel_rfl) (fun _ _ _ h => h) (Or.inl ⟨by rfl, ?_⟩) (by assumption) ?_
              rotate_left
              focus (intro w hSw; (try dsimp only at hSw); go_simp; (try with_reducible rfl))
              try simp only [Act.put, List.setIfInBounds_toArray, List.set_cons_zero, List.set_cons_succ]
              refine wpAnyH_take (i := 12) (oi := { dst := some 111, op := Op.move (Operand.tmp 14), type := 3, pos := "more.go:114", after := #[{ on := 9, ground := Ground.guard }], guard := some (9, false) }) (v := ?_) rfl (by kernel_rfl) (by kernel_rfl) (by kernel_rfl) (fun _ _ _ h => h) (Or.inl ⟨by rfl, ?_⟩) (by assumption) ?_
              rotate_left
              focus (intro w hSw; (try dsimp only at hSw); go_simp; (try with_reducible rfl))
              try simp only [Act.put, List.setIfInBounds_toArray, List.set_cons_zero, List.set_cons_succ]
              refine wpAnyH_take (i := 13) (oi := { dst := some 112, op := Op.indexAddr 32 (Operand.tmp 110) (Operand.tmp 111), type := 0, pos := "more.go:114", after := #[{ on := 11, ground := Ground.data }, { on := 12, ground := Ground.data }, { on := 9, ground := Ground.guard }], guard := some (9, false) }) (v := ?_) rfl (by kernel_rfl) (by kernel_rfl) (by kernel_rfl) (fun _ _ _ h => h) (Or.inl ⟨by rfl, ?_⟩) (by assumption) ?_
              rotate_left
              focus (intro w hSw; (try dsimp only at hSw); go_simp; (try with_reducible rfl))
              try simp only [Act.put, List.setIfInBounds_toArray, List.set_cons_zero, List.set_cons_succ]
              refine wpAnyH_take (i := 14) (oi := { dst := some 113, op := Op.load 3 (Operand.tmp 112), type := 3, pos := "more.go:114", after := #[{ on := 13, ground := Ground.data }, { on := 9, ground := Ground.guard }], guard := some (9, false) }) (v := ?_) rfl (by kernel_rfl) (by kernel_rfl) (by kernel_rfl) (fun _ _ _ h => h) (Or.inl ⟨by rfl, ?_⟩) (by assumption) ?_
              rotate_left
              focus (intro w hSw; (try dsimp only at hSw); go_simp; (try with_reducible rfl))
              try simp only [Act.put, List.setIfInBounds_toArray, List.set_cons_zero, List.set_cons_succ]
              refine wpAnyH_take (i := 16) (oi := { dst := some 115, op := Op.move (Operand.tmp 7), type := 3, pos := "more.go:114", after := #[{ on := 9, ground := Ground.guard }], guard := some (9, false) }) (v := ?_) rfl (by kernel_rfl) (by kernel_rfl) (by kernel_rfl) (fun _ _ _ h => h) (Or.inl ⟨by rfl, ?_⟩) (by assumption) ?_
              rotate_left
              focus (intro w hSw; (try dsimp only at hSw); go_simp; (try with_reducible rfl))
              try simp only [Act.put, List.setIfInBounds_toArray, List.set_cons_zero, List.set_cons_succ]
              refine wpAnyH_ready (rs := [15]) (by kernel_rfl) (by simp) ?_
              refine AllReadyH.cons (o := { dst := some 114, op := Op.call { callee := Callee.value (Operand.func 40), args := #[Operand.tmp 109, Operand.tmp 113], argTypes := #[ 24, 3 ] }, type := 3, pos := "more.go:114", after := #[{ on := 10, ground := Ground.data }, { on := 14, ground := Ground.data }, { on := 9, ground := Ground.chain }, { on := 9, ground := Ground.guard }], guard := some (9, false) }) rfl (fun K hK => ?_) AllReadyH.nil
              go_simp
              refine (HUP.out _ hHeld.2.2).mono ?_; rintro e w12 ⟨rfl, rfl⟩
              go_wp2_with fail
              refine hK.out _ _ (by exact hHeld) (fun hHeld => ?_)
              clear hK K
              try simp only [Act.put, List.setIfInBounds_toArray, List.set_cons_zero, List.set_cons_succ]
              refine wpAnyH_take (i := 17) (oi := { dst := some 116, op := Op.binOp BinOp.neq 3 (Operand.tmp 114) (Operand.tmp 115) 3, type := 4, pos := "more.go:114", after := #[{ on := 15, ground := Ground.data }, { on := 16, ground := Ground.data }, { on := 9, ground := Ground.guard }], guard := some (9, false) }) (v := ?_) rfl (by kernel_rfl) (by kernel_rfl) (by kernel_rfl) (fun _ _ _ h => h) (Or.inl ⟨by rfl, ?_⟩) (by assumption) ?_
              rotate_left
              focus (intro w hSw; (try dsimp only at hSw); go_simp; (try with_reducible rfl))
              try simp only [Act.put, List.setIfInBounds_toArray, List.set_cons_zero, List.set_cons_succ]
              refine wpAnyH_take (i := 18) (oi := { dst := some 117, op := Op.pick (Operand.tmp 108) (Operand.const (Value.bool true)) (Operand.tmp 116), type := 4, pos := "more.go:114", after := #[{ on := 9, ground := Ground.data }, { on := 17, ground := Ground.data }], guard := none }) (v := ?_) rfl (by kernel_rfl) (by kernel_rfl) (by kernel_rfl) (fun _ _ _ h => h) (Or.inl ⟨by rfl, ?_⟩) (by assumption) ?_
              rotate_left
              focus (intro w hSw; (try dsimp only at hSw); go_simp; (try with_reducible rfl))
              try simp only [Act.put, List.setIfInBounds_toArray, List.set_cons_zero, List.set_cons_succ]
              refine wpAnyH_done (by kernel_rfl) ?_ _
              go_wp2_with fail
              exact ⟨⟨i + 1, by omega, by go_num, hHeld.2.2⟩, by simp [intOf]; omega⟩
            · go_wp2_with fail
              go_ret
              exact ⟨rfl, B1.out.trans ((H14.out.below.trans (HB.out.mono H14.out.below.size)).mono B1.out.size)⟩
end Go.Proofs.Yteikhlonccacbaa
