/-
  The walks of the program's withKids, Kids, piece. Any nodes, not too many.
-/
import Derived.Test.YtbadckkcjjfnoaaDPPut
namespace Go.Proofs.Ytbadckkcjjfnoaa
open Go.RowKit

/-- From k on, behind one another. -/
def pRow (S : List PN) : Nat → Int → Option (List Int)
  | 0, _ => none
  | f + 1, k => if k = -1 then some [] else if pHas S k then (pRow S f (pget S k).behind).map (k :: ·) else none
def pKids (S : List PN) (f : Nat) (n : Int) : Option (List Int) := pRow S f (pget S n).first
def vlen : Value → Nat
  | .slice _ n _ => n
  | _ => 0
def intCells (l : List Int) : List Value := l.map fun k => .int .i64 k
theorem intCells_len (l : List Int) : (intCells l).length = l.length := by simp [intCells]
theorem info_int : ∃ i, Try.prog.info? 3 = some i ∧ i.zero = some (.int .i64 0) ∧ i.size = 1 ∧ i.bytes = 8 := by
  have hi9 : (Try.prog.info? 3).map (fun i => (i.zero, i.size, i.bytes)) = some (some (.int .i64 0), 1, 8) := by kernel_rfl
  obtain ⟨i0, hi, hx⟩ := Option.map_eq_some_iff.1 hi9
  simp only [Prod.mk.injEq] at hx
  exact ⟨i0, hi, hx.1, hx.2.1, hx.2.2⟩
/-- A row of numbers of one's own, beside what was there: L0 the block that it began in. -/
structure RowI (w : World) (v0 : Value) (w' : World) (v : Value) (ks : List Int) : Prop where
  row : w'.ownsRow 0 3 1 v ks.length (intCells ks)
  turns : Turns (fun b => some b = v0.ownBlock) w w'
  own : ∀ g, v.ownBlock = some g → v0.ownBlock = some g ∨ w.heap.size ≤ g
theorem DocM.on {M L : Nat → Prop} {w w' : World} {B : Nat} {S : List PN} (h : DocM M w B S) (ht : Turns L w w') (hm : ∀ b, b < w.heap.size → M b → ¬ L b) : DocM M w' B S := by
  obtain ⟨v, qs, e, hq⟩ := h
  exact ⟨v, qs, e, hq.on ht hm⟩
theorem row_form {w : World} {v : Value} {n : Nat} {xs : List Value} {e : TypeId} {s : Nat} {B : Nat} (h : w.ownsRow B e s v n xs) : ∃ p c, v = .slice p n c := by
  rcases h.2 with ⟨rfl, rfl⟩ | ⟨g, cap, _, rfl, _⟩
  · exact ⟨none, 0, rfl⟩
  · exact ⟨_, cap, rfl⟩

theorem RowI.more {w wr w3 : World} {v0 : Value} {p1 : Option Addr} {c1 g3 c3 : Nat} {ks : List Int} {x : Int} (h : RowI w v0 wr (.slice p1 ks.length c1) ks) (hr : w3.ownsRow 0 3 1 (.slice (some ⟨g3, 0, none⟩) (ks.length + 1) c3) (ks.length + 1) (intCells ks ++ [.int .i64 x])) (hg : (wr.alloc (.cells #[.int .i64 x] 3)).grownBy w3 (Value.slice p1 ks.length c1).ownBlock) (ho : (Value.slice p1 ks.length c1).ownBlock = some g3 ∨ g3 = wr.heap.size + 1) :
    RowI w v0 w3 (.slice (some ⟨g3, 0, none⟩) (ks.length + 1) c3) (ks ++ [x]) := by
  refine ⟨?_, ?_, ?_⟩
  · rw [List.length_append]
    have : intCells (ks ++ [x]) = intCells ks ++ [.int .i64 x] := by simp [intCells]
    rw [this]
    exact hr
  · refine h.turns.trans ((Turns.of_below ((Below.refl _ wr).alloc (Nat.le_refl _) (.cells #[.int .i64 x] 3))).trans (M := New (fun b => some b = v0.ownBlock) w) ((Turns.of_grown hg ?_).mono (fun b _ k => .inl k)))
    intro g e
    rcases h.own g e with k | k
    · exact .inl k.symm
    · exact .inr k
  · intro g e
    injection e with e
    subst e
    rcases ho with k | k
    · exact h.own _ k
    · have := h.turns.size
      exact .inr (by show w.heap.size ≤ g3; omega)
set_option maxHeartbeats 1000000 in
set_option maxRecDepth 100000 in
theorem dwithKidsP (S : List PN) (B : Nat) (M : Nat → Prop) (w : World) (f : Nat) (n : Int) (v : Value) (ks r : List Int) (h : DocM M w B S) (hM : ∀ b, M b → b < w.heap.size) (h0 : pHas S n = true) (hk : pKids S f n = some r) (hrow : w.ownsRow 0 3 1 v ks.length (intCells ks)) (hv : ∀ g, v.ownBlock = some g → ¬ M g) (hs : ks.length + r.length ≤ 4294967296) :
    Calls Try.prog 79 #[.pointer (some ⟨B, 0, none⟩), v, .int .i64 n] w (fun e w' => ∃ v', e = .returned v' ∧ RowI w v w' v' (ks ++ r)) := by
  obtain ⟨pv, cv, hfv⟩ := row_form hrow
  subst hfv
  obtain ⟨j, rfl, hj⟩ := pHas_nat h0
  obtain ⟨g, cap, hr⟩ := h.reads_pos (by omega)
  unfold pKids at hk
  rw [pget_nat hj] at hk
  obtain ⟨_, va, vt, e, hg, hc⟩ := hr.node j hj
  injection e with e; injection e with e; subst e
  have hc0 := hr.cell
  have c8 := hc.c8
  have j0 : (0 : Int) ≤ (j : Int) := by omega
  have j1 : (j : Int) < (S.length : Int) := by omega
  have HDM := Lib.hid h
  have HM := Lib.hid hM
  have HV := Lib.hid hv
  have HR0 : Hid (RowI w (.slice pv ks.length cv) w (.slice pv ks.length cv) ks) := Lib.hid ⟨hrow, Turns.refl _ _, fun _ e => .inl e⟩
  have HK := Lib.hid hk
  obtain ⟨i0, hi0, hz0, hz1, hz2⟩ := info_int
  have HI := Lib.hid (And.intro hi0 (And.intro hz0 (And.intro hz1 hz2)))
  clear hr hc h hM h0 hk hrow hv hi0 hz0 hz1 hz2
  generalize S[j].first = k0 at *
  go_enter Try.func79, Try.ntmps79
  go_wp2_with fail
  go_loopw [1, 7] (fun l i wr => ∃ (ks' r' : List Int) (k : Int) (m : Nat), i = .int .i64 k ∧ pRow S m k = some r' ∧ ks ++ r = ks' ++ r' ∧ RowI w (.slice pv ks.length cv) wr l ks') (fun l _ _ => (ks ++ r).length - vlen l)
  case atStart => exact ⟨ks, r, k0, f, rfl, HK.out, rfl, HR0.out⟩
  case round =>
    obtain ⟨ks', r', k, m, rfl, hk, hks, hR⟩ := hrel
    have HR := Lib.hid hR
    have HKS := Lib.hid hks
    obtain ⟨p1, c1, hf1⟩ := row_form hR.row
    subst hf1
    clear hks
    cases m with
    | zero => cases hk
    | succ m =>
      unfold pRow at hk
      by_cases a : k = -1
      · rw [if_pos a] at hk
        have hre := Option.some.inj hk
        have q1 : (k != -1) = false := by simp [a]
        have HRE := Lib.hid hre
        clear hk hre a hR
        go_wp2_with fail
        go_ret
        refine ⟨_, rfl, ?_⟩
        rw [HKS.out, ← HRE.out, List.append_nil]
        exact HR.out
      · rw [if_neg a] at hk
        have q1 : (k != -1) = true := by simp [a]
        cases hp : pHas S k
        · rw [hp] at hk; cases hk
        · rw [hp, if_pos rfl] at hk
          obtain ⟨r2, hk2, hr2⟩ := Option.map_eq_some_iff.1 hk
          have HK2 := Lib.hid hk2
          have HR2 := Lib.hid hr2
          obtain ⟨x, rfl, hx⟩ := pHas_nat hp
          have hln : ks'.length + r'.length ≤ 4294967296 := by
            have := congrArg List.length HKS.out
            simp at this
            omega
          have hrl : 0 < r'.length := by rw [← hr2]; simp
          rw [pget_nat hx] at HK2
          have x0 : (0 : Int) ≤ (x : Int) := by omega
          have x1 : (x : Int) < (S.length : Int) := by omega
          -- behind the append: the Doc stands
          have HN : Hid (∀ W, Turns (fun b => some b = (Value.slice pv ks.length cv).ownBlock) w W → ∃ g va vt cap, W.cell? ⟨B, 0, none⟩ = some (.slice (some ⟨g, 0, none⟩) S.length cap) ∧ Cells10 W g (x * 10) S[x] va vt) := by
            refine Lib.hid fun W t => ?_
            have d := HDM.out.on t (fun b _ k e => HV.out b e.symm k)
            obtain ⟨g2, cap2, hr2⟩ := d.reads_pos (by omega)
            obtain ⟨_, va2, vt2, e2, _, hc2⟩ := hr2.node x hx
            injection e2 with e2; injection e2 with e2; subst e2
            exact ⟨g2, va2, vt2, cap2, hr2.cell, hc2⟩
          clear hk hk2 hr2 hp a hR
          go_wp2_with (first
            | (at_builtin; refine wpList_append_lies _ rfl _ _ 32 rfl 0 3 i0 (.int .i64 0) 1 8 Try.underlying32 HI.out.1 HI.out.2.1 HI.out.2.2.1 HI.out.2.2.2 rfl (by omega) (.slice p1 ks'.length c1) ks'.length (intCells ks') rfl (HR.out.row.alloc _) ⟨wr.heap.size, 0, none⟩ 1 1 [.int .i64 (x : Int)] rfl rfl (World.news_of_block (cs := #[.int .i64 (x : Int)]) (t := 3) (fr := (0, 0)) (heap_alloc_new wr _)) (by simp [Value.oneCell']) (by omega) (by unfold maxLen; omega) (by omega) (Nat.zero_le _) (wr.heap.size + 1) (by simp) ?_; intro g3 c3 w3 hr3 hg3 hor3 _; have HR3 := Lib.hid (RowI.more (x := (x : Int)) HR.out hr3 hg3 hor3); obtain ⟨g4, va4, vt4, cap4, c0', hc4⟩ := HN.out w3 HR3.out.turns; have c7 := hc4.c7; clear hr3 hg3 hor3 hc4)
            | fail)
          refine ⟨⟨ks' ++ [(x : Int)], r2, _, m, rfl, HK2.out, ?_, ?_⟩, ?_⟩
          · rw [HKS.out, ← HR2.out]; simp
          · exact HR3.out
          · simp [vlen]
            have := congrArg List.length HKS.out
            simp at this
            omega
end Go.Proofs.Ytbadckkcjjfnoaa
