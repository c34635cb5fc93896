/-
  The walk of the law MarksWalls: true, and nothing old is changed. Any numbers, any numbers.
-/
import Derived.Test.YtppcgcmhecagbabMWH
namespace Go.Proofs.Ytppcgcmhecagbab
open Go.RowKit

theorem name_r (r : Nat) (hr : r < 7) : -9223372036854775808 ≤ (r : Int) ∧ (r : Int) ≤ 9223372036854775807 := by omega
def walM (j : Int) (r s : Nat) : MK := ⟨j, nm7 r, at7 s⟩
theorem wal_fits (j : Int) (r s : Nat) : (walM j r s).fits := at7_fit s
/-- What stands before a wall, and behind it. -/
structure WQ (w w1 W : World) (M : Nat → Prop) (B : Nat) (S : List MK) (v1 : Value) (n1 T1 : Nat) (v2 : Value) (n2 T2 : Nat) (vr : Value) (rs : List (MK × Value)) : Prop where
  mq : MarkB w1 W M B S
  t1 : TapeK w W M v1 n1 T1
  t2 : TapeK w W M v2 n2 T2
  row : RowK W (fun b => M b ∨ b = T1 ∨ b = T2) vr rs
  ne : T1 ≠ T2
  z1 : w1.heap.size ≤ T1
  z2 : w1.heap.size ≤ T2
theorem WQ.on {w w1 W W' : World} {M : Nat → Prop} {B : Nat} {S : List MK} {v1 : Value} {n1 T1 : Nat} {v2 : Value} {n2 T2 : Nat} {vr : Value} {rs : List (MK × Value)} (h : WQ w w1 W M B S v1 n1 T1 v2 n2 T2 vr rs) (hb : Below W.heap.size W W') : WQ w w1 W' M B S v1 n1 T1 v2 n2 T2 vr rs :=
  ⟨h.mq.on hb, h.t1.on hb, h.t2.on hb, h.row.on hb, h.ne, h.z1, h.z2⟩
theorem WQ.step {w w1 W W' : World} {M : Nat → Prop} {B : Nat} {S S' : List MK} {v1 : Value} {n1 T1 : Nat} {v2 : Value} {n2 T2 : Nat} {vr : Value} {rs : List (MK × Value)} (h : WQ w w1 W M B S v1 n1 T1 v2 n2 T2 vr rs) (hs : Stepd w1 W M B S' W') (hz : w.heap.size ≤ w1.heap.size) : ∃ M', WQ w w1 W' M' B S' v1 n1 T1 v2 n2 T2 vr rs := by
  obtain ⟨M', h1, h2, h3⟩ := hs
  have hw : ∀ b, M b → w1.heap.size ≤ b := fun b k => (h.mq.inn b k).1
  refine ⟨M', h1, h.t1.turns h2 h3 hw hz, h.t2.turns h2 h3 hw hz, ?_, h.ne, h.z1, h.z2⟩
  obtain ⟨P, hr, hp⟩ := h.row
  refine ⟨P, hr.kept (h3.kept fun b _ k => fun q => (hp b k).2 (.inl q)), fun b k => ⟨Nat.lt_of_lt_of_le (hp b k).1 h3.size, fun q => (hp b k).2 (q.imp (h2 b (hp b k).1) id)⟩⟩
theorem WQ.next1 {w w1 W W' : World} {M : Nat → Prop} {B : Nat} {S : List MK} {v1 : Value} {n1 T1 : Nat} {v2 : Value} {n2 T2 : Nat} {vr : Value} {rs : List (MK × Value)} (h : WQ w w1 W M B S v1 n1 T1 v2 n2 T2 vr rs) (hs : Stepped T1 W W') (ht : TapeAt w v1 n1 T1 W') : WQ w w1 W' M B S v1 n1 T1 v2 n2 T2 vr rs := by
  refine ⟨h.mq.stepped hs h.t1 h.z1, ⟨ht, h.t1.off, by rw [hs.size]; exact h.t1.lt⟩, h.t2.stepped hs h.t1 (fun e => h.ne e.symm), ?_, h.ne, h.z1, h.z2⟩
  obtain ⟨P, hr, hp⟩ := h.row
  exact ⟨P, hr.kept (hs.turns.kept fun b _ k e => (hp b k).2 (.inr (.inl e))), fun b k => ⟨by rw [hs.size]; exact (hp b k).1, (hp b k).2⟩⟩
theorem WQ.next2 {w w1 W W' : World} {M : Nat → Prop} {B : Nat} {S : List MK} {v1 : Value} {n1 T1 : Nat} {v2 : Value} {n2 T2 : Nat} {vr : Value} {rs : List (MK × Value)} (h : WQ w w1 W M B S v1 n1 T1 v2 n2 T2 vr rs) (hs : Stepped T2 W W') (ht : TapeAt w v2 n2 T2 W') : WQ w w1 W' M B S v1 n1 T1 v2 n2 T2 vr rs := by
  refine ⟨h.mq.stepped hs h.t2 h.z2, h.t1.stepped hs h.t2 h.ne, ⟨ht, h.t2.off, by rw [hs.size]; exact h.t2.lt⟩, ?_, h.ne, h.z1, h.z2⟩
  obtain ⟨P, hr, hp⟩ := h.row
  exact ⟨P, hr.kept (hs.turns.kept fun b _ k e => (hp b k).2 (.inr (.inr e))), fun b k => ⟨by rw [hs.size]; exact (hp b k).1, (hp b k).2⟩⟩
theorem RowK.zero (W : World) (M : Nat → Prop) : RowK W M (.slice none 0 0) [] := ⟨fun _ => False, ⟨Option.none, 0, rfl, Nat.le_refl _, fun j hj => absurd hj (by simp), fun q hq => absurd hq (by simp)⟩, fun _ k => k.elim⟩
/-- The attributes that Attrs tells, beside the marks. -/
theorem AttrsOut.beside {l : List (List UInt8 × List UInt8)} {w0 W w' : World} {M : Nat → Prop} {B : Nat} {S : List MK} {p : Option Addr} {c : Nat} (h : MarkB w0 W M B S) (ha : AttrsP (fun b => W.heap.size ≤ b) w' (.slice p l.length c) l) : AttrsK w' M (.slice p l.length c) l :=
  ⟨fun b => W.heap.size ≤ b ∧ b < w'.heap.size, ha.mono fun b k hb => ⟨k, hb⟩, fun b k => ⟨k.2, fun q => by have := (h.inn b q).2; omega⟩⟩
theorem TapeAt.made2 {w W : World} {v : Value} {n : Nat} (t : TypeId) (h : IntsIn w v n) (hb : Below w.heap.size w W) : TapeAt w v n W.heap.size (W.alloc (.cells #[v, .int .i64 0] t)) := by
  have c0 : ∀ j, (W.alloc (.cells #[v, .int .i64 0] t)).cell? ⟨W.heap.size, j, none⟩ = (#[v, .int .i64 0] : Array Value)[j]? := fun j => World.cell?_alloc_mark W _ t (0, 0) j
  exact ⟨h, hb.size, by rw [c0]; rfl, ⟨0, Nat.zero_le _, by rw [c0]; rfl⟩, by rw [World.frozen?_alloc_mark]; rfl, hb.trans (((Below.refl _ W).alloc (Nat.le_refl _) _).mono hb.size)⟩
/-- Two tapes, made one behind the other. -/
theorem WQ.made {w w1 w2 : World} {M : Nat → Prop} {B : Nat} {S : List MK} {v1 v2 : Value} {n1 n2 : Nat} (t : TypeId) (h : MarkB w1 w2 M B S) (hb : Below w.heap.size w w1) (h1 : IntsIn w v1 n1) (h2 : IntsIn w v2 n2) :
    WQ w w1 ((w2.alloc (.cells #[v1, .int .i64 0] t)).alloc (.cells #[v2, .int .i64 0] t)) M B S v1 n1 w2.heap.size v2 n2 (w2.heap.size + 1) (.slice none 0 0) [] := by
  have b1 : Below w2.heap.size w2 (w2.alloc (.cells #[v1, .int .i64 0] t)) := (Below.refl _ w2).alloc (Nat.le_refl _) _
  have z1 : (w2.alloc (.cells #[v1, .int .i64 0] t)).heap.size = w2.heap.size + 1 := by simp
  have b2 : Below (w2.alloc (.cells #[v1, .int .i64 0] t)).heap.size (w2.alloc (.cells #[v1, .int .i64 0] t)) ((w2.alloc (.cells #[v1, .int .i64 0] t)).alloc (.cells #[v2, .int .i64 0] t)) := (Below.refl _ _).alloc (Nat.le_refl _) _
  have bw : Below w.heap.size w w2 := hb.trans (h.below.mono hb.size)
  have k2 := TapeAt.made2 (W := w2.alloc (.cells #[v1, .int .i64 0] t)) t h2 (bw.trans (b1.mono bw.size))
  rw [z1] at k2
  have hz := h.below.size
  refine ⟨(h.on b1).on b2, ⟨(TapeAt.made2 t h1 bw).on b2 (by rw [z1]; omega), fun k => absurd (h.inn _ k).2 (by omega), by simp; omega⟩, ⟨k2, fun k => absurd (h.inn _ k).2 (by omega), by simp⟩, RowK.zero _ _, by omega, hz, by omega⟩
set_option maxHeartbeats 4000000 in
set_option maxRecDepth 100000 in
theorem marksWalls_walk (v1 : Value) (n1 : Nat) (v2 : Value) (n2 : Nat) (w : World) (h1 : IntsIn w v1 n1) (h2 : IntsIn w v2 n2) : Calls Try.prog 5 #[v1, v2] w (Yes w) := by
  have HI1 := Lib.hid h1
  have HI2 := Lib.hid h2
  have hv1 : ∃ p l c, v1 = .slice p l c := by rcases h1 with ⟨p, cap, hv, _⟩ | ⟨g, off, cap, hv, _⟩ <;> exact ⟨_, _, _, hv⟩
  have hv2 : ∃ p l c, v2 = .slice p l c := by rcases h2 with ⟨p, cap, hv, _⟩ | ⟨g, off, cap, hv, _⟩ <;> exact ⟨_, _, _, hv⟩
  obtain ⟨p1, l1, c1, rfl⟩ := hv1
  obtain ⟨p2, l2, c2, rfl⟩ := hv2
  clear h1 h2
  go_enter Try.func5, Try.ntmps5
  go_wp2_with fail
  refine (known7_yes w).mono ?_
  rintro e w1 ⟨rfl, b1⟩
  have B1 := Lib.hid b1
  have hz := b1.size
  clear b1
  go_wp2_with fail
  refine (mkB_new w1).mono ?_
  rintro e w2 ⟨M, B, rfl, h2⟩
  have H2 := Lib.hid h2
  clear h2
  go_wp2_with fail
  have HQ0 := Lib.hid (WQ.made (v1 := .slice p1 l1 c1) (v2 := .slice p2 l2 c2) 46 H2.out B1.out HI1.out HI2.out)
  generalize (w2.alloc (.cells #[.slice p1 l1 c1, .int .i64 0] 46)).alloc (.cells #[.slice p2 l2 c2, .int .i64 0] 46) = W0 at *
  obtain ⟨T2, hT2⟩ : ∃ T2, T2 = w2.heap.size + 1 := ⟨_, rfl⟩
  rw [← hT2] at HQ0 ⊢
  clear hT2 H2
  generalize w2.heap.size = T1 at *
  go_loopw [8] (fun jv wr => ∃ (j : Nat) (M' : Nat → Prop) (S : List MK), j ≤ 20 ∧ jv = .int .i64 (j : Int) ∧ WQ w w1 wr M' B S (.slice p1 l1 c1) n1 T1 (.slice p2 l2 c2) n2 T2 (.slice none 0 0) [] ∧ S.length ≤ j) (fun jv _ => 20 - (intOf jv).toNat)
  case atStart => exact ⟨0, M, [], by omega, rfl, HQ0.out, Nat.le_refl _⟩
  case round =>
    obtain ⟨j, M', S, hj, rfl, hq, hl⟩ := hrel
    have HQz := Lib.hid hq
    clear hq
    by_cases hlt : j < 20
    · go_wp2_with fail
      refine (tape_more w (.slice p1 l1 c1) n1 T1 _ HQz.out.t1.tape).mono ?_
      rintro e w3 ⟨b, q, rfl, rfl⟩
      have HQa := Lib.hid (HQz.out.on (below_drewN (Below.refl _ _) q))
      clear HQz
      cases b
      · clear hlt
        go_wp2_with fail
        refine (mkB_all HQa.out.mq (by omega)).mono ?_
        rintro e w4 ⟨v4, rs, rfl, hm4, hr4, hb4, h4, _⟩
        have HQ4 : Hid (WQ w w1 w4 M' B S (.slice p1 l1 c1) n1 T1 (.slice p2 l2 c2) n2 T2 v4 rs) := Lib.hid (by
          have h := HQa.out.on hb4
          refine ⟨h.mq, h.t1, h.t2, ⟨_, hr4, fun b k => ⟨k.2, ?_⟩⟩, h.ne, h.z1, h.z2⟩
          rintro (q | q | q)
          · have := (HQa.out.mq.inn b q).2; omega
          · have := HQa.out.t1.lt; omega
          · have := HQa.out.t2.lt; omega)
        have HM4 := Lib.hid hm4
        clear hm4 hr4 hb4 h4 HQa
        go_wp2_with fail
        refine (mkB_wall HQ4.out.mq (by omega)).mono ?_
        rintro e w5 ⟨rfl, hst⟩
        obtain ⟨M6, hq6⟩ := HQ4.out.step hst hz
        have HQ5 := Lib.hid hq6
        have hl6 : (S ++ [mWall]).length ≤ 100 := by simp; omega
        clear hst hq6 HQ4
        go_wp2_with fail
        go_loopw [10] (fun jv wr => ∃ (j : Nat), j ≤ 5 ∧ jv = .int .i64 (j : Int) ∧ WQ w w1 wr M6 B (S ++ [mWall]) (.slice p1 l1 c1) n1 T1 (.slice p2 l2 c2) n2 T2 v4 rs) (fun jv _ => 5 - (intOf jv).toNat)
        case atStart => exact ⟨0, by omega, rfl, HQ5.out⟩
        case round =>
          obtain ⟨j, hj, rfl, hq⟩ := hrel
          have HQ6 := Lib.hid hq
          clear hq
          by_cases hlt : j < 5
          · have hb1 := name_r j (by omega)
            go_wp2_with fail
            refine (name7 j _ hb1.1 hb1.2).mono ?_
            rintro e w6 ⟨rfl, b6⟩
            have HQ7 := Lib.hid (HQ6.out.on b6)
            clear b6
            have HFI := Lib.hid (mkB_find HQ7.out.mq (nm7 (Within (j : Int) 5)) (by omega))
            rw [find_wall] at HFI
            go_wp2_with fail
            refine HFI.out.mono ?_
            rintro e w7 ⟨rfl, rfl⟩
            go_wp2_with fail
            exact ⟨⟨j + 1, by omega, by go_num, HQ7.out⟩, by simp [intOf]; omega⟩
          · clear HQ5
            go_wp2_with fail
            go_loopw [11] (fun jv wr => ∃ (j : Nat) (M' : Nat → Prop) (R : List MK), j ≤ 20 ∧ jv = .int .i64 (j : Int) ∧ WQ w w1 wr M' B (S ++ mWall :: R) (.slice p1 l1 c1) n1 T1 (.slice p2 l2 c2) n2 T2 v4 rs ∧ R.length ≤ j ∧ ∀ y ∈ R, y.node ≠ -1) (fun jv _ => 20 - (intOf jv).toNat)
            case atStart => exact ⟨0, M6, [], by omega, rfl, HQ6.out, Nat.le_refl _, fun y hy => absurd hy (by simp)⟩
            case round =>
              obtain ⟨j, M', R, hj, rfl, hq, hl, hn⟩ := hrel
              have HQz := Lib.hid hq
              have HNZ := Lib.hid hn
              have hlz : (S ++ mWall :: R).length ≤ 100 := by simp; omega
              clear hq hn
              by_cases hlt : j < 20
              · go_wp2_with fail
                refine (tape_more w (.slice p2 l2 c2) n2 T2 _ HQz.out.t2.tape).mono ?_
                rintro e w3 ⟨b, q, rfl, rfl⟩
                have HQa := Lib.hid (HQz.out.on (below_drewN (Below.refl _ _) q))
                cases b
                · clear HQa hlt
                  have HQz := Lib.hid (HQz.out.on (below_drewN (Below.refl _ _) q))
                  go_wp2_with fail
                  refine (mkB_clear HQz.out.mq (by omega)).mono ?_
                  rintro e w11 ⟨rfl, hst⟩
                  rw [clear_app S R HNZ.out] at hst
                  obtain ⟨M9, hq9⟩ := HQz.out.step hst hz
                  have HQ9 := Lib.hid hq9
                  clear hst hq9
                  go_wp2_with fail
                  refine (mkB_all HQ9.out.mq (by omega)).mono ?_
                  rintro e w12 ⟨v12, rs12, rfl, hm12, hr12, hb12, _, _⟩
                  have HQ10 := Lib.hid (HQ9.out.on hb12)
                  obtain ⟨P, hrp, _⟩ := HQ10.out.row
                  have HSM := Lib.hid (rsameM v12 v4 rs12 rs _ P w12 hr12 hrp (by have := congrArg List.length hm12; rw [List.length_map] at this; omega) (fun q hq => Nat.le_trans (HQ9.out.mq.fit q.1 (by rw [← hm12]; exact List.mem_map_of_mem hq)).1 (by decide)))
                  rw [decide_eq_true (hm12.trans HM4.out.symm)] at HSM
                  clear hm12 hr12 hb12 hrp
                  go_wp2_with fail
                  refine HSM.out.mono ?_
                  rintro e w13 ⟨rfl, b13⟩
                  have HB := Lib.hid (B1.out.trans ((HQ10.out.mq.on b13).below.mono hz))
                  clear b13
                  go_wp2_with fail
                  go_ret
                  exact ⟨rfl, HB.out⟩
                · clear HQz
                  go_wp2_with fail
                  refine (tape_next w (.slice p2 l2 c2) n2 T2 5 _ HQa.out.t2.tape (by omega) (by omega)).mono ?_
                  rintro e w4 ⟨r, hr, rfl, hs4, ht4⟩
                  have HQb := Lib.hid (HQa.out.next2 hs4 ht4)
                  clear hs4 ht4 HQa
                  have hb1 := name_r r (by omega)
                  go_wp2_with fail
                  refine (name7 r w4 hb1.1 hb1.2).mono ?_
                  rintro e w5 ⟨rfl, b5⟩
                  have HQc := Lib.hid (HQb.out.on b5)
                  clear b5 HQb
                  generalize Within (r : Int) 5 = rn at *
                  obtain ⟨NM, hNM⟩ : ∃ NM : ByteArray, NM = (⟨(nm7 rn).toArray⟩ : ByteArray) := ⟨_, rfl⟩
                  rw [← hNM]
                  have HNN := Lib.hid hNM
                  clear hNM
                  go_wp2_with fail
                  refine (tape_next w (.slice p2 l2 c2) n2 T2 7 _ HQc.out.t2.tape (by omega) (by omega)).mono ?_
                  rintro e w6 ⟨s, hs, rfl, hs6, ht6⟩
                  have HQd := Lib.hid (HQc.out.next2 hs6 ht6)
                  clear hs6 ht6 HQc
                  have hb2 := name_r s (by omega)
                  go_wp2_with fail
                  refine (attrs7 s w6 hb2.1 hb2.2).mono ?_
                  rintro e w7 ⟨pa, ca, rfl, ha7, b7⟩
                  generalize Within (s : Int) 7 = sn at *
                  have HQe := Lib.hid (HQd.out.on b7)
                  have HPU : Hid (Calls Try.prog 27 #[.pointer (some ⟨B, 0, none⟩), .agg #[.int .i64 (100 + (j : Int)), .string NM, .slice pa (at7 sn).length ca]] w7 (fun e w' => e = .returned (.tuple #[]) ∧ Stepd w1 w7 M' B (mPush (S ++ mWall :: R) (walM (100 + (j : Int)) rn sn)) w')) := by
                    refine Lib.hid ?_
                    rw [HNN.out]
                    exact mkB_push HQe.out.mq (walM (100 + (j : Int)) rn sn) pa ca (by omega) (AttrsOut.beside HQd.out.mq ha7) (wal_fits _ _ _)
                  clear ha7 b7 HQd
                  go_wp2_with fail
                  refine HPU.out.mono ?_
                  rintro e w8 ⟨rfl, hst⟩
                  obtain ⟨M8, hq8⟩ := HQe.out.step hst hz
                  have HQf := Lib.hid hq8
                  clear hq8 hst HPU HQe
                  go_wp2_with fail
                  obtain ⟨R0, hp, hR0⟩ := push_app (S ++ [mWall]) R (walM (100 + (j : Int)) rn sn) (.inr ⟨S, rfl⟩) HNZ.out
                  have HQg : Hid (WQ w w1 w8 M8 B (S ++ mWall :: (R0 ++ [walM (100 + (j : Int)) rn sn])) (.slice p1 l1 c1) n1 T1 (.slice p2 l2 c2) n2 T2 v4 rs) := by
                    refine Lib.hid ?_
                    have h := HQf.out
                    rw [show S ++ mWall :: R = (S ++ [mWall]) ++ R by simp, hp] at h
                    rw [show S ++ mWall :: (R0 ++ [walM (100 + (j : Int)) rn sn]) = (S ++ [mWall]) ++ (R0 ++ [walM (100 + (j : Int)) rn sn]) by simp]
                    exact h
                  have hl0 : R0.length ≤ j := by
                    rcases hR0 with ⟨_, rfl⟩ | ⟨k, hk, rfl, _⟩
                    · exact hl
                    · have := List.length_eraseIdx_le R k; omega
                  have hn0 : ∀ y ∈ R0 ++ [walM (100 + (j : Int)) rn sn], y.node ≠ -1 := by
                    intro y hy
                    rcases List.mem_append.1 hy with hy | hy
                    · refine HNZ.out y ?_
                      rcases hR0 with ⟨_, rfl⟩ | ⟨k, hk, rfl, _⟩
                      · exact hy
                      · exact List.mem_of_mem_eraseIdx hy
                    · rw [List.mem_singleton.1 hy]
                      show 100 + (j : Int) ≠ -1
                      omega
                  exact ⟨⟨j + 1, M8, _, by omega, by go_num, HQg.out, by simp; omega, hn0⟩, by simp [intOf]; omega⟩
              · go_wp2_with fail
                refine (mkB_clear HQz.out.mq (by omega)).mono ?_
                rintro e w11 ⟨rfl, hst⟩
                rw [clear_app S R HNZ.out] at hst
                obtain ⟨M9, hq9⟩ := HQz.out.step hst hz
                have HQ9 := Lib.hid hq9
                clear hst hq9
                go_wp2_with fail
                refine (mkB_all HQ9.out.mq (by omega)).mono ?_
                rintro e w12 ⟨v12, rs12, rfl, hm12, hr12, hb12, _, _⟩
                have HQ10 := Lib.hid (HQ9.out.on hb12)
                obtain ⟨P, hrp, _⟩ := HQ10.out.row
                have HSM := Lib.hid (rsameM v12 v4 rs12 rs _ P w12 hr12 hrp (by have := congrArg List.length hm12; rw [List.length_map] at this; omega) (fun q hq => Nat.le_trans (HQ9.out.mq.fit q.1 (by rw [← hm12]; exact List.mem_map_of_mem hq)).1 (by decide)))
                rw [decide_eq_true (hm12.trans HM4.out.symm)] at HSM
                clear hm12 hr12 hb12 hrp
                go_wp2_with fail
                refine HSM.out.mono ?_
                rintro e w13 ⟨rfl, b13⟩
                have HB := Lib.hid (B1.out.trans ((HQ10.out.mq.on b13).below.mono hz))
                clear b13
                go_wp2_with fail
                go_ret
                exact ⟨rfl, HB.out⟩
      · go_wp2_with fail
        refine (tape_next w (.slice p1 l1 c1) n1 T1 5 _ HQa.out.t1.tape (by omega) (by omega)).mono ?_
        rintro e w4 ⟨r, hr, rfl, hs4, ht4⟩
        have HQb := Lib.hid (HQa.out.next1 hs4 ht4)
        clear hs4 ht4 HQa
        have hb1 := name_r r (by omega)
        go_wp2_with fail
        refine (name7 r w4 hb1.1 hb1.2).mono ?_
        rintro e w5 ⟨rfl, b5⟩
        have HQc := Lib.hid (HQb.out.on b5)
        clear b5 HQb
        generalize Within (r : Int) 5 = rn at *
        obtain ⟨NM, hNM⟩ : ∃ NM : ByteArray, NM = (⟨(nm7 rn).toArray⟩ : ByteArray) := ⟨_, rfl⟩
        rw [← hNM]
        have HNN := Lib.hid hNM
        clear hNM
        go_wp2_with fail
        refine (tape_next w (.slice p1 l1 c1) n1 T1 7 _ HQc.out.t1.tape (by omega) (by omega)).mono ?_
        rintro e w6 ⟨s, hs, rfl, hs6, ht6⟩
        have HQd := Lib.hid (HQc.out.next1 hs6 ht6)
        clear hs6 ht6 HQc
        have hb2 := name_r s (by omega)
        go_wp2_with fail
        refine (attrs7 s w6 hb2.1 hb2.2).mono ?_
        rintro e w7 ⟨pa, ca, rfl, ha7, b7⟩
        generalize Within (s : Int) 7 = sn at *
        have HQe := Lib.hid (HQd.out.on b7)
        have HPU : Hid (Calls Try.prog 27 #[.pointer (some ⟨B, 0, none⟩), .agg #[.int .i64 ((j : Int)), .string NM, .slice pa (at7 sn).length ca]] w7 (fun e w' => e = .returned (.tuple #[]) ∧ Stepd w1 w7 M' B (mPush S (walM ((j : Int)) rn sn)) w')) := by
          refine Lib.hid ?_
          rw [HNN.out]
          exact mkB_push HQe.out.mq (walM ((j : Int)) rn sn) pa ca (by omega) (AttrsOut.beside HQd.out.mq ha7) (wal_fits _ _ _)
        clear ha7 b7 HQd
        go_wp2_with fail
        refine HPU.out.mono ?_
        rintro e w8 ⟨rfl, hst⟩
        obtain ⟨M8, hq8⟩ := HQe.out.step hst hz
        have HQf := Lib.hid hq8
        clear hq8 hst HPU HQe
        go_wp2_with fail
        have hl8 := mPush_len S (walM (j : Int) rn sn)
        exact ⟨⟨j + 1, M8, _, by omega, by go_num, HQf.out, by omega⟩, by simp [intOf]; omega⟩
    · have HQa := HQz
      clear HQz
      go_wp2_with fail
      refine (mkB_all HQa.out.mq (by omega)).mono ?_
      rintro e w4 ⟨v4, rs, rfl, hm4, hr4, hb4, h4, _⟩
      have HQ4 : Hid (WQ w w1 w4 M' B S (.slice p1 l1 c1) n1 T1 (.slice p2 l2 c2) n2 T2 v4 rs) := Lib.hid (by
        have h := HQa.out.on hb4
        refine ⟨h.mq, h.t1, h.t2, ⟨_, hr4, fun b k => ⟨k.2, ?_⟩⟩, h.ne, h.z1, h.z2⟩
        rintro (q | q | q)
        · have := (HQa.out.mq.inn b q).2; omega
        · have := HQa.out.t1.lt; omega
        · have := HQa.out.t2.lt; omega)
      have HM4 := Lib.hid hm4
      clear hm4 hr4 hb4 h4 HQa
      go_wp2_with fail
      refine (mkB_wall HQ4.out.mq (by omega)).mono ?_
      rintro e w5 ⟨rfl, hst⟩
      obtain ⟨M6, hq6⟩ := HQ4.out.step hst hz
      have HQ5 := Lib.hid hq6
      have hl6 : (S ++ [mWall]).length ≤ 100 := by simp; omega
      clear hst hq6 HQ4
      go_wp2_with fail
      go_loopw [10] (fun jv wr => ∃ (j : Nat), j ≤ 5 ∧ jv = .int .i64 (j : Int) ∧ WQ w w1 wr M6 B (S ++ [mWall]) (.slice p1 l1 c1) n1 T1 (.slice p2 l2 c2) n2 T2 v4 rs) (fun jv _ => 5 - (intOf jv).toNat)
      case atStart => exact ⟨0, by omega, rfl, HQ5.out⟩
      case round =>
        obtain ⟨j, hj, rfl, hq⟩ := hrel
        have HQ6 := Lib.hid hq
        clear hq
        by_cases hlt : j < 5
        · have hb1 := name_r j (by omega)
          go_wp2_with fail
          refine (name7 j _ hb1.1 hb1.2).mono ?_
          rintro e w6 ⟨rfl, b6⟩
          have HQ7 := Lib.hid (HQ6.out.on b6)
          clear b6
          have HFI := Lib.hid (mkB_find HQ7.out.mq (nm7 (Within (j : Int) 5)) (by omega))
          rw [find_wall] at HFI
          go_wp2_with fail
          refine HFI.out.mono ?_
          rintro e w7 ⟨rfl, rfl⟩
          go_wp2_with fail
          exact ⟨⟨j + 1, by omega, by go_num, HQ7.out⟩, by simp [intOf]; omega⟩
        · clear HQ5
          go_wp2_with fail
          go_loopw [11] (fun jv wr => ∃ (j : Nat) (M' : Nat → Prop) (R : List MK), j ≤ 20 ∧ jv = .int .i64 (j : Int) ∧ WQ w w1 wr M' B (S ++ mWall :: R) (.slice p1 l1 c1) n1 T1 (.slice p2 l2 c2) n2 T2 v4 rs ∧ R.length ≤ j ∧ ∀ y ∈ R, y.node ≠ -1) (fun jv _ => 20 - (intOf jv).toNat)
          case atStart => exact ⟨0, M6, [], by omega, rfl, HQ6.out, Nat.le_refl _, fun y hy => absurd hy (by simp)⟩
          case round =>
            obtain ⟨j, M', R, hj, rfl, hq, hl, hn⟩ := hrel
            have HQz := Lib.hid hq
            have HNZ := Lib.hid hn
            have hlz : (S ++ mWall :: R).length ≤ 100 := by simp; omega
            clear hq hn
            by_cases hlt : j < 20
            · go_wp2_with fail
              refine (tape_more w (.slice p2 l2 c2) n2 T2 _ HQz.out.t2.tape).mono ?_
              rintro e w3 ⟨b, q, rfl, rfl⟩
              have HQa := Lib.hid (HQz.out.on (below_drewN (Below.refl _ _) q))
              cases b
              · clear HQa hlt
                have HQz := Lib.hid (HQz.out.on (below_drewN (Below.refl _ _) q))
                go_wp2_with fail
                refine (mkB_clear HQz.out.mq (by omega)).mono ?_
                rintro e w11 ⟨rfl, hst⟩
                rw [clear_app S R HNZ.out] at hst
                obtain ⟨M9, hq9⟩ := HQz.out.step hst hz
                have HQ9 := Lib.hid hq9
                clear hst hq9
                go_wp2_with fail
                refine (mkB_all HQ9.out.mq (by omega)).mono ?_
                rintro e w12 ⟨v12, rs12, rfl, hm12, hr12, hb12, _, _⟩
                have HQ10 := Lib.hid (HQ9.out.on hb12)
                obtain ⟨P, hrp, _⟩ := HQ10.out.row
                have HSM := Lib.hid (rsameM v12 v4 rs12 rs _ P w12 hr12 hrp (by have := congrArg List.length hm12; rw [List.length_map] at this; omega) (fun q hq => Nat.le_trans (HQ9.out.mq.fit q.1 (by rw [← hm12]; exact List.mem_map_of_mem hq)).1 (by decide)))
                rw [decide_eq_true (hm12.trans HM4.out.symm)] at HSM
                clear hm12 hr12 hb12 hrp
                go_wp2_with fail
                refine HSM.out.mono ?_
                rintro e w13 ⟨rfl, b13⟩
                have HB := Lib.hid (B1.out.trans ((HQ10.out.mq.on b13).below.mono hz))
                clear b13
                go_wp2_with fail
                go_ret
                exact ⟨rfl, HB.out⟩
              · clear HQz
                go_wp2_with fail
                refine (tape_next w (.slice p2 l2 c2) n2 T2 5 _ HQa.out.t2.tape (by omega) (by omega)).mono ?_
                rintro e w4 ⟨r, hr, rfl, hs4, ht4⟩
                have HQb := Lib.hid (HQa.out.next2 hs4 ht4)
                clear hs4 ht4 HQa
                have hb1 := name_r r (by omega)
                go_wp2_with fail
                refine (name7 r w4 hb1.1 hb1.2).mono ?_
                rintro e w5 ⟨rfl, b5⟩
                have HQc := Lib.hid (HQb.out.on b5)
                clear b5 HQb
                generalize Within (r : Int) 5 = rn at *
                obtain ⟨NM, hNM⟩ : ∃ NM : ByteArray, NM = (⟨(nm7 rn).toArray⟩ : ByteArray) := ⟨_, rfl⟩
                rw [← hNM]
                have HNN := Lib.hid hNM
                clear hNM
                go_wp2_with fail
                refine (tape_next w (.slice p2 l2 c2) n2 T2 7 _ HQc.out.t2.tape (by omega) (by omega)).mono ?_
                rintro e w6 ⟨s, hs, rfl, hs6, ht6⟩
                have HQd := Lib.hid (HQc.out.next2 hs6 ht6)
                clear hs6 ht6 HQc
                have hb2 := name_r s (by omega)
                go_wp2_with fail
                refine (attrs7 s w6 hb2.1 hb2.2).mono ?_
                rintro e w7 ⟨pa, ca, rfl, ha7, b7⟩
                generalize Within (s : Int) 7 = sn at *
                have HQe := Lib.hid (HQd.out.on b7)
                have HPU : Hid (Calls Try.prog 27 #[.pointer (some ⟨B, 0, none⟩), .agg #[.int .i64 (100 + (j : Int)), .string NM, .slice pa (at7 sn).length ca]] w7 (fun e w' => e = .returned (.tuple #[]) ∧ Stepd w1 w7 M' B (mPush (S ++ mWall :: R) (walM (100 + (j : Int)) rn sn)) w')) := by
                  refine Lib.hid ?_
                  rw [HNN.out]
                  exact mkB_push HQe.out.mq (walM (100 + (j : Int)) rn sn) pa ca (by omega) (AttrsOut.beside HQd.out.mq ha7) (wal_fits _ _ _)
                clear ha7 b7 HQd
                go_wp2_with fail
                refine HPU.out.mono ?_
                rintro e w8 ⟨rfl, hst⟩
                obtain ⟨M8, hq8⟩ := HQe.out.step hst hz
                have HQf := Lib.hid hq8
                clear hq8 hst HPU HQe
                go_wp2_with fail
                obtain ⟨R0, hp, hR0⟩ := push_app (S ++ [mWall]) R (walM (100 + (j : Int)) rn sn) (.inr ⟨S, rfl⟩) HNZ.out
                have HQg : Hid (WQ w w1 w8 M8 B (S ++ mWall :: (R0 ++ [walM (100 + (j : Int)) rn sn])) (.slice p1 l1 c1) n1 T1 (.slice p2 l2 c2) n2 T2 v4 rs) := by
                  refine Lib.hid ?_
                  have h := HQf.out
                  rw [show S ++ mWall :: R = (S ++ [mWall]) ++ R by simp, hp] at h
                  rw [show S ++ mWall :: (R0 ++ [walM (100 + (j : Int)) rn sn]) = (S ++ [mWall]) ++ (R0 ++ [walM (100 + (j : Int)) rn sn]) by simp]
                  exact h
                have hl0 : R0.length ≤ j := by
                  rcases hR0 with ⟨_, rfl⟩ | ⟨k, hk, rfl, _⟩
                  · exact hl
                  · have := List.length_eraseIdx_le R k; omega
                have hn0 : ∀ y ∈ R0 ++ [walM (100 + (j : Int)) rn sn], y.node ≠ -1 := by
                  intro y hy
                  rcases List.mem_append.1 hy with hy | hy
                  · refine HNZ.out y ?_
                    rcases hR0 with ⟨_, rfl⟩ | ⟨k, hk, rfl, _⟩
                    · exact hy
                    · exact List.mem_of_mem_eraseIdx hy
                  · rw [List.mem_singleton.1 hy]
                    show 100 + (j : Int) ≠ -1
                    omega
                exact ⟨⟨j + 1, M8, _, by omega, by go_num, HQg.out, by simp; omega, hn0⟩, by simp [intOf]; omega⟩
            · go_wp2_with fail
              refine (mkB_clear HQz.out.mq (by omega)).mono ?_
              rintro e w11 ⟨rfl, hst⟩
              rw [clear_app S R HNZ.out] at hst
              obtain ⟨M9, hq9⟩ := HQz.out.step hst hz
              have HQ9 := Lib.hid hq9
              clear hst hq9
              go_wp2_with fail
              refine (mkB_all HQ9.out.mq (by omega)).mono ?_
              rintro e w12 ⟨v12, rs12, rfl, hm12, hr12, hb12, _, _⟩
              have HQ10 := Lib.hid (HQ9.out.on hb12)
              obtain ⟨P, hrp, _⟩ := HQ10.out.row
              have HSM := Lib.hid (rsameM v12 v4 rs12 rs _ P w12 hr12 hrp (by have := congrArg List.length hm12; rw [List.length_map] at this; omega) (fun q hq => Nat.le_trans (HQ9.out.mq.fit q.1 (by rw [← hm12]; exact List.mem_map_of_mem hq)).1 (by decide)))
              rw [decide_eq_true (hm12.trans HM4.out.symm)] at HSM
              clear hm12 hr12 hb12 hrp
              go_wp2_with fail
              refine HSM.out.mono ?_
              rintro e w13 ⟨rfl, b13⟩
              have HB := Lib.hid (B1.out.trans ((HQ10.out.mq.on b13).below.mono hz))
              clear b13
              go_wp2_with fail
              go_ret
              exact ⟨rfl, HB.out⟩
end Go.Proofs.Ytppcgcmhecagbab
