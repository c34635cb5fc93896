/-
  The walk of the law MarksFour: true, and nothing old is changed. Any numbers.
-/
import Derived.Test.YtppcgcmhecagbabMWH
namespace Go.Proofs.Ytppcgcmhecagbab
open Go.RowKit

theorem name_r (r : Nat) (hr : r < 8) : -9223372036854775808 ≤ (r : Int) ∧ (r : Int) ≤ 9223372036854775807 := by omega
def walM (j : Int) (r s : Nat) : MK := ⟨j, nm7 r, at7 s⟩
theorem wal_fits (j : Int) (r s : Nat) : (walM j r s).fits := at7_fit s
theorem TapeAt.made2 {w W : World} {v : Value} {n : Nat} (t : TypeId) (h : IntsIn w v n) (hb : Below w.heap.size w W) : TapeAt w v n W.heap.size (W.alloc (.cells #[v, .int .i64 0] t)) := by
  have c0 : ∀ j, (W.alloc (.cells #[v, .int .i64 0] t)).cell? ⟨W.heap.size, j, none⟩ = (#[v, .int .i64 0] : Array Value)[j]? := fun j => World.cell?_alloc_mark W _ t (0, 0) j
  exact ⟨h, hb.size, by rw [c0]; rfl, ⟨0, Nat.zero_le _, by rw [c0]; rfl⟩, by rw [World.frozen?_alloc_mark]; rfl, hb.trans (((Below.refl _ W).alloc (Nat.le_refl _) _).mono hb.size)⟩
/-- Marks, a tape beside them. -/
structure FQ (w w1 W : World) (M : Nat → Prop) (B : Nat) (S : List MK) (v1 : Value) (n1 T1 : Nat) : Prop where
  mq : MarkB w1 W M B S
  t1 : TapeK w W M v1 n1 T1
  z1 : w1.heap.size ≤ T1
theorem FQ.on {w w1 W W' : World} {M : Nat → Prop} {B : Nat} {S : List MK} {v1 : Value} {n1 T1 : Nat} (h : FQ w w1 W M B S v1 n1 T1) (hb : Below W.heap.size W W') : FQ w w1 W' M B S v1 n1 T1 := ⟨h.mq.on hb, h.t1.on hb, h.z1⟩
theorem FQ.step {w w1 W W' : World} {M : Nat → Prop} {B : Nat} {S S' : List MK} {v1 : Value} {n1 T1 : Nat} (h : FQ w w1 W M B S v1 n1 T1) (hs : Stepd w1 W M B S' W') (hz : w.heap.size ≤ w1.heap.size) : ∃ M', FQ w w1 W' M' B S' v1 n1 T1 := by
  obtain ⟨M', h1, h2, h3⟩ := hs
  exact ⟨M', h1, h.t1.turns h2 h3 (fun b k => (h.mq.inn b k).1) hz, h.z1⟩
theorem FQ.next1 {w w1 W W' : World} {M : Nat → Prop} {B : Nat} {S : List MK} {v1 : Value} {n1 T1 : Nat} (h : FQ w w1 W M B S v1 n1 T1) (hs : Stepped T1 W W') (ht : TapeAt w v1 n1 T1 W') : FQ w w1 W' M B S v1 n1 T1 :=
  ⟨h.mq.stepped hs h.t1 h.z1, ⟨ht, h.t1.off, by rw [hs.size]; exact h.t1.lt⟩, h.z1⟩
theorem FQ.made {w w1 w2 : World} {M : Nat → Prop} {B : Nat} {S : List MK} {v1 : Value} {n1 : Nat} (t : TypeId) (h : MarkB w1 w2 M B S) (hb : Below w.heap.size w w1) (h1 : IntsIn w v1 n1) : FQ w w1 (w2.alloc (.cells #[v1, .int .i64 0] t)) M B S v1 n1 w2.heap.size := by
  have b1 : Below w2.heap.size w2 (w2.alloc (.cells #[v1, .int .i64 0] t)) := (Below.refl _ w2).alloc (Nat.le_refl _) _
  have bw : Below w.heap.size w w2 := hb.trans (h.below.mono hb.size)
  exact ⟨h.on b1, ⟨TapeAt.made2 t h1 bw, fun k => absurd (h.inn _ k).2 (by omega), by simp⟩, h.below.size⟩
theorem AttrsOut.beside {l : List (List UInt8 × List UInt8)} {w0 W w' : World} {M : Nat → Prop} {B : Nat} {S : List MK} {p : Option Addr} {c : Nat} (h : MarkB w0 W M B S) (ha : AttrsP (fun b => W.heap.size ≤ b) w' (.slice p l.length c) l) : AttrsK w' M (.slice p l.length c) l :=
  ⟨fun b => W.heap.size ≤ b ∧ b < w'.heap.size, ha.mono fun b k hb => ⟨k, hb⟩, fun b k => ⟨k.2, fun q => by have := (h.inn b q).2; omega⟩⟩

theorem drew_add (w : World) (a b : Nat) : (w.drewN a).drewN b = w.drewN (a + b) := by simp [World.drewN, Nat.add_assoc]
/-- Attributes as the law has them. -/
def InK (y : MK) : Prop := ∃ b, b < 7 ∧ y.attrs = at7 b
theorem same_sym : ∀ a < 7, ∀ b < 7, sameV (at7 a) (at7 b) = sameV (at7 b) (at7 a) := by decide +kernel
theorem same_tra : ∀ a < 7, ∀ b < 7, ∀ c < 7, sameV (at7 a) (at7 b) = true → sameV (at7 a) (at7 c) = sameV (at7 b) (at7 c) := by decide +kernel
theorem alike_sym {y z : MK} (hy : InK y) (hz : InK z) : alikeM y z = alikeM z y := by
  obtain ⟨a, ha, ea⟩ := hy
  obtain ⟨b, hb, eb⟩ := hz
  unfold alikeM
  rw [ea, eb, same_sym a ha b hb]
  congr 1
  rw [Bool.eq_iff_iff, beq_iff_eq, beq_iff_eq]
  exact eq_comm
theorem alike_tra {x y z : MK} (hx : InK x) (hy : InK y) (hz : InK z) (h : alikeM y x = true) : alikeM y z = alikeM x z := by
  obtain ⟨a, ha, ea⟩ := hx
  obtain ⟨b, hb, eb⟩ := hy
  obtain ⟨c, hc, ec⟩ := hz
  unfold alikeM at h ⊢
  rw [Bool.and_eq_true, beq_iff_eq, ea, eb] at h
  rw [ea, eb, ec, same_tra b hb a ha c hc h.2, h.1]
theorem count_erase (R : List MK) (f : MK → Bool) (k : Nat) (hk : k < R.length) : (R.eraseIdx k).countP f + (if f R[k] = true then 1 else 0) = R.countP f := by
  have e : R = R.take k ++ R[k] :: R.drop (k + 1) := by rw [← List.drop_eq_getElem_cons hk, List.take_append_drop]
  have e2 := congrArg (List.countP f) e
  rw [List.countP_append, List.countP_cons] at e2
  rw [List.eraseIdx_eq_take_drop_succ, List.countP_append]
  split at e2 <;> split <;> simp_all <;> omega
theorem count_alike {R : List MK} {x z : MK} (hR : ∀ y ∈ R, InK y) (hx : InK x) (hz : InK z) (h : alikeM x z = true) : R.countP (fun y => alikeM y z) = R.countP (fun y => alikeM y x) := by
  refine List.countP_congr fun y hy => ?_
  have h2 := alike_tra (x := z) (y := x) (z := y) hz hx (hR y hy) h
  rw [alike_sym (hR y hy) hz, alike_sym (hR y hy) hx, h2]
/-- What holds of the marks behind each call. -/
structure FInv (S A R : List MK) : Prop where
  eq : S = A ++ R
  bare : Bare A
  node : ∀ y ∈ R, 0 ≤ y.node
  sign : ∀ y ∈ A, y.node = -1 ∨ 0 ≤ y.node
  cls : ∀ y ∈ S, InK y
  few : ∀ z, InK z → R.countP (fun y => alikeM y z) ≤ 3
theorem FInv.wall {S A R : List MK} (h : FInv S A R) : FInv (S ++ [mWall]) (S ++ [mWall]) [] := by
  refine ⟨by simp, .inr ⟨S, rfl⟩, fun y hy => absurd hy (by simp), fun y hy => ?_, fun y hy => ?_, fun z _ => by simp⟩
  · rcases List.mem_append.1 hy with hy | hy
    · rw [h.eq] at hy
      rcases List.mem_append.1 hy with hy | hy
      · exact h.sign y hy
      · exact .inr (h.node y hy)
    · rw [List.mem_singleton.1 hy]; exact .inl rfl
  · rcases List.mem_append.1 hy with hy | hy
    · exact h.cls y hy
    · rw [List.mem_singleton.1 hy]; exact ⟨0, by omega, rfl⟩
theorem FInv.push {S A R : List MK} {x : MK} (h : FInv S A R) (hx : InK x) (h0 : 0 ≤ x.node) : ∃ R', FInv (mPush S x) A R' := by
  have hRK : ∀ y ∈ R, InK y := fun y hy => h.cls y (by rw [h.eq]; exact List.mem_append.2 (.inr hy))
  obtain ⟨R0, e, hR0⟩ := push_app A R x h.bare (fun y hy => by have := h.node y hy; omega)
  have hsub : ∀ y ∈ R0, y ∈ R := by
    intro y hy
    rcases hR0 with ⟨_, rfl⟩ | ⟨k, hk, rfl, _⟩
    · exact hy
    · exact List.mem_of_mem_eraseIdx hy
  rw [h.eq, e]
  refine ⟨R0 ++ [x], rfl, h.bare, ?_, h.sign, ?_, ?_⟩
  · intro y hy
    rcases List.mem_append.1 hy with hy | hy
    · exact h.node y (hsub y hy)
    · rw [List.mem_singleton.1 hy]; exact h0
  · intro y hy
    rcases List.mem_append.1 hy with hy | hy
    · exact h.cls y (by rw [h.eq]; exact List.mem_append.2 (.inl hy))
    · rcases List.mem_append.1 hy with hy | hy
      · exact hRK y (hsub y hy)
      · rw [List.mem_singleton.1 hy]; exact hx
  · intro z hz
    have hf := h.few z hz
    rw [List.countP_append, List.countP_singleton]
    by_cases c : alikeM x z = true
    · rw [if_pos c]
      have hc := count_alike hRK hx hz c
      rcases hR0 with ⟨hlt, rfl⟩ | ⟨k, hk, rfl, ha⟩
      · omega
      · have := count_erase R (fun y => alikeM y z) k hk
        rw [if_pos (by rw [alike_tra hx (hRK _ (List.getElem_mem hk)) hz ha]; exact c)] at this
        omega
    · rw [if_neg c]
      rcases hR0 with ⟨hlt, rfl⟩ | ⟨k, hk, rfl, ha⟩
      · omega
      · have := count_erase R (fun y => alikeM y z) k hk
        omega
def likeF (za y : MK) : Bool := decide (0 ≤ za.node) && (decide (za.name = y.name) && sameV za.attrs y.attrs)
/-- What the law counts, from the i-th place down. -/
def cntF (S : List MK) (za : MK) : Nat → Nat
  | 0 => 0
  | i + 1 => if (S.getD i mZero).node < 0 then 0 else (if likeF za (S.getD i mZero) = true then 1 else 0) + cntF S za i
theorem cntF_app (A R : List MK) (za : MK) (hA : Bare A) (hR : ∀ y ∈ R, 0 ≤ y.node) : ∀ i, i ≤ R.length → cntF (A ++ R) za (A.length + i) = (R.take i).countP (likeF za)
  | 0, _ => by
    rcases hA with rfl | ⟨A', rfl⟩
    · rfl
    · rw [show (A' ++ [mWall]).length + 0 = A'.length + 1 by simp, cntF, if_pos (by rw [getD_at (by simp)]; simp [mWall])]
      rfl
  | i + 1, hi => by
    have hlt : i < R.length := by omega
    have hn := hR R[i] (List.getElem_mem hlt)
    rw [show A.length + (i + 1) = (A.length + i) + 1 by omega, cntF, getD_app hlt, if_neg (by omega), cntF_app A R za hA hR i (by omega), List.take_succ_eq_append_getElem hlt, List.countP_append, List.countP_singleton]
    omega
theorem FInv.count {S A R : List MK} (h : FInv S A R) (za : MK) (hz : za ∈ S) : cntF S za S.length ≤ 3 := by
  have hzk := h.cls za hz
  have e := cntF_app A R za h.bare h.node R.length (Nat.le_refl _)
  rw [List.take_length] at e
  rw [h.eq, List.length_append, e]
  refine Nat.le_trans (List.countP_mono_left fun y hy hl => ?_) (h.few za hzk)
  have hy' := h.cls y (by rw [h.eq]; exact List.mem_append.2 (.inr hy))
  rw [alike_sym hy' hzk]
  simp only [likeF, Bool.and_eq_true, decide_eq_true_eq] at hl
  simp only [alikeM, Bool.and_eq_true, beq_iff_eq]
  exact ⟨hl.2.1, hl.2.2⟩
set_option maxHeartbeats 8000000 in
set_option maxRecDepth 100000 in
theorem marksFour_walk (v1 : Value) (n1 : Nat) (w : World) (h1 : IntsIn w v1 n1) : Calls Try.prog 4 #[v1] w (Yes w) := by
  have HI1 := Lib.hid h1
  have hv1 : ∃ p l c, v1 = .slice p l c := by rcases h1 with ⟨p, cap, hv, _⟩ | ⟨g, off, cap, hv, _⟩ <;> exact ⟨_, _, _, hv⟩
  obtain ⟨p1, l1, c1, rfl⟩ := hv1
  clear h1
  go_enter Try.func4, Try.ntmps4
  go_wp2_with fail
  refine (known7_yes w).mono ?_
  rintro e w1 ⟨rfl, b1⟩
  have B1 := Lib.hid b1
  have hz := b1.size
  clear b1
  go_wp2_with fail
  refine (mkB_new w1).mono ?_
  rintro e w2 ⟨M, B, rfl, h2⟩
  have H2 := Lib.hid h2
  clear h2
  go_wp2_with fail
  have HQ0 := Lib.hid (FQ.made (v1 := .slice p1 l1 c1) 46 H2.out B1.out HI1.out)
  generalize w2.alloc (.cells #[.slice p1 l1 c1, .int .i64 0] 46) = W0 at *
  clear H2
  generalize w2.heap.size = T1 at *
  go_loopw [5] (fun iv wr => ∃ (i : Nat) (M' : Nat → Prop) (S A R : List MK), i ≤ 50 ∧ iv = .int .i64 (i : Int) ∧ FQ w w1 wr M' B S (.slice p1 l1 c1) n1 T1 ∧ FInv S A R ∧ S.length ≤ i) (fun iv _ => 50 - (intOf iv).toNat)
  case atStart => exact ⟨0, M, [], [], [], by omega, rfl, HQ0.out, ⟨rfl, .inl rfl, fun y hy => absurd hy (by simp), fun y hy => absurd hy (by simp), fun y hy => absurd hy (by simp), fun z _ => by simp⟩, Nat.le_refl _⟩
  case round =>
    obtain ⟨i, M', S, A, R, hi, rfl, hq, hinv, hl⟩ := hrel
    have HQy := Lib.hid hq
    have HINV0 := Lib.hid hinv
    clear hq hinv
    by_cases hlt : i < 50
    · go_wp2_with fail
      refine (tape_more w (.slice p1 l1 c1) n1 T1 _ HQy.out.t1.tape).mono ?_
      rintro e w3 ⟨b, q, rfl, rfl⟩
      have HQa := Lib.hid (HQy.out.on (below_drewN (Below.refl _ _) q))
      clear HQy
      cases b
      · go_wp2_with fail
        go_ret
        exact ⟨rfl, B1.out.trans (HQa.out.mq.below.mono hz)⟩
      · go_wp2_with fail
        refine (tape_next w (.slice p1 l1 c1) n1 T1 8 _ HQa.out.t1.tape (by omega) (by omega)).mono ?_
        rintro e w4 ⟨r8, hr8, rfl, hs4, ht4⟩
        have HQb := Lib.hid (HQa.out.next1 hs4 ht4)
        clear hs4 ht4 HQa
        rcases Nat.eq_zero_or_pos r8 with rfl | hp8
        · go_wp2_with fail
          refine (mkB_wall HQb.out.mq (by omega)).mono ?_
          rintro e w9 ⟨rfl, hst⟩
          obtain ⟨MZ, hqz⟩ := HQb.out.step hst hz
          have HQz := Lib.hid hqz
          have HINV := Lib.hid HINV0.out.wall
          have hlz : (S ++ [mWall]).length ≤ i + 1 := by simp; omega
          clear hqz hst HQb
          generalize S ++ [mWall] = SZ at *
          go_wp2_with fail
          refine (mkB_all HQz.out.mq (by omega)).mono ?_
          rintro e w4 ⟨v4, rs, rfl, hm4, hr4, hb4, h4, _⟩
          have HQ4 := Lib.hid (HQz.out.on hb4)
          have HM4 := Lib.hid hm4
          have hrl : rs.length = SZ.length := by have := congrArg List.length hm4; rw [List.length_map] at this; exact this
          have hrl2 : rs.length ≤ 100 := by omega
          have HRL := Lib.hid hrl
          obtain ⟨p4, c4, rfl, _, hrr, haa⟩ := hr4
          have HR4 := Lib.hid hrr
          have HA4 := Lib.hid haa
          have HGE : Hid (∀ j (hj : j < rs.length), SZ.getD j mZero = rs[j].1) := Lib.hid fun j hj => by
            rw [getD_at (by omega)]
            subst hm4
            simp
          have HIK : Hid (∀ j (hj : j < rs.length), rs[j].1 ∈ SZ) := Lib.hid fun j hj => by
            rw [← hm4]
            exact List.mem_map_of_mem (List.getElem_mem hj)
          clear hm4 hb4 h4 hrl hrr haa
          go_wp2_with fail
          go_loopw [7] (fun av wr => ∃ (a q : Nat), a ≤ rs.length ∧ av = .int .i64 (a : Int) ∧ wr = w4.drewN q) (fun av _ => rs.length - (intOf av).toNat)
          case atStart => exact ⟨0, 0, Nat.zero_le _, rfl, rfl⟩
          case round =>
            obtain ⟨a, q0, ha, rfl, rfl⟩ := hrel
            by_cases hal : a < rs.length
            · have a0 : (0 : Int) ≤ (a : Int) := by omega
              have a1 : (a : Int) < (rs.length : Int) := by omega
              obtain ⟨ga, oa, rfl, _, hga, x0, x1, x2⟩ := HR4.out a hal
              have HC3 : Hid (cntF SZ rs[a].1 rs.length ≤ 3) := Lib.hid (by rw [HRL.out]; exact HINV.out.count _ (HIK.out a hal))
              obtain ⟨Ct, hCt⟩ : ∃ Ct, Ct = cntF SZ rs[a].1 rs.length := ⟨_, rfl⟩
              rw [← hCt] at HC3
              have HCT := Lib.hid hCt
              clear hCt
              go_wp2_with fail
              go_loopw [8, 9] (fun nv bv wr => ∃ (k c q : Nat), k ≤ rs.length ∧ nv = .int .i64 (c : Int) ∧ bv = .int .i64 ((k : Int) - 1) ∧ c + cntF SZ rs[a].1 k = Ct ∧ c + k ≤ rs.length ∧ wr = w4.drewN q) (fun _ bv _ => (intOf bv + 1).toNat)
              case atStart => exact ⟨rs.length, 0, q0, Nat.le_refl _, rfl, rfl, by rw [HCT.out, Nat.zero_add], by omega, rfl⟩
              case round =>
                obtain ⟨k, c, q, hk, rfl, rfl, hct, hck, rfl⟩ := hrel
                have HCC := Lib.hid hct
                clear hct
                rcases k with _ | j
                · rw [show (((0 : Nat) : Int) - 1) = -1 by omega]
                  have hc3 : ¬ (3 : Int) < (c : Int) := by have := HC3.out; have := HCC.out; omega
                  go_wp2_with fail
                  exact ⟨⟨a + 1, q, by omega, by go_num, rfl⟩, by simp [intOf]; omega⟩
                · rw [show (((j + 1 : Nat) : Int) - 1) = (j : Int) by omega]
                  have hj : j < rs.length := by omega
                  obtain ⟨gb, ob, eb, _, hgb, z0, z1, z2⟩ := HR4.out j hj
                  injection eb with eb
                  injection eb with eb1 eb2
                  subst eb1 eb2
                  have j0 : (0 : Int) ≤ (j : Int) := by omega
                  have j1 : (j : Int) < (rs.length : Int) := by omega
                  have HST : Hid (cntF SZ rs[a].1 (j + 1) = if rs[j].1.node < 0 then 0 else (if likeF rs[a].1 rs[j].1 = true then 1 else 0) + cntF SZ rs[a].1 j) := Lib.hid (by rw [cntF, HGE.out j hj])
                  have HSA : Hid (∀ q', Calls Try.prog 35 #[rs[a].2, rs[j].2] (w4.drewN (q + q')) (fun e w' => e = .returned (.bool (sameV rs[a].1.attrs rs[j].1.attrs)) ∧ ∃ m, w' = w4.drewN (q + m))) := Lib.hid fun q' => by
                    have fa := (HQz.out.mq.fit rs[a].1 (HIK.out a hal))
                    have fb := (HQz.out.mq.fit rs[j].1 (HIK.out j hj))
                    have b0 : Below w4.heap.size w4 (w4.drewN (q + q')) := below_drewN (Below.refl _ _) _
                    refine (rsame_in _ _ rs[a].1.attrs rs[j].1.attrs _ (((HA4.out rs[a] (List.getElem_mem hal)).has fa.2).below b0) (((HA4.out rs[j] (List.getElem_mem hj)).has fb.2).below b0) (Nat.le_trans fa.1 (by decide)) (Nat.le_trans fb.1 (by decide))).mono ?_
                    rintro e w' ⟨rfl, m, rfl⟩
                    exact ⟨rfl, q' + m, by rw [drew_add, Nat.add_assoc]⟩
                  have HLF : Hid (likeF rs[a].1 rs[j].1 = (decide (0 ≤ rs[a].1.node) && (decide (rs[a].1.name = rs[j].1.name) && sameV rs[a].1.attrs rs[j].1.attrs))) := Lib.hid rfl
                  by_cases e1 : rs[j].1.node < 0
                  · have n1 : ¬ (0 : Int) ≤ rs[j].1.node := by omega
                    have hc3 : ¬ (3 : Int) < (c : Int) := by have := HC3.out; have := HCC.out; omega
                    clear HSA e1 x0 x1 x2 z1 z2
                    generalize rs[j].1.node = NJ at *
                    go_wp2_with fail
                    exact ⟨⟨a + 1, q, by omega, by go_num, rfl⟩, by simp [intOf]; omega⟩
                  · have n1 : (0 : Int) ≤ rs[j].1.node := by omega
                    have HS2 : Hid (cntF SZ rs[a].1 (j + 1) = (if likeF rs[a].1 rs[j].1 = true then 1 else 0) + cntF SZ rs[a].1 j) := Lib.hid (by rw [HST.out, if_neg e1])
                    clear e1 HST
                    by_cases e2 : (0 : Int) ≤ rs[a].1.node
                    · by_cases e3 : rs[a].1.name = rs[j].1.name
                      · have q3 := str_is e3
                        cases e4 : sameV rs[a].1.attrs rs[j].1.attrs
                        · have HZ : Hid (c + cntF SZ rs[a].1 j = Ct) := Lib.hid (by have := HCC.out; rw [HS2.out, HLF.out, e4, if_neg (by simp)] at this; omega)
                          rw [e4] at HSA
                          clear HS2 HLF e3 e4
                          generalize rs[j].1.node = NJ at *
                          generalize rs[a].1.node = NA at *
                          generalize (⟨rs[a].1.name.toArray⟩ : ByteArray) = SA at *
                          generalize (⟨rs[j].1.name.toArray⟩ : ByteArray) = SB at *
                          generalize rs[a].2 = VA at *
                          generalize rs[j].2 = VB at *
                          go_wp2_with fail
                          go_quiet ((go_at_call 35; first | exact HSA.out _ | exact HSA.out 0))
                          go_wp2_with fail
                          exact ⟨⟨j, c, _, by omega, rfl, rfl, HZ.out, by omega, rfl⟩, by simp [intOf]⟩
                        · have HZ : Hid (c + 1 + cntF SZ rs[a].1 j = Ct) := Lib.hid (by have := HCC.out; rw [HS2.out, HLF.out, e4, if_pos (by simp [e2, e3])] at this; omega)
                          rw [e4] at HSA
                          clear HS2 HLF e3 e4
                          generalize rs[j].1.node = NJ at *
                          generalize rs[a].1.node = NA at *
                          generalize (⟨rs[a].1.name.toArray⟩ : ByteArray) = SA at *
                          generalize (⟨rs[j].1.name.toArray⟩ : ByteArray) = SB at *
                          generalize rs[a].2 = VA at *
                          generalize rs[j].2 = VB at *
                          go_wp2_with fail
                          go_quiet ((go_at_call 35; first | exact HSA.out _ | exact HSA.out 0))
                          go_wp2_with fail
                          exact ⟨⟨j, c + 1, _, by omega, by go_num, rfl, HZ.out, by omega, rfl⟩, by simp [intOf]⟩
                      · have q3 := str_ne e3
                        have HZ : Hid (c + cntF SZ rs[a].1 j = Ct) := Lib.hid (by have := HCC.out; rw [HS2.out, HLF.out, if_neg (by simp [e3])] at this; omega)
                        clear HS2 HLF e3 HSA
                        generalize rs[j].1.node = NJ at *
                        generalize rs[a].1.node = NA at *
                        generalize (⟨rs[a].1.name.toArray⟩ : ByteArray) = SA at *
                        generalize (⟨rs[j].1.name.toArray⟩ : ByteArray) = SB at *
                        go_wp2_with fail
                        go_quiet (fail)
                        go_wp2_with fail
                        exact ⟨⟨j, c, _, by omega, rfl, rfl, HZ.out, by omega, rfl⟩, by simp [intOf]⟩
                    · have n2 : decide ((0 : Int) ≤ rs[a].1.node) = false := decide_eq_false e2
                      have HZ : Hid (c + cntF SZ rs[a].1 j = Ct) := Lib.hid (by have := HCC.out; rw [HS2.out, HLF.out, if_neg (by simp [e2])] at this; omega)
                      clear HS2 HLF e2 HSA x1 x2 z1 z2
                      generalize rs[j].1.node = NJ at *
                      generalize rs[a].1.node = NA at *
                      go_wp2_with fail
                      go_quiet (fail)
                      go_wp2_with fail
                      exact ⟨⟨j, c, _, by omega, rfl, rfl, HZ.out, by omega, rfl⟩, by simp [intOf]⟩
            · go_wp2_with fail
              exact ⟨⟨i + 1, MZ, SZ, SZ, [], by omega, by go_num, HQ4.out.on (below_drewN (Below.refl _ _) _), HINV.out, by omega⟩, by simp [intOf]; omega⟩
        · have q8 : ((r8 : Int) == 0) = false := by rw [beq_eq_false_iff_ne]; omega
          have q9 : ¬ (r8 : Int) = 0 := by omega
          go_wp2_with fail
          refine (tape_next w (.slice p1 l1 c1) n1 T1 2 _ HQb.out.t1.tape (by omega) (by omega)).mono ?_
          rintro e w5 ⟨r, hr, rfl, hs5, ht5⟩
          have HQc := Lib.hid (HQb.out.next1 hs5 ht5)
          clear hs5 ht5 HQb
          have hb1 := name_r r (by omega)
          go_wp2_with fail
          refine (name7 r w5 hb1.1 hb1.2).mono ?_
          rintro e w6 ⟨rfl, b6⟩
          have HQd := Lib.hid (HQc.out.on b6)
          clear b6 HQc
          generalize Within (r : Int) 5 = rn at *
          obtain ⟨NM, hNM⟩ : ∃ NM : ByteArray, NM = (⟨(nm7 rn).toArray⟩ : ByteArray) := ⟨_, rfl⟩
          rw [← hNM]
          have HNN := Lib.hid hNM
          clear hNM
          go_wp2_with fail
          refine (tape_next w (.slice p1 l1 c1) n1 T1 4 _ HQd.out.t1.tape (by omega) (by omega)).mono ?_
          rintro e w7 ⟨s, hs, rfl, hs7, ht7⟩
          have HQe := Lib.hid (HQd.out.next1 hs7 ht7)
          clear hs7 ht7 HQd
          have hb2 := name_r s (by omega)
          have hsn := (within_lt (s : Int) 7 (by omega)).1
          go_wp2_with fail
          refine (attrs7 s w7 hb2.1 hb2.2).mono ?_
          rintro e w8 ⟨pa, ca, rfl, ha8, b8⟩
          generalize Within (s : Int) 7 = sn at *
          have HQf := Lib.hid (HQe.out.on b8)
          have HPU : Hid (Calls Try.prog 27 #[.pointer (some ⟨B, 0, none⟩), .agg #[.int .i64 (i : Int), .string NM, .slice pa (at7 sn).length ca]] w8 (fun e w' => e = .returned (.tuple #[]) ∧ Stepd w1 w8 M' B (mPush S (walM (i : Int) rn sn)) w')) := by
            refine Lib.hid ?_
            rw [HNN.out]
            exact mkB_push HQf.out.mq (walM (i : Int) rn sn) pa ca (by omega) (AttrsOut.beside HQe.out.mq ha8) (wal_fits _ _ _)
          clear ha8 b8 HQe
          go_wp2_with fail
          refine HPU.out.mono ?_
          rintro e w9 ⟨rfl, hst⟩
          obtain ⟨MZ, hqz⟩ := HQf.out.step hst hz
          have HQz := Lib.hid hqz
          obtain ⟨RZ, hinv⟩ := HINV0.out.push (x := walM (i : Int) rn sn) ⟨sn, hsn, rfl⟩ (by show (0 : Int) ≤ (i : Int); omega)
          have HINV := Lib.hid hinv
          have hlz : (mPush S (walM (i : Int) rn sn)).length ≤ i + 1 := by have := mPush_len S (walM (i : Int) rn sn); omega
          clear hqz hst HPU HQf hinv
          generalize mPush S (walM (i : Int) rn sn) = SZ at *
          go_wp2_with fail
          refine (mkB_all HQz.out.mq (by omega)).mono ?_
          rintro e w4 ⟨v4, rs, rfl, hm4, hr4, hb4, h4, _⟩
          have HQ4 := Lib.hid (HQz.out.on hb4)
          have HM4 := Lib.hid hm4
          have hrl : rs.length = SZ.length := by have := congrArg List.length hm4; rw [List.length_map] at this; exact this
          have hrl2 : rs.length ≤ 100 := by omega
          have HRL := Lib.hid hrl
          obtain ⟨p4, c4, rfl, _, hrr, haa⟩ := hr4
          have HR4 := Lib.hid hrr
          have HA4 := Lib.hid haa
          have HGE : Hid (∀ j (hj : j < rs.length), SZ.getD j mZero = rs[j].1) := Lib.hid fun j hj => by
            rw [getD_at (by omega)]
            subst hm4
            simp
          have HIK : Hid (∀ j (hj : j < rs.length), rs[j].1 ∈ SZ) := Lib.hid fun j hj => by
            rw [← hm4]
            exact List.mem_map_of_mem (List.getElem_mem hj)
          clear hm4 hb4 h4 hrl hrr haa
          go_wp2_with fail
          go_loopw [7] (fun av wr => ∃ (a q : Nat), a ≤ rs.length ∧ av = .int .i64 (a : Int) ∧ wr = w4.drewN q) (fun av _ => rs.length - (intOf av).toNat)
          case atStart => exact ⟨0, 0, Nat.zero_le _, rfl, rfl⟩
          case round =>
            obtain ⟨a, q0, ha, rfl, rfl⟩ := hrel
            by_cases hal : a < rs.length
            · have a0 : (0 : Int) ≤ (a : Int) := by omega
              have a1 : (a : Int) < (rs.length : Int) := by omega
              obtain ⟨ga, oa, rfl, _, hga, x0, x1, x2⟩ := HR4.out a hal
              have HC3 : Hid (cntF SZ rs[a].1 rs.length ≤ 3) := Lib.hid (by rw [HRL.out]; exact HINV.out.count _ (HIK.out a hal))
              obtain ⟨Ct, hCt⟩ : ∃ Ct, Ct = cntF SZ rs[a].1 rs.length := ⟨_, rfl⟩
              rw [← hCt] at HC3
              have HCT := Lib.hid hCt
              clear hCt
              go_wp2_with fail
              go_loopw [8, 9] (fun nv bv wr => ∃ (k c q : Nat), k ≤ rs.length ∧ nv = .int .i64 (c : Int) ∧ bv = .int .i64 ((k : Int) - 1) ∧ c + cntF SZ rs[a].1 k = Ct ∧ c + k ≤ rs.length ∧ wr = w4.drewN q) (fun _ bv _ => (intOf bv + 1).toNat)
              case atStart => exact ⟨rs.length, 0, q0, Nat.le_refl _, rfl, rfl, by rw [HCT.out, Nat.zero_add], by omega, rfl⟩
              case round =>
                obtain ⟨k, c, q, hk, rfl, rfl, hct, hck, rfl⟩ := hrel
                have HCC := Lib.hid hct
                clear hct
                rcases k with _ | j
                · rw [show (((0 : Nat) : Int) - 1) = -1 by omega]
                  have hc3 : ¬ (3 : Int) < (c : Int) := by have := HC3.out; have := HCC.out; omega
                  go_wp2_with fail
                  exact ⟨⟨a + 1, q, by omega, by go_num, rfl⟩, by simp [intOf]; omega⟩
                · rw [show (((j + 1 : Nat) : Int) - 1) = (j : Int) by omega]
                  have hj : j < rs.length := by omega
                  obtain ⟨gb, ob, eb, _, hgb, z0, z1, z2⟩ := HR4.out j hj
                  injection eb with eb
                  injection eb with eb1 eb2
                  subst eb1 eb2
                  have j0 : (0 : Int) ≤ (j : Int) := by omega
                  have j1 : (j : Int) < (rs.length : Int) := by omega
                  have HST : Hid (cntF SZ rs[a].1 (j + 1) = if rs[j].1.node < 0 then 0 else (if likeF rs[a].1 rs[j].1 = true then 1 else 0) + cntF SZ rs[a].1 j) := Lib.hid (by rw [cntF, HGE.out j hj])
                  have HSA : Hid (∀ q', Calls Try.prog 35 #[rs[a].2, rs[j].2] (w4.drewN (q + q')) (fun e w' => e = .returned (.bool (sameV rs[a].1.attrs rs[j].1.attrs)) ∧ ∃ m, w' = w4.drewN (q + m))) := Lib.hid fun q' => by
                    have fa := (HQz.out.mq.fit rs[a].1 (HIK.out a hal))
                    have fb := (HQz.out.mq.fit rs[j].1 (HIK.out j hj))
                    have b0 : Below w4.heap.size w4 (w4.drewN (q + q')) := below_drewN (Below.refl _ _) _
                    refine (rsame_in _ _ rs[a].1.attrs rs[j].1.attrs _ (((HA4.out rs[a] (List.getElem_mem hal)).has fa.2).below b0) (((HA4.out rs[j] (List.getElem_mem hj)).has fb.2).below b0) (Nat.le_trans fa.1 (by decide)) (Nat.le_trans fb.1 (by decide))).mono ?_
                    rintro e w' ⟨rfl, m, rfl⟩
                    exact ⟨rfl, q' + m, by rw [drew_add, Nat.add_assoc]⟩
                  have HLF : Hid (likeF rs[a].1 rs[j].1 = (decide (0 ≤ rs[a].1.node) && (decide (rs[a].1.name = rs[j].1.name) && sameV rs[a].1.attrs rs[j].1.attrs))) := Lib.hid rfl
                  by_cases e1 : rs[j].1.node < 0
                  · have n1 : ¬ (0 : Int) ≤ rs[j].1.node := by omega
                    have hc3 : ¬ (3 : Int) < (c : Int) := by have := HC3.out; have := HCC.out; omega
                    clear HSA e1 x0 x1 x2 z1 z2
                    generalize rs[j].1.node = NJ at *
                    go_wp2_with fail
                    exact ⟨⟨a + 1, q, by omega, by go_num, rfl⟩, by simp [intOf]; omega⟩
                  · have n1 : (0 : Int) ≤ rs[j].1.node := by omega
                    have HS2 : Hid (cntF SZ rs[a].1 (j + 1) = (if likeF rs[a].1 rs[j].1 = true then 1 else 0) + cntF SZ rs[a].1 j) := Lib.hid (by rw [HST.out, if_neg e1])
                    clear e1 HST
                    by_cases e2 : (0 : Int) ≤ rs[a].1.node
                    · by_cases e3 : rs[a].1.name = rs[j].1.name
                      · have q3 := str_is e3
                        cases e4 : sameV rs[a].1.attrs rs[j].1.attrs
                        · have HZ : Hid (c + cntF SZ rs[a].1 j = Ct) := Lib.hid (by have := HCC.out; rw [HS2.out, HLF.out, e4, if_neg (by simp)] at this; omega)
                          rw [e4] at HSA
                          clear HS2 HLF e3 e4
                          generalize rs[j].1.node = NJ at *
                          generalize rs[a].1.node = NA at *
                          generalize (⟨rs[a].1.name.toArray⟩ : ByteArray) = SA at *
                          generalize (⟨rs[j].1.name.toArray⟩ : ByteArray) = SB at *
                          generalize rs[a].2 = VA at *
                          generalize rs[j].2 = VB at *
                          go_wp2_with fail
                          go_quiet ((go_at_call 35; first | exact HSA.out _ | exact HSA.out 0))
                          go_wp2_with fail
                          exact ⟨⟨j, c, _, by omega, rfl, rfl, HZ.out, by omega, rfl⟩, by simp [intOf]⟩
                        · have HZ : Hid (c + 1 + cntF SZ rs[a].1 j = Ct) := Lib.hid (by have := HCC.out; rw [HS2.out, HLF.out, e4, if_pos (by simp [e2, e3])] at this; omega)
                          rw [e4] at HSA
                          clear HS2 HLF e3 e4
                          generalize rs[j].1.node = NJ at *
                          generalize rs[a].1.node = NA at *
                          generalize (⟨rs[a].1.name.toArray⟩ : ByteArray) = SA at *
                          generalize (⟨rs[j].1.name.toArray⟩ : ByteArray) = SB at *
                          generalize rs[a].2 = VA at *
                          generalize rs[j].2 = VB at *
                          go_wp2_with fail
                          go_quiet ((go_at_call 35; first | exact HSA.out _ | exact HSA.out 0))
                          go_wp2_with fail
                          exact ⟨⟨j, c + 1, _, by omega, by go_num, rfl, HZ.out, by omega, rfl⟩, by simp [intOf]⟩
                      · have q3 := str_ne e3
                        have HZ : Hid (c + cntF SZ rs[a].1 j = Ct) := Lib.hid (by have := HCC.out; rw [HS2.out, HLF.out, if_neg (by simp [e3])] at this; omega)
                        clear HS2 HLF e3 HSA
                        generalize rs[j].1.node = NJ at *
                        generalize rs[a].1.node = NA at *
                        generalize (⟨rs[a].1.name.toArray⟩ : ByteArray) = SA at *
                        generalize (⟨rs[j].1.name.toArray⟩ : ByteArray) = SB at *
                        go_wp2_with fail
                        go_quiet (fail)
                        go_wp2_with fail
                        exact ⟨⟨j, c, _, by omega, rfl, rfl, HZ.out, by omega, rfl⟩, by simp [intOf]⟩
                    · have n2 : decide ((0 : Int) ≤ rs[a].1.node) = false := decide_eq_false e2
                      have HZ : Hid (c + cntF SZ rs[a].1 j = Ct) := Lib.hid (by have := HCC.out; rw [HS2.out, HLF.out, if_neg (by simp [e2])] at this; omega)
                      clear HS2 HLF e2 HSA x1 x2 z1 z2
                      generalize rs[j].1.node = NJ at *
                      generalize rs[a].1.node = NA at *
                      go_wp2_with fail
                      go_quiet (fail)
                      go_wp2_with fail
                      exact ⟨⟨j, c, _, by omega, rfl, rfl, HZ.out, by omega, rfl⟩, by simp [intOf]⟩
            · go_wp2_with fail
              exact ⟨⟨i + 1, MZ, SZ, A, RZ, by omega, by go_num, HQ4.out.on (below_drewN (Below.refl _ _) _), HINV.out, by omega⟩, by simp [intOf]; omega⟩
    · go_wp2_with fail
      go_ret
      exact ⟨rfl, B1.out.trans (HQy.out.mq.below.mono hz)⟩
end Go.Proofs.Ytppcgcmhecagbab
