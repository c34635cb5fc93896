/-
  The walk of the law MarksOwn: true, and nothing old is changed. Any number.
-/
import Derived.Test.YtppcgcmhecagbabMWG
namespace Go.Proofs.Ytppcgcmhecagbab
open Go.RowKit

theorem MarkB.beside {w0 W w' : World} {M L : Nat → Prop} {B : Nat} {S : List MK} (h : MarkB w0 W M B S) (ht : Turns L W w') (hm : ∀ b, b < W.heap.size → M b → ¬ L b) (hl : ∀ b, L b → w0.heap.size ≤ b) : MarkB w0 w' M B S :=
  ⟨h.marks.on ht hm, fun b k => ⟨(h.inn b k).1, Nat.lt_of_lt_of_le (h.inn b k).2 ht.size⟩, h.below.trans (ht.below h.below.size fun b hb k => absurd (hl b k) (by omega)), h.fit⟩
theorem mkB_allF {w0 W : World} {M : Nat → Prop} {B : Nat} {S : List MK} (h : MarkB w0 W M B S) (hs : S.length ≤ 4294967296) : Calls Try.prog 34 #[.pointer (some ⟨B, 0, none⟩)] W (fun e w' => AllF S W e w' ∧ MarkB w0 w' M B S) := by
  refine (mallF S B M W h.marks hs fun x hx => Nat.le_trans (h.fit x hx).1 (by decide)).mono ?_
  rintro e w' ⟨v, rs, rfl, q1, q2, q3, q4⟩
  exact ⟨⟨v, rs, rfl, q1, q2, q3, q4⟩, h.on q3⟩
def ownM (L : List UInt8) : MK := ⟨1, L, [([97], [49])]⟩
theorem own_fits (L : List UInt8) : (ownM L).fits := ⟨(by show (1 : Nat) ≤ 30; decide), fun a ha => by
  have : a = ([97], [49]) := by simpa [ownM] using ha
  subst this
  exact ⟨by decide, by decide⟩⟩
/-- The one row that All tells. -/
theorem own_row {B0 : Nat} {w : World} {v : Value} {rs : List (MK × Value)} {L : List UInt8} (h : OutRow B0 w v rs) (e : rs.map (·.1) = [ownM L]) (hs : ∀ q ∈ rs, SoftR w v q.2) : ∃ g o c ga oa ca, v = .slice (some ⟨g, o, none⟩) 1 c ∧ B0 ≤ g ∧ g < w.heap.size ∧ w.cell? ⟨g, o + 2, none⟩ = some (.slice (some ⟨ga, oa, none⟩) 1 ca) ∧ B0 ≤ ga ∧ ga < w.heap.size ∧ w.cell? ⟨ga, oa, none⟩ = some (.string ⟨#[97]⟩) ∧ w.frozen? ⟨ga, oa, none⟩ = false := by
  obtain ⟨q, rfl, e1⟩ : ∃ q, rs = [q] ∧ q.1 = ownM L := by
    rcases rs with _ | ⟨q, _ | ⟨q2, r⟩⟩
    · simp at e
    · exact ⟨q, rfl, by simpa using e⟩
    · simp at e
  obtain ⟨p, c, rfl, _, hr, ha⟩ := h.row'
  obtain ⟨g, o, rfl, hP, hg, h0, h1, h2⟩ := hr 0 (by simp)
  obtain ⟨pa, ca, e2, hc⟩ := ha q (by simp)
  rw [e1] at e2 hc
  obtain ⟨ga, oa, rfl, hPa, hga, hcell⟩ := hc (by simp [ownM])
  obtain ⟨hc0, _⟩ := hcell 0 (by simp [ownM])
  rw [show oa + 0 * 2 = oa by omega] at hc0
  have hq2 : [q][0].2 = .slice (some ⟨ga, oa, none⟩) 1 ca := e2
  rw [hq2] at h2
  have hso := hs q (by simp) ga (by rw [e2]; rfl)
  exact ⟨g, o, c, ga, oa, ca, rfl, hP.1, hg, by simpa using h2, hPa.1, hga, hc0, hso.2.2 oa⟩
set_option maxHeartbeats 4000000 in
set_option maxRecDepth 100000 in
theorem marksOwn_walk (n : Int) (w : World) (h0 : -9223372036854775808 ≤ n) (h1 : n ≤ 9223372036854775807) : Calls Try.prog 7 #[.int .i64 n] w (Yes w) := by
  have HK := Lib.hid (known7_yes w)
  have HNM : Hid (∀ W, Calls Try.prog 13 #[.int .i64 n] W (TellsN (nm7 (Within n 5)) W)) := Lib.hid fun W => name7 n W h0 h1
  generalize nm7 (Within n 5) = L at *
  obtain ⟨NM, hNM⟩ : ∃ NM : ByteArray, NM = (⟨L.toArray⟩ : ByteArray) := ⟨_, rfl⟩
  have HNN := Lib.hid hNM
  unfold TellsN at HNM
  rw [← hNM] at HNM
  clear h0 h1 hNM
  go_enter Try.func7, Try.ntmps7
  go_wp2_with fail
  refine HK.out.mono ?_
  rintro e w1 ⟨rfl, b1⟩
  have B1 := Lib.hid b1
  clear b1
  go_wp2_with fail
  refine (mkB_new w1).mono ?_
  rintro e w2 ⟨M, B, rfl, h2⟩
  have H2 := Lib.hid h2
  clear h2
  go_wp2_with fail
  obtain ⟨w3, hw3⟩ : ∃ w3, w3 = w2.alloc (.cells #[.string ⟨#[97]⟩, .string ⟨#[49]⟩] 55) := ⟨_, rfl⟩
  rw [← hw3]
  have b3 : Below w2.heap.size w2 w3 := by rw [hw3]; exact (Below.refl _ _).alloc (Nat.le_refl _) _
  have a3 : w3.heap[w2.heap.size]? = some (.cells #[.string ⟨#[97]⟩, .string ⟨#[49]⟩] 55 (0, 0)) := by rw [hw3]; exact heap_alloc_new w2 _
  have H3 := Lib.hid (H2.out.on b3)
  have HM3 := Lib.hid (show ¬ M w2.heap.size from fun k => absurd (H2.out.inn _ k).2 (by omega))
  have HA3 := Lib.hid a3
  have HZ := Lib.hid H2.out.below.size
  clear hw3 b3 a3 H2
  refine (HNM.out _).mono ?_
  rintro e w4 ⟨rfl, b4⟩
  have a4 := (b4.block _ (heap_lt HA3.out)).trans HA3.out
  have H4 := Lib.hid (H3.out.on b4)
  have HA4 := Lib.hid a4
  have HP4 := Lib.hid (mkB_push H4.out (ownM L) (some ⟨w2.heap.size, 0, none⟩) 1 (by decide) ⟨fun b => b = w2.heap.size, AttrsP.block (l := (ownM L).attrs) a4 rfl rfl, fun b e => ⟨by rw [e]; exact heap_lt a4, by rw [e]; exact HM3.out⟩⟩ (own_fits L))
  rw [show mPush [] (ownM L) = [ownM L] from rfl] at HP4
  have HP4' : Hid (Calls Try.prog 27 #[.pointer (some ⟨B, 0, none⟩), .agg #[.int .i64 1, .string NM, .slice (some ⟨w2.heap.size, 0, none⟩) 1 1]] w4 (fun e w' => e = .returned (.tuple #[]) ∧ Stepd w1 w4 M B [ownM L] w')) := Lib.hid (by rw [HNN.out]; exact HP4.out)
  clear b4 a4 H3 HA3 HP4
  go_wp2_with fail
  refine HP4'.out.mono ?_
  rintro e w5 ⟨rfl, M5, h5, s5, t5⟩
  have a5 := (t5.block _ (heap_lt HA4.out) HM3.out).trans HA4.out
  have HM5 := Lib.hid (show ¬ M5 w2.heap.size from fun k => HM3.out (s5 _ (heap_lt HA4.out) k))
  have H5 := Lib.hid h5
  have c5 := (block_cell a5 1).1
  have f5 := (block_cell a5 1).2
  have l5 := heap_lt a5
  simp at c5
  clear h5 s5 t5 a5 HP4' HA4 H4
  go_wp2_with fail
  have H6 := Lib.hid (H5.out.beside ((Turns.refl (fun b => b = w2.heap.size) w5).setCell (b := w2.heap.size) (.inl rfl) 1 (.string ⟨#[50]⟩)) (fun b _ k e => HM5.out (by rw [← e]; exact k)) (fun b e => by rw [e]; exact HZ.out))
  generalize w5.setCell ⟨w2.heap.size, 1, none⟩ (.string ⟨#[50]⟩) = w6 at *
  clear c5 f5 l5 H5 HM5
  refine (mkB_allF H6.out (by show (1 : Nat) ≤ 4294967296; decide)).mono ?_
  rintro e w7 ⟨⟨v, rs, rfl, hm7, ho7, hb7, hs7⟩, h7⟩
  obtain ⟨g, o, c, ga, oa, ca, rfl, hg0, hg, c2, hga0, hga, ca0, fa0⟩ := own_row ho7 hm7 hs7
  have HT7 := Lib.hid ((Turns.refl (fun b => b = ga) w7).setCell (b := ga) (.inl rfl) oa (.string ⟨#[122]⟩))
  have H8 := Lib.hid (h7.beside HT7.out (fun b _ k e => by have := (H6.out.inn b k).2; omega) (fun b e => by have := H6.out.below.size; omega))
  clear hm7 ho7 hb7 hs7 h7 H6
  go_wp2_with fail
  generalize w7.setCell ⟨ga, oa, none⟩ (.string ⟨#[122]⟩) = w8 at *
  refine (matP [ownM L] B M5 w8 0 H8.out.marks (by show (1 : Nat) ≤ 4294967296; decide) (fun x hx => Nat.le_trans (H8.out.fit x hx).1 (by decide))).mono ?_
  rintro e w9 ⟨he, b9⟩
  rcases he with ⟨q, _⟩ | ⟨_, pz, cz, rfl, hz⟩
  · exact absurd q (by simp [mHas])
  rw [show ([ownM L].getD ((0 : Int)).toNat mZero) = ownM L from rfl] at hz ⊢
  rw [show markV (ownM L) (.slice pz (ownM L).attrs.length cz) = .agg #[.int .i64 1, .string ⟨L.toArray⟩, .slice pz 1 cz] from rfl, ← HNN.out]
  obtain ⟨pz', cz', ez, hzc⟩ := hz
  injection ez with ez1 ez2 ez3
  subst ez1 ez3
  obtain ⟨gz, oz, rfl, _, hgz, hcell⟩ := hzc (by show (0 : Nat) < 1; decide)
  obtain ⟨z0, z1⟩ := hcell 0 (by show (0 : Nat) < 1; decide)
  rw [show oz + 0 * 2 = oz by omega] at z0
  rw [show oz + 0 * 2 + 1 = oz + 1 by omega] at z1
  have z0' : w9.cell? ⟨gz, oz, none⟩ = some (.string ⟨#[97]⟩) := z0
  have z1' : w9.cell? ⟨gz, oz + 1, none⟩ = some (.string ⟨#[49]⟩) := z1
  have HB9 := Lib.hid (B1.out.trans ((H8.out.below.trans (b9.mono H8.out.below.size)).mono B1.out.size))
  clear hzc hcell z0 z1 ez2 b9 H8 HT7 c2 ca0 fa0 hg hga hg0 hga0
  go_wp2_with fail
  have bX : Below w9.heap.size w9 (w9.alloc (.cells #[.int .i64 1, .string NM, .slice (some ⟨gz, oz, none⟩) 1 cz] 34)) := (Below.refl _ _).alloc (Nat.le_refl _) _
  have hX := heap_alloc_new w9 (.cells #[.int .i64 1, .string NM, .slice (some ⟨gz, oz, none⟩) 1 cz] 34)
  have x1 : (w9.alloc (.cells #[.int .i64 1, .string NM, .slice (some ⟨gz, oz, none⟩) 1 cz] 34)).cell? ⟨w9.heap.size, 1, none⟩ = some (.string NM) := (block_cell hX 1).1
  have x2 : (w9.alloc (.cells #[.int .i64 1, .string NM, .slice (some ⟨gz, oz, none⟩) 1 cz] 34)).cell? ⟨w9.heap.size, 2, none⟩ = some (.slice (some ⟨gz, oz, none⟩) 1 cz) := (block_cell hX 2).1
  have y0 := (bX.cell (p := ⟨gz, oz, none⟩) hgz).trans z0'
  have y1 := (bX.cell (p := ⟨gz, oz + 1, none⟩) hgz).trans z1'
  have xl := heap_lt hX
  have yl := Nat.lt_of_lt_of_le hgz bX.size
  have HBX := Lib.hid (HB9.out.trans (bX.mono HB9.out.size))
  clear bX hX z0' z1' hgz HB9
  generalize w9.alloc (.cells #[.int .i64 1, .string NM, .slice (some ⟨gz, oz, none⟩) 1 cz] 34) = WZ at *
  generalize w9.heap.size = X at *
  have HS0 : Hid (∀ w', Below WZ.heap.size WZ w' → (fun w' => w'.cell? ⟨X, 1, none⟩ = some (.string NM) ∧ w'.cell? ⟨X, 2, none⟩ = some (.slice (some ⟨gz, oz, none⟩) 1 cz) ∧ w'.cell? ⟨gz, oz, none⟩ = some (.string ⟨#[97]⟩) ∧ w'.cell? ⟨gz, oz + 1, none⟩ = some (.string ⟨#[49]⟩) ∧ Below WZ.heap.size WZ w') w') := Lib.hid fun w' b => ⟨(b.cell (p := ⟨X, 1, none⟩) xl).trans x1, (b.cell (p := ⟨X, 2, none⟩) xl).trans x2, (b.cell (p := ⟨gz, oz, none⟩) yl).trans y0, (b.cell (p := ⟨gz, oz + 1, none⟩) yl).trans y1, b⟩
  clear x1 x2 y0 y1
  refine wp_region_held_drew (S := (fun w' => w'.cell? ⟨X, 1, none⟩ = some (.string NM) ∧ w'.cell? ⟨X, 2, none⟩ = some (.slice (some ⟨gz, oz, none⟩) 1 cz) ∧ w'.cell? ⟨gz, oz, none⟩ = some (.string ⟨#[97]⟩) ∧ w'.cell? ⟨gz, oz + 1, none⟩ = some (.string ⟨#[49]⟩) ∧ Below WZ.heap.size WZ w')) (by kernel_rfl) (by exact HS0.out _ ((Below.refl _ _).drew)) (fun hHeld => ?_)
  refine wpAnyH_take (i := 0) (oi := { dst := some 48, op := Op.move (Operand.tmp 7), type := 4, pos := "more.go:56", after := #[], guard := none }) (v := ?_) rfl (by kernel_rfl) (by kernel_rfl) (by kernel_rfl) (fun _ _ _ h => h) (Or.inl ⟨by rfl, ?_⟩) (by assumption) ?_
  rotate_left
  focus (intro w hSw; (try dsimp only at hSw); go_simp; (try with_reducible rfl))
  try simp only [Act.put, List.setIfInBounds_toArray, List.set_cons_zero, List.set_cons_succ]
  refine wpAnyH_take (i := 1) (oi := { dst := some 49, op := Op.move (Operand.tmp 48), type := 4, pos := "more.go:56", after := #[{ on := 0, ground := Ground.data }], guard := none }) (v := ?_) rfl (by kernel_rfl) (by kernel_rfl) (by kernel_rfl) (fun _ _ _ h => h) (Or.inl ⟨by rfl, ?_⟩) (by assumption) ?_
  rotate_left
  focus (intro w hSw; (try dsimp only at hSw); go_simp; (try with_reducible rfl))
  try simp only [Act.put, List.setIfInBounds_toArray, List.set_cons_zero, List.set_cons_succ]
  refine wpAnyH_take (i := 2) (oi := { dst := some 50, op := Op.fieldAddr 34 (Operand.tmp 6) 2, type := 0, pos := "more.go:56", after := #[{ on := 1, ground := Ground.guard }], guard := some (1, true) }) (v := ?_) rfl (by kernel_rfl) (by kernel_rfl) (by kernel_rfl) (fun _ _ _ h => h) (Or.inl ⟨by rfl, ?_⟩) (by assumption) ?_
  rotate_left
  focus (intro w hSw; (try dsimp only at hSw); go_simp; (try with_reducible rfl))
  try simp only [Act.put, List.setIfInBounds_toArray, List.set_cons_zero, List.set_cons_succ]
  refine wpAnyH_take (i := 3) (oi := { dst := some 51, op := Op.load 31 (Operand.tmp 50), type := 31, pos := "more.go:56", after := #[{ on := 2, ground := Ground.data }, { on := 1, ground := Ground.guard }], guard := some (1, true) }) (v := ?_) rfl (by kernel_rfl) (by kernel_rfl) (by kernel_rfl) (fun _ _ _ h => h) (Or.inl ⟨by rfl, ?_⟩) (by assumption) ?_
  rotate_left
  focus (intro w hSw; (try dsimp only at hSw); go_simp; (try with_reducible rfl))
  try simp only [Act.put, List.setIfInBounds_toArray, List.set_cons_zero, List.set_cons_succ]
  refine wpAnyH_take (i := 4) (oi := { dst := some 52, op := Op.call { callee := Callee.builtin Builtin.len, args := #[Operand.tmp 51], argTypes := #[ 31 ] }, type := 3, pos := "more.go:56", after := #[{ on := 3, ground := Ground.data }, { on := 1, ground := Ground.guard }], guard := some (1, true) }) (v := ?_) rfl (by kernel_rfl) (by kernel_rfl) (by kernel_rfl) (fun _ _ _ h => h) (Or.inl ⟨by rfl, ?_⟩) (by assumption) ?_
  rotate_left
  focus (intro w hSw; (try dsimp only at hSw); go_simp; (try with_reducible rfl))
  try simp only [Act.put, List.setIfInBounds_toArray, List.set_cons_zero, List.set_cons_succ]
  refine wpAnyH_take (i := 5) (oi := { dst := some 53, op := Op.binOp BinOp.eql 3 (Operand.tmp 52) (Operand.const (Value.int IntKind.i64 1)) 3, type := 4, pos := "more.go:56", after := #[{ on := 4, ground := Ground.data }, { on := 1, ground := Ground.guard }], guard := some (1, true) }) (v := ?_) rfl (by kernel_rfl) (by kernel_rfl) (by kernel_rfl) (fun _ _ _ h => h) (Or.inl ⟨by rfl, ?_⟩) (by assumption) ?_
  rotate_left
  focus (intro w hSw; (try dsimp only at hSw); go_simp; (try with_reducible rfl))
  try simp only [Act.put, List.setIfInBounds_toArray, List.set_cons_zero, List.set_cons_succ]
  refine wpAnyH_take (i := 6) (oi := { dst := some 54, op := Op.pick (Operand.tmp 49) (Operand.tmp 53) (Operand.const (Value.bool false)), type := 4, pos := "more.go:56", after := #[{ on := 1, ground := Ground.data }, { on := 5, ground := Ground.data }], guard := none }) (v := ?_) rfl (by kernel_rfl) (by kernel_rfl) (by kernel_rfl) (fun _ _ _ h => h) (Or.inl ⟨by rfl, ?_⟩) (by assumption) ?_
  rotate_left
  focus (intro w hSw; (try dsimp only at hSw); go_simp; (try with_reducible rfl))
  try simp only [Act.put, List.setIfInBounds_toArray, List.set_cons_zero, List.set_cons_succ]
  refine wpAnyH_take (i := 7) (oi := { dst := some 55, op := Op.move (Operand.tmp 54), type := 4, pos := "more.go:56", after := #[{ on := 6, ground := Ground.data }, { on := 1, ground := Ground.chain }], guard := none }) (v := ?_) rfl (by kernel_rfl) (by kernel_rfl) (by kernel_rfl) (fun _ _ _ h => h) (Or.inl ⟨by rfl, ?_⟩) (by assumption) ?_
  rotate_left
  focus (intro w hSw; (try dsimp only at hSw); go_simp; (try with_reducible rfl))
  try simp only [Act.put, List.setIfInBounds_toArray, List.set_cons_zero, List.set_cons_succ]
  refine wpAnyH_take (i := 8) (oi := { dst := some 56, op := Op.fieldAddr 34 (Operand.tmp 6) 2, type := 0, pos := "more.go:56", after := #[{ on := 7, ground := Ground.guard }], guard := some (7, true) }) (v := ?_) rfl (by kernel_rfl) (by kernel_rfl) (by kernel_rfl) (fun _ _ _ h => h) (Or.inl ⟨by rfl, ?_⟩) (by assumption) ?_
  rotate_left
  focus (intro w hSw; (try dsimp only at hSw); go_simp; (try with_reducible rfl))
  try simp only [Act.put, List.setIfInBounds_toArray, List.set_cons_zero, List.set_cons_succ]
  refine wpAnyH_take (i := 9) (oi := { dst := some 57, op := Op.load 31 (Operand.tmp 56), type := 31, pos := "more.go:56", after := #[{ on := 8, ground := Ground.data }, { on := 7, ground := Ground.guard }], guard := some (7, true) }) (v := ?_) rfl (by kernel_rfl) (by kernel_rfl) (by kernel_rfl) (fun _ _ _ h => h) (Or.inl ⟨by rfl, ?_⟩) (by assumption) ?_
  rotate_left
  focus (intro w hSw; (try dsimp only at hSw); go_simp; (try with_reducible rfl))
  try simp only [Act.put, List.setIfInBounds_toArray, List.set_cons_zero, List.set_cons_succ]
  refine wpAnyH_take (i := 10) (oi := { dst := some 58, op := Op.indexAddr 31 (Operand.tmp 57) (Operand.const (Value.int IntKind.i64 0)), type := 0, pos := "more.go:56", after := #[{ on := 9, ground := Ground.data }, { on := 7, ground := Ground.guard }], guard := some (7, true) }) (v := ?_) rfl (by kernel_rfl) (by kernel_rfl) (by kernel_rfl) (fun _ _ _ h => h) (Or.inl ⟨by rfl, ?_⟩) (by assumption) ?_
  rotate_left
  focus (intro w hSw; (try dsimp only at hSw); go_simp; (try with_reducible rfl))
  try simp only [Act.put, List.setIfInBounds_toArray, List.set_cons_zero, List.set_cons_succ]
  refine wpAnyH_take (i := 11) (oi := { dst := some 59, op := Op.load 55 (Operand.tmp 58), type := 55, pos := "more.go:56", after := #[{ on := 10, ground := Ground.data }, { on := 7, ground := Ground.guard }], guard := some (7, true) }) (v := ?_) rfl (by kernel_rfl) (by kernel_rfl) (by kernel_rfl) (fun _ _ _ h => h) (Or.inl ⟨by rfl, ?_⟩) (by assumption) ?_
  rotate_left
  focus (intro w hSw; (try dsimp only at hSw); go_simp; (try with_reducible rfl))
  try simp only [Act.put, List.setIfInBounds_toArray, List.set_cons_zero, List.set_cons_succ]
  refine wpAnyH_take (i := 12) (oi := { dst := some 60, op := Op.build 55 #[(0, Operand.const (Value.string { data := #[97] })), (1, Operand.const (Value.string { data := #[49] }))], type := 55, pos := "more.go:56", after := #[{ on := 7, ground := Ground.guard }], guard := some (7, true) }) (v := ?_) rfl (by kernel_rfl) (by kernel_rfl) (by kernel_rfl) (fun _ _ _ h => h) (Or.inl ⟨by rfl, ?_⟩) (by assumption) ?_
  rotate_left
  focus (intro w hSw; (try dsimp only at hSw); go_simp; (try with_reducible rfl))
  try simp only [Act.put, List.setIfInBounds_toArray, List.set_cons_zero, List.set_cons_succ]
  refine wpAnyH_take (i := 13) (oi := { dst := some 61, op := Op.binOp BinOp.eql 55 (Operand.tmp 59) (Operand.tmp 60) 55, type := 4, pos := "more.go:56", after := #[{ on := 11, ground := Ground.data }, { on := 12, ground := Ground.data }, { on := 7, ground := Ground.guard }], guard := some (7, true) }) (v := ?_) rfl (by kernel_rfl) (by kernel_rfl) (by kernel_rfl) (fun _ _ _ h => h) (Or.inl ⟨by rfl, ?_⟩) (by assumption) ?_
  rotate_left
  focus (intro w hSw; (try dsimp only at hSw); go_simp; (try with_reducible rfl))
  try simp only [Act.put, List.setIfInBounds_toArray, List.set_cons_zero, List.set_cons_succ]
  refine wpAnyH_take (i := 14) (oi := { dst := some 62, op := Op.pick (Operand.tmp 55) (Operand.tmp 61) (Operand.const (Value.bool false)), type := 4, pos := "more.go:56", after := #[{ on := 7, ground := Ground.data }, { on := 13, ground := Ground.data }], guard := none }) (v := ?_) rfl (by kernel_rfl) (by kernel_rfl) (by kernel_rfl) (fun _ _ _ h => h) (Or.inl ⟨by rfl, ?_⟩) (by assumption) ?_
  rotate_left
  focus (intro w hSw; (try dsimp only at hSw); go_simp; (try with_reducible rfl))
  try simp only [Act.put, List.setIfInBounds_toArray, List.set_cons_zero, List.set_cons_succ]
  refine wpAnyH_take (i := 15) (oi := { dst := some 63, op := Op.move (Operand.tmp 62), type := 4, pos := "more.go:56", after := #[{ on := 14, ground := Ground.data }, { on := 7, ground := Ground.chain }], guard := none }) (v := ?_) rfl (by kernel_rfl) (by kernel_rfl) (by kernel_rfl) (fun _ _ _ h => h) (Or.inl ⟨by rfl, ?_⟩) (by assumption) ?_
  rotate_left
  focus (intro w hSw; (try dsimp only at hSw); go_simp; (try with_reducible rfl))
  try simp only [Act.put, List.setIfInBounds_toArray, List.set_cons_zero, List.set_cons_succ]
  refine wpAnyH_take (i := 16) (oi := { dst := some 64, op := Op.fieldAddr 34 (Operand.tmp 6) 1, type := 0, pos := "more.go:56", after := #[{ on := 15, ground := Ground.guard }], guard := some (15, true) }) (v := ?_) rfl (by kernel_rfl) (by kernel_rfl) (by kernel_rfl) (fun _ _ _ h => h) (Or.inl ⟨by rfl, ?_⟩) (by assumption) ?_
  rotate_left
  focus (intro w hSw; (try dsimp only at hSw); go_simp; (try with_reducible rfl))
  try simp only [Act.put, List.setIfInBounds_toArray, List.set_cons_zero, List.set_cons_succ]
  refine wpAnyH_take (i := 17) (oi := { dst := some 65, op := Op.load 9 (Operand.tmp 64), type := 9, pos := "more.go:56", after := #[{ on := 16, ground := Ground.data }, { on := 15, ground := Ground.guard }], guard := some (15, true) }) (v := ?_) rfl (by kernel_rfl) (by kernel_rfl) (by kernel_rfl) (fun _ _ _ h => h) (Or.inl ⟨by rfl, ?_⟩) (by assumption) ?_
  rotate_left
  focus (intro w hSw; (try dsimp only at hSw); go_simp; (try with_reducible rfl))
  try simp only [Act.put, List.setIfInBounds_toArray, List.set_cons_zero, List.set_cons_succ]
  refine wpAnyH_take (i := 18) (oi := { dst := some 66, op := Op.move (Operand.tmp 0), type := 3, pos := "more.go:56", after := #[{ on := 15, ground := Ground.guard }], guard := some (15, true) }) (v := ?_) rfl (by kernel_rfl) (by kernel_rfl) (by kernel_rfl) (fun _ _ _ h => h) (Or.inl ⟨by rfl, ?_⟩) (by assumption) ?_
  rotate_left
  focus (intro w hSw; (try dsimp only at hSw); go_simp; (try with_reducible rfl))
  try simp only [Act.put, List.setIfInBounds_toArray, List.set_cons_zero, List.set_cons_succ]
  refine wpAnyH_ready (rs := [19]) (by kernel_rfl) (by simp) ?_
  refine AllReadyH.cons (o := { dst := some 67, op := Op.call { callee := Callee.value (Operand.func 13), args := #[Operand.tmp 66], argTypes := #[ 3 ] }, type := 9, pos := "more.go:56", after := #[{ on := 18, ground := Ground.data }, { on := 15, ground := Ground.chain }, { on := 15, ground := Ground.guard }], guard := some (15, true) }) rfl (fun K hK => ?_) AllReadyH.nil
  go_simp
  refine (HNM.out _).mono ?_; rintro e w12 ⟨rfl, b12⟩; have hb12 := hHeld.2.2.2.2.trans (b12.mono hHeld.2.2.2.2.size)
  go_wp2_with fail
  refine hK.out _ _ (by exact HS0.out _ hb12) (fun hHeld => ?_)
  clear hK K
  try simp only [Act.put, List.setIfInBounds_toArray, List.set_cons_zero, List.set_cons_succ]
  refine wpAnyH_take (i := 20) (oi := { dst := some 68, op := Op.binOp BinOp.eql 9 (Operand.tmp 65) (Operand.tmp 67) 9, type := 4, pos := "more.go:56", after := #[{ on := 17, ground := Ground.data }, { on := 19, ground := Ground.data }, { on := 15, ground := Ground.guard }], guard := some (15, true) }) (v := ?_) rfl (by kernel_rfl) (by kernel_rfl) (by kernel_rfl) (fun _ _ _ h => h) (Or.inl ⟨by rfl, ?_⟩) (by assumption) ?_
  rotate_left
  focus (intro w hSw; (try dsimp only at hSw); go_simp; (try with_reducible rfl))
  try simp only [Act.put, List.setIfInBounds_toArray, List.set_cons_zero, List.set_cons_succ]
  refine wpAnyH_take (i := 21) (oi := { dst := some 69, op := Op.pick (Operand.tmp 63) (Operand.tmp 68) (Operand.const (Value.bool false)), type := 4, pos := "more.go:56", after := #[{ on := 15, ground := Ground.data }, { on := 20, ground := Ground.data }], guard := none }) (v := ?_) rfl (by kernel_rfl) (by kernel_rfl) (by kernel_rfl) (fun _ _ _ h => h) (Or.inl ⟨by rfl, ?_⟩) (by assumption) ?_
  rotate_left
  focus (intro w hSw; (try dsimp only at hSw); go_simp; (try with_reducible rfl))
  try simp only [Act.put, List.setIfInBounds_toArray, List.set_cons_zero, List.set_cons_succ]
  refine wpAnyH_take (i := 22) (oi := { dst := some 2, op := Op.assign (Operand.tmp 69), type := 4, pos := "more.go:56", after := #[{ on := 21, ground := Ground.data }, { on := 19, ground := Ground.chain }, { on := 0, ground := Ground.phase }, { on := 1, ground := Ground.phase }, { on := 2, ground := Ground.phase }, { on := 3, ground := Ground.phase }, { on := 4, ground := Ground.phase }, { on := 5, ground := Ground.phase }, { on := 6, ground := Ground.phase }, { on := 7, ground := Ground.phase }, { on := 8, ground := Ground.phase }, { on := 9, ground := Ground.phase }, { on := 10, ground := Ground.phase }, { on := 11, ground := Ground.phase }, { on := 12, ground := Ground.phase }, { on := 13, ground := Ground.phase }, { on := 14, ground := Ground.phase }, { on := 15, ground := Ground.phase }, { on := 16, ground := Ground.phase }, { on := 17, ground := Ground.phase }, { on := 18, ground := Ground.phase }, { on := 19, ground := Ground.phase }, { on := 20, ground := Ground.phase }, { on := 21, ground := Ground.phase }], guard := none }) (v := ?_) rfl (by kernel_rfl) (by kernel_rfl) (by kernel_rfl) (fun _ _ _ h => h) (Or.inl ⟨by rfl, ?_⟩) (by assumption) ?_
  rotate_left
  focus (intro w hSw; (try dsimp only at hSw); go_simp; (try with_reducible rfl))
  try simp only [Act.put, List.setIfInBounds_toArray, List.set_cons_zero, List.set_cons_succ]
  refine wpAnyH_done (by kernel_rfl) ?_ _
  have HE := Lib.hid (HBX.out.trans (hHeld.2.2.2.2.mono HBX.out.size))
  clear hHeld
  go_wp2_with fail
  go_ret
  exact ⟨rfl, HE.out⟩
end Go.Proofs.Ytppcgcmhecagbab
