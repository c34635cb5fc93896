/-
  The walks of the Doc's Node of any number; of the program's newcomer. Any Site.
-/
import Derived.Test.YtmhjfbdldpehdaaSWE
import Derived.Test.YtmhjfbdldpehdaaSWI
import Derived.Laws.ResultCell
namespace Go.Proofs.Ytmhjfbdldpehdaa
open Go.RowKit Go.Maps

def pnZero : PN := ⟨0, 0, [], [], [], 0, 0, 0, 0, 0⟩
set_option maxHeartbeats 1000000 in
set_option maxRecDepth 100000 in
theorem dnodeNone (S : List PN) (B : Nat) (M : Nat → Prop) (w : World) (n : Int) (h : DocM M w B S) (hn : pHas S n = false) : Calls Try.prog 65 #[.pointer (some ⟨B, 0, none⟩), .int .i64 n] w (NodeOut pnZero w) := by
  have HH : Hid (∀ W, Below w.heap.size w W → Calls Try.prog 94 #[.pointer (some ⟨B, 0, none⟩), .int .i64 n] W (Gives (.bool false) W)) := by
    refine Lib.hid fun W b => ?_
    obtain ⟨p, cap, hr⟩ := (h.below b).reads
    have := dhasP S B W p cap n hr
    rwa [hn] at this
  have hb4 : (w.alloc (.cells #[.int .i64 0, .int .i64 0, .string ⟨#[]⟩, .slice none 0 0, .string ⟨#[]⟩, .int .i64 0, .slice none 0 0] 44)).heap[w.heap.size]? = some (.cells #[.int .i64 0, .int .i64 0, .string ⟨#[]⟩, .slice none 0 0, .string ⟨#[]⟩, .int .i64 0, .slice none 0 0] 44 (0, 0)) := heap_alloc_new w _
  have HB4 := Lib.hid hb4
  clear hb4 h hn
  go_enter Try.func65, Try.ntmps65
  go_wp2_with fail
  refine (HH.out _ ((Below.refl _ w).alloc (Nat.le_refl _) _)).mono ?_
  rintro e w1 ⟨rfl, rfl⟩
  go_wp2_with fail
  exact bodyPost_ret (results_cell_row rfl _ _ _ _ _ _ _ rfl HB4.out Try.underlying44 rfl (by kernel_rfl)) rfl ⟨none, 0, rfl, AttrsP.nil _ _ _ _, (Below.refl _ w).alloc (Nat.le_refl _) _⟩
/-- The node of a number, or none. -/
def pNode (S : List PN) (n : Int) : PN := if pHas S n then pget S n else pnZero
theorem dnodeAny (S : List PN) (B : Nat) (M : Nat → Prop) (w : World) (n : Int) (h : DocM M w B S) (ha : ∀ x ∈ S, x.attrs.length ≤ 4294967296) : Calls Try.prog 65 #[.pointer (some ⟨B, 0, none⟩), .int .i64 n] w (NodeOut (pNode S n) w) := by
  cases hn : pHas S n
  · have e : pNode S n = pnZero := by unfold pNode; rw [hn]; rfl
    rw [e]
    exact dnodeNone S B M w n h hn
  · obtain ⟨j, rfl, hj⟩ := pHas_nat hn
    have e : pNode S (j : Int) = S[j] := by unfold pNode; rw [if_pos hn, pget_nat hj]
    rw [e]
    exact dnodeP S B M w j h hj (ha _ (List.getElem_mem hj))
theorem cell_lt {W : World} {g o : Nat} {v : Value} (h : W.cell? ⟨g, o, none⟩ = some v) : g < W.heap.size := by
  rcases Nat.lt_or_ge g W.heap.size with h' | h'
  · exact h'
  · unfold World.cell? at h
    rw [Array.getElem?_eq_none h'] at h
    cases h
variable {M : Nat → Prop} {w w' : World} {B : Nat} {a : SA} {S : List PN} {L : List MK} {R : List EL} {fO : Int → Bool} {fN : List UInt8 → Int} {fo : Bool} {T : Nat}
theorem results_cr {fn : Func} {p u : Tmp} (h : fn.results = #[.cell p 129, .tmp u]) (tmps : Array Value) (w : World) (g : Nat) (t : TypeId) (x0 x1 x2 : Value) (fr : Nat × Nat)
    (hp : tmps.getD p undef = .pointer (some ⟨g, 0, none⟩)) (hg : w.heap[g]? = some (.cells #[x0, x1, x2] t fr)) :
    (results fn tmps).run Try.prog w = .ok (.tuple #[.agg #[x0, x1, x2], tmps.getD u undef]) w := by
  have hp' : tmps[p]?.getD undef = .pointer (some ⟨g, 0, none⟩) := by simpa using hp
  have hl := run_loadVar_row (P := Try.prog) w g t 129 #[x0, x1, x2] fr _ hg Try.underlying129 rfl (by kernel_rfl)
  rw [results_cell_tmp h]
  simp [hp', asAddr, hl, Result.andThen]
/-- The newcomer. -/
def newE (S : List PN) (n : Int) : EL := ⟨n, (pNode S n).space, (pNode S n).name⟩
def mayE (S : List PN) (fO : Int → Bool) (n : Int) : Bool := decide ((pNode S n).kind = 1) && !fO n
set_option maxHeartbeats 4000000 in
set_option maxRecDepth 100000 in
theorem snewcP (h : SiteQ M w B a S L R fO fN fo) (n : Int) (n0 : -9223372036854775808 ≤ n) (n1 : n ≤ 9223372036854775807) (ha : ∀ x ∈ S, x.attrs.length ≤ 4294967296) :
    Calls Try.prog 130 #[.pointer (some ⟨B, 0, none⟩), .int .i64 n] w (Brings (.tuple #[elV (newE S n), .bool (mayE S fO n)]) w) := by
  obtain ⟨DD, hDD⟩ : ∃ DD, DD = a.D := ⟨_, rfl⟩
  have HN : Hid (∀ W, Below w.heap.size w W → Calls Try.prog 65 #[.pointer (some ⟨DD, 0, none⟩), .int .i64 n] W (NodeOut (pNode S n) W)) := Lib.hid fun W hb => by rw [hDD]; exact dnodeAny S a.D a.MD W n (h.below hb).doc ha
  have HO : Hid (∀ W, Below w.heap.size w W → Calls Try.prog 159 #[.pointer (some ⟨B, 0, none⟩), .int .i64 n] W (Brings (.bool (fO n)) W)) := Lib.hid fun W hb => sopenP (h.below hb) n n0 n1
  have c0 : (w.alloc (.cells #[.int .i64 0, .int .i64 0, .string ⟨#[]⟩] 129)).cell? ⟨B, 0, none⟩ = some (.pointer (some ⟨DD, 0, none⟩)) := by rw [hDD]; exact (h.below ((Below.refl _ w).alloc (Nat.le_refl _) _)).c0
  have hB : B < (w.alloc (.cells #[.int .i64 0, .int .i64 0, .string ⟨#[]⟩] 129)).heap.size := (h.below ((Below.refl _ w).alloc (Nat.le_refl _) _)).lt
  have HBW : Hid (Below w.heap.size w (w.alloc (.cells #[.int .i64 0, .int .i64 0, .string ⟨#[]⟩] 129))) := Lib.hid ((Below.refl _ w).alloc (Nat.le_refl _) _)
  have HX : Hid ((w.alloc (.cells #[.int .i64 0, .int .i64 0, .string ⟨#[]⟩] 129)).heap[w.heap.size]? = some (.cells #[.int .i64 0, .int .i64 0, .string ⟨#[]⟩] 129 (0, 0))) := Lib.hid (heap_alloc_new w _)
  have HS : Hid ((w.alloc (.cells #[.int .i64 0, .int .i64 0, .string ⟨#[]⟩] 129)).heap.size = w.heap.size + 1) := Lib.hid (by simp)
  unfold newE mayE elV
  clear h hDD ha
  generalize pNode S n = x at *
  go_enter Try.func130, Try.ntmps130
  go_wp2_with fail
  generalize w.alloc (.cells #[.int .i64 0, .int .i64 0, .string ⟨#[]⟩] 129) = w1 at *
  refine (HN.out w1 HBW.out).mono ?_
  rintro e w2 ⟨p, c, rfl, -, hb2⟩
  go_wp2_with fail
  have b3 : Below w.heap.size w (w2.alloc (.cells #[.int .i64 x.kind, .int .i64 x.space, .string ⟨x.name.toArray⟩, .slice p x.attrs.length c, .string ⟨x.text.toArray⟩, .int .i64 0, .slice none 0 0] 44)) := (HBW.out.trans (hb2.mono HBW.out.size)).alloc (by have := HBW.out.size; have := hb2.size; omega) _
  have k3 : (w2.alloc (.cells #[.int .i64 x.kind, .int .i64 x.space, .string ⟨x.name.toArray⟩, .slice p x.attrs.length c, .string ⟨x.text.toArray⟩, .int .i64 0, .slice none 0 0] 44)).heap[w2.heap.size]? = some (.cells #[.int .i64 x.kind, .int .i64 x.space, .string ⟨x.name.toArray⟩, .slice p x.attrs.length c, .string ⟨x.text.toArray⟩, .int .i64 0, .slice none 0 0] 44 (0, 0)) := heap_alloc_new w2 _
  have k4 : (w2.alloc (.cells #[.int .i64 x.kind, .int .i64 x.space, .string ⟨x.name.toArray⟩, .slice p x.attrs.length c, .string ⟨x.text.toArray⟩, .int .i64 0, .slice none 0 0] 44)).heap[w.heap.size]? = some (.cells #[.int .i64 0, .int .i64 0, .string ⟨#[]⟩] 129 (0, 0)) := by
    have h1 : w.heap.size < w1.heap.size := by have := HS.out; omega
    rw [heap_alloc_old w2 _ (Nat.lt_of_lt_of_le h1 hb2.size), hb2.block _ h1]
    exact HX.out
  generalize w2.alloc (.cells #[.int .i64 x.kind, .int .i64 x.space, .string ⟨x.name.toArray⟩, .slice p x.attrs.length c, .string ⟨x.text.toArray⟩, .int .i64 0, .slice none 0 0] 44) = w3 at *
  have hw2 : w.heap.size < w2.heap.size := by have := HS.out; have := hb2.size; omega
  have HB3 := Lib.hid b3
  obtain ⟨NM, hNM⟩ : ∃ NM : ByteArray, (⟨x.name.toArray⟩ : ByteArray) = NM := ⟨_, rfl⟩
  rw [hNM] at k3 ⊢
  have a3 := fun i => blk_cell k3 i
  have y0 := a3 0
  have y1 := a3 1
  have y2 := a3 2
  simp at y0 y1 y2
  have hxk : (x.kind == 1) = decide (x.kind = 1) := int_one _
  generalize x.space = SP at *
  generalize x.kind = KD at *
  have HS0 : Hid (∀ W, W = w3.drew → (fun W => W.cell? ⟨w2.heap.size, 0, none⟩ = some (.int .i64 KD) ∧ W.cell? ⟨w2.heap.size, 1, none⟩ = some (.int .i64 SP) ∧ W.cell? ⟨w2.heap.size, 2, none⟩ = some (.string NM) ∧ (∃ x0 x1 x2, W.heap[w.heap.size]? = some (.cells #[x0, x1, x2] 129 (0, 0))) ∧ Below w.heap.size w W) W) := Lib.hid fun W e => by
    subst e
    exact ⟨y0, y1, y2, ⟨_, _, _, k4⟩, b3.drew⟩
  have HSB : Hid (∀ W W', (fun W => W.cell? ⟨w2.heap.size, 0, none⟩ = some (.int .i64 KD) ∧ W.cell? ⟨w2.heap.size, 1, none⟩ = some (.int .i64 SP) ∧ W.cell? ⟨w2.heap.size, 2, none⟩ = some (.string NM) ∧ (∃ x0 x1 x2, W.heap[w.heap.size]? = some (.cells #[x0, x1, x2] 129 (0, 0))) ∧ Below w.heap.size w W) W → Below W.heap.size W W' → (fun W => W.cell? ⟨w2.heap.size, 0, none⟩ = some (.int .i64 KD) ∧ W.cell? ⟨w2.heap.size, 1, none⟩ = some (.int .i64 SP) ∧ W.cell? ⟨w2.heap.size, 2, none⟩ = some (.string NM) ∧ (∃ x0 x1 x2, W.heap[w.heap.size]? = some (.cells #[x0, x1, x2] 129 (0, 0))) ∧ Below w.heap.size w W) W') := Lib.hid fun W W' hs hb => by
    obtain ⟨q0, q1, q2, ⟨x0, x1, x2, q3⟩, q4⟩ := hs
    have hl := cell_lt q0
    exact ⟨(hb.cell hl).trans q0, (hb.cell hl).trans q1, (hb.cell hl).trans q2, ⟨x0, x1, x2, (hb.block _ (heap_lt q3)).trans q3⟩, q4.trans (hb.mono q4.size)⟩
  have HFZ : Hid (∀ (W : World) (cs : Array Value), W.heap[w.heap.size]? = some (.cells cs 129 (0, 0)) → ∀ i, W.frozen? ⟨w.heap.size, i, none⟩ = false) := Lib.hid fun W cs q i => by simp [World.frozen?, q]
  have HST : Hid (∀ W, (fun W => W.cell? ⟨w2.heap.size, 0, none⟩ = some (.int .i64 KD) ∧ W.cell? ⟨w2.heap.size, 1, none⟩ = some (.int .i64 SP) ∧ W.cell? ⟨w2.heap.size, 2, none⟩ = some (.string NM) ∧ (∃ x0 x1 x2, W.heap[w.heap.size]? = some (.cells #[x0, x1, x2] 129 (0, 0))) ∧ Below w.heap.size w W) W → (fun W => W.cell? ⟨w2.heap.size, 0, none⟩ = some (.int .i64 KD) ∧ W.cell? ⟨w2.heap.size, 1, none⟩ = some (.int .i64 SP) ∧ W.cell? ⟨w2.heap.size, 2, none⟩ = some (.string NM) ∧ (∃ x0 x1 x2, W.heap[w.heap.size]? = some (.cells #[x0, x1, x2] 129 (0, 0))) ∧ Below w.heap.size w W) (((W.setCell ⟨w.heap.size, 0, none⟩ (.int .i64 n)).setCell ⟨w.heap.size, 1, none⟩ (.int .i64 SP)).setCell ⟨w.heap.size, 2, none⟩ (.string NM)) ∧ (((W.setCell ⟨w.heap.size, 0, none⟩ (.int .i64 n)).setCell ⟨w.heap.size, 1, none⟩ (.int .i64 SP)).setCell ⟨w.heap.size, 2, none⟩ (.string NM)).heap[w.heap.size]? = some (.cells #[.int .i64 n, .int .i64 SP, .string NM] 129 (0, 0))) := Lib.hid fun W hs => by
    obtain ⟨q0, q1, q2, ⟨x0, x1, x2, q3⟩, q4⟩ := hs
    have h5 := set3 (w3 := W) (.int .i64 n) (.int .i64 SP) (.string NM) q3
    have ho : ∀ k, (((W.setCell ⟨w.heap.size, 0, none⟩ (.int .i64 n)).setCell ⟨w.heap.size, 1, none⟩ (.int .i64 SP)).setCell ⟨w.heap.size, 2, none⟩ (.string NM)).cell? ⟨w2.heap.size, k, none⟩ = W.cell? ⟨w2.heap.size, k, none⟩ := fun k => World.cell?_of_block (w := W) (by
      rw [heap_setCell_other _ _ _ _ (by show w2.heap.size ≠ w.heap.size; omega), heap_setCell_other _ _ _ _ (by show w2.heap.size ≠ w.heap.size; omega), heap_setCell_other _ _ _ _ (by show w2.heap.size ≠ w.heap.size; omega)])
    refine ⟨⟨(ho 0).trans q0, (ho 1).trans q1, (ho 2).trans q2, ⟨_, _, _, h5⟩, ?_⟩, h5⟩
    iterate 3 refine Below.setCell ?_ (by simp) _
    exact q4
  clear k3 k4 b3 hb2 c0 hB HBW HX HS HN a3 y0 y1 y2
  by_cases kk : KD = 1
  · have q1 : (KD == 1) = true := by simp [kk]
    have HV : Hid ((decide (KD = 1) && !fO n) = !fO n) := Lib.hid (by simp [kk])
    rw [HV.out]
    clear HV hxk
    refine wp_region_held_drew (S := (fun W => W.cell? ⟨w2.heap.size, 0, none⟩ = some (.int .i64 KD) ∧ W.cell? ⟨w2.heap.size, 1, none⟩ = some (.int .i64 SP) ∧ W.cell? ⟨w2.heap.size, 2, none⟩ = some (.string NM) ∧ (∃ x0 x1 x2, W.heap[w.heap.size]? = some (.cells #[x0, x1, x2] 129 (0, 0))) ∧ Below w.heap.size w W)) (by kernel_rfl) (by exact HS0.out _ rfl) (fun hHeld => ?_)
    refine wpAnyH_take (i := 0) (oi := { dst := some 13, op := Op.move (Operand.tmp 1), type := 3, pos := "site.go:127", after := #[], guard := none }) (v := ?_) rfl (by kernel_rfl) (by kernel_rfl) (by kernel_rfl) (fun _ _ _ h => h) (Or.inl ⟨by rfl, ?_⟩) (by assumption) ?_
    rotate_left
    focus (intro w hSw; (try dsimp only at hSw); go_simp; (try with_reducible rfl))
    try simp only [Act.put, List.setIfInBounds_toArray, List.set_cons_zero, List.set_cons_succ]
    refine wpAnyH_take (i := 1) (oi := { dst := some 14, op := Op.fieldAddr 44 (Operand.tmp 6) 1, type := 0, pos := "site.go:127", after := #[], guard := none }) (v := ?_) rfl (by kernel_rfl) (by kernel_rfl) (by kernel_rfl) (fun _ _ _ h => h) (Or.inl ⟨by rfl, ?_⟩) (by assumption) ?_
    rotate_left
    focus (intro w hSw; (try dsimp only at hSw); go_simp; (try with_reducible rfl))
    try simp only [Act.put, List.setIfInBounds_toArray, List.set_cons_zero, List.set_cons_succ]
    refine wpAnyH_take (i := 2) (oi := { dst := some 15, op := Op.load 3 (Operand.tmp 14), type := 3, pos := "site.go:127", after := #[{ on := 1, ground := Ground.data }], guard := none }) (v := ?_) rfl (by kernel_rfl) (by kernel_rfl) (by kernel_rfl) (fun _ _ _ h => h) (Or.inl ⟨by rfl, ?_⟩) (by assumption) ?_
    rotate_left
    focus (intro w hSw; (try dsimp only at hSw); go_simp; (try with_reducible rfl))
    try simp only [Act.put, List.setIfInBounds_toArray, List.set_cons_zero, List.set_cons_succ]
    refine wpAnyH_take (i := 3) (oi := { dst := some 16, op := Op.fieldAddr 44 (Operand.tmp 6) 2, type := 0, pos := "site.go:127", after := #[], guard := none }) (v := ?_) rfl (by kernel_rfl) (by kernel_rfl) (by kernel_rfl) (fun _ _ _ h => h) (Or.inl ⟨by rfl, ?_⟩) (by assumption) ?_
    rotate_left
    focus (intro w hSw; (try dsimp only at hSw); go_simp; (try with_reducible rfl))
    try simp only [Act.put, List.setIfInBounds_toArray, List.set_cons_zero, List.set_cons_succ]
    refine wpAnyH_take (i := 4) (oi := { dst := some 17, op := Op.load 9 (Operand.tmp 16), type := 9, pos := "site.go:127", after := #[{ on := 3, ground := Ground.data }], guard := none }) (v := ?_) rfl (by kernel_rfl) (by kernel_rfl) (by kernel_rfl) (fun _ _ _ h => h) (Or.inl ⟨by rfl, ?_⟩) (by assumption) ?_
    rotate_left
    focus (intro w hSw; (try dsimp only at hSw); go_simp; (try with_reducible rfl))
    try simp only [Act.put, List.setIfInBounds_toArray, List.set_cons_zero, List.set_cons_succ]
    refine wpAnyH_take (i := 5) (oi := { dst := some 18, op := Op.build 129 #[(0, Operand.tmp 13), (1, Operand.tmp 15), (2, Operand.tmp 17)], type := 129, pos := "site.go:127", after := #[{ on := 0, ground := Ground.data }, { on := 2, ground := Ground.data }, { on := 4, ground := Ground.data }], guard := none }) (v := ?_) rfl (by kernel_rfl) (by kernel_rfl) (by kernel_rfl) (fun _ _ _ h => h) (Or.inl ⟨by rfl, ?_⟩) (by assumption) ?_
    rotate_left
    focus (intro w hSw; (try dsimp only at hSw); go_simp; (try with_reducible rfl))
    try simp only [Act.put, List.setIfInBounds_toArray, List.set_cons_zero, List.set_cons_succ]
    refine wpAnyH_take (i := 6) (oi := { dst := some 19, op := Op.fieldAddr 44 (Operand.tmp 6) 0, type := 0, pos := "site.go:127", after := #[], guard := none }) (v := ?_) rfl (by kernel_rfl) (by kernel_rfl) (by kernel_rfl) (fun _ _ _ h => h) (Or.inl ⟨by rfl, ?_⟩) (by assumption) ?_
    rotate_left
    focus (intro w hSw; (try dsimp only at hSw); go_simp; (try with_reducible rfl))
    try simp only [Act.put, List.setIfInBounds_toArray, List.set_cons_zero, List.set_cons_succ]
    refine wpAnyH_take (i := 7) (oi := { dst := some 20, op := Op.load 3 (Operand.tmp 19), type := 3, pos := "site.go:127", after := #[{ on := 6, ground := Ground.data }], guard := none }) (v := ?_) rfl (by kernel_rfl) (by kernel_rfl) (by kernel_rfl) (fun _ _ _ h => h) (Or.inl ⟨by rfl, ?_⟩) (by assumption) ?_
    rotate_left
    focus (intro w hSw; (try dsimp only at hSw); go_simp; (try with_reducible rfl))
    try simp only [Act.put, List.setIfInBounds_toArray, List.set_cons_zero, List.set_cons_succ]
    refine wpAnyH_take (i := 8) (oi := { dst := some 21, op := Op.binOp BinOp.eql 3 (Operand.tmp 20) (Operand.const (Value.int IntKind.i64 1)) 3, type := 4, pos := "site.go:127", after := #[{ on := 7, ground := Ground.data }], guard := none }) (v := ?_) rfl (by kernel_rfl) (by kernel_rfl) (by kernel_rfl) (fun _ _ _ h => h) (Or.inl ⟨by rfl, ?_⟩) (by assumption) ?_
    rotate_left
    focus (intro w hSw; (try dsimp only at hSw); go_simp; (try with_reducible rfl))
    try simp only [Act.put, List.setIfInBounds_toArray, List.set_cons_zero, List.set_cons_succ]
    refine wpAnyH_take (i := 9) (oi := { dst := some 22, op := Op.move (Operand.tmp 21), type := 4, pos := "site.go:127", after := #[{ on := 8, ground := Ground.data }], guard := none }) (v := ?_) rfl (by kernel_rfl) (by kernel_rfl) (by kernel_rfl) (fun _ _ _ h => h) (Or.inl ⟨by rfl, ?_⟩) (by assumption) ?_
    rotate_left
    focus (intro w hSw; (try dsimp only at hSw); go_simp; (try with_reducible rfl))
    try simp only [Act.put, List.setIfInBounds_toArray, List.set_cons_zero, List.set_cons_succ]
    refine wpAnyH_take (i := 10) (oi := { dst := some 23, op := Op.move (Operand.tmp 0), type := 73, pos := "site.go:127", after := #[{ on := 9, ground := Ground.guard }], guard := some (9, true) }) (v := ?_) rfl (by kernel_rfl) (by kernel_rfl) (by kernel_rfl) (fun _ _ _ h => h) (Or.inl ⟨by rfl, ?_⟩) (by assumption) ?_
    rotate_left
    focus (intro w hSw; (try dsimp only at hSw); go_simp; (try with_reducible rfl))
    try simp only [Act.put, List.setIfInBounds_toArray, List.set_cons_zero, List.set_cons_succ]
    refine wpAnyH_take (i := 11) (oi := { dst := some 24, op := Op.move (Operand.tmp 1), type := 3, pos := "site.go:127", after := #[{ on := 9, ground := Ground.guard }], guard := some (9, true) }) (v := ?_) rfl (by kernel_rfl) (by kernel_rfl) (by kernel_rfl) (fun _ _ _ h => h) (Or.inl ⟨by rfl, ?_⟩) (by assumption) ?_
    rotate_left
    focus (intro w hSw; (try dsimp only at hSw); go_simp; (try with_reducible rfl))
    try simp only [Act.put, List.setIfInBounds_toArray, List.set_cons_zero, List.set_cons_succ]
    refine wpAnyH_ready (rs := [12]) (by kernel_rfl) (by simp) ?_
    refine AllReadyH.cons (o := { dst := some 25, op := Op.call { callee := Callee.value (Operand.func 159), args := #[Operand.tmp 23, Operand.tmp 24], argTypes := #[ 73, 3 ] }, type := 4, pos := "site.go:127", after := #[{ on := 10, ground := Ground.data }, { on := 11, ground := Ground.data }, { on := 9, ground := Ground.chain }, { on := 9, ground := Ground.guard }], guard := some (9, true) }) rfl (fun K hK => ?_) AllReadyH.nil
    go_simp
    refine (HO.out _ hHeld.2.2.2.2).mono ?_
    rintro e w4 ⟨rfl, hb4⟩
    have hS4 := HSB.out _ _ hHeld hb4
    go_wp2_with fail
    refine hK.out _ _ (by exact hS4) (fun hHeld => ?_)
    clear hK K
    try simp only [Act.put, List.setIfInBounds_toArray, List.set_cons_zero, List.set_cons_succ]
    refine wpAnyH_take (i := 13) (oi := { dst := some 26, op := Op.unOp UnOp.not 4 (Operand.tmp 25), type := 4, pos := "site.go:127", after := #[{ on := 12, ground := Ground.data }, { on := 9, ground := Ground.guard }, { on := 15, ground := Ground.gcOnly Departure.lateStores }], guard := some (9, true) }) (v := ?_) rfl (by kernel_rfl) (by kernel_rfl) (by kernel_rfl) (fun _ _ _ h => h) (Or.inl ⟨by rfl, ?_⟩) (by assumption) ?_
    rotate_left
    focus (intro w hSw; (try dsimp only at hSw); go_simp; (try with_reducible rfl))
    try simp only [Act.put, List.setIfInBounds_toArray, List.set_cons_zero, List.set_cons_succ]
    refine wpAnyH_take (i := 14) (oi := { dst := some 27, op := Op.pick (Operand.tmp 22) (Operand.tmp 26) (Operand.const (Value.bool false)), type := 4, pos := "site.go:127", after := #[{ on := 9, ground := Ground.data }, { on := 13, ground := Ground.data }, { on := 15, ground := Ground.gcOnly Departure.lateStores }], guard := none }) (v := ?_) rfl (by kernel_rfl) (by kernel_rfl) (by kernel_rfl) (fun _ _ _ h => h) (Or.inl ⟨by rfl, ?_⟩) (by assumption) ?_
    rotate_left
    focus (intro w hSw; (try dsimp only at hSw); go_simp; (try with_reducible rfl))
    try simp only [Act.put, List.setIfInBounds_toArray, List.set_cons_zero, List.set_cons_succ]
    refine wpAnyH_ready (rs := [15]) (by kernel_rfl) (by simp) ?_
    refine AllReadyH.cons (o := { dst := none, op := Op.store 129 (Operand.tmp 4) (Operand.tmp 18), type := 0, pos := "site.go:127", after := #[{ on := 5, ground := Ground.data }, { on := 12, ground := Ground.chain }, { on := 0, ground := Ground.phase }, { on := 1, ground := Ground.phase }, { on := 2, ground := Ground.phase }, { on := 3, ground := Ground.phase }, { on := 4, ground := Ground.phase }, { on := 5, ground := Ground.phase }, { on := 6, ground := Ground.textOnly Departure.lateStores }, { on := 7, ground := Ground.textOnly Departure.lateStores }, { on := 8, ground := Ground.textOnly Departure.lateStores }, { on := 9, ground := Ground.textOnly Departure.lateStores }, { on := 10, ground := Ground.textOnly Departure.lateStores }, { on := 11, ground := Ground.textOnly Departure.lateStores }, { on := 12, ground := Ground.textOnly Departure.lateStoresUnsure }, { on := 13, ground := Ground.textOnly Departure.lateStores }, { on := 14, ground := Ground.textOnly Departure.lateStores }], guard := none }) rfl (fun K hK => ?_) AllReadyH.nil
    have hS5 := hHeld
    obtain ⟨_, _, _, ⟨x0, x1, x2, hb3⟩, _⟩ := hS5
    have z0 := blk_cell hb3 0
    have z1 := blk_cell hb3 1
    have z2 := blk_cell hb3 2
    simp at z0 z1 z2
    have f0 := HFZ.out _ _ hb3 0
    have f1 := HFZ.out _ _ hb3 1
    have f2 := HFZ.out _ _ hb3 2
    have s5 := heap_lt hb3
    obtain ⟨hS6, hb6⟩ := HST.out _ hHeld
    have HB6 := Lib.hid hb6
    clear hb6 hb3
    go_simp
    refine hK.out _ _ (by exact hS6) (fun hHeld => ?_)
    clear hK K
    try simp only [Act.put, List.setIfInBounds_toArray, List.set_cons_zero, List.set_cons_succ]
    refine wpAnyH_take (i := 16) (oi := { dst := some 5, op := Op.assign (Operand.tmp 27), type := 4, pos := "site.go:127", after := #[{ on := 14, ground := Ground.data }, { on := 15, ground := Ground.chain }, { on := 0, ground := Ground.phase }, { on := 1, ground := Ground.phase }, { on := 2, ground := Ground.phase }, { on := 3, ground := Ground.phase }, { on := 4, ground := Ground.phase }, { on := 5, ground := Ground.phase }, { on := 6, ground := Ground.phase }, { on := 7, ground := Ground.phase }, { on := 8, ground := Ground.phase }, { on := 9, ground := Ground.phase }, { on := 10, ground := Ground.phase }, { on := 11, ground := Ground.phase }, { on := 12, ground := Ground.phase }, { on := 13, ground := Ground.phase }, { on := 14, ground := Ground.phase }, { on := 15, ground := Ground.phase }], guard := none }) (v := ?_) rfl (by kernel_rfl) (by kernel_rfl) (by kernel_rfl) (fun _ _ _ h => h) (Or.inl ⟨by rfl, ?_⟩) (by assumption) ?_
    rotate_left
    focus (intro w hSw; (try dsimp only at hSw); go_simp; (try with_reducible rfl))
    try simp only [Act.put, List.setIfInBounds_toArray, List.set_cons_zero, List.set_cons_succ]
    refine wpAnyH_done (by kernel_rfl) ?_ _
    go_wp2_with fail
    exact bodyPost_ret (results_cr rfl _ _ _ _ _ _ _ _ rfl HB6.out) rfl ⟨by simp [hNM, kk], hHeld.2.2.2.2⟩
  · have q1 : (KD == 1) = false := by simp [kk]
    have HV : Hid ((decide (KD = 1) && !fO n) = false) := Lib.hid (by simp [kk])
    rw [HV.out]
    clear HV hxk
    refine wp_region_held_drew (S := (fun W => W.cell? ⟨w2.heap.size, 0, none⟩ = some (.int .i64 KD) ∧ W.cell? ⟨w2.heap.size, 1, none⟩ = some (.int .i64 SP) ∧ W.cell? ⟨w2.heap.size, 2, none⟩ = some (.string NM) ∧ (∃ x0 x1 x2, W.heap[w.heap.size]? = some (.cells #[x0, x1, x2] 129 (0, 0))) ∧ Below w.heap.size w W)) (by kernel_rfl) (by exact HS0.out _ rfl) (fun hHeld => ?_)
    generalize w3.drew = w4 at *
    refine wpAnyH_take (i := 0) (oi := { dst := some 13, op := Op.move (Operand.tmp 1), type := 3, pos := "site.go:127", after := #[], guard := none }) (v := ?_) rfl (by kernel_rfl) (by kernel_rfl) (by kernel_rfl) (fun _ _ _ h => h) (Or.inl ⟨by rfl, ?_⟩) (by assumption) ?_
    rotate_left
    focus (intro w hSw; (try dsimp only at hSw); go_simp; (try with_reducible rfl))
    try simp only [Act.put, List.setIfInBounds_toArray, List.set_cons_zero, List.set_cons_succ]
    refine wpAnyH_take (i := 1) (oi := { dst := some 14, op := Op.fieldAddr 44 (Operand.tmp 6) 1, type := 0, pos := "site.go:127", after := #[], guard := none }) (v := ?_) rfl (by kernel_rfl) (by kernel_rfl) (by kernel_rfl) (fun _ _ _ h => h) (Or.inl ⟨by rfl, ?_⟩) (by assumption) ?_
    rotate_left
    focus (intro w hSw; (try dsimp only at hSw); go_simp; (try with_reducible rfl))
    try simp only [Act.put, List.setIfInBounds_toArray, List.set_cons_zero, List.set_cons_succ]
    refine wpAnyH_take (i := 2) (oi := { dst := some 15, op := Op.load 3 (Operand.tmp 14), type := 3, pos := "site.go:127", after := #[{ on := 1, ground := Ground.data }], guard := none }) (v := ?_) rfl (by kernel_rfl) (by kernel_rfl) (by kernel_rfl) (fun _ _ _ h => h) (Or.inl ⟨by rfl, ?_⟩) (by assumption) ?_
    rotate_left
    focus (intro w hSw; (try dsimp only at hSw); go_simp; (try with_reducible rfl))
    try simp only [Act.put, List.setIfInBounds_toArray, List.set_cons_zero, List.set_cons_succ]
    refine wpAnyH_take (i := 3) (oi := { dst := some 16, op := Op.fieldAddr 44 (Operand.tmp 6) 2, type := 0, pos := "site.go:127", after := #[], guard := none }) (v := ?_) rfl (by kernel_rfl) (by kernel_rfl) (by kernel_rfl) (fun _ _ _ h => h) (Or.inl ⟨by rfl, ?_⟩) (by assumption) ?_
    rotate_left
    focus (intro w hSw; (try dsimp only at hSw); go_simp; (try with_reducible rfl))
    try simp only [Act.put, List.setIfInBounds_toArray, List.set_cons_zero, List.set_cons_succ]
    refine wpAnyH_take (i := 4) (oi := { dst := some 17, op := Op.load 9 (Operand.tmp 16), type := 9, pos := "site.go:127", after := #[{ on := 3, ground := Ground.data }], guard := none }) (v := ?_) rfl (by kernel_rfl) (by kernel_rfl) (by kernel_rfl) (fun _ _ _ h => h) (Or.inl ⟨by rfl, ?_⟩) (by assumption) ?_
    rotate_left
    focus (intro w hSw; (try dsimp only at hSw); go_simp; (try with_reducible rfl))
    try simp only [Act.put, List.setIfInBounds_toArray, List.set_cons_zero, List.set_cons_succ]
    refine wpAnyH_take (i := 5) (oi := { dst := some 18, op := Op.build 129 #[(0, Operand.tmp 13), (1, Operand.tmp 15), (2, Operand.tmp 17)], type := 129, pos := "site.go:127", after := #[{ on := 0, ground := Ground.data }, { on := 2, ground := Ground.data }, { on := 4, ground := Ground.data }], guard := none }) (v := ?_) rfl (by kernel_rfl) (by kernel_rfl) (by kernel_rfl) (fun _ _ _ h => h) (Or.inl ⟨by rfl, ?_⟩) (by assumption) ?_
    rotate_left
    focus (intro w hSw; (try dsimp only at hSw); go_simp; (try with_reducible rfl))
    try simp only [Act.put, List.setIfInBounds_toArray, List.set_cons_zero, List.set_cons_succ]
    refine wpAnyH_take (i := 6) (oi := { dst := some 19, op := Op.fieldAddr 44 (Operand.tmp 6) 0, type := 0, pos := "site.go:127", after := #[], guard := none }) (v := ?_) rfl (by kernel_rfl) (by kernel_rfl) (by kernel_rfl) (fun _ _ _ h => h) (Or.inl ⟨by rfl, ?_⟩) (by assumption) ?_
    rotate_left
    focus (intro w hSw; (try dsimp only at hSw); go_simp; (try with_reducible rfl))
    try simp only [Act.put, List.setIfInBounds_toArray, List.set_cons_zero, List.set_cons_succ]
    refine wpAnyH_take (i := 7) (oi := { dst := some 20, op := Op.load 3 (Operand.tmp 19), type := 3, pos := "site.go:127", after := #[{ on := 6, ground := Ground.data }], guard := none }) (v := ?_) rfl (by kernel_rfl) (by kernel_rfl) (by kernel_rfl) (fun _ _ _ h => h) (Or.inl ⟨by rfl, ?_⟩) (by assumption) ?_
    rotate_left
    focus (intro w hSw; (try dsimp only at hSw); go_simp; (try with_reducible rfl))
    try simp only [Act.put, List.setIfInBounds_toArray, List.set_cons_zero, List.set_cons_succ]
    refine wpAnyH_take (i := 8) (oi := { dst := some 21, op := Op.binOp BinOp.eql 3 (Operand.tmp 20) (Operand.const (Value.int IntKind.i64 1)) 3, type := 4, pos := "site.go:127", after := #[{ on := 7, ground := Ground.data }], guard := none }) (v := ?_) rfl (by kernel_rfl) (by kernel_rfl) (by kernel_rfl) (fun _ _ _ h => h) (Or.inl ⟨by rfl, ?_⟩) (by assumption) ?_
    rotate_left
    focus (intro w hSw; (try dsimp only at hSw); go_simp; (try with_reducible rfl))
    try simp only [Act.put, List.setIfInBounds_toArray, List.set_cons_zero, List.set_cons_succ]
    refine wpAnyH_take (i := 9) (oi := { dst := some 22, op := Op.move (Operand.tmp 21), type := 4, pos := "site.go:127", after := #[{ on := 8, ground := Ground.data }], guard := none }) (v := ?_) rfl (by kernel_rfl) (by kernel_rfl) (by kernel_rfl) (fun _ _ _ h => h) (Or.inl ⟨by rfl, ?_⟩) (by assumption) ?_
    rotate_left
    focus (intro w hSw; (try dsimp only at hSw); go_simp; (try with_reducible rfl))
    try simp only [Act.put, List.setIfInBounds_toArray, List.set_cons_zero, List.set_cons_succ]
    refine wpAnyH_take (i := 10) (oi := { dst := some 23, op := Op.move (Operand.tmp 0), type := 73, pos := "site.go:127", after := #[{ on := 9, ground := Ground.guard }], guard := some (9, true) }) (v := undef) rfl (by kernel_rfl) (by kernel_rfl) (by kernel_rfl) (fun _ _ _ h => h) (Or.inr ⟨by rfl, rfl⟩) (by assumption) ?_
    simp only [Act.put, List.setIfInBounds_toArray, List.set_cons_zero, List.set_cons_succ]
    refine wpAnyH_take (i := 11) (oi := { dst := some 24, op := Op.move (Operand.tmp 1), type := 3, pos := "site.go:127", after := #[{ on := 9, ground := Ground.guard }], guard := some (9, true) }) (v := undef) rfl (by kernel_rfl) (by kernel_rfl) (by kernel_rfl) (fun _ _ _ h => h) (Or.inr ⟨by rfl, rfl⟩) (by assumption) ?_
    simp only [Act.put, List.setIfInBounds_toArray, List.set_cons_zero, List.set_cons_succ]
    refine wpAnyH_take (i := 12) (oi := { dst := some 25, op := Op.call { callee := Callee.value (Operand.func 159), args := #[Operand.tmp 23, Operand.tmp 24], argTypes := #[ 73, 3 ] }, type := 4, pos := "site.go:127", after := #[{ on := 10, ground := Ground.data }, { on := 11, ground := Ground.data }, { on := 9, ground := Ground.chain }, { on := 9, ground := Ground.guard }], guard := some (9, true) }) (v := undef) rfl (by kernel_rfl) (by kernel_rfl) (by kernel_rfl) (fun _ _ _ h => h) (Or.inr ⟨by rfl, rfl⟩) (by assumption) ?_
    simp only [Act.put, List.setIfInBounds_toArray, List.set_cons_zero, List.set_cons_succ]
    refine wpAnyH_take (i := 13) (oi := { dst := some 26, op := Op.unOp UnOp.not 4 (Operand.tmp 25), type := 4, pos := "site.go:127", after := #[{ on := 12, ground := Ground.data }, { on := 9, ground := Ground.guard }, { on := 15, ground := Ground.gcOnly Departure.lateStores }], guard := some (9, true) }) (v := undef) rfl (by kernel_rfl) (by kernel_rfl) (by kernel_rfl) (fun _ _ _ h => h) (Or.inr ⟨by rfl, rfl⟩) (by assumption) ?_
    simp only [Act.put, List.setIfInBounds_toArray, List.set_cons_zero, List.set_cons_succ]
    refine wpAnyH_take (i := 14) (oi := { dst := some 27, op := Op.pick (Operand.tmp 22) (Operand.tmp 26) (Operand.const (Value.bool false)), type := 4, pos := "site.go:127", after := #[{ on := 9, ground := Ground.data }, { on := 13, ground := Ground.data }, { on := 15, ground := Ground.gcOnly Departure.lateStores }], guard := none }) (v := ?_) rfl (by kernel_rfl) (by kernel_rfl) (by kernel_rfl) (fun _ _ _ h => h) (Or.inl ⟨by rfl, ?_⟩) (by assumption) ?_
    rotate_left
    focus (intro w hSw; (try dsimp only at hSw); go_simp; (try with_reducible rfl))
    try simp only [Act.put, List.setIfInBounds_toArray, List.set_cons_zero, List.set_cons_succ]
    refine wpAnyH_ready (rs := [15]) (by kernel_rfl) (by simp) ?_
    refine AllReadyH.cons (o := { dst := none, op := Op.store 129 (Operand.tmp 4) (Operand.tmp 18), type := 0, pos := "site.go:127", after := #[{ on := 5, ground := Ground.data }, { on := 12, ground := Ground.chain }, { on := 0, ground := Ground.phase }, { on := 1, ground := Ground.phase }, { on := 2, ground := Ground.phase }, { on := 3, ground := Ground.phase }, { on := 4, ground := Ground.phase }, { on := 5, ground := Ground.phase }, { on := 6, ground := Ground.textOnly Departure.lateStores }, { on := 7, ground := Ground.textOnly Departure.lateStores }, { on := 8, ground := Ground.textOnly Departure.lateStores }, { on := 9, ground := Ground.textOnly Departure.lateStores }, { on := 10, ground := Ground.textOnly Departure.lateStores }, { on := 11, ground := Ground.textOnly Departure.lateStores }, { on := 12, ground := Ground.textOnly Departure.lateStoresUnsure }, { on := 13, ground := Ground.textOnly Departure.lateStores }, { on := 14, ground := Ground.textOnly Departure.lateStores }], guard := none }) rfl (fun K hK => ?_) AllReadyH.nil
    have hS5 := hHeld
    obtain ⟨_, _, _, ⟨x0, x1, x2, hb3⟩, _⟩ := hS5
    have z0 := blk_cell hb3 0
    have z1 := blk_cell hb3 1
    have z2 := blk_cell hb3 2
    simp at z0 z1 z2
    have f0 := HFZ.out _ _ hb3 0
    have f1 := HFZ.out _ _ hb3 1
    have f2 := HFZ.out _ _ hb3 2
    have s5 := heap_lt hb3
    obtain ⟨hS6, hb6⟩ := HST.out _ hHeld
    have HB6 := Lib.hid hb6
    clear hb6 hb3
    go_simp
    refine hK.out _ _ (by exact hS6) (fun hHeld => ?_)
    clear hK K
    try simp only [Act.put, List.setIfInBounds_toArray, List.set_cons_zero, List.set_cons_succ]
    refine wpAnyH_take (i := 16) (oi := { dst := some 5, op := Op.assign (Operand.tmp 27), type := 4, pos := "site.go:127", after := #[{ on := 14, ground := Ground.data }, { on := 15, ground := Ground.chain }, { on := 0, ground := Ground.phase }, { on := 1, ground := Ground.phase }, { on := 2, ground := Ground.phase }, { on := 3, ground := Ground.phase }, { on := 4, ground := Ground.phase }, { on := 5, ground := Ground.phase }, { on := 6, ground := Ground.phase }, { on := 7, ground := Ground.phase }, { on := 8, ground := Ground.phase }, { on := 9, ground := Ground.phase }, { on := 10, ground := Ground.phase }, { on := 11, ground := Ground.phase }, { on := 12, ground := Ground.phase }, { on := 13, ground := Ground.phase }, { on := 14, ground := Ground.phase }, { on := 15, ground := Ground.phase }], guard := none }) (v := ?_) rfl (by kernel_rfl) (by kernel_rfl) (by kernel_rfl) (fun _ _ _ h => h) (Or.inl ⟨by rfl, ?_⟩) (by assumption) ?_
    rotate_left
    focus (intro w hSw; (try dsimp only at hSw); go_simp; (try with_reducible rfl))
    try simp only [Act.put, List.setIfInBounds_toArray, List.set_cons_zero, List.set_cons_succ]
    refine wpAnyH_done (by kernel_rfl) ?_ _
    go_wp2_with fail
    exact bodyPost_ret (results_cr rfl _ _ _ _ _ _ _ _ rfl HB6.out) rfl ⟨rfl, hHeld.2.2.2.2⟩
end Go.Proofs.Ytmhjfbdldpehdaa
