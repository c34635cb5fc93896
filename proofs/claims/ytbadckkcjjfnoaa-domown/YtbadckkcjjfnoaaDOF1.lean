/-
  What Node and Tree tell may be changed: their rows of attributes are not frozen. Any nodes, not too many.
-/
import Derived.Test.YtbadckkcjjfnoaaDPTree2
namespace Go.Proofs.Ytbadckkcjjfnoaa.Fz
open Go.RowKit

/-- What stands behind a slice is not frozen. -/
def FreeV (w : World) (v : Value) : Prop := ∀ g o l c, v = .slice (some ⟨g, o, none⟩) l c → ∀ k, w.frozen? ⟨g, k, none⟩ = false
def AttrsF (P : Nat → Prop) (w : World) (v : Value) (rs : List (List UInt8 × List UInt8)) : Prop := AttrsP P w v rs ∧ (0 < rs.length → FreeV w v)
theorem AttrsF.kept {P : Nat → Prop} {w w' : World} {v : Value} {rs : List (List UInt8 × List UInt8)} (h : AttrsF P w v rs) (hk : Kept P w w') : AttrsF P w' v rs := by
  refine ⟨h.1.kept hk, fun h0 g o l c e k => ?_⟩
  obtain ⟨p, cap, e1, h1⟩ := h.1
  obtain ⟨g1, o1, e2, hp, hg, _⟩ := h1 h0
  rw [e1, e2] at e
  injection e with e
  injection e with e
  injection e with e
  subst e
  rw [World.frozen?_of_block (w := w) (hk.block g1 hp hg)]
  exact h.2 h0 g1 o1 _ _ (by rw [e1, e2]) k
theorem AttrsF.mono {P Q : Nat → Prop} {w : World} {v : Value} {rs : List (List UInt8 × List UInt8)} (h : AttrsF P w v rs) (hq : ∀ b, P b → b < w.heap.size → Q b) : AttrsF Q w v rs := ⟨h.1.mono hq, h.2⟩
theorem AttrsF.nil (P : Nat → Prop) (w : World) (p : Option Addr) (cap : Nat) : AttrsF P w (.slice p 0 cap) [] := ⟨AttrsP.nil P w p cap, fun h => absurd h (by simp)⟩
theorem AttrsF.of_row {base : Nat} {w : World} {v : Value} {l : List (List UInt8 × List UInt8)} (h : w.ownsRow base 40 2 v l.length (atCells l)) : AttrsF (fun b => base ≤ b) w v l := by
  refine ⟨AttrsP.of_row h, fun h0 g o l' c e k => ?_⟩
  rcases Joins.ownsRow_forms h with ⟨_, h1⟩ | ⟨g1, c1, rfl⟩
  · omega
  · injection e with e
    injection e with e
    injection e with e
    subst e
    exact h.frozenAt k
def CopyF (l : List (List UInt8 × List UInt8)) (w : World) (e : Ending) (w' : World) : Prop := ∃ p c, e = .returned (.slice p l.length c) ∧ AttrsF (fun b => w.heap.size ≤ b) w' (.slice p l.length c) l ∧ Below w.heap.size w w'
set_option maxHeartbeats 1000000 in
set_option maxRecDepth 100000 in
theorem dcopyF (l : List (List UInt8 × List UInt8)) (P : Nat → Prop) (v : Value) (w : World) (h : AttrsP P w v l) (hs : l.length ≤ 4294967296) : Calls Try.prog 73 #[v] w (CopyF l w) := by
  obtain ⟨i0, hi0, hz0, hz1, hz2⟩ := info_at
  obtain ⟨p, cap, rfl, hc⟩ := id h
  rcases Nat.eq_zero_or_pos l.length with h0 | h0
  · have : l = [] := List.eq_nil_of_length_eq_zero h0
    subst this
    have HI := Lib.hid hi0
    clear hc h hz0 hz1 hz2 hi0
    go_enter Try.func73, Try.ntmps73
    go_wp2_with (first
      | (at_builtin; refine wpList_append_empty rfl _ _ 41 rfl 40 i0 Try.underlying41 HI.out p cap rfl rfl ?_)
      | fail)
    go_ret
    exact ⟨none, 0, rfl, AttrsF.nil _ _ _ _, Below.refl _ _⟩
  · obtain ⟨g, o, rfl, _, hg, _⟩ := hc h0
    have HN := Lib.hid (atCells_read h)
    have HO := Lib.hid (World.ownsRow_nil w w.heap.size 40 2)
    have HI := Lib.hid (And.intro hi0 (And.intro hz0 (And.intro hz1 hz2)))
    clear hc h hz0 hz1 hz2 hi0
    go_enter Try.func73, Try.ntmps73
    go_wp2_with (first
      | (at_builtin; refine wpList_append_own _ rfl _ _ 41 rfl w.heap.size 40 i0 (.agg #[.string ByteArray.empty, .string ByteArray.empty]) 2 32 Try.underlying41 HI.out.1 HI.out.2.1 HI.out.2.2.1 HI.out.2.2.2 rfl (by omega) (.slice none 0 0) 0 [] rfl HO.out ⟨g, o, none⟩ l.length cap (atCells l) rfl (atCells_len l) HN.out (atCells_one l) (by unfold maxLen; omega) (by omega) (Nat.le_refl _) ?_; intro v1 w1 hr1 hg1 _)
      | fail)
    rw [Nat.zero_add, List.nil_append] at hr1
    have hb : Below w.heap.size w w1 := ⟨hg1.os, hg1.tape, hg1.output, hg1.size, fun k hk => hg1.block k hk (by simp [Value.ownBlock])⟩
    have hA := AttrsF.of_row hr1
    rcases Joins.ownsRow_forms hr1 with ⟨_, h1⟩ | ⟨g1, c1, rfl⟩
    · omega
    · go_ret
      exact ⟨_, _, rfl, hA, hb⟩
def NodeOutF (n : PN) (w : World) (e : Ending) (w' : World) : Prop := ∃ p c, e = .returned (.agg #[.int .i64 n.kind, .int .i64 n.space, .string ⟨n.name.toArray⟩, .slice p n.attrs.length c, .string ⟨n.text.toArray⟩, .int .i64 0, .slice none 0 0]) ∧ AttrsF (fun b => w.heap.size ≤ b) w' (.slice p n.attrs.length c) n.attrs ∧ Below w.heap.size w w'
set_option maxHeartbeats 1000000 in
set_option maxRecDepth 100000 in
theorem dnodeF (S : List PN) (B : Nat) (M : Nat → Prop) (w : World) (j : Nat) (h : DocM M w B S) (hj : j < S.length) (ha : S[j].attrs.length ≤ 4294967296) :
    Calls Try.prog 70 #[.pointer (some ⟨B, 0, none⟩), .int .i64 (j : Int)] w (NodeOutF S[j] w) := by
  obtain ⟨g, cap, hr⟩ := h.reads_pos (by omega)
  obtain ⟨hg, pa, ca, pt, ct, hc, hA, hO⟩ := h.node hr j hj
  have HH : Hid (∀ W, Below w.heap.size w W → Calls Try.prog 74 #[.pointer (some ⟨B, 0, none⟩), .int .i64 (j : Int)] W (Gives (.bool true) W)) := by
    refine Lib.hid fun W b => ?_
    have := dhasP S B W _ cap (j : Int) (hr.below b (fun g' e => by injection e with e; injection e with e; subst e; exact hg))
    rwa [(pHas_iff S (j : Int)).2 ⟨by omega, by omega⟩] at this
  unfold NodeOutF
  obtain ⟨NM, hNM⟩ : ∃ NM : ByteArray, (⟨S[j].name.toArray⟩ : ByteArray) = NM := ⟨_, rfl⟩
  obtain ⟨TX, hTX⟩ : ∃ TX : ByteArray, (⟨S[j].text.toArray⟩ : ByteArray) = TX := ⟨_, rfl⟩
  have key : ∀ W cs, cs.size = 7 → W.heap[w.heap.size]? = some (.cells cs 48 (0, 0)) → Below w.heap.size w W → (fun w' => w'.cell? ⟨g, j * 10, none⟩ = some (.int .i64 S[j].kind) ∧ w'.cell? ⟨g, j * 10 + 1, none⟩ = some (.int .i64 S[j].space) ∧ w'.cell? ⟨g, j * 10 + 2, none⟩ = some (.string NM) ∧ w'.cell? ⟨g, j * 10 + 3, none⟩ = some (.slice pa S[j].attrs.length ca) ∧ w'.cell? ⟨g, j * 10 + 4, none⟩ = some (.slice pt S[j].text.length ct) ∧ (convert 91 9 (.slice pt S[j].text.length ct)).run Try.prog w' = .ok (.string TX) w' ∧ (∃ cs : Array Value, cs.size = 7 ∧ w'.heap[w.heap.size]? = some (.cells cs 48 (0, 0))) ∧ Below w.heap.size w w') W := by
    intro W cs h7 hb b
    refine ⟨(b.cell (p := ⟨g, j * 10, none⟩) hg).trans hc.c0, (b.cell (p := ⟨g, j * 10 + 1, none⟩) hg).trans hc.c1, ?_, (b.cell (p := ⟨g, j * 10 + 3, none⟩) hg).trans hc.c3, (b.cell (p := ⟨g, j * 10 + 4, none⟩) hg).trans hc.c4, ?_, ⟨cs, h7, hb⟩, b⟩
    · rw [← hNM]; exact (b.cell (p := ⟨g, j * 10 + 2, none⟩) hg).trans hc.c2
    · rw [← hTX]; exact conv_back W _ _ (hO.block (fun x e => b.block x (hO.lt x e)))
  have HKY := Lib.hid key
  have HC : Hid (∀ W, (fun w' => w'.cell? ⟨g, j * 10, none⟩ = some (.int .i64 S[j].kind) ∧ w'.cell? ⟨g, j * 10 + 1, none⟩ = some (.int .i64 S[j].space) ∧ w'.cell? ⟨g, j * 10 + 2, none⟩ = some (.string NM) ∧ w'.cell? ⟨g, j * 10 + 3, none⟩ = some (.slice pa S[j].attrs.length ca) ∧ w'.cell? ⟨g, j * 10 + 4, none⟩ = some (.slice pt S[j].text.length ct) ∧ (convert 91 9 (.slice pt S[j].text.length ct)).run Try.prog w' = .ok (.string TX) w' ∧ (∃ cs : Array Value, cs.size = 7 ∧ w'.heap[w.heap.size]? = some (.cells cs 48 (0, 0))) ∧ Below w.heap.size w w') W → Calls Try.prog 73 #[.slice pa S[j].attrs.length ca] W fun e w3 => ∃ p3 c3, e = .returned (.slice p3 S[j].attrs.length c3) ∧ AttrsF (fun b => w.heap.size < b) w3 (.slice p3 S[j].attrs.length c3) S[j].attrs ∧ (fun w' => w'.cell? ⟨g, j * 10, none⟩ = some (.int .i64 S[j].kind) ∧ w'.cell? ⟨g, j * 10 + 1, none⟩ = some (.int .i64 S[j].space) ∧ w'.cell? ⟨g, j * 10 + 2, none⟩ = some (.string NM) ∧ w'.cell? ⟨g, j * 10 + 3, none⟩ = some (.slice pa S[j].attrs.length ca) ∧ w'.cell? ⟨g, j * 10 + 4, none⟩ = some (.slice pt S[j].text.length ct) ∧ (convert 91 9 (.slice pt S[j].text.length ct)).run Try.prog w' = .ok (.string TX) w' ∧ (∃ cs : Array Value, cs.size = 7 ∧ w'.heap[w.heap.size]? = some (.cells cs 48 (0, 0))) ∧ Below w.heap.size w w') w3) := by
    refine Lib.hid fun W hS => ?_
    obtain ⟨_, _, _, _, _, _, ⟨cs, h7, hb⟩, b⟩ := hS
    have hR := heap_lt hb
    refine (dcopyF S[j].attrs _ _ W (hA.kept (.of_below b)) ha).mono ?_
    rintro e w3 ⟨p3, c3, rfl, hA3, b3⟩
    exact ⟨p3, c3, rfl, hA3.mono (fun x k _ => by omega), key w3 cs h7 ((b3.block _ hR).trans hb) (b.trans (b3.mono b.size))⟩
  have hS0 : (fun w' => w'.cell? ⟨g, j * 10, none⟩ = some (.int .i64 S[j].kind) ∧ w'.cell? ⟨g, j * 10 + 1, none⟩ = some (.int .i64 S[j].space) ∧ w'.cell? ⟨g, j * 10 + 2, none⟩ = some (.string NM) ∧ w'.cell? ⟨g, j * 10 + 3, none⟩ = some (.slice pa S[j].attrs.length ca) ∧ w'.cell? ⟨g, j * 10 + 4, none⟩ = some (.slice pt S[j].text.length ct) ∧ (convert 91 9 (.slice pt S[j].text.length ct)).run Try.prog w' = .ok (.string TX) w' ∧ (∃ cs : Array Value, cs.size = 7 ∧ w'.heap[w.heap.size]? = some (.cells cs 48 (0, 0))) ∧ Below w.heap.size w w') (w.alloc (.cells #[.int .i64 0, .int .i64 0, .string ⟨#[]⟩, .slice none 0 0, .string ⟨#[]⟩, .int .i64 0, .slice none 0 0] 48)).drew := key _ _ rfl (heap_alloc_new w _) (((Below.refl _ w).alloc (Nat.le_refl _) _).drew)
  have h0 := hr.cell
  have hB := hr.lt
  have j0 : (0 : Int) ≤ (j : Int) := by omega
  have j1 : (j : Int) < (S.length : Int) := by omega
  rw [hNM, hTX]
  clear hr hc hA hO h hNM hTX key
  go_enter Try.func70, Try.ntmps70
  go_wp2_with fail
  refine (HH.out _ ((Below.refl _ w).alloc (Nat.le_refl _) _)).mono ?_
  rintro e w1 ⟨rfl, rfl⟩
  go_wp2_with fail
  refine wp_region_held_drew (S := (fun w' => w'.cell? ⟨g, j * 10, none⟩ = some (.int .i64 S[j].kind) ∧ w'.cell? ⟨g, j * 10 + 1, none⟩ = some (.int .i64 S[j].space) ∧ w'.cell? ⟨g, j * 10 + 2, none⟩ = some (.string NM) ∧ w'.cell? ⟨g, j * 10 + 3, none⟩ = some (.slice pa S[j].attrs.length ca) ∧ w'.cell? ⟨g, j * 10 + 4, none⟩ = some (.slice pt S[j].text.length ct) ∧ (convert 91 9 (.slice pt S[j].text.length ct)).run Try.prog w' = .ok (.string TX) w' ∧ (∃ cs : Array Value, cs.size = 7 ∧ w'.heap[w.heap.size]? = some (.cells cs 48 (0, 0))) ∧ Below w.heap.size w w')) (by kernel_rfl) (by exact hS0) (fun hHeld => ?_)
  refine wpAnyH_take (i := 0) (oi := { dst := some 17, op := Op.move (Operand.tmp 5), type := 136, pos := "dom.go:182", after := #[], guard := none }) (v := ?_) rfl (by kernel_rfl) (by kernel_rfl) (by kernel_rfl) (fun _ _ _ h => h) (Or.inl ⟨by rfl, ?_⟩) (by assumption) ?_
  rotate_left
  focus (intro w hSw; (try dsimp only at hSw); go_simp; (try with_reducible rfl))
  try simp only [Act.put, List.setIfInBounds_toArray, List.set_cons_zero, List.set_cons_succ]
  refine wpAnyH_take (i := 1) (oi := { dst := some 18, op := Op.nilCheck (Operand.tmp 17), type := 0, pos := "dom.go:182", after := #[{ on := 0, ground := Ground.data }], guard := none }) (v := ?_) rfl (by kernel_rfl) (by kernel_rfl) (by kernel_rfl) (fun _ _ _ h => h) (Or.inl ⟨by rfl, ?_⟩) (by assumption) ?_
  rotate_left
  focus (intro w hSw; (try dsimp only at hSw); go_simp; (try with_reducible rfl))
  try simp only [Act.put, List.setIfInBounds_toArray, List.set_cons_zero, List.set_cons_succ]
  refine wpAnyH_take (i := 2) (oi := { dst := some 19, op := Op.fieldAddr 93 (Operand.tmp 18) 0, type := 0, pos := "dom.go:182", after := #[{ on := 1, ground := Ground.data }], guard := none }) (v := ?_) rfl (by kernel_rfl) (by kernel_rfl) (by kernel_rfl) (fun _ _ _ h => h) (Or.inl ⟨by rfl, ?_⟩) (by assumption) ?_
  rotate_left
  focus (intro w hSw; (try dsimp only at hSw); go_simp; (try with_reducible rfl))
  try simp only [Act.put, List.setIfInBounds_toArray, List.set_cons_zero, List.set_cons_succ]
  refine wpAnyH_take (i := 3) (oi := { dst := some 20, op := Op.load 3 (Operand.tmp 19), type := 3, pos := "dom.go:182", after := #[{ on := 2, ground := Ground.data }], guard := none }) (v := ?_) rfl (by kernel_rfl) (by kernel_rfl) (by kernel_rfl) (fun _ _ _ h => h) (Or.inl ⟨by rfl, ?_⟩) (by assumption) ?_
  rotate_left
  focus (intro w hSw; (try dsimp only at hSw); go_simp; (try with_reducible rfl))
  try simp only [Act.put, List.setIfInBounds_toArray, List.set_cons_zero, List.set_cons_succ]
  refine wpAnyH_take (i := 4) (oi := { dst := some 21, op := Op.move (Operand.tmp 5), type := 136, pos := "dom.go:182", after := #[], guard := none }) (v := ?_) rfl (by kernel_rfl) (by kernel_rfl) (by kernel_rfl) (fun _ _ _ h => h) (Or.inl ⟨by rfl, ?_⟩) (by assumption) ?_
  rotate_left
  focus (intro w hSw; (try dsimp only at hSw); go_simp; (try with_reducible rfl))
  try simp only [Act.put, List.setIfInBounds_toArray, List.set_cons_zero, List.set_cons_succ]
  refine wpAnyH_take (i := 5) (oi := { dst := some 22, op := Op.nilCheck (Operand.tmp 21), type := 0, pos := "dom.go:182", after := #[{ on := 4, ground := Ground.data }], guard := none }) (v := ?_) rfl (by kernel_rfl) (by kernel_rfl) (by kernel_rfl) (fun _ _ _ h => h) (Or.inl ⟨by rfl, ?_⟩) (by assumption) ?_
  rotate_left
  focus (intro w hSw; (try dsimp only at hSw); go_simp; (try with_reducible rfl))
  try simp only [Act.put, List.setIfInBounds_toArray, List.set_cons_zero, List.set_cons_succ]
  refine wpAnyH_take (i := 6) (oi := { dst := some 23, op := Op.fieldAddr 93 (Operand.tmp 22) 1, type := 0, pos := "dom.go:182", after := #[{ on := 5, ground := Ground.data }], guard := none }) (v := ?_) rfl (by kernel_rfl) (by kernel_rfl) (by kernel_rfl) (fun _ _ _ h => h) (Or.inl ⟨by rfl, ?_⟩) (by assumption) ?_
  rotate_left
  focus (intro w hSw; (try dsimp only at hSw); go_simp; (try with_reducible rfl))
  try simp only [Act.put, List.setIfInBounds_toArray, List.set_cons_zero, List.set_cons_succ]
  refine wpAnyH_take (i := 7) (oi := { dst := some 24, op := Op.load 3 (Operand.tmp 23), type := 3, pos := "dom.go:182", after := #[{ on := 6, ground := Ground.data }], guard := none }) (v := ?_) rfl (by kernel_rfl) (by kernel_rfl) (by kernel_rfl) (fun _ _ _ h => h) (Or.inl ⟨by rfl, ?_⟩) (by assumption) ?_
  rotate_left
  focus (intro w hSw; (try dsimp only at hSw); go_simp; (try with_reducible rfl))
  try simp only [Act.put, List.setIfInBounds_toArray, List.set_cons_zero, List.set_cons_succ]
  refine wpAnyH_take (i := 8) (oi := { dst := some 25, op := Op.move (Operand.tmp 5), type := 136, pos := "dom.go:182", after := #[], guard := none }) (v := ?_) rfl (by kernel_rfl) (by kernel_rfl) (by kernel_rfl) (fun _ _ _ h => h) (Or.inl ⟨by rfl, ?_⟩) (by assumption) ?_
  rotate_left
  focus (intro w hSw; (try dsimp only at hSw); go_simp; (try with_reducible rfl))
  try simp only [Act.put, List.setIfInBounds_toArray, List.set_cons_zero, List.set_cons_succ]
  refine wpAnyH_take (i := 9) (oi := { dst := some 26, op := Op.nilCheck (Operand.tmp 25), type := 0, pos := "dom.go:182", after := #[{ on := 8, ground := Ground.data }], guard := none }) (v := ?_) rfl (by kernel_rfl) (by kernel_rfl) (by kernel_rfl) (fun _ _ _ h => h) (Or.inl ⟨by rfl, ?_⟩) (by assumption) ?_
  rotate_left
  focus (intro w hSw; (try dsimp only at hSw); go_simp; (try with_reducible rfl))
  try simp only [Act.put, List.setIfInBounds_toArray, List.set_cons_zero, List.set_cons_succ]
  refine wpAnyH_take (i := 10) (oi := { dst := some 27, op := Op.fieldAddr 93 (Operand.tmp 26) 2, type := 0, pos := "dom.go:182", after := #[{ on := 9, ground := Ground.data }], guard := none }) (v := ?_) rfl (by kernel_rfl) (by kernel_rfl) (by kernel_rfl) (fun _ _ _ h => h) (Or.inl ⟨by rfl, ?_⟩) (by assumption) ?_
  rotate_left
  focus (intro w hSw; (try dsimp only at hSw); go_simp; (try with_reducible rfl))
  try simp only [Act.put, List.setIfInBounds_toArray, List.set_cons_zero, List.set_cons_succ]
  refine wpAnyH_take (i := 11) (oi := { dst := some 28, op := Op.load 9 (Operand.tmp 27), type := 9, pos := "dom.go:182", after := #[{ on := 10, ground := Ground.data }], guard := none }) (v := ?_) rfl (by kernel_rfl) (by kernel_rfl) (by kernel_rfl) (fun _ _ _ h => h) (Or.inl ⟨by rfl, ?_⟩) (by assumption) ?_
  rotate_left
  focus (intro w hSw; (try dsimp only at hSw); go_simp; (try with_reducible rfl))
  try simp only [Act.put, List.setIfInBounds_toArray, List.set_cons_zero, List.set_cons_succ]
  refine wpAnyH_take (i := 12) (oi := { dst := some 29, op := Op.move (Operand.tmp 5), type := 136, pos := "dom.go:182", after := #[], guard := none }) (v := ?_) rfl (by kernel_rfl) (by kernel_rfl) (by kernel_rfl) (fun _ _ _ h => h) (Or.inl ⟨by rfl, ?_⟩) (by assumption) ?_
  rotate_left
  focus (intro w hSw; (try dsimp only at hSw); go_simp; (try with_reducible rfl))
  try simp only [Act.put, List.setIfInBounds_toArray, List.set_cons_zero, List.set_cons_succ]
  refine wpAnyH_take (i := 13) (oi := { dst := some 30, op := Op.nilCheck (Operand.tmp 29), type := 0, pos := "dom.go:182", after := #[{ on := 12, ground := Ground.data }], guard := none }) (v := ?_) rfl (by kernel_rfl) (by kernel_rfl) (by kernel_rfl) (fun _ _ _ h => h) (Or.inl ⟨by rfl, ?_⟩) (by assumption) ?_
  rotate_left
  focus (intro w hSw; (try dsimp only at hSw); go_simp; (try with_reducible rfl))
  try simp only [Act.put, List.setIfInBounds_toArray, List.set_cons_zero, List.set_cons_succ]
  refine wpAnyH_take (i := 14) (oi := { dst := some 31, op := Op.fieldAddr 93 (Operand.tmp 30) 3, type := 0, pos := "dom.go:182", after := #[{ on := 13, ground := Ground.data }], guard := none }) (v := ?_) rfl (by kernel_rfl) (by kernel_rfl) (by kernel_rfl) (fun _ _ _ h => h) (Or.inl ⟨by rfl, ?_⟩) (by assumption) ?_
  rotate_left
  focus (intro w hSw; (try dsimp only at hSw); go_simp; (try with_reducible rfl))
  try simp only [Act.put, List.setIfInBounds_toArray, List.set_cons_zero, List.set_cons_succ]
  refine wpAnyH_take (i := 15) (oi := { dst := some 32, op := Op.load 41 (Operand.tmp 31), type := 41, pos := "dom.go:182", after := #[{ on := 14, ground := Ground.data }], guard := none }) (v := ?_) rfl (by kernel_rfl) (by kernel_rfl) (by kernel_rfl) (fun _ _ _ h => h) (Or.inl ⟨by rfl, ?_⟩) (by assumption) ?_
  rotate_left
  focus (intro w hSw; (try dsimp only at hSw); go_simp; (try with_reducible rfl))
  try simp only [Act.put, List.setIfInBounds_toArray, List.set_cons_zero, List.set_cons_succ]
  refine wpAnyH_take (i := 17) (oi := { dst := some 34, op := Op.move (Operand.tmp 5), type := 136, pos := "dom.go:182", after := #[], guard := none }) (v := ?_) rfl (by kernel_rfl) (by kernel_rfl) (by kernel_rfl) (fun _ _ _ h => h) (Or.inl ⟨by rfl, ?_⟩) (by assumption) ?_
  rotate_left
  focus (intro w hSw; (try dsimp only at hSw); go_simp; (try with_reducible rfl))
  try simp only [Act.put, List.setIfInBounds_toArray, List.set_cons_zero, List.set_cons_succ]
  refine wpAnyH_take (i := 18) (oi := { dst := some 35, op := Op.nilCheck (Operand.tmp 34), type := 0, pos := "dom.go:182", after := #[{ on := 17, ground := Ground.data }], guard := none }) (v := ?_) rfl (by kernel_rfl) (by kernel_rfl) (by kernel_rfl) (fun _ _ _ h => h) (Or.inl ⟨by rfl, ?_⟩) (by assumption) ?_
  rotate_left
  focus (intro w hSw; (try dsimp only at hSw); go_simp; (try with_reducible rfl))
  try simp only [Act.put, List.setIfInBounds_toArray, List.set_cons_zero, List.set_cons_succ]
  refine wpAnyH_take (i := 19) (oi := { dst := some 36, op := Op.fieldAddr 93 (Operand.tmp 35) 4, type := 0, pos := "dom.go:182", after := #[{ on := 18, ground := Ground.data }], guard := none }) (v := ?_) rfl (by kernel_rfl) (by kernel_rfl) (by kernel_rfl) (fun _ _ _ h => h) (Or.inl ⟨by rfl, ?_⟩) (by assumption) ?_
  rotate_left
  focus (intro w hSw; (try dsimp only at hSw); go_simp; (try with_reducible rfl))
  try simp only [Act.put, List.setIfInBounds_toArray, List.set_cons_zero, List.set_cons_succ]
  refine wpAnyH_take (i := 20) (oi := { dst := some 37, op := Op.load 91 (Operand.tmp 36), type := 91, pos := "dom.go:182", after := #[{ on := 19, ground := Ground.data }], guard := none }) (v := ?_) rfl (by kernel_rfl) (by kernel_rfl) (by kernel_rfl) (fun _ _ _ h => h) (Or.inl ⟨by rfl, ?_⟩) (by assumption) ?_
  rotate_left
  focus (intro w hSw; (try dsimp only at hSw); go_simp; (try with_reducible rfl))
  try simp only [Act.put, List.setIfInBounds_toArray, List.set_cons_zero, List.set_cons_succ]
  refine wpAnyH_take (i := 21) (oi := { dst := some 38, op := Op.convert 91 9 (Operand.tmp 37), type := 9, pos := "dom.go:182", after := #[{ on := 20, ground := Ground.data }], guard := none }) (v := ?_) rfl (by kernel_rfl) (by kernel_rfl) (by kernel_rfl) (fun _ _ _ h => h) (Or.inl ⟨by rfl, ?_⟩) (by assumption) ?_
  rotate_left
  focus (intro w hSw; (try dsimp only at hSw); go_simp; (try with_reducible rfl))
  try simp only [Act.put, List.setIfInBounds_toArray, List.set_cons_zero, List.set_cons_succ]
  refine wpAnyH_ready (rs := [16]) (by kernel_rfl) (by simp) ?_
  refine AllReadyH.cons (o := { dst := some 33, op := Op.call { callee := Callee.value (Operand.func 73), args := #[Operand.tmp 32], argTypes := #[ 41 ] }, type := 41, pos := "dom.go:182", after := #[{ on := 15, ground := Ground.data }], guard := none }) rfl (fun K hK => ?_) AllReadyH.nil
  go_simp
  refine (HC.out _ hHeld).mono ?_; rintro e w3 ⟨p3, c3, rfl, hA3, hS3⟩
  go_wp2_with fail
  refine hK.out _ _ (by exact hS3) (fun hHeld => ?_)
  clear hK K
  try simp only [Act.put, List.setIfInBounds_toArray, List.set_cons_zero, List.set_cons_succ]
  refine wpAnyH_take (i := 22) (oi := { dst := some 39, op := Op.build 48 #[(0, Operand.tmp 20), (1, Operand.tmp 24), (2, Operand.tmp 28), (3, Operand.tmp 33), (4, Operand.tmp 38)], type := 48, pos := "dom.go:182", after := #[{ on := 3, ground := Ground.data }, { on := 7, ground := Ground.data }, { on := 11, ground := Ground.data }, { on := 16, ground := Ground.data }, { on := 21, ground := Ground.data }], guard := none }) (v := ?_) rfl (by kernel_rfl) (by kernel_rfl) (by kernel_rfl) (fun _ _ _ h => h) (Or.inl ⟨by rfl, ?_⟩) (by assumption) ?_
  rotate_left
  focus (intro w hSw; (try dsimp only at hSw); go_simp; (try with_reducible rfl))
  try simp only [Act.put, List.setIfInBounds_toArray, List.set_cons_zero, List.set_cons_succ]
  refine wpAnyH_ready (rs := [23]) (by kernel_rfl) (by simp) ?_
  refine AllReadyH.cons (o := { dst := none, op := Op.store 48 (Operand.tmp 4) (Operand.tmp 39), type := 0, pos := "dom.go:182", after := #[{ on := 22, ground := Ground.data }, { on := 16, ground := Ground.chain }, { on := 0, ground := Ground.phase }, { on := 1, ground := Ground.phase }, { on := 2, ground := Ground.phase }, { on := 3, ground := Ground.phase }, { on := 4, ground := Ground.phase }, { on := 5, ground := Ground.phase }, { on := 6, ground := Ground.phase }, { on := 7, ground := Ground.phase }, { on := 8, ground := Ground.phase }, { on := 9, ground := Ground.phase }, { on := 10, ground := Ground.phase }, { on := 11, ground := Ground.phase }, { on := 12, ground := Ground.phase }, { on := 13, ground := Ground.phase }, { on := 14, ground := Ground.phase }, { on := 15, ground := Ground.phase }, { on := 16, ground := Ground.phase }, { on := 17, ground := Ground.phase }, { on := 18, ground := Ground.phase }, { on := 19, ground := Ground.phase }, { on := 20, ground := Ground.phase }, { on := 21, ground := Ground.phase }, { on := 22, ground := Ground.phase }], guard := none }) rfl (fun K hK => ?_) AllReadyH.nil
  have hS3' := hS3
  obtain ⟨_, _, _, _, _, _, ⟨cs, h7, hb3⟩, hB3⟩ := hS3
  obtain ⟨x0, x1, x2, x3, x4, x5, x6, rfl⟩ : ∃ x0 x1 x2 x3 x4 x5 x6, cs = #[x0, x1, x2, x3, x4, x5, x6] := by
    obtain ⟨l⟩ := cs
    match l, h7 with
    | [a, b, c, d, e, f, g], _ => exact ⟨a, b, c, d, e, f, g, rfl⟩
  have k0 : ∀ i, w3.cell? ⟨w.heap.size, i, none⟩ = #[x0, x1, x2, x3, x4, x5, x6][i]? := fun i => by simp [World.cell?, hb3]
  have k1 : ∀ i, w3.frozen? ⟨w.heap.size, i, none⟩ = false := fun i => by simp [World.frozen?, hb3]
  go_simp
  obtain ⟨w4, hw4, hb4, hB4, hK4⟩ := set7 w w3 _ x0 x1 x2 x3 x4 x5 x6 (.int .i64 S[j].kind) (.int .i64 S[j].space) (.string NM) (.slice p3 S[j].attrs.length c3) (.string TX) (.int .i64 0) (.slice none 0 0) hb3 hB3
  rw [hw4]
  have hA4 := hA3.kept (hK4 (fun b => w.heap.size < b) (fun b k => by omega))
  have HA4 := Lib.hid hA4
  have HB4 := Lib.hid hB4
  have HS4 := Lib.hid (HKY.out w4 _ rfl hb4 hB4)
  clear hA4 hA3 hB4 hK4 hS3' hB3 hw4
  refine hK.out _ _ (by exact HS4.out) (fun hHeld => ?_)
  clear hK K
  refine wpAnyH_done (by kernel_rfl) ?_ _
  go_wp2_with fail
  exact bodyPost_ret (results_cell_row rfl _ _ _ _ _ _ _ rfl hb4 Try.underlying48 rfl (by kernel_rfl)) rfl ⟨p3, c3, rfl, HA4.out.mono (fun x k _ => by omega), HB4.out⟩
/-- The row of nodes that Tree makes: the first k are done. -/
structure T2 (w : World) (S : List PN) (row : List Int) (ends : List Nat) (v5 v6 : Value) (g k : Nat) (W : World) : Prop where
  t1 : T1 w W v5 v6 row ends
  own : ∃ xs, W.ownsRow w.heap.size 48 7 (.slice (some ⟨g, 0, none⟩) row.length row.length) row.length xs
  n5 : v5.ownBlock ≠ some g
  n6 : v6.ownBlock ≠ some g
  done : ∀ i, i < k → ∃ va, Cells7 W g (i * 7) (ndP (pget S (row.getD i 0))) va (pieceV g (ends.getD i 0) (ends.getD (i + 1) 0)) ∧ AttrsF (fun b => w.heap.size ≤ b ∧ b ≠ g) W va (ndP (pget S (row.getD i 0))).attrs
theorem T2.lt {w W : World} {S : List PN} {row : List Int} {ends : List Nat} {v5 v6 : Value} {g k : Nat} (h : T2 w S row ends v5 v6 g k W) : w.heap.size ≤ g ∧ g < W.heap.size := by
  obtain ⟨xs, hx⟩ := h.own
  exact hx.lt g rfl
theorem T2.on {w W W' : World} {S : List PN} {row : List Int} {ends : List Nat} {v5 v6 : Value} {g k : Nat} (h : T2 w S row ends v5 v6 g k W) (hb : Below W.heap.size W W') : T2 w S row ends v5 v6 g k W' := by
  obtain ⟨xs, hx⟩ := h.own
  have ht : Turns (fun _ => False) W W' := .of_below hb
  refine ⟨⟨ownsRow_kept h.t1.r5 ht (fun _ _ k => k), ownsRow_kept h.t1.r6 ht (fun _ _ k => k), h.t1.ne, h.t1.below.trans (hb.mono h.t1.below.size)⟩, ⟨xs, ownsRow_kept hx ht (fun _ _ k => k)⟩, h.n5, h.n6, fun i hi => ?_⟩
  obtain ⟨va, h7, ha⟩ := h.done i hi
  exact ⟨va, h7.kept (P := fun _ => True) (.of_below hb) trivial h.lt.2, ha.kept (.of_below hb)⟩
theorem T2.cell {w W : World} {S : List PN} {row : List Int} {ends : List Nat} {v5 v6 : Value} {g k : Nat} (h : T2 w S row ends v5 v6 g k W) (o : Nat) (ho : o < row.length * 7) : (∃ u, W.cell? ⟨g, o, none⟩ = some u) ∧ W.frozen? ⟨g, o, none⟩ = false := by
  obtain ⟨xs, hx⟩ := h.own
  refine ⟨⟨xs[o]'(by rw [hx.1]; exact ho), ?_⟩, hx.frozenAt o⟩
  rw [hx.cellAt o ho, List.getElem?_eq_getElem]
theorem T2.set {w W : World} {S : List PN} {row : List Int} {ends : List Nat} {v5 v6 : Value} {g k : Nat} (h : T2 w S row ends v5 v6 g k W) (o : Nat) (u : Value) (ho : k * 7 ≤ o) : T2 w S row ends v5 v6 g k (W.setCell ⟨g, o, none⟩ u) := by
  obtain ⟨xs, hx⟩ := h.own
  obtain ⟨hx2, hg2⟩ := hx.stored o u
  have ht : Turns (fun b => b = g) W (W.setCell ⟨g, o, none⟩ u) := .of_grown hg2 (fun x e => by injection e with e; exact e.symm)
  refine ⟨⟨ownsRow_kept h.t1.r5 ht (fun q e k => by subst k; exact h.n5 e), ownsRow_kept h.t1.r6 ht (fun q e k => by subst k; exact h.n6 e), h.t1.ne, h.t1.below.setCell h.lt.1 u⟩, ⟨_, hx2⟩, h.n5, h.n6, fun i hi => ?_⟩
  obtain ⟨va, h7, ha⟩ := h.done i hi
  have hc : ∀ j, j < 7 → (W.setCell ⟨g, o, none⟩ u).cell? ⟨g, i * 7 + j, none⟩ = W.cell? ⟨g, i * 7 + j, none⟩ := fun j hj => World.cell?_setCell_other _ _ _ _ (by intro e; injection e with _ e; omega)
  exact ⟨va, ⟨(hc 0 (by omega)).trans h7.c0, (hc 1 (by omega)).trans h7.c1, (hc 2 (by omega)).trans h7.c2, (hc 3 (by omega)).trans h7.c3, (hc 4 (by omega)).trans h7.c4, (hc 5 (by omega)).trans h7.c5, (hc 6 (by omega)).trans h7.c6⟩, ha.kept (ht.kept (fun b _ k e => k.2 e))⟩
/-- One node more, without its kids. -/
structure Half (w : World) (S : List PN) (row : List Int) (g k : Nat) (va : Value) (W : World) : Prop where
  c0 : W.cell? ⟨g, k * 7, none⟩ = some (.int .i64 (pget S (row.getD k 0)).kind)
  c1 : W.cell? ⟨g, k * 7 + 1, none⟩ = some (.int .i64 (pget S (row.getD k 0)).space)
  c2 : W.cell? ⟨g, k * 7 + 2, none⟩ = some (.string ⟨(pget S (row.getD k 0)).name.toArray⟩)
  c3 : W.cell? ⟨g, k * 7 + 3, none⟩ = some va
  c4 : W.cell? ⟨g, k * 7 + 4, none⟩ = some (.string ⟨(pget S (row.getD k 0)).text.toArray⟩)
  c5 : W.cell? ⟨g, k * 7 + 5, none⟩ = some (.int .i64 0)
  attrs : AttrsF (fun b => w.heap.size ≤ b ∧ b ≠ g) W va (pget S (row.getD k 0)).attrs
theorem Half.set {w W : World} {S : List PN} {row : List Int} {g k : Nat} {va : Value} (h : Half w S row g k va W) (u : Value) : Half w S row g k va (W.setCell ⟨g, k * 7 + 6, none⟩ u) := by
  have hc : ∀ j, j < 6 → (W.setCell ⟨g, k * 7 + 6, none⟩ u).cell? ⟨g, k * 7 + j, none⟩ = W.cell? ⟨g, k * 7 + j, none⟩ := fun j hj => World.cell?_setCell_other _ _ _ _ (by intro e; injection e with _ e; omega)
  refine ⟨(hc 0 (by omega)).trans h.c0, (hc 1 (by omega)).trans h.c1, (hc 2 (by omega)).trans h.c2, (hc 3 (by omega)).trans h.c3, (hc 4 (by omega)).trans h.c4, (hc 5 (by omega)).trans h.c5, h.attrs.kept ⟨by simp, fun b hb _ => ?_⟩⟩
  exact heap_setCell_other W ⟨g, k * 7 + 6, none⟩ b u hb.2
theorem Half.drew {w W : World} {S : List PN} {row : List Int} {g k : Nat} {va : Value} (h : Half w S row g k va W) : Half w S row g k va W.drew := ⟨h.c0, h.c1, h.c2, h.c3, h.c4, h.c5, h.attrs.kept (.of_below (Below.refl _ _).drew)⟩
theorem T2.more {w W : World} {S : List PN} {row : List Int} {ends : List Nat} {v5 v6 : Value} {g k : Nat} {va : Value} (h : T2 w S row ends v5 v6 g k W) (hh : Half w S row g k va W) (hc : W.cell? ⟨g, k * 7 + 6, none⟩ = some (pieceV g (ends.getD k 0) (ends.getD (k + 1) 0))) : T2 w S row ends v5 v6 g (k + 1) W := by
  refine ⟨h.t1, h.own, h.n5, h.n6, fun i hi => ?_⟩
  rcases Nat.lt_or_ge i k with h1 | h1
  · exact h.done i h1
  · have : i = k := by omega
    subst this
    exact ⟨va, ⟨hh.c0, hh.c1, hh.c2, hh.c3, hh.c4, hh.c5, hc⟩, hh.attrs⟩
/-- The store of a node, seven cells. -/
theorem T2.node {w W : World} {S : List PN} {row : List Int} {ends : List Nat} {v5 v6 : Value} {g k : Nat} (h : T2 w S row ends v5 v6 g k W) (hk : k < row.length) (va : Value) (NM TX : ByteArray) (hN : (⟨(pget S (row.getD k 0)).name.toArray⟩ : ByteArray) = NM) (hX : (⟨(pget S (row.getD k 0)).text.toArray⟩ : ByteArray) = TX) (ha : AttrsF (fun b => w.heap.size ≤ b ∧ b ≠ g) W va (pget S (row.getD k 0)).attrs) :
    ∃ W7, (((((((W.setCell ⟨g, k * 7, none⟩ (.int .i64 (pget S (row.getD k 0)).kind)).setCell ⟨g, k * 7 + 1, none⟩ (.int .i64 (pget S (row.getD k 0)).space)).setCell ⟨g, k * 7 + 2, none⟩ (.string NM)).setCell ⟨g, k * 7 + 3, none⟩ va).setCell ⟨g, k * 7 + 4, none⟩ (.string TX)).setCell ⟨g, k * 7 + 5, none⟩ (.int .i64 0)).setCell ⟨g, k * 7 + 6, none⟩ (.slice none 0 0)) = W7 ∧ T2 w S row ends v5 v6 g k W7 ∧ Half w S row g k va W7 := by
  have stp : ∀ (a : World) (j : Nat) (u : Value), j < 7 → T2 w S row ends v5 v6 g k a ∧ AttrsF (fun b => w.heap.size ≤ b ∧ b ≠ g) a va (pget S (row.getD k 0)).attrs → (T2 w S row ends v5 v6 g k (a.setCell ⟨g, k * 7 + j, none⟩ u) ∧ AttrsF (fun b => w.heap.size ≤ b ∧ b ≠ g) (a.setCell ⟨g, k * 7 + j, none⟩ u) va (pget S (row.getD k 0)).attrs) ∧ (a.setCell ⟨g, k * 7 + j, none⟩ u).cell? ⟨g, k * 7 + j, none⟩ = some u ∧ ∀ j', j' ≠ j → (a.setCell ⟨g, k * 7 + j, none⟩ u).cell? ⟨g, k * 7 + j', none⟩ = a.cell? ⟨g, k * 7 + j', none⟩ := by
    rintro a j u hj ⟨h1, h2⟩
    obtain ⟨⟨u0, hu⟩, _⟩ := h1.cell (k * 7 + j) (by omega)
    refine ⟨⟨h1.set _ u (by omega), h2.kept ⟨by simp, fun b hb _ => heap_setCell_other a ⟨g, k * 7 + j, none⟩ b u hb.2⟩⟩, World.cell?_setCell_same _ _ _ hu, fun j' hj' => World.cell?_setCell_other _ _ _ _ (by intro e; injection e with _ e; omega)⟩
  subst hN hX
  obtain ⟨t0, s0, o0⟩ := stp W 0 (.int .i64 (pget S (row.getD k 0)).kind) (by omega) ⟨h, ha⟩
  obtain ⟨t1, s1, o1⟩ := stp _ 1 (.int .i64 (pget S (row.getD k 0)).space) (by omega) t0
  obtain ⟨t2, s2, o2⟩ := stp _ 2 (.string ⟨(pget S (row.getD k 0)).name.toArray⟩) (by omega) t1
  obtain ⟨t3, s3, o3⟩ := stp _ 3 va (by omega) t2
  obtain ⟨t4, s4, o4⟩ := stp _ 4 (.string ⟨(pget S (row.getD k 0)).text.toArray⟩) (by omega) t3
  obtain ⟨t5, s5, o5⟩ := stp _ 5 (.int .i64 0) (by omega) t4
  obtain ⟨t6, s6, o6⟩ := stp _ 6 (.slice none 0 0) (by omega) t5
  refine ⟨_, rfl, t6.1, ⟨?_, ?_, ?_, ?_, ?_, ?_, t6.2⟩⟩
  · exact ((o6 0 (by omega)).trans ((o5 0 (by omega)).trans ((o4 0 (by omega)).trans ((o3 0 (by omega)).trans ((o2 0 (by omega)).trans (o1 0 (by omega))))))).trans s0
  · exact ((o6 1 (by omega)).trans ((o5 1 (by omega)).trans ((o4 1 (by omega)).trans ((o3 1 (by omega)).trans (o2 1 (by omega)))))).trans s1
  · exact ((o6 2 (by omega)).trans ((o5 2 (by omega)).trans ((o4 2 (by omega)).trans (o3 2 (by omega))))).trans s2
  · exact ((o6 3 (by omega)).trans ((o5 3 (by omega)).trans (o4 3 (by omega)))).trans s3
  · exact ((o6 4 (by omega)).trans (o5 4 (by omega))).trans s4
  · exact (o6 5 (by omega)).trans s5
end Go.Proofs.Ytbadckkcjjfnoaa.Fz
