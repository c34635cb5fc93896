/-
  The walks of the program's Kids, piece, Node. Any nodes, not too many.
-/
import Derived.Test.YtbadckkcjjfnoaaDPKids
namespace Go.Proofs.Ytbadckkcjjfnoaa
open Go.RowKit
def pKidsA (S : List PN) (f : Nat) (n : Int) : Option (List Int) := if pHas S n then pKids S f n else some []
set_option maxHeartbeats 1000000 in
set_option maxRecDepth 100000 in
theorem dkidsP (S : List PN) (B : Nat) (M : Nat → Prop) (w : World) (f : Nat) (n : Int) (r : List Int) (h : DocM M w B S) (hM : ∀ b, M b → b < w.heap.size) (hk : pKidsA S f n = some r) (hs : r.length ≤ 4294967296) :
    Calls Try.prog 17 #[.pointer (some ⟨B, 0, none⟩), .int .i64 n] w (fun e w' => ∃ v', e = .returned v' ∧ RowI w (.slice none 0 0) w' v' r) := by
  obtain ⟨p, cap, hr⟩ := h.reads
  have HH := Lib.hid (dhasP S B w p cap n hr)
  unfold pKidsA at hk
  cases hn : pHas S n
  · rw [hn] at HH hk
    have hre : [] = r := Option.some.inj hk
    subst hre
    clear h hr hM hk
    go_enter Try.func17, Try.ntmps17
    go_wp2_with fail
    refine HH.out.mono ?_
    rintro e w1 ⟨rfl, rfl⟩
    go_wp2_with fail
    go_ret
    exact ⟨_, rfl, ⟨rfl, .inl ⟨rfl, rfl⟩⟩, Turns.refl _ _, fun _ e => .inl e⟩
  · rw [hn] at HH hk
    rw [if_pos rfl] at hk
    have HK := Lib.hid (dwithKidsP S B M w f n (.slice none 0 0) [] r h hM hn hk ⟨rfl, .inl ⟨rfl, rfl⟩⟩ (fun g e => by cases e) (by simpa using hs))
    clear h hr hM hk
    go_enter Try.func17, Try.ntmps17
    go_wp2_with fail
    refine HH.out.mono ?_
    rintro e w1 ⟨rfl, rfl⟩
    go_wp2_with fail
    refine HK.out.mono ?_
    rintro e w2 ⟨v2, rfl, hR⟩
    have HR := Lib.hid hR
    obtain ⟨p2, c2, rfl⟩ := row_form hR.row
    clear hR
    go_wp2_with fail
    go_ret
    exact ⟨_, rfl, HR.out⟩
/-- Seven cells of a block are set. -/
theorem set7 (w w3 : World) (T : TypeId) (x0 x1 x2 x3 x4 x5 x6 v0 v1 v2 v3 v4 v5 v6 : Value) (h : w3.heap[w.heap.size]? = some (.cells #[x0, x1, x2, x3, x4, x5, x6] T (0, 0))) (hb : Below w.heap.size w w3) :
    ∃ w4, (((((((w3.setCell ⟨w.heap.size, 0, none⟩ v0).setCell ⟨w.heap.size, 1, none⟩ v1).setCell ⟨w.heap.size, 2, none⟩ v2).setCell ⟨w.heap.size, 3, none⟩ v3).setCell ⟨w.heap.size, 4, none⟩ v4).setCell ⟨w.heap.size, 5, none⟩ v5).setCell ⟨w.heap.size, 6, none⟩ v6) = w4 ∧ w4.heap[w.heap.size]? = some (.cells #[v0, v1, v2, v3, v4, v5, v6] T (0, 0)) ∧ Below w.heap.size w w4 ∧ ∀ (P : Nat → Prop), (∀ b, P b → b ≠ w.heap.size) → Kept P w3 w4 := by
  have stp : ∀ (a : World) (cs : Array Value) (k : Nat) (v : Value), a.heap[w.heap.size]? = some (.cells cs T (0, 0)) ∧ Below w.heap.size w a ∧ (∀ (P : Nat → Prop), (∀ b, P b → b ≠ w.heap.size) → Kept P w3 a) → (a.setCell ⟨w.heap.size, k, none⟩ v).heap[w.heap.size]? = some (.cells (cs.setIfInBounds k v) T (0, 0)) ∧ Below w.heap.size w (a.setCell ⟨w.heap.size, k, none⟩ v) ∧ ∀ (P : Nat → Prop), (∀ b, P b → b ≠ w.heap.size) → Kept P w3 (a.setCell ⟨w.heap.size, k, none⟩ v) := by
    rintro a cs k v ⟨h1, h2, h3⟩
    refine ⟨heap_setCell_same a _ k cs T v h1, h2.setCell (Nat.le_refl _) v, fun P hP => ⟨by have := (h3 P hP).size; simpa using this, fun b hb' hl => ?_⟩⟩
    rw [heap_setCell_other a ⟨w.heap.size, k, none⟩ b v (hP b hb')]
    exact (h3 P hP).block b hb' hl
  have e0 := stp w3 _ 0 v0 ⟨h, hb, fun P _ => ⟨Nat.le_refl _, fun _ _ _ => rfl⟩⟩
  have e1 := stp _ _ 1 v1 e0
  have e2 := stp _ _ 2 v2 e1
  have e3 := stp _ _ 3 v3 e2
  have e4 := stp _ _ 4 v4 e3
  have e5 := stp _ _ 5 v5 e4
  have e6 := stp _ _ 6 v6 e5
  refine ⟨_, rfl, ?_, e6.2.1, e6.2.2⟩
  rw [e6.1]
  simp
/-- What Node tells: a node without kids, with attributes of its own. -/
def NodeOut (n : PN) (w : World) (e : Ending) (w' : World) : Prop := ∃ p c, e = .returned (.agg #[.int .i64 n.kind, .int .i64 n.space, .string ⟨n.name.toArray⟩, .slice p n.attrs.length c, .string ⟨n.text.toArray⟩, .int .i64 0, .slice none 0 0]) ∧ AttrsP (fun b => w.heap.size ≤ b) w' (.slice p n.attrs.length c) n.attrs ∧ Below w.heap.size w w'
/-- What Node reads of a node. -/
theorem DocM.node {M : Nat → Prop} {w : World} {B g cap : Nat} {S : List PN} (h : DocM M w B S) (hr : Reads w B S (some ⟨g, 0, none⟩) cap) (j : Nat) (hj : j < S.length) :
    g < w.heap.size ∧ ∃ pa ca pt ct, Cells10 w g (j * 10) S[j] (.slice pa S[j].attrs.length ca) (.slice pt S[j].text.length ct) ∧ AttrsP (fun _ => True) w (.slice pa S[j].attrs.length ca) S[j].attrs ∧ OwnsB w (.slice pt S[j].text.length ct) S[j].text := by
  obtain ⟨v, qs, rfl, hq⟩ := h
  have hv := hq.cell.symm.trans hr.cell
  rw [List.length_map] at hv
  injection hv with hv
  subst hv
  have hj' : j < qs.length := by simpa using hj
  have hm := List.getElem_mem hj'
  rw [List.getElem_map]
  obtain ⟨pt, ct, hf⟩ := (hq.texts _ hm).form
  have hO := hq.texts _ hm
  have hA := hq.attrs _ hm
  obtain ⟨pa, ca, ha, _⟩ := id hA
  have hc := fun i (hi : i < 10) => hq.at j i hj' hi
  refine ⟨(hq.row.lt g rfl).2, pa, ca, pt, ct, ?_, ?_, ?_⟩
  · rw [← ha, ← hf]
    exact ⟨hc 0 (by omega), hc 1 (by omega), hc 2 (by omega), hc 3 (by omega), hc 4 (by omega), hc 5 (by omega), hc 6 (by omega), hc 7 (by omega), hc 8 (by omega), hc 9 (by omega)⟩
  · rw [← ha]; exact hA.mono (fun _ _ _ => trivial)
  · rw [← hf]; exact hO
set_option maxHeartbeats 1000000 in
set_option maxRecDepth 100000 in
theorem dnodeP (S : List PN) (B : Nat) (M : Nat → Prop) (w : World) (j : Nat) (h : DocM M w B S) (hj : j < S.length) (ha : S[j].attrs.length ≤ 4294967296) :
    Calls Try.prog 70 #[.pointer (some ⟨B, 0, none⟩), .int .i64 (j : Int)] w (NodeOut S[j] w) := by
  obtain ⟨g, cap, hr⟩ := h.reads_pos (by omega)
  obtain ⟨hg, pa, ca, pt, ct, hc, hA, hO⟩ := h.node hr j hj
  have HH : Hid (∀ W, Below w.heap.size w W → Calls Try.prog 74 #[.pointer (some ⟨B, 0, none⟩), .int .i64 (j : Int)] W (Gives (.bool true) W)) := by
    refine Lib.hid fun W b => ?_
    have := dhasP S B W _ cap (j : Int) (hr.below b (fun g' e => by injection e with e; injection e with e; subst e; exact hg))
    rwa [(pHas_iff S (j : Int)).2 ⟨by omega, by omega⟩] at this
  unfold NodeOut
  obtain ⟨NM, hNM⟩ : ∃ NM : ByteArray, (⟨S[j].name.toArray⟩ : ByteArray) = NM := ⟨_, rfl⟩
  obtain ⟨TX, hTX⟩ : ∃ TX : ByteArray, (⟨S[j].text.toArray⟩ : ByteArray) = TX := ⟨_, rfl⟩
  have key : ∀ W cs, cs.size = 7 → W.heap[w.heap.size]? = some (.cells cs 48 (0, 0)) → Below w.heap.size w W → (fun w' => w'.cell? ⟨g, j * 10, none⟩ = some (.int .i64 S[j].kind) ∧ w'.cell? ⟨g, j * 10 + 1, none⟩ = some (.int .i64 S[j].space) ∧ w'.cell? ⟨g, j * 10 + 2, none⟩ = some (.string NM) ∧ w'.cell? ⟨g, j * 10 + 3, none⟩ = some (.slice pa S[j].attrs.length ca) ∧ w'.cell? ⟨g, j * 10 + 4, none⟩ = some (.slice pt S[j].text.length ct) ∧ (convert 91 9 (.slice pt S[j].text.length ct)).run Try.prog w' = .ok (.string TX) w' ∧ (∃ cs : Array Value, cs.size = 7 ∧ w'.heap[w.heap.size]? = some (.cells cs 48 (0, 0))) ∧ Below w.heap.size w w') W := by
    intro W cs h7 hb b
    refine ⟨(b.cell (p := ⟨g, j * 10, none⟩) hg).trans hc.c0, (b.cell (p := ⟨g, j * 10 + 1, none⟩) hg).trans hc.c1, ?_, (b.cell (p := ⟨g, j * 10 + 3, none⟩) hg).trans hc.c3, (b.cell (p := ⟨g, j * 10 + 4, none⟩) hg).trans hc.c4, ?_, ⟨cs, h7, hb⟩, b⟩
    · rw [← hNM]; exact (b.cell (p := ⟨g, j * 10 + 2, none⟩) hg).trans hc.c2
    · rw [← hTX]; exact conv_back W _ _ (hO.block (fun x e => b.block x (hO.lt x e)))
  have HKY := Lib.hid key
  have HC : Hid (∀ W, (fun w' => w'.cell? ⟨g, j * 10, none⟩ = some (.int .i64 S[j].kind) ∧ w'.cell? ⟨g, j * 10 + 1, none⟩ = some (.int .i64 S[j].space) ∧ w'.cell? ⟨g, j * 10 + 2, none⟩ = some (.string NM) ∧ w'.cell? ⟨g, j * 10 + 3, none⟩ = some (.slice pa S[j].attrs.length ca) ∧ w'.cell? ⟨g, j * 10 + 4, none⟩ = some (.slice pt S[j].text.length ct) ∧ (convert 91 9 (.slice pt S[j].text.length ct)).run Try.prog w' = .ok (.string TX) w' ∧ (∃ cs : Array Value, cs.size = 7 ∧ w'.heap[w.heap.size]? = some (.cells cs 48 (0, 0))) ∧ Below w.heap.size w w') W → Calls Try.prog 73 #[.slice pa S[j].attrs.length ca] W fun e w3 => ∃ p3 c3, e = .returned (.slice p3 S[j].attrs.length c3) ∧ AttrsP (fun b => w.heap.size < b) w3 (.slice p3 S[j].attrs.length c3) S[j].attrs ∧ (fun w' => w'.cell? ⟨g, j * 10, none⟩ = some (.int .i64 S[j].kind) ∧ w'.cell? ⟨g, j * 10 + 1, none⟩ = some (.int .i64 S[j].space) ∧ w'.cell? ⟨g, j * 10 + 2, none⟩ = some (.string NM) ∧ w'.cell? ⟨g, j * 10 + 3, none⟩ = some (.slice pa S[j].attrs.length ca) ∧ w'.cell? ⟨g, j * 10 + 4, none⟩ = some (.slice pt S[j].text.length ct) ∧ (convert 91 9 (.slice pt S[j].text.length ct)).run Try.prog w' = .ok (.string TX) w' ∧ (∃ cs : Array Value, cs.size = 7 ∧ w'.heap[w.heap.size]? = some (.cells cs 48 (0, 0))) ∧ Below w.heap.size w w') w3) := by
    refine Lib.hid fun W hS => ?_
    obtain ⟨_, _, _, _, _, _, ⟨cs, h7, hb⟩, b⟩ := hS
    have hR := heap_lt hb
    refine (dcopyA S[j].attrs _ _ W (hA.kept (.of_below b)) ha).mono ?_
    rintro e w3 ⟨p3, c3, rfl, hA3, b3⟩
    exact ⟨p3, c3, rfl, hA3.mono (fun x k _ => by omega), key w3 cs h7 ((b3.block _ hR).trans hb) (b.trans (b3.mono b.size))⟩
  have hS0 : (fun w' => w'.cell? ⟨g, j * 10, none⟩ = some (.int .i64 S[j].kind) ∧ w'.cell? ⟨g, j * 10 + 1, none⟩ = some (.int .i64 S[j].space) ∧ w'.cell? ⟨g, j * 10 + 2, none⟩ = some (.string NM) ∧ w'.cell? ⟨g, j * 10 + 3, none⟩ = some (.slice pa S[j].attrs.length ca) ∧ w'.cell? ⟨g, j * 10 + 4, none⟩ = some (.slice pt S[j].text.length ct) ∧ (convert 91 9 (.slice pt S[j].text.length ct)).run Try.prog w' = .ok (.string TX) w' ∧ (∃ cs : Array Value, cs.size = 7 ∧ w'.heap[w.heap.size]? = some (.cells cs 48 (0, 0))) ∧ Below w.heap.size w w') (w.alloc (.cells #[.int .i64 0, .int .i64 0, .string ⟨#[]⟩, .slice none 0 0, .string ⟨#[]⟩, .int .i64 0, .slice none 0 0] 48)).drew := key _ _ rfl (heap_alloc_new w _) (((Below.refl _ w).alloc (Nat.le_refl _) _).drew)
  have h0 := hr.cell
  have hB := hr.lt
  have j0 : (0 : Int) ≤ (j : Int) := by omega
  have j1 : (j : Int) < (S.length : Int) := by omega
  rw [hNM, hTX]
  clear hr hc hA hO h hNM hTX key
  go_enter Try.func70, Try.ntmps70
  go_wp2_with fail
  refine (HH.out _ ((Below.refl _ w).alloc (Nat.le_refl _) _)).mono ?_
  rintro e w1 ⟨rfl, rfl⟩
  go_wp2_with fail
  refine wp_region_held_drew (S := (fun w' => w'.cell? ⟨g, j * 10, none⟩ = some (.int .i64 S[j].kind) ∧ w'.cell? ⟨g, j * 10 + 1, none⟩ = some (.int .i64 S[j].space) ∧ w'.cell? ⟨g, j * 10 + 2, none⟩ = some (.string NM) ∧ w'.cell? ⟨g, j * 10 + 3, none⟩ = some (.slice pa S[j].attrs.length ca) ∧ w'.cell? ⟨g, j * 10 + 4, none⟩ = some (.slice pt S[j].text.length ct) ∧ (convert 91 9 (.slice pt S[j].text.length ct)).run Try.prog w' = .ok (.string TX) w' ∧ (∃ cs : Array Value, cs.size = 7 ∧ w'.heap[w.heap.size]? = some (.cells cs 48 (0, 0))) ∧ Below w.heap.size w w')) (by kernel_rfl) (by exact hS0) (fun hHeld => ?_)
  refine wpAnyH_take (i := 0) (oi := { dst := some 17, op := Op.move (Operand.tmp 5), type := 136, pos := "dom.go:182", after := #[], guard := none }) (v := ?_) rfl (by kernel_rfl) (by kernel_rfl) (by kernel_rfl) (fun _ _ _ h => h) (Or.inl ⟨by rfl, ?_⟩) (by assumption) ?_
  rotate_left
  focus (intro w hSw; (try dsimp only at hSw); go_simp; (try with_reducible rfl))
  try simp only [Act.put, List.setIfInBounds_toArray, List.set_cons_zero, List.set_cons_succ]
  refine wpAnyH_take (i := 1) (oi := { dst := some 18, op := Op.nilCheck (Operand.tmp 17), type := 0, pos := "dom.go:182", after := #[{ on := 0, ground := Ground.data }], guard := none }) (v := ?_) rfl (by kernel_rfl) (by kernel_rfl) (by kernel_rfl) (fun _ _ _ h => h) (Or.inl ⟨by rfl, ?_⟩) (by assumption) ?_
  rotate_left
  focus (intro w hSw; (try dsimp only at hSw); go_simp; (try with_reducible rfl))
  try simp only [Act.put, List.setIfInBounds_toArray, List.set_cons_zero, List.set_cons_succ]
  refine wpAnyH_take (i := 2) (oi := { dst := some 19, op := Op.fieldAddr 93 (Operand.tmp 18) 0, type := 0, pos := "dom.go:182", after := #[{ on := 1, ground := Ground.data }], guard := none }) (v := ?_) rfl (by kernel_rfl) (by kernel_rfl) (by kernel_rfl) (fun _ _ _ h => h) (Or.inl ⟨by rfl, ?_⟩) (by assumption) ?_
  rotate_left
  focus (intro w hSw; (try dsimp only at hSw); go_simp; (try with_reducible rfl))
  try simp only [Act.put, List.setIfInBounds_toArray, List.set_cons_zero, List.set_cons_succ]
  refine wpAnyH_take (i := 3) (oi := { dst := some 20, op := Op.load 3 (Operand.tmp 19), type := 3, pos := "dom.go:182", after := #[{ on := 2, ground := Ground.data }], guard := none }) (v := ?_) rfl (by kernel_rfl) (by kernel_rfl) (by kernel_rfl) (fun _ _ _ h => h) (Or.inl ⟨by rfl, ?_⟩) (by assumption) ?_
  rotate_left
  focus (intro w hSw; (try dsimp only at hSw); go_simp; (try with_reducible rfl))
  try simp only [Act.put, List.setIfInBounds_toArray, List.set_cons_zero, List.set_cons_succ]
  refine wpAnyH_take (i := 4) (oi := { dst := some 21, op := Op.move (Operand.tmp 5), type := 136, pos := "dom.go:182", after := #[], guard := none }) (v := ?_) rfl (by kernel_rfl) (by kernel_rfl) (by kernel_rfl) (fun _ _ _ h => h) (Or.inl ⟨by rfl, ?_⟩) (by assumption) ?_
  rotate_left
  focus (intro w hSw; (try dsimp only at hSw); go_simp; (try with_reducible rfl))
  try simp only [Act.put, List.setIfInBounds_toArray, List.set_cons_zero, List.set_cons_succ]
  refine wpAnyH_take (i := 5) (oi := { dst := some 22, op := Op.nilCheck (Operand.tmp 21), type := 0, pos := "dom.go:182", after := #[{ on := 4, ground := Ground.data }], guard := none }) (v := ?_) rfl (by kernel_rfl) (by kernel_rfl) (by kernel_rfl) (fun _ _ _ h => h) (Or.inl ⟨by rfl, ?_⟩) (by assumption) ?_
  rotate_left
  focus (intro w hSw; (try dsimp only at hSw); go_simp; (try with_reducible rfl))
  try simp only [Act.put, List.setIfInBounds_toArray, List.set_cons_zero, List.set_cons_succ]
  refine wpAnyH_take (i := 6) (oi := { dst := some 23, op := Op.fieldAddr 93 (Operand.tmp 22) 1, type := 0, pos := "dom.go:182", after := #[{ on := 5, ground := Ground.data }], guard := none }) (v := ?_) rfl (by kernel_rfl) (by kernel_rfl) (by kernel_rfl) (fun _ _ _ h => h) (Or.inl ⟨by rfl, ?_⟩) (by assumption) ?_
  rotate_left
  focus (intro w hSw; (try dsimp only at hSw); go_simp; (try with_reducible rfl))
  try simp only [Act.put, List.setIfInBounds_toArray, List.set_cons_zero, List.set_cons_succ]
  refine wpAnyH_take (i := 7) (oi := { dst := some 24, op := Op.load 3 (Operand.tmp 23), type := 3, pos := "dom.go:182", after := #[{ on := 6, ground := Ground.data }], guard := none }) (v := ?_) rfl (by kernel_rfl) (by kernel_rfl) (by kernel_rfl) (fun _ _ _ h => h) (Or.inl ⟨by rfl, ?_⟩) (by assumption) ?_
  rotate_left
  focus (intro w hSw; (try dsimp only at hSw); go_simp; (try with_reducible rfl))
  try simp only [Act.put, List.setIfInBounds_toArray, List.set_cons_zero, List.set_cons_succ]
  refine wpAnyH_take (i := 8) (oi := { dst := some 25, op := Op.move (Operand.tmp 5), type := 136, pos := "dom.go:182", after := #[], guard := none }) (v := ?_) rfl (by kernel_rfl) (by kernel_rfl) (by kernel_rfl) (fun _ _ _ h => h) (Or.inl ⟨by rfl, ?_⟩) (by assumption) ?_
  rotate_left
  focus (intro w hSw; (try dsimp only at hSw); go_simp; (try with_reducible rfl))
  try simp only [Act.put, List.setIfInBounds_toArray, List.set_cons_zero, List.set_cons_succ]
  refine wpAnyH_take (i := 9) (oi := { dst := some 26, op := Op.nilCheck (Operand.tmp 25), type := 0, pos := "dom.go:182", after := #[{ on := 8, ground := Ground.data }], guard := none }) (v := ?_) rfl (by kernel_rfl) (by kernel_rfl) (by kernel_rfl) (fun _ _ _ h => h) (Or.inl ⟨by rfl, ?_⟩) (by assumption) ?_
  rotate_left
  focus (intro w hSw; (try dsimp only at hSw); go_simp; (try with_reducible rfl))
  try simp only [Act.put, List.setIfInBounds_toArray, List.set_cons_zero, List.set_cons_succ]
  refine wpAnyH_take (i := 10) (oi := { dst := some 27, op := Op.fieldAddr 93 (Operand.tmp 26) 2, type := 0, pos := "dom.go:182", after := #[{ on := 9, ground := Ground.data }], guard := none }) (v := ?_) rfl (by kernel_rfl) (by kernel_rfl) (by kernel_rfl) (fun _ _ _ h => h) (Or.inl ⟨by rfl, ?_⟩) (by assumption) ?_
  rotate_left
  focus (intro w hSw; (try dsimp only at hSw); go_simp; (try with_reducible rfl))
  try simp only [Act.put, List.setIfInBounds_toArray, List.set_cons_zero, List.set_cons_succ]
  refine wpAnyH_take (i := 11) (oi := { dst := some 28, op := Op.load 9 (Operand.tmp 27), type := 9, pos := "dom.go:182", after := #[{ on := 10, ground := Ground.data }], guard := none }) (v := ?_) rfl (by kernel_rfl) (by kernel_rfl) (by kernel_rfl) (fun _ _ _ h => h) (Or.inl ⟨by rfl, ?_⟩) (by assumption) ?_
  rotate_left
  focus (intro w hSw; (try dsimp only at hSw); go_simp; (try with_reducible rfl))
  try simp only [Act.put, List.setIfInBounds_toArray, List.set_cons_zero, List.set_cons_succ]
  refine wpAnyH_take (i := 12) (oi := { dst := some 29, op := Op.move (Operand.tmp 5), type := 136, pos := "dom.go:182", after := #[], guard := none }) (v := ?_) rfl (by kernel_rfl) (by kernel_rfl) (by kernel_rfl) (fun _ _ _ h => h) (Or.inl ⟨by rfl, ?_⟩) (by assumption) ?_
  rotate_left
  focus (intro w hSw; (try dsimp only at hSw); go_simp; (try with_reducible rfl))
  try simp only [Act.put, List.setIfInBounds_toArray, List.set_cons_zero, List.set_cons_succ]
  refine wpAnyH_take (i := 13) (oi := { dst := some 30, op := Op.nilCheck (Operand.tmp 29), type := 0, pos := "dom.go:182", after := #[{ on := 12, ground := Ground.data }], guard := none }) (v := ?_) rfl (by kernel_rfl) (by kernel_rfl) (by kernel_rfl) (fun _ _ _ h => h) (Or.inl ⟨by rfl, ?_⟩) (by assumption) ?_
  rotate_left
  focus (intro w hSw; (try dsimp only at hSw); go_simp; (try with_reducible rfl))
  try simp only [Act.put, List.setIfInBounds_toArray, List.set_cons_zero, List.set_cons_succ]
  refine wpAnyH_take (i := 14) (oi := { dst := some 31, op := Op.fieldAddr 93 (Operand.tmp 30) 3, type := 0, pos := "dom.go:182", after := #[{ on := 13, ground := Ground.data }], guard := none }) (v := ?_) rfl (by kernel_rfl) (by kernel_rfl) (by kernel_rfl) (fun _ _ _ h => h) (Or.inl ⟨by rfl, ?_⟩) (by assumption) ?_
  rotate_left
  focus (intro w hSw; (try dsimp only at hSw); go_simp; (try with_reducible rfl))
  try simp only [Act.put, List.setIfInBounds_toArray, List.set_cons_zero, List.set_cons_succ]
  refine wpAnyH_take (i := 15) (oi := { dst := some 32, op := Op.load 41 (Operand.tmp 31), type := 41, pos := "dom.go:182", after := #[{ on := 14, ground := Ground.data }], guard := none }) (v := ?_) rfl (by kernel_rfl) (by kernel_rfl) (by kernel_rfl) (fun _ _ _ h => h) (Or.inl ⟨by rfl, ?_⟩) (by assumption) ?_
  rotate_left
  focus (intro w hSw; (try dsimp only at hSw); go_simp; (try with_reducible rfl))
  try simp only [Act.put, List.setIfInBounds_toArray, List.set_cons_zero, List.set_cons_succ]
  refine wpAnyH_take (i := 17) (oi := { dst := some 34, op := Op.move (Operand.tmp 5), type := 136, pos := "dom.go:182", after := #[], guard := none }) (v := ?_) rfl (by kernel_rfl) (by kernel_rfl) (by kernel_rfl) (fun _ _ _ h => h) (Or.inl ⟨by rfl, ?_⟩) (by assumption) ?_
  rotate_left
  focus (intro w hSw; (try dsimp only at hSw); go_simp; (try with_reducible rfl))
  try simp only [Act.put, List.setIfInBounds_toArray, List.set_cons_zero, List.set_cons_succ]
  refine wpAnyH_take (i := 18) (oi := { dst := some 35, op := Op.nilCheck (Operand.tmp 34), type := 0, pos := "dom.go:182", after := #[{ on := 17, ground := Ground.data }], guard := none }) (v := ?_) rfl (by kernel_rfl) (by kernel_rfl) (by kernel_rfl) (fun _ _ _ h => h) (Or.inl ⟨by rfl, ?_⟩) (by assumption) ?_
  rotate_left
  focus (intro w hSw; (try dsimp only at hSw); go_simp; (try with_reducible rfl))
  try simp only [Act.put, List.setIfInBounds_toArray, List.set_cons_zero, List.set_cons_succ]
  refine wpAnyH_take (i := 19) (oi := { dst := some 36, op := Op.fieldAddr 93 (Operand.tmp 35) 4, type := 0, pos := "dom.go:182", after := #[{ on := 18, ground := Ground.data }], guard := none }) (v := ?_) rfl (by kernel_rfl) (by kernel_rfl) (by kernel_rfl) (fun _ _ _ h => h) (Or.inl ⟨by rfl, ?_⟩) (by assumption) ?_
  rotate_left
  focus (intro w hSw; (try dsimp only at hSw); go_simp; (try with_reducible rfl))
  try simp only [Act.put, List.setIfInBounds_toArray, List.set_cons_zero, List.set_cons_succ]
  refine wpAnyH_take (i := 20) (oi := { dst := some 37, op := Op.load 91 (Operand.tmp 36), type := 91, pos := "dom.go:182", after := #[{ on := 19, ground := Ground.data }], guard := none }) (v := ?_) rfl (by kernel_rfl) (by kernel_rfl) (by kernel_rfl) (fun _ _ _ h => h) (Or.inl ⟨by rfl, ?_⟩) (by assumption) ?_
  rotate_left
  focus (intro w hSw; (try dsimp only at hSw); go_simp; (try with_reducible rfl))
  try simp only [Act.put, List.setIfInBounds_toArray, List.set_cons_zero, List.set_cons_succ]
  refine wpAnyH_take (i := 21) (oi := { dst := some 38, op := Op.convert 91 9 (Operand.tmp 37), type := 9, pos := "dom.go:182", after := #[{ on := 20, ground := Ground.data }], guard := none }) (v := ?_) rfl (by kernel_rfl) (by kernel_rfl) (by kernel_rfl) (fun _ _ _ h => h) (Or.inl ⟨by rfl, ?_⟩) (by assumption) ?_
  rotate_left
  focus (intro w hSw; (try dsimp only at hSw); go_simp; (try with_reducible rfl))
  try simp only [Act.put, List.setIfInBounds_toArray, List.set_cons_zero, List.set_cons_succ]
  refine wpAnyH_ready (rs := [16]) (by kernel_rfl) (by simp) ?_
  refine AllReadyH.cons (o := { dst := some 33, op := Op.call { callee := Callee.value (Operand.func 73), args := #[Operand.tmp 32], argTypes := #[ 41 ] }, type := 41, pos := "dom.go:182", after := #[{ on := 15, ground := Ground.data }], guard := none }) rfl (fun K hK => ?_) AllReadyH.nil
  go_simp
  refine (HC.out _ hHeld).mono ?_; rintro e w3 ⟨p3, c3, rfl, hA3, hS3⟩
  go_wp2_with fail
  refine hK.out _ _ (by exact hS3) (fun hHeld => ?_)
  clear hK K
  try simp only [Act.put, List.setIfInBounds_toArray, List.set_cons_zero, List.set_cons_succ]
  refine wpAnyH_take (i := 22) (oi := { dst := some 39, op := Op.build 48 #[(0, Operand.tmp 20), (1, Operand.tmp 24), (2, Operand.tmp 28), (3, Operand.tmp 33), (4, Operand.tmp 38)], type := 48, pos := "dom.go:182", after := #[{ on := 3, ground := Ground.data }, { on := 7, ground := Ground.data }, { on := 11, ground := Ground.data }, { on := 16, ground := Ground.data }, { on := 21, ground := Ground.data }], guard := none }) (v := ?_) rfl (by kernel_rfl) (by kernel_rfl) (by kernel_rfl) (fun _ _ _ h => h) (Or.inl ⟨by rfl, ?_⟩) (by assumption) ?_
  rotate_left
  focus (intro w hSw; (try dsimp only at hSw); go_simp; (try with_reducible rfl))
  try simp only [Act.put, List.setIfInBounds_toArray, List.set_cons_zero, List.set_cons_succ]
  refine wpAnyH_ready (rs := [23]) (by kernel_rfl) (by simp) ?_
  refine AllReadyH.cons (o := { dst := none, op := Op.store 48 (Operand.tmp 4) (Operand.tmp 39), type := 0, pos := "dom.go:182", after := #[{ on := 22, ground := Ground.data }, { on := 16, ground := Ground.chain }, { on := 0, ground := Ground.phase }, { on := 1, ground := Ground.phase }, { on := 2, ground := Ground.phase }, { on := 3, ground := Ground.phase }, { on := 4, ground := Ground.phase }, { on := 5, ground := Ground.phase }, { on := 6, ground := Ground.phase }, { on := 7, ground := Ground.phase }, { on := 8, ground := Ground.phase }, { on := 9, ground := Ground.phase }, { on := 10, ground := Ground.phase }, { on := 11, ground := Ground.phase }, { on := 12, ground := Ground.phase }, { on := 13, ground := Ground.phase }, { on := 14, ground := Ground.phase }, { on := 15, ground := Ground.phase }, { on := 16, ground := Ground.phase }, { on := 17, ground := Ground.phase }, { on := 18, ground := Ground.phase }, { on := 19, ground := Ground.phase }, { on := 20, ground := Ground.phase }, { on := 21, ground := Ground.phase }, { on := 22, ground := Ground.phase }], guard := none }) rfl (fun K hK => ?_) AllReadyH.nil
  have hS3' := hS3
  obtain ⟨_, _, _, _, _, _, ⟨cs, h7, hb3⟩, hB3⟩ := hS3
  obtain ⟨x0, x1, x2, x3, x4, x5, x6, rfl⟩ : ∃ x0 x1 x2 x3 x4 x5 x6, cs = #[x0, x1, x2, x3, x4, x5, x6] := by
    obtain ⟨l⟩ := cs
    match l, h7 with
    | [a, b, c, d, e, f, g], _ => exact ⟨a, b, c, d, e, f, g, rfl⟩
  have k0 : ∀ i, w3.cell? ⟨w.heap.size, i, none⟩ = #[x0, x1, x2, x3, x4, x5, x6][i]? := fun i => by simp [World.cell?, hb3]
  have k1 : ∀ i, w3.frozen? ⟨w.heap.size, i, none⟩ = false := fun i => by simp [World.frozen?, hb3]
  go_simp
  obtain ⟨w4, hw4, hb4, hB4, hK4⟩ := set7 w w3 _ x0 x1 x2 x3 x4 x5 x6 (.int .i64 S[j].kind) (.int .i64 S[j].space) (.string NM) (.slice p3 S[j].attrs.length c3) (.string TX) (.int .i64 0) (.slice none 0 0) hb3 hB3
  rw [hw4]
  have hA4 := hA3.kept (hK4 (fun b => w.heap.size < b) (fun b k => by omega))
  have HA4 := Lib.hid hA4
  have HB4 := Lib.hid hB4
  have HS4 := Lib.hid (HKY.out w4 _ rfl hb4 hB4)
  clear hA4 hA3 hB4 hK4 hS3' hB3 hw4
  refine hK.out _ _ (by exact HS4.out) (fun hHeld => ?_)
  clear hK K
  refine wpAnyH_done (by kernel_rfl) ?_ _
  go_wp2_with fail
  exact bodyPost_ret (results_cell_row rfl _ _ _ _ _ _ _ rfl hb4 Try.underlying48 rfl (by kernel_rfl)) rfl ⟨p3, c3, rfl, HA4.out.mono (fun x k _ => by omega), HB4.out⟩
end Go.Proofs.Ytbadckkcjjfnoaa
