/-
  The walk of the program's enter. Any Site.
-/
import Derived.Test.YtbadckkcjjfnoaaSW6
namespace Go.Proofs.Ytbadckkcjjfnoaa
open Go.RowKit Go.Maps

variable {M : Nat → Prop} {w w' : World} {B : Nat} {a : SA} {S : List PN} {L : List MK} {R : List EL} {fO : Int → Bool} {fN : List UInt8 → Int} {fo : Bool}
def elV (x : EL) : Value := .agg #[.int .i64 x.n, .int .i64 x.space, .string ⟨x.name.toArray⟩]
def elObj (x : EL) : Obj := .cells #[.int .i64 x.n, .int .i64 x.space, .string ⟨x.name.toArray⟩] 125
def openIn (fO : Int → Bool) (x : EL) (n : Int) : Bool := (x.n == n) || fO n
def nameIn (fN : List UInt8 → Int) (x : EL) (s : List UInt8) : Int := (if (x.html && (x.name == s)) = true then 1 else 0) + fN s
/-- The number is put into the map. -/
theorem SiteQ.openPut (h : SiteQ M w B a S L R fO fN fo) (n : Int) (hn : a.no < maxLen) (h0 : -9223372036854775808 ≤ n) (h1 : n ≤ 9223372036854775807) :
    ∃ w', (Instr.mapUpdate 118 (.map (some a.mo)) (.int .i64 n) (.agg #[])).run Try.prog w = .ok () w' ∧ SiteQ M w' B { a with DO := a.DO.put (.int .i64 n) (.agg []), no := a.no + 1 } S L R (fun m => (n == m) || fO m) fN fo ∧ Turns M w w' := by
  obtain ⟨w', hrun, ho, hg⟩ := h.om.update law_i Try.underlying118 hn (key_i h0 h1) unitElem_mk
  have := h.openStep (fO' := fun m => (n == m) || fO m) ho hg (fun m => by
    by_cases e : m = n
    · subst e
      rw [has_put_same h.om.isMap (law_i.key (key_i h0 h1))]
      simp
    · rw [has_put_other (by intro q; injection q with _ q; exact e q), h.opens m]
      have : (n == m) = false := by simpa using fun q => e q.symm
      rw [this, Bool.false_or])
  exact ⟨w', hrun, this.1, this.2⟩
/-- A name is counted once more, or once less. -/
theorem SiteQ.namePut (h : SiteQ M w B a S L R fO fN fo) (s : List UInt8) (c : Int) (hn : a.nn < maxLen) (hs : s.length ≤ 4294967296) (hc : (Lit.int .i64 c).wf = true) :
    ∃ w', (Instr.mapUpdate 119 (.map (some a.mn)) (.string ⟨s.toArray⟩) (.int .i64 c)).run Try.prog w = .ok () w' ∧ SiteQ M w' B { a with DN := a.DN.put (.string s) (.lit (.int .i64 c)), nn := a.nn + 1 } S L R fO (fun t => if s = t then c else fN t) fo ∧ Turns M w w' := by
  obtain ⟨w', hrun, ho, hg⟩ := h.nm.update law_s Try.underlying119 hn (key_s hs) (plainElem_int Try.underlying3 hc)
  have := h.nameStep (fN' := fun t => if s = t then c else fN t) ho hg (fun t => by
    by_cases e : s = t
    · subst e
      rw [atKey_put_same h.nm.isMap (law_s.key (key_s hs)), if_pos rfl]
    · rw [atKey_put_other (by intro q; injection q with q; exact e q.symm), if_neg e]
      exact h.names t)
  exact ⟨w', hrun, this.1, this.2⟩
/-- What the map says of a name. -/
theorem SiteQ.nameGet (h : SiteQ M w B a S L R fO fN fo) (s : List UInt8) (hs : s.length ≤ 4294967296) : (Instr.lookup 119 (.map (some a.mn)) (.string ⟨s.toArray⟩) false).run Try.prog w = .ok (.int .i64 (fN s)) w := by
  obtain ⟨c, hrun, hat, _⟩ := h.nm.lookup_int law_s Try.underlying119 Try.underlying3 (zero_i _) (key_s hs)
  rw [h.names s] at hat
  rw [lit_inj hat]
  exact hrun
/-- What stands behind the row's turn, wherever that came. -/
theorem SiteQ.roomed {W W3 : World} {v' : Value} {R' : List EL} (h : SiteQ M w B a S L R fO fN fo) (hm : ∀ b, M b → b < w.heap.size) (hb : Below w.heap.size w W) (hs : W.heap.size = w.heap.size + 2) (hr : W3.ownsRow 0 125 3 v' R'.length (elCells R')) (hg : W.grownBy W3 a.v.ownBlock) (hl : ∀ g, v'.ownBlock = some g → a.v.ownBlock = some g ∨ W.heap.size ≤ g) :
    W3.cell? ⟨B, 2, none⟩ = some a.v ∧ W3.frozen? ⟨B, 2, none⟩ = false ∧ B < W3.heap.size ∧ SiteQ (fun b => M b ∨ w.heap.size + 2 ≤ b) (W3.setCell ⟨B, 2, none⟩ v') B { a with v := v' } S L R' fO fN fo ∧ Turns M w (W3.setCell ⟨B, 2, none⟩ v') ∧ (W3.setCell ⟨B, 2, none⟩ v').heap[w.heap.size]? = W.heap[w.heap.size]? := by
  have h1 := h.below hb
  obtain ⟨k1, k2⟩ := h1.rowStep hg hr hl
  have hBv : some B ≠ a.v.ownBlock := fun e => (h.rM B e.symm).2.1 rfl
  have hB1 : W3.heap[B]? = W.heap[B]? := hg.block B h1.lt hBv
  have hT : Turns M w (W3.setCell ⟨B, 2, none⟩ v') := (Turns.of_below hb).trans (k2.mono fun b _ k => .inl k)
  refine ⟨?_, ?_, ?_, k1.mono ?_, hT, ?_⟩
  · rw [World.cell?_of_block (w := W) hB1]; exact h1.c2
  · rw [World.frozen?_of_block (w := W) hB1]; exact h1.free 2
  · exact Nat.lt_of_lt_of_le h1.lt hg.size
  · intro b _ k
    rcases k with k | k
    · exact .inl k
    · exact .inr (by omega)
  · exact k2.block _ (by omega) (fun k => absurd (hm _ k) (by omega))
/-- What enter does. -/
def EnterOut (M : Nat → Prop) (w : World) (B : Nat) (a : SA) (S : List PN) (L : List MK) (R' : List EL) (fO : Int → Bool) (fN : List UInt8 → Int) (fo : Bool) (x : EL) (e : Ending) (w' : World) : Prop := e = .returned (.tuple #[]) ∧ Turns M w w' ∧ ∃ a', SiteQ (New M w) w' B a' S L R' (openIn fO x) (nameIn fN x) fo ∧ a'.no = a.no + 1 ∧ a'.nn ≤ a.nn + 1
theorem blk_cell {w : World} {g : Nat} {cs : Array Value} {t : TypeId} (h : w.heap[g]? = some (.cells cs t (0, 0))) (i : Nat) : w.cell? ⟨g, i, none⟩ = cs[i]? := by simp [World.cell?, h]
theorem elObj_at {W : World} {b : Nat} {x : EL} (h : W.heap[b]? = some (elObj x)) : ElAt W b 0 x := by
  have hc := fun i => blk_cell (cs := #[.int .i64 x.n, .int .i64 x.space, .string ⟨x.name.toArray⟩]) h i
  exact ⟨heap_lt h, (hc 0).trans rfl, (hc 1).trans rfl, (hc 2).trans rfl⟩
set_option maxHeartbeats 2000000 in
set_option maxRecDepth 100000 in
theorem senter_of (h : SiteQ M w B a S L R fO fN fo) (x : EL) (i : Nat) (R' : List EL) (hn : a.no < maxLen) (hn2 : a.nn < maxLen) (hx0 : -9223372036854775808 ≤ x.n) (hx1 : x.n ≤ 9223372036854775807) (hxn : x.name.length ≤ 4294967296) (hf : ∀ s, 0 ≤ fN s ∧ fN s ≤ 4294967296) (hR : 0 < R'.length)
    (hins : ∀ (W : World) (b : Nat), W.ownsRow 0 125 3 a.v R.length (elCells R) → W.heap[b]? = some (elObj x) → Calls Try.prog 132 #[a.v, .int .i64 (i : Int), .slice (some ⟨b, 0, none⟩) 1 1] W (InsOut a.v R' W)) :
    Calls Try.prog 106 #[.pointer (some ⟨B, 0, none⟩), .int .i64 (i : Int), elV x] w (EnterOut M w B a S L R' fO fN fo x) := by
  have h0 : SiteQ (fun b => M b ∧ b < w.heap.size) w B a S L R fO fN fo := h.mono (fun b hb k => ⟨k, hb⟩)
  have HQ := Lib.hid h0
  have HINS := Lib.hid hins
  have HF := Lib.hid hf
  have HBW : Hid (Below w.heap.size w (w.alloc (elObj x))) := Lib.hid ((Below.refl _ w).alloc (Nat.le_refl _) _)
  have c2 : (w.alloc (elObj x)).cell? ⟨B, 2, none⟩ = some a.v := (h.below HBW.out).c2
  have hB1 : B < (w.alloc (elObj x)).heap.size := (h.below HBW.out).lt
  have HX : Hid ((w.alloc (elObj x)).heap[w.heap.size]? = some (elObj x)) := Lib.hid (heap_alloc_new w _)
  have HS : Hid ((w.alloc (elObj x)).heap.size = w.heap.size + 1) := Lib.hid (by simp)
  clear h h0 hins hf
  unfold elV
  go_enter Try.func106, Try.ntmps106
  unfold elObj at c2 hB1 HX HS HBW
  go_wp2_with fail
  generalize w.alloc (.cells #[.int .i64 x.n, .int .i64 x.space, .string ⟨x.name.toArray⟩] 125) = w1 at *
  have x0 := blk_cell HX.out 0
  have x1 := blk_cell HX.out 1
  have x2 := blk_cell HX.out 2
  have hs1 : w.heap.size < w1.heap.size := by have := HS.out; omega
  simp at x0 x1 x2
  have HIA : Hid (∀ W, Below w1.heap.size w1 W → W.heap.size = w.heap.size + 2 → W.heap[w1.heap.size]? = some (elObj x) → Calls Try.prog 132 #[a.v, .int .i64 (i : Int), .slice (some ⟨w1.heap.size, 0, none⟩) 1 1] W (fun e W3 => ∃ p n c, e = .returned (.slice p n c) ∧ W3.cell? ⟨B, 2, none⟩ = some a.v ∧ W3.frozen? ⟨B, 2, none⟩ = false ∧ B < W3.heap.size ∧ SiteQ (fun b => (M b ∧ b < w.heap.size) ∨ w.heap.size + 2 ≤ b) (W3.setCell ⟨B, 2, none⟩ (.slice p n c)) B { a with v := .slice p n c } S L R' fO fN fo ∧ Turns (fun b => M b ∧ b < w.heap.size) w (W3.setCell ⟨B, 2, none⟩ (.slice p n c)) ∧ (W3.setCell ⟨B, 2, none⟩ (.slice p n c)).heap[w.heap.size]? = some (elObj x))) := Lib.hid fun W hb hs he => by
    have hbw : Below w.heap.size w W := HBW.out.trans (hb.mono (by omega))
    refine (HINS.out W _ (HQ.out.below hbw).row he).mono ?_
    rintro e W3 ⟨v', rfl, hr3, hg3, hl3⟩
    obtain ⟨q1, q2, q3, q4, q5, q6⟩ := HQ.out.roomed (fun _ k => k.2) hbw hs hr3 hg3 hl3
    obtain ⟨g1, c1, rfl⟩ := Joins.ownsRow_form hr3 hR
    exact ⟨_, _, _, rfl, q1, q2, q3, q4, q5, q6.trans ((hb.block _ hs1).trans HX.out)⟩
  unfold elObj at HIA
  obtain ⟨NM, hNM⟩ : ∃ NM : ByteArray, (⟨x.name.toArray⟩ : ByteArray) = NM := ⟨_, rfl⟩
  have HNM := Lib.hid hNM
  rw [hNM] at HIA HX x2 ⊢
  clear hNM
  have HOB : Hid (∀ W, Below w1.heap.size w1 W → Below w.heap.size w W) := Lib.hid fun W b => HBW.out.trans (b.mono (by have := HS.out; omega))
  go_region_with (refine (HIA.out _ (by first | exact ((Below.refl _ w1).drew.alloc (by simp) _) | exact ((Below.refl _ w1).alloc (by simp) _).drew | exact ((Below.refl _ w1).alloc (by simp) _)) (by have := HS.out; simp; omega) (by exact heap_alloc_new w1 _)).mono ?_; rintro e W3 ⟨p, n, c, rfl, k5, f5, s5, hp5⟩; have HP := Lib.hid hp5; clear hp5)
  all_goals as_aux_lemma =>
    obtain ⟨hq5, ht5, hx5⟩ := HP.out
    rw [← HNM.out] at hx5
    replace hx5 : (W3.setCell ⟨B, 2, none⟩ (.slice p n c)).heap[w.heap.size]? = some (elObj x) := hx5
    generalize W3.setCell ⟨B, 2, none⟩ (.slice p n c) = W5 at *
    clear HP k5 f5 s5 HIA HINS HQ HX HS HBW x0 x1 x2 c2 hB1
    obtain ⟨W6, hrun6, hq6, ht6⟩ := (hq5.below ((Below.refl _ W5).drew)).openPut x.n hn hx0 hx1
    have hr6 : (Instr.mapUpdate 118 (.map (some a.mo)) (.int .i64 x.n) (.agg #[])).run Try.prog W5.drew = .ok () W6 := hrun6
    have c3 : W5.cell? ⟨B, 3, none⟩ = some (.map (some a.mo)) := hq5.c3
    have d3 : W5.drew.cell? ⟨B, 3, none⟩ = some (.map (some a.mo)) := hq5.c3
    have hBl := hq5.lt
    obtain ⟨hxl, x0, x1, x2⟩ := elObj_at hx5
    have y0 : W5.drew.cell? ⟨w.heap.size, 0, none⟩ = some (.int .i64 x.n) := x0
    have HX6 : Hid (W6.heap[w.heap.size]? = some (elObj x)) := Lib.hid ((ht6.block _ hxl (by rintro (k | k) <;> omega)).trans hx5)
    have HT6 : Hid (Turns M w W6) := Lib.hid ((ht5.trans (((Turns.of_below ((Below.refl _ W5).drew)).trans (ht6.mono fun b _ k => .inl k)).mono (fun b _ k => k.imp id (fun q => by omega)))).mono (fun b _ k => k.1))
    have HQ6 := Lib.hid hq6
    clear hq5 ht5 hx5 hrun6 hq6 ht6
    clear x1 x2
    have HH6 := Lib.hid (ehtmlP w.heap.size 0 x W6 (elObj_at HX6.out))
    go_wp2_with fail
    go_still_tail 7, (by kernel_rfl)
    go_wp2_with fail
    refine HH6.out.mono ?_
    rintro e w9 ⟨rfl, rfl⟩
    cases hh : x.html
    · have HN : Hid (nameIn fN x = fN) := Lib.hid (by funext s; unfold nameIn; rw [hh]; simp)
      clear hh
      go_wp2_with fail
      refine bodyPost_end (results_none rfl _ _ _) rfl ⟨rfl, HT6.out, ?_⟩
      have q := HQ6.out.mono (N := New M w) (fun b _ k => k.elim (fun q => .inl q.1) (fun q => .inr (by omega)))
      rw [HN.out]
      exact ⟨_, q, rfl, Nat.le_add_right _ _⟩
    · have HN : Hid (∀ t, (if x.name = t then fN x.name + 1 else fN t) = nameIn fN x t) := Lib.hid (by
        intro t
        unfold nameIn
        rw [hh, Bool.true_and]
        by_cases q : x.name = t
        · rw [if_pos q, if_pos (by rw [q]; exact beq_self_eq_true _), q]
          omega
        · rw [if_neg q, if_neg (by simpa using q)]
          omega)
      have hf := HF.out x.name
      have h6 := HQ6.out.below ((Below.refl _ W6).drew)
      have hl7 : (Instr.lookup 119 (.map (some a.mn)) (.string ⟨x.name.toArray⟩) false).run Try.prog W6.drew = .ok (.int .i64 (fN x.name)) W6.drew := h6.nameGet x.name hxn
      obtain ⟨W7, hrun7, hq7, ht7⟩ := h6.namePut x.name (fN x.name + 1) hn2 hxn (WalkArith.wf_i64 (by omega))
      have hr7 : (Instr.mapUpdate 119 (.map (some a.mn)) (.string ⟨x.name.toArray⟩) (.int .i64 (IntKind.i64.wrap (fN x.name + 1)))).run Try.prog W6.drew = .ok () W7 := by rw [IntWalk.i64_in _ (by omega)]; exact hrun7
      have c4 : W6.cell? ⟨B, 4, none⟩ = some (.map (some a.mn)) := HQ6.out.c4
      have d4 : W6.drew.cell? ⟨B, 4, none⟩ = some (.map (some a.mn)) := HQ6.out.c4
      obtain ⟨hxl6, _, _, x2⟩ := elObj_at HX6.out
      have y2 : W6.drew.cell? ⟨w.heap.size, 2, none⟩ = some (.string ⟨x.name.toArray⟩) := x2
      have hBl6 := HQ6.out.lt
      have HT7 : Hid (Turns M w W7) := Lib.hid (HT6.out.trans (((Turns.of_below ((Below.refl _ W6).drew)).trans (ht7.mono fun b _ k => .inl k)).mono (fun b _ k => k.elim (fun q => .inl q.1) (fun q => .inr (by omega)))))
      have HQ7 := Lib.hid hq7
      clear hh hf h6 hrun7 hq7 ht7
      generalize (⟨x.name.toArray⟩ : ByteArray) = NB at *
      go_wp2_with fail
      go_region_with (fail)
      all_goals
        go_wp2_with fail
        refine bodyPost_end (results_none rfl _ _ _) rfl ⟨rfl, HT7.out, ?_⟩
        have q := HQ7.out.mono (N := New M w) (fun b _ k => k.elim (fun q => .inl q.1) (fun q => .inr (by omega)))
        have e : (fun t => if x.name = t then fN x.name + 1 else fN t) = nameIn fN x := funext HN.out
        rw [e] at q
        exact ⟨_, q, rfl, Nat.le_refl _⟩
end Go.Proofs.Ytbadckkcjjfnoaa
