/-
  The walks of the program's leave, Drop, Pop. Any Site.
-/
import Derived.Test.YtbadckkcjjfnoaaSWC
namespace Go.Proofs.Ytbadckkcjjfnoaa
open Go.RowKit Go.Maps

variable {M : Nat → Prop} {w w' : World} {B : Nat} {a : SA} {S : List PN} {L : List MK} {R : List EL} {fO : Int → Bool} {fN : List UInt8 → Int} {fo : Bool} {T : Nat}
def openOut (fO : Int → Bool) (x : EL) (n : Int) : Bool := !(x.n == n) && fO n
def nameOut (fN : List UInt8 → Int) (x : EL) (s : List UInt8) : Int := fN s - (if (x.html && (x.name == s)) = true then 1 else 0)
/-- The number is taken out of the map. -/
theorem SiteQ.openDel (h : SiteQ M w B a S L R fO fN fo) (n : Int) (h0 : -9223372036854775808 ≤ n) (h1 : n ≤ 9223372036854775807) :
    ∃ w', (∀ ty, (Builtin.delete_ #[ 118 , 3 ] ty #[.map (some a.mo), .int .i64 n]).run Try.prog w = .ok (.tuple #[]) w') ∧ SiteQ M w' B { a with DO := a.DO.del (.int .i64 n) } S L R (fun m => !(n == m) && fO m) fN fo ∧ Turns M w w' := by
  have hd := fun ty => h.om.drop law_i Try.underlying118 (key_i h0 h1) ty
  obtain ⟨w', hrun, ho, hg⟩ := hd 3
  have := h.openStep (fO' := fun m => !(n == m) && fO m) ho hg.grown (fun m => by
    by_cases e : m = n
    · subst e
      rw [has_del_same]
      simp
    · rw [has_del_other (by intro q; injection q with _ q; exact e q), h.opens m]
      have : (n == m) = false := by simpa using fun q => e q.symm
      rw [this]
      rfl)
  refine ⟨w', fun ty => ?_, this.1, this.2⟩
  rw [← hrun]
  rfl
/-- A name that is counted no more is taken out of the map. -/
theorem SiteQ.nameDel (h : SiteQ M w B a S L R fO fN fo) (s : List UInt8) (hs : s.length ≤ 4294967296) (h0 : fN s = 0) :
    ∃ w', (∀ ty, (Builtin.delete_ #[ 119 , 9 ] ty #[.map (some a.mn), .string ⟨s.toArray⟩]).run Try.prog w = .ok (.tuple #[]) w') ∧ SiteQ M w' B { a with DN := a.DN.del (.string s) } S L R fO fN fo ∧ Turns M w w' := by
  have hd := fun ty => h.nm.drop law_s Try.underlying119 (key_s hs) ty
  obtain ⟨w', hrun, ho, hg⟩ := hd 3
  have := h.nameStep (fN' := fN) ho hg.grown (fun t => by
    by_cases e : t = s
    · subst e
      rw [atKey_del_same, h0]
    · rw [atKey_del_other (by intro q; injection q with q; exact e q)]
      exact h.names t)
  refine ⟨w', fun ty => ?_, this.1, this.2⟩
  rw [← hrun]
  rfl
theorem SiteQ.roomedN {W W3 : World} {v' : Value} {R' : List EL} {K : Nat} (h : SiteQ M w B a S L R fO fN fo) (hm : ∀ b, M b → b < w.heap.size) (hb : Below w.heap.size w W) (hs : W.heap.size = K) (hK : w.heap.size < K) (hr : W3.ownsRow 0 125 3 v' R'.length (elCells R')) (hg : W.grownBy W3 a.v.ownBlock) (hl : ∀ g, v'.ownBlock = some g → a.v.ownBlock = some g ∨ W.heap.size ≤ g) :
    W3.cell? ⟨B, 2, none⟩ = some a.v ∧ W3.frozen? ⟨B, 2, none⟩ = false ∧ B < W3.heap.size ∧ SiteQ (fun b => M b ∨ K ≤ b) (W3.setCell ⟨B, 2, none⟩ v') B { a with v := v' } S L R' fO fN fo ∧ Turns M w (W3.setCell ⟨B, 2, none⟩ v') ∧ (W3.setCell ⟨B, 2, none⟩ v').heap[w.heap.size]? = W.heap[w.heap.size]? := by
  have h1 := h.below hb
  obtain ⟨k1, k2⟩ := h1.rowStep hg hr hl
  have hBv : some B ≠ a.v.ownBlock := fun e => (h.rM B e.symm).2.1 rfl
  have hB1 : W3.heap[B]? = W.heap[B]? := hg.block B h1.lt hBv
  have hT : Turns M w (W3.setCell ⟨B, 2, none⟩ v') := (Turns.of_below hb).trans (k2.mono fun b _ k => .inl k)
  refine ⟨?_, ?_, ?_, k1.mono ?_, hT, ?_⟩
  · rw [World.cell?_of_block (w := W) hB1]; exact h1.c2
  · rw [World.frozen?_of_block (w := W) hB1]; exact h1.free 2
  · exact Nat.lt_of_lt_of_le h1.lt hg.size
  · intro b _ k
    rcases k with k | k
    · exact .inl k
    · exact .inr (by omega)
  · exact k2.block _ (by omega) (fun k => absurd (hm _ k) (by omega))
/-- What leave does. -/
def LeaveOut (M : Nat → Prop) (w : World) (B : Nat) (a : SA) (S : List PN) (L : List MK) (R' : List EL) (fO : Int → Bool) (fN : List UInt8 → Int) (fo : Bool) (x : EL) (e : Ending) (w' : World) : Prop := e = .returned (.tuple #[]) ∧ Turns M w w' ∧ ∃ a', SiteQ (New M w) w' B a' S L R' (openOut fO x) (nameOut fN x) fo ∧ a'.no = a.no ∧ a'.nn ≤ a.nn + 1
set_option maxHeartbeats 2000000 in
set_option maxRecDepth 100000 in
theorem sleaveP (h : SiteQ M w B a S L R fO fN fo) (i m : Nat) (hi : i < R.length) (hm : R.length = m + 1) (hr : R.length ≤ 4294967296) (hn2 : a.nn < maxLen) (hx0 : -9223372036854775808 ≤ R[i].n) (hx1 : R[i].n ≤ 9223372036854775807) (hxn : R[i].name.length ≤ 4294967296) (hf : ∀ s, 0 ≤ fN s ∧ fN s ≤ 4294967296) :
    Calls Try.prog 146 #[.pointer (some ⟨B, 0, none⟩), .int .i64 (i : Int)] w (LeaveOut M w B a S L (R.eraseIdx i) fO fN fo R[i]) := by
  obtain ⟨g, cap, e⟩ := h.pos (by omega)
  have h0 : SiteQ (fun b => M b ∧ b < w.heap.size) w B a S L R fO fN fo := h.mono (fun b hb k => ⟨k, hb⟩)
  have c2 := h.c2
  rw [e] at c2
  have hB := h.lt
  obtain ⟨hg, x0, x1, x2⟩ := h.el e i hi
  have j0 : (0 : Int) ≤ (i : Int) := by omega
  have j1 : (i : Int) < (R.length : Int) := by omega
  have HQ := Lib.hid h0
  have HF := Lib.hid hf
  have HBW : Hid (Below w.heap.size w (w.alloc (elObj R[i]))) := Lib.hid ((Below.refl _ w).alloc (Nat.le_refl _) _)
  have HX : Hid ((w.alloc (elObj R[i])).heap[w.heap.size]? = some (elObj R[i])) := Lib.hid (heap_alloc_new w _)
  have HS : Hid ((w.alloc (elObj R[i])).heap.size = w.heap.size + 1) := Lib.hid (by simp)
  have HL : Hid ((R.eraseIdx i).length = m) := Lib.hid (by rw [List.length_eraseIdx, if_pos hi, hm]; rfl)
  have c2' : (w.alloc (elObj R[i])).cell? ⟨B, 2, none⟩ = some (.slice (some ⟨g, 0, none⟩) R.length cap) := by rw [(h.below HBW.out).c2, e]
  have hB' : B < (w.alloc (elObj R[i])).heap.size := (h.below HBW.out).lt
  have HD : Hid (Calls Try.prog 157 #[.slice (some ⟨g, 0, none⟩) (m + 1) cap, .int .i64 (i : Int), .int .i64 ((i : Int) + 1)] (w.alloc (elObj R[i])) (fun e W3 => e = .returned (.slice (some ⟨g, 0, none⟩) m cap) ∧ W3.cell? ⟨B, 2, none⟩ = some (.slice (some ⟨g, 0, none⟩) R.length cap) ∧ W3.frozen? ⟨B, 2, none⟩ = false ∧ B < W3.heap.size ∧ SiteQ (fun b => (M b ∧ b < w.heap.size) ∨ w.heap.size + 1 ≤ b) (W3.setCell ⟨B, 2, none⟩ (.slice (some ⟨g, 0, none⟩) m cap)) B { a with v := .slice (some ⟨g, 0, none⟩) m cap } S L (R.eraseIdx i) fO fN fo ∧ Turns (fun b => M b ∧ b < w.heap.size) w (W3.setCell ⟨B, 2, none⟩ (.slice (some ⟨g, 0, none⟩) m cap)) ∧ (W3.setCell ⟨B, 2, none⟩ (.slice (some ⟨g, 0, none⟩) m cap)).heap[w.heap.size]? = some (elObj R[i]))) := Lib.hid (by
    have hrow := (h0.below HBW.out).row
    rw [e, hm] at hrow
    refine (sdelP R g (m + 1) m cap i _ hrow hm rfl (by omega) (by omega)).mono ?_
    rintro e' W3 ⟨rfl, hr3, hg3⟩
    have hv : a.v.ownBlock = some g := by rw [e]; rfl
    rw [← HL.out] at hr3
    obtain ⟨q1, q2, q3, q4, q5, q6⟩ := h0.roomedN (fun _ k => k.2) HBW.out HS.out (by omega) (R' := R.eraseIdx i) (v' := .slice (some ⟨g, 0, none⟩) (R.eraseIdx i).length cap) hr3 (by rw [hv]; exact hg3) (fun g' k => .inl (by rw [hv]; exact k))
    rw [HL.out] at q4 q5 q6
    rw [e] at q1
    exact ⟨rfl, q1, q2, q3, q4, q5, q6.trans HX.out⟩)
  rw [hm] at HD c2'
  clear h h0 hf
  unfold elObj at HBW HX HS c2' hB' HD
  obtain ⟨R', hR'⟩ : ∃ R', R' = R.eraseIdx i := ⟨_, rfl⟩
  rw [← hR'] at HD HL ⊢
  clear hR' e
  generalize R[i] = x at *
  generalize hNM : (⟨x.name.toArray⟩ : ByteArray) = NM at *
  have HNM := Lib.hid hNM
  clear hNM
  go_enter Try.func146, Try.ntmps146
  go_wp2_with fail
  refine HD.out.mono ?_
  rintro e W3 ⟨rfl, k5, f5, s5, hp5⟩
  have HP := Lib.hid hp5
  clear hp5 HD HBW HX HS c2' hB' HQ
  go_wp2_with fail
  obtain ⟨hq5, ht5, hx5⟩ := HP.out
  rw [← HNM.out] at hx5
  replace hx5 : (W3.setCell ⟨B, 2, none⟩ (.slice (some ⟨g, 0, none⟩) m cap)).heap[w.heap.size]? = some (elObj x) := hx5
  clear HP k5 f5 s5 x0 x1 x2 c2 hm
  generalize W3.setCell ⟨B, 2, none⟩ (.slice (some ⟨g, 0, none⟩) m cap) = W5 at *
  obtain ⟨W6, hrun6, hq6, ht6⟩ := (hq5.below ((Below.refl _ W5).drew)).openDel x.n hx0 hx1
  have hr6 : ∀ ty, (Builtin.delete_ #[ 118 , 3 ] ty #[.map (some a.mo), .int .i64 x.n]).run Try.prog W5.drew = .ok (.tuple #[]) W6 := hrun6
  have c3 : W5.cell? ⟨B, 3, none⟩ = some (.map (some a.mo)) := hq5.c3
  have d3 : W5.drew.cell? ⟨B, 3, none⟩ = some (.map (some a.mo)) := hq5.c3
  have hBl := hq5.lt
  obtain ⟨hxl, x0, -, -⟩ := elObj_at hx5
  have y0 : W5.drew.cell? ⟨w.heap.size, 0, none⟩ = some (.int .i64 x.n) := x0
  have HX6 : Hid (W6.heap[w.heap.size]? = some (elObj x)) := Lib.hid ((ht6.block _ hxl (by rintro (k | k) <;> omega)).trans hx5)
  have HT6 : Hid (Turns M w W6) := Lib.hid ((ht5.trans (((Turns.of_below ((Below.refl _ W5).drew)).trans (ht6.mono fun b _ k => .inl k)).mono (fun b _ k => k.imp id (fun q => by omega)))).mono (fun b _ k => k.1))
  have HQ6 := Lib.hid hq6
  have HH6 := Lib.hid (ehtmlP w.heap.size 0 x W6 (elObj_at HX6.out))
  clear hq5 ht5 hx5 hrun6 hq6 ht6
  go_wp2_with fail
  go_still_tail 6, (by kernel_rfl)
  go_wp2_with fail
  refine HH6.out.mono ?_
  rintro e w9 ⟨rfl, rfl⟩
  cases hh : x.html
  · have HN : Hid (nameOut fN x = fN) := Lib.hid (by funext s; unfold nameOut; rw [hh]; simp)
    clear hh
    go_wp2_with fail
    refine bodyPost_ret (results_none rfl _ _ _) rfl ⟨rfl, HT6.out, ?_⟩
    have q := HQ6.out.mono (N := New M w) (fun b _ k => k.elim (fun q => .inl q.1) (fun q => .inr (by omega)))
    rw [HN.out]
    exact ⟨_, q, rfl, Nat.le_add_right _ _⟩
  · have HN : Hid ((fun t => if x.name = t then fN x.name - 1 else fN t) = nameOut fN x) := Lib.hid (by
      funext t
      unfold nameOut
      rw [hh, Bool.true_and]
      by_cases q : x.name = t
      · rw [if_pos q, if_pos (by rw [q]; exact beq_self_eq_true _), q]
      · rw [if_neg q, if_neg (by simpa using q)]
        omega)
    have hf := HF.out x.name
    have h6 := HQ6.out.below ((Below.refl _ W6).drew)
    have hl7 : (Instr.lookup 119 (.map (some a.mn)) (.string ⟨x.name.toArray⟩) false).run Try.prog W6.drew = .ok (.int .i64 (fN x.name)) W6.drew := h6.nameGet x.name hxn
    obtain ⟨W7, hrun7, hq7, ht7⟩ := h6.namePut x.name (fN x.name - 1) hn2 hxn (WalkArith.wf_i64 (by omega))
    have hr7 : (Instr.mapUpdate 119 (.map (some a.mn)) (.string ⟨x.name.toArray⟩) (.int .i64 (IntKind.i64.wrap (fN x.name - 1)))).run Try.prog W6.drew = .ok () W7 := by rw [IntWalk.i64_in _ (by omega)]; exact hrun7
    have c4 : W6.cell? ⟨B, 4, none⟩ = some (.map (some a.mn)) := HQ6.out.c4
    have d4 : W6.drew.cell? ⟨B, 4, none⟩ = some (.map (some a.mn)) := HQ6.out.c4
    obtain ⟨hxl6, _, _, x2⟩ := elObj_at HX6.out
    have y2 : W6.drew.cell? ⟨w.heap.size, 2, none⟩ = some (.string ⟨x.name.toArray⟩) := x2
    have hBl6 := HQ6.out.lt
    have HT7 : Hid (Turns M w W7) := Lib.hid (HT6.out.trans (((Turns.of_below ((Below.refl _ W6).drew)).trans (ht7.mono fun b _ k => .inl k)).mono (fun b _ k => k.elim (fun q => .inl q.1) (fun q => .inr (by omega)))))
    have HX7 : Hid (W7.heap[w.heap.size]? = some (elObj x)) := Lib.hid ((ht7.block _ hxl6 (by rintro (k | k) <;> omega)).trans HX6.out)
    have HQ7 := Lib.hid hq7
    -- the second look
    have h7 := HQ7.out.below ((Below.refl _ W7).drew)
    have hl8 : (Instr.lookup 119 (.map (some a.mn)) (.string ⟨x.name.toArray⟩) false).run Try.prog W7.drew = .ok (.int .i64 (fN x.name - 1)) W7.drew := by
      have := h7.nameGet x.name hxn
      simp only [if_pos] at this
      exact this
    have c47 : W7.cell? ⟨B, 4, none⟩ = some (.map (some a.mn)) := HQ7.out.c4
    have d47 : W7.drew.cell? ⟨B, 4, none⟩ = some (.map (some a.mn)) := HQ7.out.c4
    obtain ⟨hxl7, _, _, x27⟩ := elObj_at HX7.out
    have y27 : W7.drew.cell? ⟨w.heap.size, 2, none⟩ = some (.string ⟨x.name.toArray⟩) := x27
    have hBl7 := HQ7.out.lt
    clear hh hf h6 hrun7 hq7 ht7
    by_cases k1 : fN x.name = 1
    · have q1 : (fN x.name - 1 == 0) = true := by simp [k1]
      have h77 := h7.below ((Below.refl _ W7.drew).drew)
      obtain ⟨W8, hrun8, hq8, ht8⟩ := h77.nameDel x.name hxn (by simp only [if_pos]; omega)
      have hr8 : ∀ ty, (Builtin.delete_ #[ 119 , 9 ] ty #[.map (some a.mn), .string ⟨x.name.toArray⟩]).run Try.prog W7.drew.drew = .ok (.tuple #[]) W8 := hrun8
      have c48 : W7.drew.drew.cell? ⟨B, 4, none⟩ = some (.map (some a.mn)) := HQ7.out.c4
      have y28 : W7.drew.drew.cell? ⟨w.heap.size, 2, none⟩ = some (.string ⟨x.name.toArray⟩) := x27
      have HT8 : Hid (Turns M w W8) := Lib.hid (HT7.out.trans (((Turns.of_below ((Below.refl _ W7).drew.drew)).trans (ht8.mono fun b _ k => .inl k)).mono (fun b _ k => k.elim (fun q => .inl q.1) (fun q => .inr (by omega)))))
      have HQ8 := Lib.hid hq8
      clear h7 h77 hrun8 hq8 ht8 k1
      generalize (⟨x.name.toArray⟩ : ByteArray) = NB at *
      generalize fN x.name = C at *
      go_wp2_with fail
      go_region_with (fail)
      all_goals
        go_wp2_with fail
        go_region_with (fail)
        all_goals
          have hB9 : B < W7.drew.heap.size := hBl7
          have hx9 : w.heap.size < W7.drew.heap.size := hxl7
          generalize W7.drew = W9 at *
          go_wp2_with fail
          go_still_tail 6, (by kernel_rfl)
          go_wp2_with fail
          refine bodyPost_end (results_none rfl _ _ _) rfl ⟨rfl, HT8.out, ?_⟩
          have q := HQ8.out.mono (N := New M w) (fun b _ k => k.elim (fun q => .inl q.1) (fun q => .inr (by omega)))
          rw [HN.out] at q
          exact ⟨_, q, rfl, Nat.le_refl _⟩
    · have q1 : (fN x.name - 1 == 0) = false := beq_eq_false_iff_ne.2 (by omega)
      clear h7 k1
      generalize (⟨x.name.toArray⟩ : ByteArray) = NB at *
      generalize fN x.name = C at *
      go_wp2_with fail
      go_region_with (fail)
      all_goals
        go_wp2_with fail
        go_region_with (fail)
        all_goals
          go_wp2_with fail
          refine bodyPost_end (results_none rfl _ _ _) rfl ⟨rfl, HT7.out.trans (Turns.of_below ((Below.refl _ W7).drew)), ?_⟩
          have q := (HQ7.out.below ((Below.refl _ W7).drew)).mono (N := New M w) (fun b _ k => k.elim (fun q => .inl q.1) (fun q => .inr (by omega)))
          rw [HN.out] at q
          exact ⟨_, q, rfl, Nat.le_refl _⟩
end Go.Proofs.Ytbadckkcjjfnoaa
