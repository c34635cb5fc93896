/-
  A Site beside other memory: its blocks told; tables; the walk of the laws' within (chapter 8).
-/
import Derived.Test.YtbadckkcjjfnoaaSWF
namespace Go.Proofs.Ytbadckkcjjfnoaa
open Go.RowKit Go.Maps

/-- A Site that was made since w0, in blocks of M, none of which is newer than W. -/
structure SiteK (w0 W : World) (M : Nat → Prop) (B : Nat) (S : List PN) (L : List MK) (R : List EL) (fo : Bool) (T : Nat) : Prop where
  site : SiteM M W B S L R fo T
  inn : ∀ b, M b → w0.heap.size ≤ b ∧ b < W.heap.size
  below : Below w0.heap.size w0 W
/-- Behind a call. -/
def StepK (w0 W : World) (M : Nat → Prop) (B : Nat) (S : List PN) (L : List MK) (R : List EL) (fo : Bool) (T : Nat) (w' : World) : Prop := ∃ M', SiteK w0 w' M' B S L R fo T ∧ (∀ b, b < W.heap.size → M' b → M b) ∧ Turns M W w'
variable {w0 W w' : World} {M M' : Nat → Prop} {B : Nat} {S S' : List PN} {L L' : List MK} {R R' : List EL} {fo fo' : Bool} {T T' : Nat}
theorem SiteB.k (h : SiteB w0 W B S L R fo T) : SiteK w0 W (fun b => w0.heap.size ≤ b ∧ b < W.heap.size) B S L R fo T := ⟨h.site, fun _ k => k, h.below⟩
theorem SiteK.out {v : Value} {e : Ending} (h : SiteK w0 W M B S L R fo T) (q : SiteOut M W B S' L' R' fo' T' v e w') : e = .returned v ∧ StepK w0 W M B S' L' R' fo' T' w' := by
  obtain ⟨e, d, t⟩ := q
  refine ⟨e, fun b => New M W b ∧ b < w'.heap.size, ⟨d.mono (fun b hb k => ⟨k, hb⟩), ?_, ?_⟩, ?_, t⟩
  · rintro b ⟨k | k, hb⟩
    · exact ⟨(h.inn b k).1, hb⟩
    · exact ⟨Nat.le_trans h.below.size k, hb⟩
  · exact h.below.trans (t.below h.below.size fun b hb k => absurd (h.inn b k).1 (by omega))
  · rintro b hb ⟨k | k, _⟩
    · exact k
    · omega
theorem SiteK.on (h : SiteK w0 W M B S L R fo T) (hb : Below W.heap.size W w') : SiteK w0 w' M B S L R fo T :=
  ⟨h.site.below hb, fun b k => ⟨(h.inn b k).1, Nat.lt_of_lt_of_le (h.inn b k).2 hb.size⟩, h.below.trans (hb.mono h.below.size)⟩
theorem SiteK.b (h : SiteK w0 W M B S L R fo T) : SiteB w0 W B S L R fo T := ⟨h.site.mono (fun b _ k => h.inn b k), h.below⟩
/-- A block beside the Site. -/
def Bes (M : Nat → Prop) (W : World) (b : Nat) (o : Obj) : Prop := ¬ M b ∧ W.heap[b]? = some o
theorem Bes.step {b : Nat} {o : Obj} (h : Bes M W b o) (hs : ∀ b, b < W.heap.size → M' b → M b) (ht : Turns M W w') : Bes M' w' b o :=
  ⟨fun k => h.1 (hs b (heap_lt h.2) k), (ht.block b (heap_lt h.2) h.1).trans h.2⟩
theorem Bes.on {b : Nat} {o : Obj} (h : Bes M W b o) (hb : Below W.heap.size W w') : Bes M w' b o := ⟨h.1, (hb.block b (heap_lt h.2)).trans h.2⟩
theorem Bes.cell {b : Nat} {cs : Array Value} {t : TypeId} (h : Bes M W b (.cells cs t)) (i : Nat) : W.cell? ⟨b, i, none⟩ = cs[i]? := blk_cell h.2 i
theorem kAdd (h : SiteK w0 W M B S L R fo T) (P : Nat → Prop) (sp : Int) (nm : List UInt8) (l : List (List UInt8 × List UInt8)) (v : Value) (ha : AttrsP P W v l) (hl : l.length ≤ 4294967296) (hn : nm.length ≤ 4294967296) (h0 : 0 < R.length) (hr : R.length ≤ 4294967296) (hS : S.length ≤ 4294967295) (hT : T < 4294967296) (f : Nat) (ho : okAdd fo S R sp nm l f = true) :
    Calls Try.prog 48 #[.pointer (some ⟨B, 0, none⟩), .int .i64 sp, .string ⟨nm.toArray⟩, v] W (fun e w' => e = .returned (.int .i64 (S.length : Int)) ∧ StepK w0 W M B (addS fo S R sp nm l) L (R ++ [⟨(S.length : Int), sp, nm⟩]) fo (T + 1) w') :=
  (saddP h.site P sp nm l v ha hl hn h0 hr hS hT _ _ rfl f false ho).mono fun _ _ q => h.out q
theorem kType (h : SiteK w0 W M B S L R fo T) (s : List UInt8) (h0 : 0 < R.length) (hr : R.length ≤ 4294967296) (hS : 0 < S.length) (hS2 : S.length ≤ 4294967296) (hl : s.length ≤ 4294967296) (ht : ∀ x ∈ S, x.text.length ≤ 4294967296) (ho : okType fo S R s = true) :
    Calls Try.prog 103 #[.pointer (some ⟨B, 0, none⟩), .string ⟨s.toArray⟩] W (fun e w' => e = .returned (.tuple #[]) ∧ StepK w0 W M B (typeS fo S R s) L R fo T w') :=
  (stypeP h.site s h0 hr _ _ rfl hS hS2 hl ht ho).mono fun _ _ q => h.out q
theorem kPop (h : SiteK w0 W M B S L R fo T) (h0 : 0 < R.length) (hr : R.length ≤ 4294967296) (hT : T < 4294967296) (hf : Fit R) :
    Calls Try.prog 105 #[.pointer (some ⟨B, 0, none⟩)] W (fun e w' => e = .returned (.bool (popS R).2) ∧ StepK w0 W M B S L (popS R).1 fo (T + 1) w') :=
  (spopP h.site h0 hr hT hf).mono fun _ _ q => h.out q

def allocs (w : World) : List Obj → World
  | [] => w
  | o :: r => allocs (w.alloc o) r
theorem allocs_below (w : World) (r : List Obj) : Below w.heap.size w (allocs w r) := by
  induction r generalizing w with
  | nil => exact Below.refl _ w
  | cons o r ih => exact ((Below.refl _ w).alloc (Nat.le_refl _) o).trans ((ih (w.alloc o)).mono (by simp))
theorem allocs_size (w : World) (r : List Obj) : (allocs w r).heap.size = w.heap.size + r.length := by
  induction r generalizing w with
  | nil => rfl
  | cons o r ih => rw [allocs, ih, List.length_cons]; simp; omega
theorem allocs_heap (w : World) (r : List Obj) (i : Nat) (o : Obj) (h : r[i]? = some o) : (allocs w r).heap[w.heap.size + i]? = some o := by
  induction r generalizing w i with
  | nil => simp at h
  | cons o' r ih =>
    cases i with
    | zero =>
      rw [List.getElem?_cons_zero] at h
      have := Option.some.inj h
      subst this
      have hb := allocs_below (w.alloc o') r
      rw [allocs, Nat.add_zero, hb.block w.heap.size (by simp)]
      exact heap_alloc_new w o'
    | succ i =>
      rw [List.getElem?_cons_succ] at h
      have := ih (w.alloc o') i h
      rw [show (w.alloc o').heap.size = w.heap.size + 1 by simp] at this
      rw [allocs, show w.heap.size + (i + 1) = w.heap.size + 1 + i by omega]
      exact this
theorem Bes.made {w : World} {r : List Obj} (hM : ∀ b, M b → b < w.heap.size) (i : Nat) (o : Obj) (h : r[i]? = some o) : Bes M (allocs w r) (w.heap.size + i) o :=
  ⟨fun k => absurd (hM _ k) (by omega), allocs_heap w r i o h⟩
set_option maxHeartbeats 1000000 in
theorem within8 (n : Int) (m : Nat) (w : World) (h0 : -9223372036854775808 ≤ n) (h1 : n ≤ 9223372036854775807) (hm1 : 1 ≤ m) (hm2 : m ≤ 2147483647) :
    Calls Try.prog 51 #[.int .i64 n, .int .i64 (m : Int)] w (Gives (.int .i64 ((Within n m : Nat) : Int)) w) := by
  have HW := Lib.hid (within_lt n m hm1).2
  by_cases hn : 0 ≤ n
  · have g1 := Int.emod_nonneg n (show (m : Int) ≠ 0 by omega)
    go_enter Try.func51, Try.ntmps51
    go_wp2
    go_ret
    exact ⟨ret_is HW.out.symm, rfl⟩
  · obtain ⟨g1, g2, g3, g4⟩ := tmod_facts n m (by omega) hm1
    have G3 := Lib.hid g3
    have G4 := Lib.hid g4
    clear g3 g4
    by_cases hz : n.tmod m < 0
    · go_enter Try.func51, Try.ntmps51
      go_wp2
      go_ret
      exact ⟨ret_is ((G3.out hz).trans HW.out.symm), rfl⟩
    · go_enter Try.func51, Try.ntmps51
      go_wp2
      go_ret
      exact ⟨ret_is ((G4.out hz).trans HW.out.symm), rfl⟩
end Go.Proofs.Ytbadckkcjjfnoaa
