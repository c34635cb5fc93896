/-
  A Site behind a law's calls; the walk of the laws' known (chapter 8): true, and nothing old is changed.
-/
import Derived.Test.YtbadckkcjjfnoaaSWE
namespace Go.Proofs.Ytbadckkcjjfnoaa
open Go.RowKit Go.Maps

/-- A Site that was made since w0. -/
structure SiteB (w0 W : World) (B : Nat) (S : List PN) (L : List MK) (R : List EL) (fo : Bool) (T : Nat) : Prop where
  site : SiteM (fun b => w0.heap.size ≤ b ∧ b < W.heap.size) W B S L R fo T
  below : Below w0.heap.size w0 W
variable {w0 W w' : World} {B : Nat} {S S' : List PN} {L L' : List MK} {R R' : List EL} {fo fo' : Bool} {T T' : Nat}
theorem SiteB.out {v : Value} {e : Ending} (h : SiteB w0 W B S L R fo T) (q : SiteOut (fun b => w0.heap.size ≤ b ∧ b < W.heap.size) W B S' L' R' fo' T' v e w') : e = .returned v ∧ SiteB w0 w' B S' L' R' fo' T' := by
  obtain ⟨e, d, t⟩ := q
  refine ⟨e, d.mono ?_, h.below.trans (t.below h.below.size fun b hb k => absurd k.1 (by omega))⟩
  intro b hb k
  exact ⟨k.elim (·.1) (fun q => Nat.le_trans h.below.size q), hb⟩
theorem SiteB.on (h : SiteB w0 W B S L R fo T) (hb : Below W.heap.size W w') : SiteB w0 w' B S L R fo T :=
  ⟨(h.site.below hb).mono (fun _ hl k => ⟨k.1, hl⟩), h.below.trans (hb.mono h.below.size)⟩
theorem bNew8 (w : World) : Calls Try.prog 44 #[] w (fun e w' => ∃ B, e = .returned (.pointer (some ⟨B, 0, none⟩)) ∧ SiteB w w' B [elemPN 1 [] []] [] [elRoot] false 1) := by
  refine (snewP w).mono ?_
  rintro e w' ⟨B, rfl, d, b⟩
  exact ⟨B, rfl, d.mono (fun _ hb k => ⟨k, hb⟩), b⟩
/-- Add's new nodes, its new row; may it be reckoned so? -/
def addS (fo : Bool) (S : List PN) (R : List EL) (sp : Int) (nm : List UInt8) (l : List (List UInt8 × List UInt8)) : List PN :=
  (pPut (S ++ [elemPN sp nm l]) (S.length : Int) (spotS fo (elNamed R) (S ++ [elemPN sp nm l]) R).1 (spotS fo (elNamed R) (S ++ [elemPN sp nm l]) R).2 false).1
def okAdd (fo : Bool) (S : List PN) (R : List EL) (sp : Int) (nm : List UInt8) (l : List (List UInt8 × List UInt8)) (f : Nat) : Bool :=
  okPut (S ++ [elemPN sp nm l]) f (S.length : Int) (spotS fo (elNamed R) (S ++ [elemPN sp nm l]) R).1 (spotS fo (elNamed R) (S ++ [elemPN sp nm l]) R).2 false
theorem bAdd (h : SiteB w0 W B S L R fo T) (P : Nat → Prop) (sp : Int) (nm : List UInt8) (l : List (List UInt8 × List UInt8)) (v : Value) (ha : AttrsP P W v l) (hl : l.length ≤ 4294967296) (hn : nm.length ≤ 4294967296) (h0 : 0 < R.length) (hr : R.length ≤ 4294967296) (hS : S.length ≤ 4294967295) (hT : T < 4294967296) (f : Nat) (ho : okAdd fo S R sp nm l f = true) :
    Calls Try.prog 48 #[.pointer (some ⟨B, 0, none⟩), .int .i64 sp, .string ⟨nm.toArray⟩, v] W (fun e w' => e = .returned (.int .i64 (S.length : Int)) ∧ SiteB w0 w' B (addS fo S R sp nm l) L (R ++ [⟨(S.length : Int), sp, nm⟩]) fo (T + 1)) :=
  (saddP h.site P sp nm l v ha hl hn h0 hr hS hT _ _ rfl f false ho).mono fun _ _ q => h.out q
def typeS (fo : Bool) (S : List PN) (R : List EL) (s : List UInt8) : List PN := (pWrite S s (spotS fo (elNamed R) S R).1 (spotS fo (elNamed R) S R).2).1
def okType (fo : Bool) (S : List PN) (R : List EL) (s : List UInt8) : Bool := okWrite S s (spotS fo (elNamed R) S R).1 (spotS fo (elNamed R) S R).2
theorem bType (h : SiteB w0 W B S L R fo T) (s : List UInt8) (h0 : 0 < R.length) (hr : R.length ≤ 4294967296) (hS : 0 < S.length) (hS2 : S.length ≤ 4294967296) (hl : s.length ≤ 4294967296) (ht : ∀ x ∈ S, x.text.length ≤ 4294967296) (ho : okType fo S R s = true) :
    Calls Try.prog 103 #[.pointer (some ⟨B, 0, none⟩), .string ⟨s.toArray⟩] W (fun e w' => e = .returned (.tuple #[]) ∧ SiteB w0 w' B (typeS fo S R s) L R fo T) :=
  (stypeP h.site s h0 hr _ _ rfl hS hS2 hl ht ho).mono fun _ _ q => h.out q
theorem bTop (h : SiteB w0 W B S L R fo T) (h0 : 0 < R.length) (hr : R.length ≤ 4294967296) : Calls Try.prog 104 #[.pointer (some ⟨B, 0, none⟩)] W (fun e w' => e = .returned (.int .i64 (lastE R).n) ∧ SiteB w0 w' B S L R fo T ∧ Below W.heap.size W w') :=
  (sTopM h.site h0 hr).mono fun _ _ q => ⟨q.1, h.on q.2, q.2⟩
theorem bSpot (h : SiteB w0 W B S L R fo T) (h0 : 0 < R.length) (hr : R.length ≤ 4294967296) : Calls Try.prog 134 #[.pointer (some ⟨B, 0, none⟩), .int .i64 (lastE R).n] W (fun e w' => e = .returned (spotV (spotS fo (elNamed R) S R)) ∧ SiteB w0 w' B S L R fo T ∧ Below W.heap.size W w') :=
  (sspotM h.site h0 hr).mono fun _ _ q => ⟨q.1, h.on q.2, q.2⟩
def hasE (R : List EL) (c : Int) (l : List (List UInt8)) : Bool := anyN (elNamed R) l && scanH R c l (R.length - 1)
theorem bHas (h : SiteB w0 W B S L R fo T) (c : Int) (v : Value) (l : List (List UInt8)) (hv : StrsAt W v l) (h0 : 0 < R.length) (hr : R.length ≤ 4294967296) (hs : l.length ≤ 4294967296) (hl : ∀ s ∈ l, s.length ≤ 4294967296) :
    Calls Try.prog 52 #[.pointer (some ⟨B, 0, none⟩), .int .i64 c, v] W (fun e w' => e = .returned (.bool (hasE R c l)) ∧ SiteB w0 w' B S L R fo T ∧ Below W.heap.size W w') := by
  obtain ⟨a, q, _⟩ := h.site
  exact (shasP q c v l hv h0 hr hs hl).mono fun _ _ q => ⟨q.1, h.on q.2, q.2⟩
theorem bPop (h : SiteB w0 W B S L R fo T) (h0 : 0 < R.length) (hr : R.length ≤ 4294967296) (hT : T < 4294967296) (hf : Fit R) :
    Calls Try.prog 105 #[.pointer (some ⟨B, 0, none⟩)] W (fun e w' => e = .returned (.bool (popS R).2) ∧ SiteB w0 w' B S L (popS R).1 fo (T + 1)) :=
  (spopP h.site h0 hr hT hf).mono fun _ _ q => h.out q
theorem bDoc (h : SiteB w0 W B S L R fo T) : ∃ D M, Calls Try.prog 101 #[.pointer (some ⟨B, 0, none⟩)] W (Gives (.pointer (some ⟨D, 0, none⟩)) W) ∧ DocM M W D S ∧ ∀ b, M b → b < W.heap.size := by
  obtain ⟨a, q, _⟩ := h.site
  exact ⟨a.D, a.MD, sdocP q, q.doc, fun b k => (q.dM b k).2.1⟩
theorem bMarks (h : SiteB w0 W B S L R fo T) : ∃ K, Calls Try.prog 102 #[.pointer (some ⟨B, 0, none⟩)] W (Gives (.pointer (some ⟨K, 0, none⟩)) W) := by
  obtain ⟨a, q, _⟩ := h.site
  exact ⟨a.K, smarksP q⟩
def fitB (R : List EL) : Bool := decide ((R.map (·.n)).Nodup) && R.all fun x => decide (-9223372036854775808 ≤ x.n) && decide (x.n ≤ 9223372036854775807) && decide (x.name.length ≤ 4294967296)
theorem Fit.of {R : List EL} (h : fitB R = true) : Fit R := by
  unfold fitB at h
  rw [Bool.and_eq_true, decide_eq_true_eq, List.all_eq_true] at h
  have h2 := fun x hx => h.2 x hx
  simp only [Bool.and_eq_true, decide_eq_true_eq] at h2
  exact ⟨h.1, fun x hx => (h2 x hx).1, fun x hx => (h2 x hx).2⟩

def k8S0 : List PN := [elemPN 1 [] []]
def k8S1 : List PN := addS false k8S0 [elRoot] 1 [112] []
def k8R1 : List EL := [elRoot, ⟨1, 1, [112]⟩]
def k8S2 : List PN := typeS false k8S1 k8R1 [120]
set_option maxHeartbeats 2000000 in
set_option maxRecDepth 100000 in
theorem known8_yes (w : World) : Calls Try.prog 43 #[] w (Yes w) := by
  have HN := Lib.hid (bNew8 w)
  have HA : Hid (∀ W B, SiteB w W B k8S0 [] [elRoot] false 1 → Calls Try.prog 48 #[.pointer (some ⟨B, 0, none⟩), .int .i64 1, .string ⟨#[112]⟩, .slice none 0 0] W (fun e w' => e = .returned (.int .i64 1) ∧ SiteB w w' B k8S1 [] k8R1 false 2)) := Lib.hid fun W B h => bAdd h (fun _ => False) 1 [112] [] _ (AttrsP.nil _ _ _ _) (by decide) (by decide) (by decide) (by decide) (by decide) (by decide) 9 (by decide +kernel)
  have HT : Hid (∀ W B, SiteB w W B k8S1 [] k8R1 false 2 → Calls Try.prog 103 #[.pointer (some ⟨B, 0, none⟩), .string ⟨#[120]⟩] W (fun e w' => e = .returned (.tuple #[]) ∧ SiteB w w' B k8S2 [] k8R1 false 2)) := Lib.hid fun W B h => bType h [120] (by decide) (by decide) (by decide +kernel) (by decide +kernel) (by decide) (by decide +kernel) (by decide +kernel)
  have HTR : Hid (∀ W D M, DocM M W D k8S2 → (∀ b, M b → b < W.heap.size) → Calls Try.prog 16 #[.pointer (some ⟨D, 0, none⟩), .int .i64 0] W (fun e w' => ∃ g o c vp vc, e = .returned (.slice (some ⟨g, o, none⟩) 1 c) ∧ w'.cell? ⟨g, o + 6, none⟩ = some (.slice vp 1 vc) ∧ g < w'.heap.size ∧ Below W.heap.size W w')) := by
    refine Lib.hid fun W D M hd hM => (dtreeP k8S2 D M W 9 9 0 [1] [1, 2] [1, 2, 2] hd hM (by decide +kernel) (by decide +kernel) (by decide) (by decide +kernel)).mono ?_
    rintro e w' ⟨v, rfl, hn, hb⟩
    obtain ⟨p, cap, rfl, ht⟩ := hn
    obtain ⟨g, o, va, vk, rfl, hP, hg, h7, -, ⟨p2, cap2, rfl, -⟩, -⟩ := ht.head
    have e1 : ((foF k8S2 [1, 2] [1, 2, 2] 3 0 1).len : Nat) = 1 := by decide +kernel
    exact ⟨g, o, cap, p2, cap2, rfl, h7.c6, hg, hb⟩
  have HTop : Hid (∀ W B, SiteB w W B k8S2 [] k8R1 false 2 → Calls Try.prog 104 #[.pointer (some ⟨B, 0, none⟩)] W (fun e w' => e = .returned (.int .i64 1) ∧ SiteB w w' B k8S2 [] k8R1 false 2 ∧ Below W.heap.size W w')) := Lib.hid fun W B h => bTop h (by decide) (by decide)
  have HHas : Hid (∀ W B v, SiteB w W B k8S2 [] k8R1 false 2 → StrsAt W v [[112]] → Calls Try.prog 52 #[.pointer (some ⟨B, 0, none⟩), .int .i64 1, v] W (fun e w' => e = .returned (.bool true) ∧ SiteB w w' B k8S2 [] k8R1 false 2 ∧ Below W.heap.size W w')) := Lib.hid fun W B v h hv => bHas h 1 v [[112]] hv (by decide) (by decide) (by decide) (by decide)
  have HP1 : Hid (∀ W B, SiteB w W B k8S2 [] k8R1 false 2 → Calls Try.prog 105 #[.pointer (some ⟨B, 0, none⟩)] W (fun e w' => e = .returned (.bool true) ∧ SiteB w w' B k8S2 [] [elRoot] false 3)) := Lib.hid fun W B h => bPop h (by decide) (by decide) (by decide) (Fit.of (by decide +kernel))
  have HP2 : Hid (∀ W B, SiteB w W B k8S2 [] [elRoot] false 3 → Calls Try.prog 105 #[.pointer (some ⟨B, 0, none⟩)] W (fun e w' => e = .returned (.bool false) ∧ SiteB w w' B k8S2 [] [elRoot] false 4)) := Lib.hid fun W B h => bPop h (by decide) (by decide) (by decide) (Fit.of (by decide +kernel))
  go_enter Try.func43, Try.ntmps43
  go_wp2_with fail
  refine HN.out.mono ?_
  rintro e w1 ⟨B, rfl, h1⟩
  obtain ⟨D, MD, hdoc, -, -⟩ := bDoc h1
  obtain ⟨K, hmk⟩ := bMarks h1
  have H1 := Lib.hid h1
  have HD1 := Lib.hid hdoc
  have HM1 := Lib.hid hmk
  clear h1 hdoc hmk
  go_wp2_with fail
  refine HD1.out.mono ?_
  rintro e w1' ⟨rfl, rfl⟩
  go_wp2_with fail
  refine HM1.out.mono ?_
  rintro e w1' ⟨rfl, rfl⟩
  go_wp2_with fail
  refine (HA.out _ B H1.out).mono ?_
  rintro e w2 ⟨rfl, h2⟩
  have H2 := Lib.hid h2
  clear h2
  go_wp2_with fail
  refine (HT.out _ B H2.out).mono ?_
  rintro e w3 ⟨rfl, h3⟩
  obtain ⟨D3, M3, hdoc3, hd3, hm3⟩ := bDoc h3
  have H3 := Lib.hid h3
  have HD3 := Lib.hid hdoc3
  have HTT := Lib.hid (HTR.out w3 D3 M3 hd3 hm3)
  clear h3 hdoc3 hd3 hm3
  go_wp2_with fail
  refine HD3.out.mono ?_
  rintro e w3' ⟨rfl, rfl⟩
  go_wp2_with fail
  refine HTT.out.mono ?_
  rintro e w4 ⟨g, o, c, vp, vc, rfl, c6, hg, hb⟩
  have H4 := Lib.hid (H3.out.on hb)
  clear hb
  go_wp2_with fail
  refine (HTop.out _ B H4.out).mono ?_
  rintro e w5 ⟨rfl, h5, hb5⟩
  have e6 := (hb5.cell (p := ⟨g, o + 6, none⟩) hg).trans c6
  have hg5 : g < w5.heap.size := Nat.lt_of_lt_of_le hg hb5.size
  have HH := Lib.hid (HHas.out (w5.alloc (.cells #[.string ⟨#[112]⟩] 9)) B (.slice (some ⟨w5.heap.size, 0, none⟩) 1 1) (h5.on ((Below.refl _ w5).alloc (Nat.le_refl _) _)) (StrsAt.made w5 [[112]] _ _ 1 1 rfl rfl))
  clear h5 hb5 c6 hg
  go_wp2_with fail
  refine HH.out.mono ?_
  rintro e w6 ⟨rfl, h6, -⟩
  have H6 := Lib.hid (HP1.out w6 B h6)
  clear h6
  go_wp2_with fail
  refine H6.out.mono ?_
  rintro e w7 ⟨rfl, h7⟩
  have H7 := Lib.hid (HP2.out w7 B h7)
  clear h7
  go_wp2_with fail
  refine H7.out.mono ?_
  rintro e w8 ⟨rfl, h8⟩
  have H8 := Lib.hid h8.below
  clear h8
  go_wp2_with fail
  go_ret
  exact ⟨rfl, H8.out⟩
end Go.Proofs.Ytbadckkcjjfnoaa
