/-
  The walks of the program's Add and New. Any Site; any name; any attributes.
-/
import Derived.Test.YtbadckkcjjfnoaaSW9
import Derived.Test.YtbadckkcjjfnoaaMW1
namespace Go.Proofs.Ytbadckkcjjfnoaa
open Go.RowKit Go.Maps

variable {M : Nat → Prop} {w w' : World} {B : Nat} {a : SA} {S : List PN} {L : List MK} {R : List EL} {fO : Int → Bool} {fN : List UInt8 → Int} {fo : Bool} {T : Nat}
theorem openIn_ins (A C : List EL) (x : EL) : openIn (elOpen (A ++ C)) x = elOpen (A ++ x :: C) := by
  funext n
  unfold openIn
  rw [elOpen_app, elOpen_app, elOpen_cons]
  cases elOpen A n <;> cases elOpen C n <;> cases (x.n == n) <;> rfl
theorem nameIn_ins (A C : List EL) (x : EL) : nameIn (elNamed (A ++ C)) x = elNamed (A ++ x :: C) := by
  funext s
  unfold nameIn
  rw [elNamed_app, elNamed_app, elNamed_cons]
  omega
theorem SiteM.entered {e : Ending} {A C : List EL} {x : EL} (k : a.no ≤ T ∧ a.nn ≤ T) (h : EnterOut M w B a S L (A ++ x :: C) (elOpen (A ++ C)) (elNamed (A ++ C)) fo x e w') : SiteOut M w B S L (A ++ x :: C) fo (T + 1) (.tuple #[]) e w' := by
  obtain ⟨rfl, t, a', q, k1, k2⟩ := h
  rw [openIn_ins, nameIn_ins] at q
  exact ⟨rfl, ⟨a', q, by omega, by omega⟩, t⟩
theorem senterM (h : SiteM M w B S L R fo T) (x : EL) (hr : R.length ≤ 4294967296) (hT : T < 4294967296) (hx0 : -9223372036854775808 ≤ x.n) (hx1 : x.n ≤ 9223372036854775807) (hxn : x.name.length ≤ 4294967296) :
    Calls Try.prog 106 #[.pointer (some ⟨B, 0, none⟩), .int .i64 (R.length : Int), elV x] w (SiteOut M w B S L (R ++ [x]) fo (T + 1) (.tuple #[])) := by
  obtain ⟨a, h, k⟩ := h
  have hm : (4294967296 : Nat) ≤ maxLen := by decide
  refine (senter_of h x R.length (R ++ [x]) (by omega) (by omega) hx0 hx1 hxn (fun s => ?_) (by simp) (fun W b hrow hb => sinsEndP a.v R x W b hrow hb hr)).mono ?_
  · have := elNamed_le R s
    omega
  · intro e w' q
    have e1 : R ++ [] = R := List.append_nil R
    exact SiteM.entered (A := R) (C := []) k (by rw [e1]; exact q)
theorem SiteM.rowAt (h : SiteM M w B S L R fo T) : ∃ p c, w.cell? ⟨B, 2, none⟩ = some (.slice p R.length c) ∧ B < w.heap.size := by
  obtain ⟨a, h, _⟩ := h
  rcases h.form with ⟨e, e0⟩ | ⟨g, cap, e⟩
  · exact ⟨none, 0, by rw [h.c2, e, e0]; rfl, h.lt⟩
  · exact ⟨_, cap, by rw [h.c2, e], h.lt⟩
set_option maxHeartbeats 1000000 in
set_option maxRecDepth 100000 in
theorem saddP (h : SiteM M w B S L R fo T) (P : Nat → Prop) (sp : Int) (nm : List UInt8) (l : List (List UInt8 × List UInt8)) (v : Value) (ha : AttrsP P w v l) (hl : l.length ≤ 4294967296) (hn : nm.length ≤ 4294967296) (h0 : 0 < R.length) (hr : R.length ≤ 4294967296) (hS : S.length ≤ 4294967295) (hT : T < 4294967296)
    (up ahead : Int) (hp : spotS fo (elNamed R) (S ++ [elemPN sp nm l]) R = (up, ahead)) (f : Nat) (b : Bool) (ho : okPut (S ++ [elemPN sp nm l]) f (S.length : Int) up ahead b = true) :
    Calls Try.prog 48 #[.pointer (some ⟨B, 0, none⟩), .int .i64 sp, .string ⟨nm.toArray⟩, v] w (SiteOut M w B (pPut (S ++ [elemPN sp nm l]) (S.length : Int) up ahead b).1 L (R ++ [⟨(S.length : Int), sp, nm⟩]) fo (T + 1) (.int .i64 (S.length : Int))) := by
  obtain ⟨aa, hh, kk⟩ := id h
  have c0 := hh.c0
  have hB := hh.lt
  have HE : Hid (Calls Try.prog 13 #[.pointer (some ⟨aa.D, 0, none⟩), .int .i64 sp, .string ⟨nm.toArray⟩, v] w (SiteOut M w B (S ++ [elemPN sp nm l]) L R fo T (.int .i64 (S.length : Int)))) := Lib.hid ((delemNewP S aa.D aa.MD P w sp nm l v hh.doc (fun b k => (hh.dM b k).2.1) (by omega) ha hl).mono fun e w' q => SiteM.docOut hh kk q)
  have HL : Hid (∀ W, SiteM (New M w) W B (S ++ [elemPN sp nm l]) L R fo T → Calls Try.prog 108 #[.pointer (some ⟨B, 0, none⟩), .func (.func 14) #[] #[], .int .i64 (S.length : Int)] W (SiteOut (New M w) W B (pPut (S ++ [elemPN sp nm l]) (S.length : Int) up ahead b).1 L R fo T (.tuple #[]))) := Lib.hid fun W q => slay_int q _ h0 hr up ahead hp f b (by simp) ho
  obtain ⟨S2, hS2⟩ : ∃ S2, S2 = (pPut (S ++ [elemPN sp nm l]) (S.length : Int) up ahead b).1 := ⟨_, rfl⟩
  rw [← hS2] at HL ⊢
  obtain ⟨S1, hS1⟩ : ∃ S1, S1 = S ++ [elemPN sp nm l] := ⟨_, rfl⟩
  rw [← hS1] at HL HE
  have HN : Hid (∀ W, SiteM (New (New M w) W) W B S2 L R fo T → True) := Lib.hid fun _ _ => trivial
  have HEN : Hid (∀ (N : Nat → Prop) W, SiteM N W B S2 L R fo T → Calls Try.prog 106 #[.pointer (some ⟨B, 0, none⟩), .int .i64 (R.length : Int), .agg #[.int .i64 (S.length : Int), .int .i64 sp, .string ⟨nm.toArray⟩]] W (SiteOut N W B S2 L (R ++ [⟨(S.length : Int), sp, nm⟩]) fo (T + 1) (.tuple #[]))) := Lib.hid fun N W q => senterM q ⟨(S.length : Int), sp, nm⟩ hr hT (by simp only; omega) (by simp only; omega) hn
  clear h hh kk ha ho hp hS1 hS2 HN
  generalize (⟨nm.toArray⟩ : ByteArray) = NB at *
  go_enter Try.func48, Try.ntmps48
  go_wp2_with fail
  refine HE.out.mono ?_
  rintro e w2 ⟨rfl, d2, t2⟩
  have HC := Lib.hid (HL.out w2 d2)
  have HT2 := Lib.hid t2
  clear d2 t2 HL HE
  go_wp2_with fail
  refine HC.out.mono ?_
  intro e w3 q3
  obtain ⟨rfl, d3, t3⟩ := q3.then_ HT2.out
  obtain ⟨p, c, c2, hB3⟩ := d3.rowAt
  have HD := Lib.hid (HEN.out _ w3 d3)
  have HT3 := Lib.hid t3
  clear d3 t3 HC HEN HT2
  go_wp2_with fail
  refine HD.out.mono ?_
  rintro e w4 ⟨rfl, d4, t4⟩
  have HD4 := Lib.hid d4
  have HT4 := Lib.hid t4
  clear d4 t4 HD
  go_wp2_with fail
  go_ret
  exact ⟨rfl, (SiteOut.then_ (v := .tuple #[]) ⟨rfl, HD4.out, HT4.out⟩ HT3.out).2⟩
/-- The root. -/
def elRoot : EL := ⟨0, 1, []⟩
theorem siteQ_new {w w1 w2 : World} {D : Nat} {S : List PN} (hd : DocM (fun b => w.heap.size ≤ b) w1 D S) (hb1 : Below w.heap.size w w1) (hk : MarksM (fun b => w1.heap.size ≤ b) w2 w1.heap.size []) (hb2 : Below w1.heap.size w1 w2) (o : Obj)
    (ho : o = .cells #[.pointer (some ⟨D, 0, none⟩), .pointer (some ⟨w1.heap.size, 0, none⟩), .slice none 0 0, .map (some w2.heap.size), .map (some (w2.heap.size + 1)), .bool false] 122) :
    SiteM (fun b => w.heap.size ≤ b ∧ b < w2.heap.size + 3) (((w2.alloc (.map #[] 0)).alloc (.map #[] 0)).alloc o) (w2.heap.size + 2) S [] [] false 0 ∧ Below w.heap.size w (((w2.alloc (.map #[] 0)).alloc (.map #[] 0)).alloc o) := by
  have s1 := hb1.size
  have s2 := hb2.size
  have z1 : (w2.alloc (.map #[] 0)).heap.size = w2.heap.size + 1 := by simp
  have z2 : ((w2.alloc (.map #[] 0)).alloc (.map #[] 0)).heap.size = w2.heap.size + 2 := by simp
  have b3 : Below w2.heap.size w2 (w2.alloc (.map #[] 0)) := (Below.refl _ w2).alloc (Nat.le_refl _) _
  have b4 : Below (w2.heap.size + 1) (w2.alloc (.map #[] 0)) ((w2.alloc (.map #[] 0)).alloc (.map #[] 0)) := (Below.refl _ _).alloc (by omega) _
  generalize hw3 : w2.alloc (.map #[] 0) = w3 at *
  generalize hw4 : w3.alloc (.map #[] 0) = w4 at *
  have m3 : w3.ownsMap Try.prog 3 unitElem w2.heap.size 0 (DataW.map [] : DataW Unit) := by rw [← hw3]; exact World.ownsMap_made (H := Unit) w2 Try.prog _ _
  have m4 : w4.ownsMap Try.prog 9 (plainElem Try.prog 3) (w2.heap.size + 1) 0 (DataW.map [] : DataW Unit) := by rw [← hw4, ← z1]; exact World.ownsMap_made (H := Unit) w3 Try.prog _ _
  have b5 : Below (w2.heap.size + 2) w4 (w4.alloc o) := (Below.refl _ _).alloc (by omega) _
  have hx : (w4.alloc o).heap[w2.heap.size + 2]? = some o := by rw [← z2]; exact heap_alloc_new w4 o
  have hsz : (w4.alloc o).heap.size = w2.heap.size + 3 := by simp; omega
  have b25 : Below w2.heap.size w2 (w4.alloc o) := (b3.trans (b4.mono (by omega))).trans (b5.mono (by omega))
  have b15 : Below w1.heap.size w1 (w4.alloc o) := hb2.trans (b25.mono s2)
  have b05 : Below w.heap.size w (w4.alloc o) := hb1.trans (b15.mono s1)
  generalize w4.alloc o = w5 at *
  rw [ho] at hx
  have hc := fun i => blk_cell hx i
  have hfz : ∀ i, w5.frozen? ⟨w2.heap.size + 2, i, none⟩ = false := fun i => by simp [World.frozen?, hx]
  have k1 := hd.below b15
  have k2 := hk.below b25
  have hoM : (w.heap.size ≤ w2.heap.size ∧ w2.heap.size < w2.heap.size + 3) ∧ w2.heap.size ≠ w2.heap.size + 2 ∧ w2.heap.size ≠ w2.heap.size + 1 := ⟨⟨by omega, by omega⟩, by omega, by omega⟩
  have hnM : (w.heap.size ≤ w2.heap.size + 1 ∧ w2.heap.size + 1 < w2.heap.size + 3) ∧ w2.heap.size + 1 ≠ w2.heap.size + 2 := ⟨⟨by omega, by omega⟩, by omega⟩
  refine ⟨⟨⟨D, w1.heap.size, w2.heap.size, w2.heap.size + 1, .slice none 0 0, fun b => w.heap.size ≤ b ∧ b < w1.heap.size, fun b => w1.heap.size ≤ b ∧ b < w2.heap.size, .map [], .map [], 0, 0⟩, ?_, Nat.le_refl _, Nat.le_refl _⟩, b05⟩
  exact {
    inM := ⟨by omega, by omega⟩
    lt := by omega
    c0 := (hc 0).trans rfl
    c1 := (hc 1).trans rfl
    c2 := (hc 2).trans rfl
    c3 := (hc 3).trans rfl
    c4 := (hc 4).trans rfl
    c5 := (hc 5).trans rfl
    free := hfz
    doc := (hd.mono (fun b hb k => ⟨k, hb⟩)).below b15
    marks := (hk.mono (fun b hb k => ⟨k, hb⟩)).below b25
    row := ⟨rfl, .inl ⟨rfl, rfl⟩⟩
    om := ownsMap_block m3 ((b5.block w2.heap.size (by omega)).trans (b4.block w2.heap.size (by omega)))
    opens := fun n => rfl
    nm := ownsMap_block m4 (b5.block (w2.heap.size + 1) (by omega))
    names := fun s => rfl
    dM := fun b k => ⟨⟨k.1, by omega⟩, by omega, by omega, by simp [Value.ownBlock], by simp only; omega, by simp only; omega, by simp only; omega⟩
    kM := fun b k => ⟨⟨by omega, by omega⟩, by omega, by omega, by simp [Value.ownBlock], by simp only; omega, by simp only; omega⟩
    rM := fun g e => by simp [Value.ownBlock] at e
    oM := hoM
    nM := hnM }
set_option maxHeartbeats 1000000 in
set_option maxRecDepth 100000 in
theorem snewP (w : World) : Calls Try.prog 44 #[] w (fun e w' => ∃ B, e = .returned (.pointer (some ⟨B, 0, none⟩)) ∧ SiteM (fun b => w.heap.size ≤ b) w' B [elemPN 1 [] []] [] [elRoot] false 1 ∧ Below w.heap.size w w') := by
  have HD := Lib.hid (dnewP w)
  have HM : Hid (∀ W, Calls Try.prog 22 #[] W (fun e w' => e = .returned (.pointer (some ⟨W.heap.size, 0, none⟩)) ∧ MarksM (fun b => W.heap.size ≤ b) w' W.heap.size [] ∧ Below W.heap.size W w')) := Lib.hid fun W => mnewP W
  have HEN : Hid (∀ (N : Nat → Prop) W B, SiteM N W B [elemPN 1 [] []] [] [] false 0 → Calls Try.prog 106 #[.pointer (some ⟨B, 0, none⟩), .int .i64 0, .agg #[.int .i64 0, .int .i64 1, .string ⟨#[]⟩]] W (SiteOut N W B [elemPN 1 [] []] [] [elRoot] false 1 (.tuple #[]))) := Lib.hid fun N W B q => senterM q elRoot (by decide) (by decide) (by decide) (by decide) (by decide)
  have hmm := @run_makeMap Try.prog
  go_enter Try.func44, Try.ntmps44
  go_wp2_with fail
  refine HD.out.mono ?_
  rintro e w1 ⟨D, rfl, d1, b1⟩
  have HD1 := Lib.hid (And.intro d1 b1)
  clear d1 b1 HD
  go_wp2_with fail
  refine (HM.out w1).mono ?_
  rintro e w2 ⟨rfl, d2, b2⟩
  have HN := Lib.hid (siteQ_new HD1.out.1 HD1.out.2 d2 b2 _ rfl)
  clear d2 b2 HM HD1
  go_wp2_with fail
  refine (HEN.out _ _ _ HN.out.1).mono ?_
  rintro e w3 ⟨rfl, d3, t3⟩
  have HD3 := Lib.hid d3
  have HT3 := Lib.hid t3
  clear d3 t3 HEN
  go_wp2_with fail
  go_ret
  have hb := HN.out.2
  exact ⟨_, rfl, HD3.out.mono (fun b _ k => k.elim (·.1) (fun q => Nat.le_trans hb.size q)), hb.trans (HT3.out.below hb.size (fun b q k => absurd k.1 (by omega)))⟩
end Go.Proofs.Ytbadckkcjjfnoaa
