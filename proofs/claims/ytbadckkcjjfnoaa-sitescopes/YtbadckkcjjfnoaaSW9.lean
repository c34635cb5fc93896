/-
  The walks of the program's lay, Type, Add, Top, Foster, Doc, Marks. Any Site.
-/
import Derived.Test.YtbadckkcjjfnoaaSW8
import Derived.Test.YtbadckkcjjfnoaaSW7
namespace Go.Proofs.Ytbadckkcjjfnoaa
open Go.RowKit Go.Maps

variable {M : Nat → Prop} {w w' : World} {B : Nat} {a : SA} {S : List PN} {L : List MK} {R : List EL} {fO : Int → Bool} {fN : List UInt8 → Int} {fo : Bool} {T : Nat}
/-- What a call does that turns the Site. -/
def SiteOut (M : Nat → Prop) (w : World) (B : Nat) (S : List PN) (L : List MK) (R : List EL) (fo : Bool) (T : Nat) (v : Value) (e : Ending) (w' : World) : Prop := e = .returned v ∧ SiteM (New M w) w' B S L R fo T ∧ Turns M w w'
theorem SiteOut.ahead {M : Nat → Prop} {w W w' : World} {v : Value} {e : Ending} (h : SiteOut M W B S L R fo T v e w') (hb : Below w.heap.size w W) : SiteOut M w B S L R fo T v e w' := by
  obtain ⟨e, d, t⟩ := h
  refine ⟨e, d.mono ?_, (Turns.of_below hb).trans (t.mono fun b _ k => .inl k)⟩
  intro b _ k
  exact k.imp id (fun q => Nat.le_trans hb.size q)
/-- One call behind another. -/
theorem SiteOut.then_ {M : Nat → Prop} {w W w' : World} {v : Value} {e : Ending} (h : SiteOut (New M w) W B S L R fo T v e w') (ht : Turns M w W) : SiteOut M w B S L R fo T v e w' := by
  obtain ⟨e, d, t⟩ := h
  refine ⟨e, d.mono ?_, ht.trans t⟩
  intro b _ k
  exact k.elim id (fun q => .inr (Nat.le_trans ht.size q))
theorem SiteM.docOut {W : World} {S' : List PN} {v : Value} {e : Ending} (h : SiteQ M W B a S L R (elOpen R) (elNamed R) fo) (k : a.no ≤ T ∧ a.nn ≤ T) (hd : e = .returned v ∧ DocM (New a.MD W) w' a.D S' ∧ Turns a.MD W w') : SiteOut M W B S' L R fo T v e w' := by
  obtain ⟨rfl, d, t⟩ := hd
  obtain ⟨q, t2⟩ := h.docStep d t
  exact ⟨rfl, ⟨_, q, k⟩, t2⟩
theorem lastE_at (h0 : 0 < R.length) : lastE R = R[R.length - 1] := elD (by omega)
theorem sTopM (h : SiteM M w B S L R fo T) (h0 : 0 < R.length) (hr : R.length ≤ 4294967296) : Calls Try.prog 104 #[.pointer (some ⟨B, 0, none⟩)] w (Brings (.int .i64 (lastE R).n) w) := by
  obtain ⟨a, h, _⟩ := h
  rw [lastE_at h0]
  exact sTopP h (R.length - 1) (by omega) hr
theorem sspotM (h : SiteM M w B S L R fo T) (h0 : 0 < R.length) (hr : R.length ≤ 4294967296) : Calls Try.prog 134 #[.pointer (some ⟨B, 0, none⟩), .int .i64 (lastE R).n] w (Brings (spotV (spotS fo (elNamed R) S R)) w) := by
  obtain ⟨a, h, _⟩ := h
  exact sspotP h h0 hr
set_option maxHeartbeats 1000000 in
set_option maxRecDepth 100000 in
theorem slay_int (h : SiteM M w B S L R fo T) (n : Int) (h0 : 0 < R.length) (hr : R.length ≤ 4294967296) (up ahead : Int) (hp : spotS fo (elNamed R) S R = (up, ahead)) (f : Nat) (b : Bool) (hS : 0 < S.length) (ho : okPut S f n up ahead b = true) :
    Calls Try.prog 108 #[.pointer (some ⟨B, 0, none⟩), .func (.func 14) #[] #[], .int .i64 n] w (SiteOut M w B (pPut S n up ahead b).1 L R fo T (.tuple #[])) := by
  have HT := Lib.hid (sTopM h h0 hr)
  have HS : Hid (∀ W, Below w.heap.size w W → Calls Try.prog 134 #[.pointer (some ⟨B, 0, none⟩), .int .i64 (lastE R).n] W (Brings (spotV (up, ahead)) W)) := Lib.hid fun W hb => hp ▸ sspotM (h.below hb) h0 hr
  obtain ⟨a, h, k⟩ := h
  have HQ := Lib.hid h
  obtain ⟨DD, hDD⟩ : ∃ DD, DD = a.D := ⟨_, rfl⟩
  have HP : Hid (∀ W, Below w.heap.size w W → Calls Try.prog 14 #[.pointer (some ⟨DD, 0, none⟩), .int .i64 n, .int .i64 up, .int .i64 ahead] W (fun e w' => ∃ v, SiteOut M w B (pPut S n up ahead b).1 L R fo T v e w')) := Lib.hid fun W hb => by
    rw [hDD]
    refine (dputP S a.D a.MD W f n up ahead b (h.below hb).doc hS ho).mono ?_
    intro e w' ha
    exact ⟨_, (SiteM.docOut (h.below hb) k ⟨ha.1, ha.2.1.mono (fun _ _ k => .inl k), ha.2.2⟩).ahead hb⟩
  have HC : Hid (∀ W, Below w.heap.size w W → W.cell? ⟨B, 0, none⟩ = some (.pointer (some ⟨DD, 0, none⟩)) ∧ B < W.heap.size) := Lib.hid fun W hb => by rw [hDD]; exact ⟨(h.below hb).c0, (h.below hb).lt⟩
  clear h hp hDD HQ ho
  generalize (lastE R).n = NN at *
  go_enter Try.func108, Try.ntmps108
  go_wp2_with fail
  refine HT.out.mono ?_
  rintro e w2 ⟨rfl, hb2⟩
  have HB2 := Lib.hid hb2
  clear hb2
  go_wp2_with fail
  refine (HS.out w2 HB2.out).mono ?_
  rintro e w3 ⟨rfl, hb3⟩
  have HB3 : Hid (Below w.heap.size w w3) := Lib.hid (HB2.out.trans (hb3.mono HB2.out.size))
  obtain ⟨c0, hB3⟩ := HC.out w3 HB3.out
  clear hb3 HB2 HS HT HC
  unfold spotV
  go_wp2_with fail
  refine (HP.out w3 HB3.out).mono ?_
  rintro e w4 ⟨v, rfl, d, t⟩
  have HD := Lib.hid d
  have HTT := Lib.hid t
  clear d t
  go_wp2_with fail
  exact bodyPost_end (results_none rfl _ _ _) rfl ⟨rfl, HD.out, HTT.out⟩
set_option maxHeartbeats 1000000 in
set_option maxRecDepth 100000 in
theorem slay_string (h : SiteM M w B S L R fo T) (s : List UInt8) (h0 : 0 < R.length) (hr : R.length ≤ 4294967296) (up ahead : Int) (hp : spotS fo (elNamed R) S R = (up, ahead)) (hS : 0 < S.length) (hS2 : S.length ≤ 4294967296) (hl : s.length ≤ 4294967296) (ht : ∀ x ∈ S, x.text.length ≤ 4294967296) (ho : okWrite S s up ahead = true) :
    Calls Try.prog 129 #[.pointer (some ⟨B, 0, none⟩), .func (.func 15) #[] #[], .string ⟨s.toArray⟩] w (SiteOut M w B (pWrite S s up ahead).1 L R fo T (.tuple #[])) := by
  have HT := Lib.hid (sTopM h h0 hr)
  have HS : Hid (∀ W, Below w.heap.size w W → Calls Try.prog 134 #[.pointer (some ⟨B, 0, none⟩), .int .i64 (lastE R).n] W (Brings (spotV (up, ahead)) W)) := Lib.hid fun W hb => hp ▸ sspotM (h.below hb) h0 hr
  obtain ⟨a, h, k⟩ := h
  have HQ := Lib.hid h
  obtain ⟨DD, hDD⟩ : ∃ DD, DD = a.D := ⟨_, rfl⟩
  have HP : Hid (∀ W, Below w.heap.size w W → Calls Try.prog 15 #[.pointer (some ⟨DD, 0, none⟩), .string ⟨s.toArray⟩, .int .i64 up, .int .i64 ahead] W (fun e w' => ∃ v, SiteOut M w B (pWrite S s up ahead).1 L R fo T v e w')) := Lib.hid fun W hb => by
    rw [hDD]
    refine (dwriteP S a.D a.MD W s up ahead (h.below hb).doc (fun b k => ((h.below hb).dM b k).2.1) hS2 hl ht hS ho).mono ?_
    intro e w' ha
    exact ⟨_, (SiteM.docOut (h.below hb) k ha).ahead hb⟩
  have HC : Hid (∀ W, Below w.heap.size w W → W.cell? ⟨B, 0, none⟩ = some (.pointer (some ⟨DD, 0, none⟩)) ∧ B < W.heap.size) := Lib.hid fun W hb => by rw [hDD]; exact ⟨(h.below hb).c0, (h.below hb).lt⟩
  clear h hp hDD HQ ho ht
  generalize (lastE R).n = NN at *
  generalize (⟨s.toArray⟩ : ByteArray) = SA at *
  go_enter Try.func129, Try.ntmps129
  go_wp2_with fail
  refine HT.out.mono ?_
  rintro e w2 ⟨rfl, hb2⟩
  have HB2 := Lib.hid hb2
  clear hb2
  go_wp2_with fail
  refine (HS.out w2 HB2.out).mono ?_
  rintro e w3 ⟨rfl, hb3⟩
  have HB3 : Hid (Below w.heap.size w w3) := Lib.hid (HB2.out.trans (hb3.mono HB2.out.size))
  obtain ⟨c0, hB3⟩ := HC.out w3 HB3.out
  clear hb3 HB2 HS HT HC
  unfold spotV
  go_wp2_with fail
  refine (HP.out w3 HB3.out).mono ?_
  rintro e w4 ⟨v, rfl, d, t⟩
  have HD := Lib.hid d
  have HTT := Lib.hid t
  clear d t
  go_wp2_with fail
  exact bodyPost_end (results_none rfl _ _ _) rfl ⟨rfl, HD.out, HTT.out⟩
set_option maxHeartbeats 1000000 in
set_option maxRecDepth 100000 in
theorem stypeP (h : SiteM M w B S L R fo T) (s : List UInt8) (h0 : 0 < R.length) (hr : R.length ≤ 4294967296) (up ahead : Int) (hp : spotS fo (elNamed R) S R = (up, ahead)) (hS : 0 < S.length) (hS2 : S.length ≤ 4294967296) (hl : s.length ≤ 4294967296) (ht : ∀ x ∈ S, x.text.length ≤ 4294967296) (ho : okWrite S s up ahead = true) :
    Calls Try.prog 103 #[.pointer (some ⟨B, 0, none⟩), .string ⟨s.toArray⟩] w (SiteOut M w B (pWrite S s up ahead).1 L R fo T (.tuple #[])) := by
  have HL := Lib.hid (slay_string h s h0 hr up ahead hp hS hS2 hl ht ho)
  clear h hp ht ho
  generalize (⟨s.toArray⟩ : ByteArray) = SA at *
  go_enter Try.func103, Try.ntmps103
  go_wp2_with fail
  refine HL.out.mono ?_
  rintro e w2 ⟨rfl, d, t⟩
  have HD := Lib.hid d
  have HT := Lib.hid t
  clear d t
  go_wp2_with fail
  exact bodyPost_end (results_none rfl _ _ _) rfl ⟨rfl, HD.out, HT.out⟩
set_option maxHeartbeats 1000000 in
set_option maxRecDepth 100000 in
theorem sdocP (h : SiteQ M w B a S L R fO fN fo) : Calls Try.prog 101 #[.pointer (some ⟨B, 0, none⟩)] w (Gives (.pointer (some ⟨a.D, 0, none⟩)) w) := by
  have hB := h.lt
  have c0 := h.c0
  clear h
  go_enter Try.func101, Try.ntmps101
  go_wp2_with fail
  go_ret
  exact ⟨rfl, rfl⟩
set_option maxHeartbeats 1000000 in
set_option maxRecDepth 100000 in
theorem smarksP (h : SiteQ M w B a S L R fO fN fo) : Calls Try.prog 102 #[.pointer (some ⟨B, 0, none⟩)] w (Gives (.pointer (some ⟨a.K, 0, none⟩)) w) := by
  have hB := h.lt
  have c1 := h.c1
  clear h
  go_enter Try.func102, Try.ntmps102
  go_wp2_with fail
  go_ret
  exact ⟨rfl, rfl⟩
end Go.Proofs.Ytbadckkcjjfnoaa
