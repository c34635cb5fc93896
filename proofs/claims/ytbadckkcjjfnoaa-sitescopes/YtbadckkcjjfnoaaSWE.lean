/-
  The walks of the program's Drop, Pop, Open. Any Site.
-/
import Derived.Test.YtbadckkcjjfnoaaSWD
namespace Go.Proofs.Ytbadckkcjjfnoaa
open Go.RowKit Go.Maps

variable {M : Nat → Prop} {w w' : World} {B : Nat} {a : SA} {S : List PN} {L : List MK} {R : List EL} {fO : Int → Bool} {fN : List UInt8 → Int} {fo : Bool} {T : Nat}
/-- No number twice; numbers and names that there are. -/
structure Fit (R : List EL) : Prop where
  once : (R.map (·.n)).Nodup
  num : ∀ x ∈ R, -9223372036854775808 ≤ x.n ∧ x.n ≤ 9223372036854775807
  name : ∀ x ∈ R, x.name.length ≤ 4294967296
theorem elOpen_not {R : List EL} {n : Int} (h : n ∉ R.map (·.n)) : elOpen R n = false := by
  unfold elOpen
  rw [List.any_eq_false]
  intro x hx e
  exact h (List.mem_map.2 ⟨x, hx, by simpa using e⟩)
theorem openOut_del {A C : List EL} {x : EL} (h : ((A ++ x :: C).map (·.n)).Nodup) : openOut (elOpen (A ++ x :: C)) x = elOpen (A ++ C) := by
  rw [List.map_append, List.map_cons, List.nodup_append] at h
  obtain ⟨_, h2, h3⟩ := h
  rw [List.nodup_cons] at h2
  funext n
  unfold openOut
  rw [elOpen_app, elOpen_app, elOpen_cons]
  by_cases e : x.n = n
  · subst e
    rw [elOpen_not h2.1, elOpen_not (fun k => h3 _ k _ List.mem_cons_self rfl)]
    simp
  · have : (x.n == n) = false := by simpa using e
    rw [this]
    simp
theorem nameOut_del (A C : List EL) (x : EL) : nameOut (elNamed (A ++ x :: C)) x = elNamed (A ++ C) := by
  funext s
  unfold nameOut
  rw [elNamed_app, elNamed_app, elNamed_cons]
  omega
theorem split_at {R : List EL} {i : Nat} (hi : i < R.length) : R = R.take i ++ R[i] :: R.drop (i + 1) ∧ R.eraseIdx i = R.take i ++ R.drop (i + 1) := by
  refine ⟨?_, List.eraseIdx_eq_take_drop_succ R i⟩
  rw [← List.drop_eq_getElem_cons hi, List.take_append_drop]
theorem SiteM.left {e : Ending} {i : Nat} (hi : i < R.length) (k : a.no ≤ T ∧ a.nn ≤ T) (hf : Fit R) (h : LeaveOut M w B a S L (R.eraseIdx i) (elOpen R) (elNamed R) fo R[i] e w') : SiteOut M w B S L (R.eraseIdx i) fo (T + 1) (.tuple #[]) e w' := by
  obtain ⟨rfl, t, a', q, k1, k2⟩ := h
  obtain ⟨e1, e2⟩ := split_at hi
  have e3 : openOut (elOpen R) R[i] = elOpen (R.eraseIdx i) := by
    have ho := hf.once
    rw [e1] at ho
    have := openOut_del ho
    rw [← e1, ← e2] at this
    exact this
  have e4 : nameOut (elNamed R) R[i] = elNamed (R.eraseIdx i) := by
    have := nameOut_del (R.take i) (R.drop (i + 1)) R[i]
    rw [← e1, ← e2] at this
    exact this
  rw [e3, e4] at q
  exact ⟨rfl, ⟨a', q, by omega, by omega⟩, t⟩
theorem sleaveM (h : SiteM M w B S L R fo T) (i : Nat) (hi : i < R.length) (hr : R.length ≤ 4294967296) (hT : T < 4294967296) (hf : Fit R) :
    Calls Try.prog 146 #[.pointer (some ⟨B, 0, none⟩), .int .i64 (i : Int)] w (SiteOut M w B S L (R.eraseIdx i) fo (T + 1) (.tuple #[])) := by
  obtain ⟨a, h, k⟩ := h
  have hm : (4294967296 : Nat) ≤ maxLen := by decide
  have hx := hf.num R[i] (List.getElem_mem hi)
  refine (sleaveP h i (R.length - 1) hi (by omega) hr (by omega) hx.1 hx.2 (hf.name R[i] (List.getElem_mem hi)) (fun s => ?_)).mono fun e w' q => SiteM.left hi k hf q
  have := elNamed_le R s
  omega
def dropS (R : List EL) (n : Int) : List EL × Bool := if placeS R n ≤ 0 then (R, false) else (R.eraseIdx (placeS R n).toNat, true)
theorem placeS_lt {R : List EL} {n : Int} (h0 : 0 < R.length) : placeS R n < R.length ∧ -1 ≤ placeS R n := by
  unfold placeS
  split
  · have := scanP_le R n (R.length - 1); omega
  · omega
theorem SiteOut.more {T2 : Nat} {v : Value} {e : Ending} (h : SiteOut M w B S L R fo T v e w') (ht : T ≤ T2) : SiteOut M w B S L R fo T2 v e w' := by
  obtain ⟨e, ⟨a, q, k1, k2⟩, t⟩ := h
  exact ⟨e, ⟨a, q, by omega, by omega⟩, t⟩
theorem SiteM.out {v : Value} (h : SiteM M w B S L R fo T) (hb : Below w.heap.size w w') : SiteOut M w B S L R fo T v (.returned v) w' := ⟨rfl, (h.below hb).mono (fun _ _ k => .inl k), Turns.of_below hb⟩
set_option maxHeartbeats 1000000 in
set_option maxRecDepth 100000 in
theorem sdropP (h : SiteM M w B S L R fo T) (n : Int) (h0 : 0 < R.length) (hr : R.length ≤ 4294967296) (hT : T < 4294967296) (hf : Fit R) (n0 : -9223372036854775808 ≤ n) (n1 : n ≤ 9223372036854775807) :
    Calls Try.prog 131 #[.pointer (some ⟨B, 0, none⟩), .int .i64 n] w (SiteOut M w B S L (dropS R n).1 fo (T + 1) (.bool (dropS R n).2)) := by
  have HM := Lib.hid h
  have HP : Hid (Calls Try.prog 145 #[.pointer (some ⟨B, 0, none⟩), .int .i64 n] w (Brings (.int .i64 (placeS R n)) w)) := Lib.hid (by
    obtain ⟨a, h, _⟩ := h
    exact splaceP h n h0 hr n0 n1)
  have hp := placeS_lt (n := n) h0
  have HF := Lib.hid hf
  clear h hf
  by_cases k : placeS R n ≤ 0
  · have HZ : Hid (dropS R n = (R, false)) := Lib.hid (by unfold dropS; rw [if_pos k])
    rw [HZ.out]
    generalize placeS R n = i at *
    go_enter Try.func131, Try.ntmps131
    go_wp2_with fail
    refine HP.out.mono ?_
    rintro e w2 ⟨rfl, hb⟩
    have HB := Lib.hid hb
    clear hb
    go_wp2_with fail
    go_ret
    exact (HM.out.out HB.out).more (Nat.le_succ _)
  · have HZ : Hid (dropS R n = (R.eraseIdx (placeS R n).toNat, true)) := Lib.hid (by unfold dropS; rw [if_neg k])
    rw [HZ.out]
    obtain ⟨i, hi⟩ : ∃ i : Nat, placeS R n = (i : Int) := ⟨(placeS R n).toNat, by omega⟩
    rw [hi] at HP k hp ⊢
    have HL : Hid (∀ W, Below w.heap.size w W → Calls Try.prog 146 #[.pointer (some ⟨B, 0, none⟩), .int .i64 (i : Int)] W (SiteOut M w B S L (R.eraseIdx i) fo (T + 1) (.tuple #[]))) := Lib.hid fun W hb => (sleaveM (HM.out.below hb) i (by omega) hr hT HF.out).mono fun _ _ q => q.ahead hb
    have HI : Hid ((i : Int).toNat = i) := Lib.hid (by simp)
    rw [HI.out]
    clear HZ hi
    go_enter Try.func131, Try.ntmps131
    go_wp2_with fail
    refine HP.out.mono ?_
    rintro e w2 ⟨rfl, hb⟩
    have HC := Lib.hid (HL.out w2 hb)
    clear hb
    go_wp2_with fail
    refine HC.out.mono ?_
    rintro e w3 ⟨rfl, d, t⟩
    have HD := Lib.hid d
    have HT := Lib.hid t
    clear d t
    go_wp2_with fail
    go_ret
    exact ⟨rfl, HD.out, HT.out⟩
def popS (R : List EL) : List EL × Bool := dropS R (lastE R).n
set_option maxHeartbeats 1000000 in
set_option maxRecDepth 100000 in
theorem spopP (h : SiteM M w B S L R fo T) (h0 : 0 < R.length) (hr : R.length ≤ 4294967296) (hT : T < 4294967296) (hf : Fit R) :
    Calls Try.prog 105 #[.pointer (some ⟨B, 0, none⟩)] w (SiteOut M w B S L (popS R).1 fo (T + 1) (.bool (popS R).2)) := by
  have HT := Lib.hid (sTopM h h0 hr)
  have hx := hf.num (lastE R) (by rw [lastE_at h0]; exact List.getElem_mem _)
  have HD : Hid (∀ W, Below w.heap.size w W → Calls Try.prog 131 #[.pointer (some ⟨B, 0, none⟩), .int .i64 (lastE R).n] W (SiteOut M w B S L (popS R).1 fo (T + 1) (.bool (popS R).2))) := Lib.hid fun W hb => (sdropP (h.below hb) _ h0 hr hT hf hx.1 hx.2).mono fun _ _ q => q.ahead hb
  clear h hf hx
  generalize popS R = r at *
  generalize (lastE R).n = N at *
  go_enter Try.func105, Try.ntmps105
  go_wp2_with fail
  refine HT.out.mono ?_
  rintro e w2 ⟨rfl, hb⟩
  have HC := Lib.hid (HD.out w2 hb)
  clear hb
  go_wp2_with fail
  refine HC.out.mono ?_
  rintro e w3 ⟨rfl, d, t⟩
  have HD := Lib.hid d
  have HT := Lib.hid t
  clear d t
  go_wp2_with fail
  go_ret
  exact ⟨rfl, HD.out, HT.out⟩
end Go.Proofs.Ytbadckkcjjfnoaa
