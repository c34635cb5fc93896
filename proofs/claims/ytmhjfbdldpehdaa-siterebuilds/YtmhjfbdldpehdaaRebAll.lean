/-
  The walk of the program's stands. Any Site.
  Add without fostering, plainly: what it leaves of other nodes, that it may be reckoned. No program is walked.
  The walk of the program's Rebuild, without fostering. Any Site of not too many marks.
  The law of Rebuild, plainly: rows of rising numbers, marks of rising nodes. No program is walked.
  A Site with marks beside a tape of numbers: the calls of the law of Rebuild.
  Two drawn regions of the law of Rebuild.
  The walk of a round of the law of Rebuild: an element, its mark.
  The walk of SiteRebuilds: true, and nothing old is changed. Any numbers, any number.
-/
import Derived.Test.YtmhjfbdldpehdaaSWG
import Derived.Test.YtmhjfbdldpehdaaMkAll
import Derived.Deep.CutBlock
import Derived.Deep.DeepCutAuto
import Derived.Test.YtmhjfbdldpehdaaRowAll
import Derived.Test.YtmhjfbdldpehdaaDPNode
import Derived.Deep.RegionHeld3
namespace Go.Proofs.Ytmhjfbdldpehdaa
open Go.RowKit Go.Maps

variable {M : Nat → Prop} {w w' : World} {B : Nat} {a : SA} {S : List PN} {L : List MK} {R : List EL} {fO : Int → Bool} {fN : List UInt8 → Int} {fo : Bool}
def standsS (fO : Int → Bool) (L : List MK) (i : Nat) : Bool := decide ((L.getD i mZero).node = -1) || fO (L.getD i mZero).node
set_option maxHeartbeats 2000000 in
set_option maxRecDepth 100000 in
theorem sstandsP (h : SiteQ M w B a S L R fO fN fo) (i : Nat) (hi : i < L.length) (hl : L.length ≤ 4294967296) (hx : ∀ x ∈ L, x.attrs.length ≤ 4294967296) (n0 : -9223372036854775808 ≤ (L.getD i mZero).node) (n1 : (L.getD i mZero).node ≤ 9223372036854775807) :
    Calls Try.prog 129 #[.pointer (some ⟨B, 0, none⟩), .int .i64 (i : Int)] w (Brings (.bool (standsS fO L i)) w) := by
  have HA : Hid (Calls Try.prog 113 #[.pointer (some ⟨a.K, 0, none⟩), .int .i64 (i : Int)] w (AtM L i w)) := Lib.hid (matP L a.K a.MK w i h.marks hl hx)
  have hh : mHas L (i : Int) = true := by unfold mHas; simp; omega
  have HO : Hid (∀ W, Below w.heap.size w W → Calls Try.prog 159 #[.pointer (some ⟨B, 0, none⟩), .int .i64 (L.getD i mZero).node] W (Brings (.bool (fO (L.getD i mZero).node)) W)) := Lib.hid fun W hb => sopenP (h.below hb) _ n0 n1
  have HH := Lib.hid hh
  have c1 := h.c1
  have hB := h.lt
  have HZ : Hid (standsS fO L i = (decide ((L.getD i mZero).node = -1) || fO (L.getD i mZero).node)) := Lib.hid rfl
  obtain ⟨r, hr⟩ : ∃ r, r = standsS fO L i := ⟨_, rfl⟩
  rw [← hr] at HZ ⊢
  clear hr hh h
  go_enter Try.func129, Try.ntmps129
  go_wp2_with fail
  refine HA.out.mono ?_
  rintro e w2 ⟨hA, hb2⟩
  rcases hA with ⟨h0, _⟩ | ⟨_, p, c, rfl, _⟩
  · rw [HH.out] at h0; cases h0
  rw [show ((i : Int)).toNat = i by omega]
  unfold markV
  have HB2 := Lib.hid hb2
  clear hb2 HA HH
  generalize L.getD i mZero = x at *
  obtain ⟨nd, nm, at_⟩ := x
  simp only at HO HZ n0 n1 ⊢
  by_cases hn : nd = -1
  · have q1 : (nd == -1) = true := by simp [hn]
    have HZ2 := Lib.hid (show r = true by rw [HZ.out, hn]; rfl)
    clear HZ HO
    go_wp2_with fail
    go_ret
    exact ⟨by rw [HZ2.out]; rfl, HB2.out.alloc HB2.out.size _⟩
  · have q1 : (nd == -1) = false := by simp [hn]
    have HZ2 := Lib.hid (show r = fO nd by rw [HZ.out]; simp [hn])
    clear HZ
    go_wp2_with fail
    refine (HO.out _ (HB2.out.alloc HB2.out.size _)).mono ?_
    rintro e w3 ⟨rfl, hb3⟩
    have HB3 := Lib.hid hb3
    clear hb3 HO
    go_wp2_with fail
    go_ret
    exact ⟨by rw [HZ2.out]; rfl, (HB2.out.alloc HB2.out.size _).trans (HB3.out.mono (HB2.out.alloc HB2.out.size _).size)⟩
end Go.Proofs.Ytmhjfbdldpehdaa
namespace Go.Proofs.Ytmhjfbdldpehdaa

/-- The last kid of each node is one, or none; attributes are not too many. -/
def LastOk (S : List PN) : Prop := ∀ u, pHas S u = true → ((pget S u).last = -1 ∨ pHas S (pget S u).last = true) ∧ (pget S u).attrs.length ≤ 30
theorem pget_pset {S : List PN} {n m : Int} (f : PN → PN) (hm : pHas S m = true) (hn : 0 ≤ n) : pget (pset S n f) m = if n = m then f (pget S m) else pget S m := by
  obtain ⟨j, rfl, hj⟩ := pHas_nat hm
  obtain ⟨i, rfl⟩ : ∃ i : Nat, n = (i : Int) := ⟨n.toNat, by omega⟩
  unfold pget pset
  rw [Int.toNat_natCast, Int.toNat_natCast, List.getD_eq_getElem?_getD, List.getD_eq_getElem?_getD, List.getElem?_modify, List.getElem?_eq_getElem hj]
  by_cases e : i = j
  · subst e; simp
  · rw [if_neg (by omega)]
    simp [e]
theorem pget_app {S : List PN} {x : PN} {m : Int} (hm : pHas S m = true) : pget (S ++ [x]) m = pget S m := by
  obtain ⟨j, rfl, hj⟩ := pHas_nat hm
  rw [pget_nat hj, pget_nat (by simp; omega)]
  exact List.getElem_append_left hj
theorem pget_new (S : List PN) (x : PN) : pget (S ++ [x]) (S.length : Int) = x := by
  rw [pget_nat (by simp)]
  simp
theorem pHas_app {S : List PN} {x : PN} {m : Int} (h : pHas S m = true) : pHas (S ++ [x]) m = true := by
  rw [pHas_iff] at h ⊢
  simp; omega
/-- What a call leaves of each node: its name, its kind; its last kid is what it was, or N. -/
structure Kp (N : Int) (S S' : List PN) : Prop where
  len : S'.length = S.length
  name : ∀ m, pHas S m = true → (pget S' m).name = (pget S m).name
  kind : ∀ m, pHas S m = true → (pget S' m).kind = (pget S m).kind
  attrs : ∀ m, pHas S m = true → (pget S' m).attrs = (pget S m).attrs
  last : ∀ m, pHas S m = true → (pget S' m).last = (pget S m).last ∨ (pget S' m).last = N
theorem Kp.refl (N : Int) (S : List PN) : Kp N S S := ⟨rfl, fun _ _ => rfl, fun _ _ => rfl, fun _ _ => rfl, fun _ _ => .inl rfl⟩
theorem pHas_len {S S' : List PN} (h : S'.length = S.length) (m : Int) : pHas S' m = pHas S m := by unfold pHas; rw [h]
theorem Kp.trans {N : Int} {S S1 S2 : List PN} (h : Kp N S S1) (k : Kp N S1 S2) : Kp N S S2 := by
  have hh : ∀ m, pHas S m = true → pHas S1 m = true := fun m q => by rw [pHas_len h.len]; exact q
  refine ⟨k.len.trans h.len, fun m q => (k.name m (hh m q)).trans (h.name m q), fun m q => (k.kind m (hh m q)).trans (h.kind m q), fun m q => (k.attrs m (hh m q)).trans (h.attrs m q), fun m q => ?_⟩
  rcases k.last m (hh m q) with e | e
  · rw [e]; exact h.last m q
  · exact .inr e
theorem kp_pset {N : Int} {S : List PN} {n : Int} (hn : 0 ≤ n) (f : PN → PN) (h : ∀ x, (f x).name = x.name ∧ (f x).kind = x.kind ∧ (f x).attrs = x.attrs ∧ ((f x).last = x.last ∨ (f x).last = N)) : Kp N S (pset S n f) := by
  refine ⟨pset_len _ _ _, fun m q => ?_, fun m q => ?_, fun m q => ?_, fun m q => ?_⟩ <;> rw [pget_pset f q hn] <;> split
  · exact (h _).1
  · rfl
  · exact (h _).2.1
  · rfl
  · exact (h _).2.2.1
  · rfl
  · exact (h _).2.2.2
  · exact .inl rfl
theorem kp_meet {S : List PN} {up before behind : Int} (hu : 0 ≤ up) (hb : before = -1 ∨ 0 ≤ before) (hc : behind = -1 ∨ 0 ≤ behind) (N : Int) (h : behind ≠ -1 ∨ before = N) : Kp N S (pMeet S up before behind) := by
  have h1 : Kp N S (pMeet1 S up before behind) := by
    unfold pMeet1
    split
    · exact kp_pset hu _ (fun x => ⟨rfl, rfl, rfl, .inl rfl⟩)
    · rename_i e
      exact kp_pset (hb.elim (fun k => absurd k e) id) _ (fun x => ⟨rfl, rfl, rfl, .inl rfl⟩)
  refine h1.trans ?_
  unfold pMeet pMeet2
  split
  · rename_i e
    exact kp_pset hu _ (fun x => ⟨rfl, rfl, rfl, .inr (h.elim (fun k => absurd e k) id)⟩)
  · rename_i e
    exact kp_pset (hc.elim (fun k => absurd k e) id) _ (fun x => ⟨rfl, rfl, rfl, .inl rfl⟩)
theorem spot_off (fN : List UInt8 → Int) (S : List PN) (R : List EL) : spotS false fN S R = ((lastE R).n, -1) := rfl
theorem okAdd_off {S : List PN} {R : List EL} (hl : LastOk S) (ht : pHas S (lastE R).n = true) (sp : Int) (nm : List UInt8) (l : List (List UInt8 × List UInt8)) : okAdd false S R sp nm l 1 = true := by
  unfold okAdd okPut
  rw [spot_off]
  have hi := (pHas_iff _ _).1 ht
  have hn : pHas (S ++ [elemPN sp nm l]) (S.length : Int) = true := by rw [pHas_iff]; simp; omega
  have ht2 := pHas_app (x := elemPN sp nm l) ht
  have h1 : pWithin (S ++ [elemPN sp nm l]) 1 (lastE R).n (S.length : Int) = some false := by
    unfold pWithin
    rw [pget_new]
    rw [if_pos (by rfl)]
    have : ¬ (lastE R).n = (S.length : Int) := by omega
    simp [this]
  have h2 : pBefore (pLink0 (S ++ [elemPN sp nm l]) (S.length : Int) (lastE R).n) (lastE R).n (-1) = (pget S (lastE R).n).last := by
    unfold pBefore pLink0
    rw [if_pos rfl, pget_pset _ ht2 (by omega), if_neg (by omega), pget_app ht]
  have h3 : okLink (S ++ [elemPN sp nm l]) (S.length : Int) (lastE R).n (-1) = true := by
    unfold okLink
    rw [h2, hn, ht2]
    rcases (hl _ ht).1 with e | e
    · simp [e]
    · simp [pHas_app (x := elemPN sp nm l) e]
  simp only [h1, h3]
  simp
theorem kp_link {S : List PN} {n up : Int} (hn : pHas S n = true) (hu : pHas S up = true) (hl : (pget S up).last = -1 ∨ pHas S (pget S up).last = true) (hne : n ≠ up) : Kp n S (pLink S n up (-1)) := by
  have n0 := ((pHas_iff _ _).1 hn).1
  have u0 := ((pHas_iff _ _).1 hu).1
  have h1 : Kp n S (pLink0 S n up) := kp_pset n0 _ (fun x => ⟨rfl, rfl, rfl, .inl rfl⟩)
  have h2 : pBefore (pLink0 S n up) up (-1) = (pget S up).last := by
    unfold pBefore pLink0
    rw [if_pos rfl, pget_pset _ hu n0, if_neg hne]
  unfold pLink
  rw [h2]
  exact (h1.trans (kp_meet u0 (hl.imp id fun k => ((pHas_iff _ _).1 k).1) (.inr n0) n (.inl (by omega)))).trans (kp_meet u0 (.inr n0) (.inl rfl) n (.inr rfl))
theorem add_kp {S : List PN} {R : List EL} (hl : LastOk S) (ht : pHas S (lastE R).n = true) (sp : Int) (nm : List UInt8) (l : List (List UInt8 × List UInt8)) : Kp (S.length : Int) (S ++ [elemPN sp nm l]) (addS false S R sp nm l) := by
  have hi := (pHas_iff _ _).1 ht
  unfold addS pPut
  rw [spot_off]
  split
  · refine kp_link (by rw [pHas_iff]; simp; omega) (pHas_app ht) ?_ (by omega)
    rw [pget_app ht]
    exact (hl _ ht).1.imp id (fun k => pHas_app k)
  · exact Kp.refl _ _
theorem add_len (S : List PN) (R : List EL) (sp : Int) (nm : List UInt8) (l : List (List UInt8 × List UInt8)) : (addS false S R sp nm l).length = S.length + 1 := by
  unfold addS pPut
  split
  · rw [pLink_len]; simp
  · simp
theorem add_last {S : List PN} {R : List EL} (hl : LastOk S) (ht : pHas S (lastE R).n = true) (sp : Int) (nm : List UInt8) (l : List (List UInt8 × List UInt8)) (hal : l.length ≤ 30) : LastOk (addS false S R sp nm l) := by
  have hk := add_kp hl ht sp nm l
  have hz := hk.len
  have hh : ∀ m, pHas (addS false S R sp nm l) m = pHas (S ++ [elemPN sp nm l]) m := fun m => pHas_len hz m
  intro u hu
  rw [hh] at hu ⊢
  have hnew : pHas S u = true ∨ u = (S.length : Int) := by
    by_cases hus : pHas S u = true
    · exact .inl hus
    · right
      rw [pHas_iff] at hu hus
      simp at hu
      omega
  refine ⟨?_, ?_⟩
  · rcases hk.last u hu with e | e
    · rw [e]
      rcases hnew with hus | rfl
      · rw [pget_app hus]
        exact (hl u hus).1.imp id (fun k => pHas_app k)
      · rw [pget_new]
        exact .inl rfl
    · rw [e]
      right
      rw [pHas_iff]
      simp; omega
  · rw [hk.attrs u hu]
    rcases hnew with hus | rfl
    · rw [pget_app hus]
      exact (hl u hus).2
    · rw [pget_new]
      exact hal
theorem add_name {S : List PN} {R : List EL} (hl : LastOk S) (ht : pHas S (lastE R).n = true) (sp : Int) (nm : List UInt8) (l : List (List UInt8 × List UInt8)) {m : Int} (hm : pHas S m = true) : (pget (addS false S R sp nm l) m).name = (pget S m).name := by
  rw [(add_kp hl ht sp nm l).name m (pHas_app hm), pget_app hm]
theorem add_new {S : List PN} {R : List EL} (hl : LastOk S) (ht : pHas S (lastE R).n = true) (sp : Int) (nm : List UInt8) (l : List (List UInt8 × List UInt8)) : (pget (addS false S R sp nm l) (S.length : Int)).name = nm := by
  rw [(add_kp hl ht sp nm l).name _ (by rw [pHas_iff]; simp; omega), pget_new]
  rfl
theorem last_start : LastOk [elemPN 1 [] []] := by
  intro u hu
  rw [pHas_iff] at hu
  have : u = 0 := by simp at hu; omega
  subst this
  exact ⟨.inl rfl, by decide⟩
end Go.Proofs.Ytmhjfbdldpehdaa
namespace Go.Proofs.Ytmhjfbdldpehdaa
open Go.RowKit Go.Maps

abbrev St8 := List PN × List MK × List EL
def rebStep (i : Nat) (st : St8) : St8 := (addS false st.1 st.2.2 1 (st.2.1.getD i mZero).name (st.2.1.getD i mZero).attrs, mSetS st.2.1 (i : Int) ⟨(st.1.length : Int), (st.2.1.getD i mZero).name, (st.2.1.getD i mZero).attrs⟩, st.2.2 ++ [⟨(st.1.length : Int), 1, (st.2.1.getD i mZero).name⟩])
def rebF : Nat → Nat → St8 → St8
  | 0, _, st => st
  | c + 1, i, st => rebF c (i + 1) (rebStep i st)
def rebScan (fO : Int → Bool) (L : List MK) : Nat → Nat
  | 0 => 0
  | i + 1 => if standsS fO L i = true then i + 1 else rebScan fO L i
theorem rebScan_le (fO : Int → Bool) (L : List MK) : ∀ i, rebScan fO L i ≤ i
  | 0 => Nat.le_refl _
  | i + 1 => by
    rw [rebScan]
    split
    · exact Nat.le_refl _
    · have := rebScan_le fO L i; omega
/-- What holds of a Site that is rebuilt. -/
structure RebI (st : St8) (n K : Nat) : Prop where
  last : LastOk st.1
  has : ∀ x ∈ st.2.2, pHas st.1 x.n = true
  pos : 0 < st.2.2.length
  rlen : st.2.2.length ≤ K
  slen : st.1.length ≤ K
  llen : st.2.1.length = n
  marks : ∀ x ∈ st.2.1, x.attrs.length ≤ 30 ∧ x.name.length ≤ 30 ∧ -1 ≤ x.node ∧ x.node ≤ 1000000
theorem RebI.top {st : St8} {n K : Nat} (h : RebI st n K) : pHas st.1 (lastE st.2.2).n = true := by
  have hp := h.pos
  rw [lastE_at hp]
  exact h.has _ (List.getElem_mem _)
theorem RebI.next {st : St8} {n K i : Nat} (h : RebI st n K) (hi : i < n) (hK : K ≤ 100000) : RebI (rebStep i st) n (K + 1) := by
  have hl := h.llen
  have hx := h.marks (st.2.1.getD i mZero) (by rw [getD_at (by omega)]; exact List.getElem_mem _)
  have hz := h.slen
  have hlen := add_len st.1 st.2.2 1 (st.2.1.getD i mZero).name (st.2.1.getD i mZero).attrs
  refine ⟨add_last h.last h.top _ _ _ hx.1, ?_, by simp [rebStep], by have := h.rlen; simp [rebStep]; omega, by show (addS _ _ _ _ _ _).length ≤ _; rw [hlen]; omega, ?_, ?_⟩
  · intro x hx
    show pHas (addS _ _ _ _ _ _) _ = true
    rw [pHas_iff, hlen]
    rcases List.mem_append.1 hx with k | k
    · have := (pHas_iff _ _).1 (h.has x k)
      omega
    · rw [List.mem_singleton] at k
      subst k
      simp only
      omega
  · show (mSetS _ _ _).length = n
    unfold mSetS
    split
    · rw [List.length_set]; exact hl
    · exact hl
  · intro y hy
    have hy' : y ∈ mSetS st.2.1 (i : Int) ⟨(st.1.length : Int), (st.2.1.getD i mZero).name, (st.2.1.getD i mZero).attrs⟩ := hy
    unfold mSetS at hy'
    split at hy'
    · rcases List.mem_or_eq_of_mem_set hy' with k | k
      · exact h.marks y k
      · rw [k]
        exact ⟨hx.1, hx.2.1, by simp only; omega, by simp only; omega⟩
    · exact h.marks y hy'
variable {w0 W w' : World} {M : Nat → Prop} {B : Nat} {S : List PN} {L : List MK} {R : List EL} {T : Nat}
theorem StepK.trans {S3 : List PN} {L3 : List MK} {R3 : List EL} {fo' : Bool} {T3 : Nat} {w1 w2 : World} {M1 : Nat → Prop} (hs : ∀ b, b < W.heap.size → M1 b → M b) (ht : Turns M W w1) (h : StepK w0 w1 M1 B S3 L3 R3 fo' T3 w2) : StepK w0 W M B S3 L3 R3 fo' T3 w2 := by
  obtain ⟨M2, k2, hs2, ht2⟩ := h
  have hz := ht.size
  refine ⟨M2, k2, fun b hb k => hs b hb (hs2 b (by omega) k), ht.trans (ht2.mono fun b hb k => ?_)⟩
  by_cases hl : b < W.heap.size
  · exact .inl (hs b hl k)
  · exact .inr (by omega)
theorem StepK.refl {fo : Bool} (k : SiteK w0 W M B S L R fo T) : StepK w0 W M B S L R fo T W := ⟨M, k, fun _ _ k => k, Turns.refl _ _⟩
set_option maxHeartbeats 4000000 in
set_option maxRecDepth 100000 in
theorem srebuildP (h : SiteK w0 W M B S L R false T) (n K : Nat) (hi : RebI (S, L, R) n K) (hn : n ≤ 1000) (hK : K ≤ 10000) (hT : T + n ≤ 100000) :
    Calls Try.prog 61 #[.pointer (some ⟨B, 0, none⟩)] W (fun e w' => e = .returned (.tuple #[]) ∧ ∃ T', T' ≤ T + n ∧ StepK w0 W M B (rebF (n - rebScan (elOpen R) L n) (rebScan (elOpen R) L n) (S, L, R)).1 (rebF (n - rebScan (elOpen R) L n) (rebScan (elOpen R) L n) (S, L, R)).2.1 (rebF (n - rebScan (elOpen R) L n) (rebScan (elOpen R) L n) (S, L, R)).2.2 false T' w') := by
  obtain ⟨a, q, ho, hn2⟩ := h.site
  have hl : L.length = n := hi.llen
  have c1 := q.c1
  have hB := q.lt
  have HLEN : Hid (Calls Try.prog 101 #[.pointer (some ⟨a.K, 0, none⟩)] W (Gives (.int .i64 (n : Int)) W)) := Lib.hid (by
    have := mlenP L a.K a.MK W q.marks
    rw [hl] at this
    exact this)
  have HST : Hid (∀ W' i, i < n → Below W.heap.size W W' → Calls Try.prog 129 #[.pointer (some ⟨B, 0, none⟩), .int .i64 (i : Int)] W' (Brings (.bool (standsS (elOpen R) L i)) W')) := Lib.hid (fun W' i hin hb => by
    have hm := hi.marks (L.getD i mZero) (by rw [getD_at (by omega)]; exact List.getElem_mem _)
    exact sstandsP (q.below hb) i (by omega) (by omega) (fun x hx => by have := (hi.marks x hx).1; omega) (by omega) (by omega))
  obtain ⟨i0, hi0⟩ : ∃ i0, i0 = rebScan (elOpen R) L n := ⟨_, rfl⟩
  rw [← hi0]
  have HI0 := Lib.hid hi0
  have hle : i0 ≤ n := by rw [hi0]; exact rebScan_le _ _ _
  obtain ⟨FIN, hF⟩ : ∃ FIN, FIN = rebF (n - i0) i0 (S, L, R) := ⟨_, rfl⟩
  rw [← hF]
  have HF := Lib.hid hF
  have HK := Lib.hid h
  have HI := Lib.hid hi
  clear hi0 hF h hi q
  go_enter Try.func61, Try.ntmps61
  go_wp2_with fail
  refine HLEN.out.mono ?_
  rintro e w1 ⟨rfl, rfl⟩
  go_upto_block 0 with fail
  go_cut [2] (fun i wx => i = .int .i64 (i0 : Int) ∧ Below W.heap.size W wx)
  case first =>
    go_wp2_with fail
    go_loopw [2] (fun i wr => ∃ k : Nat, k ≤ n ∧ i = .int .i64 (k : Int) ∧ rebScan (elOpen R) L k = i0 ∧ Below W.heap.size W wr) (fun i _ => (intOf i).toNat)
    case atStart => exact ⟨n, Nat.le_refl _, rfl, HI0.out.symm, Below.refl _ _⟩
    case round =>
      obtain ⟨k, hk, rfl, hsc, hb⟩ := hrel
      have HB := Lib.hid hb
      clear hb
      cases k with
      | zero =>
        have hz : i0 = 0 := hsc.symm
        subst hz
        go_wp2_with fail
        go_meet
        exact ⟨rfl, HB.out⟩
      | succ k =>
        have HS := Lib.hid (HST.out wr k (by omega) HB.out)
        have p0 : (0 : Int) < ((k + 1 : Nat) : Int) := by omega
        have p1 : (((k + 1 : Nat) : Int) - 1) = (k : Int) := by omega
        have p2 : (0 : Int) < (k : Int) + 1 := by omega
        rw [rebScan] at hsc
        have HSC := Lib.hid hsc
        clear hsc
        by_cases hs : standsS (elOpen R) L k = true
        · rw [hs] at HS
          have hz : k + 1 = i0 := by have := HSC.out; rw [if_pos hs] at this; exact this
          subst hz
          clear HSC
          go_wp2_with fail
          refine HS.out.mono ?_
          rintro e w2 ⟨rfl, hb2⟩
          have HB2 := Lib.hid (HB.out.trans (hb2.mono HB.out.size))
          clear hb2
          go_wp2_with fail
          go_meet
          exact ⟨rfl, HB2.out⟩
        · have hs' : standsS (elOpen R) L k = false := by simpa using hs
          rw [hs'] at HS
          have HZ : Hid (rebScan (elOpen R) L k = i0) := Lib.hid (by have := HSC.out; rw [if_neg hs] at this; exact this)
          clear HSC hs hs'
          go_wp2_with fail
          refine HS.out.mono ?_
          rintro e w2 ⟨rfl, hb2⟩
          have HB2 := Lib.hid (HB.out.trans (hb2.mono HB.out.size))
          clear hb2
          go_wp2_with fail
          exact ⟨⟨k, by omega, rfl, HZ.out, HB2.out⟩, by simp [intOf]⟩
  case rest =>
    obtain ⟨rfl, hb⟩ := hcut
    have HB := Lib.hid hb
    clear hb
    have HSK : Hid (∃ (i : Nat) (st : St8) (T' : Nat), i ≤ n ∧ Value.int .i64 (i0 : Int) = .int .i64 (i : Int) ∧ rebF (n - i) i st = FIN ∧ RebI st n (K + i) ∧ T' + (n - i) ≤ T + n ∧ StepK w0 W M B st.1 st.2.1 st.2.2 false T' wc) := Lib.hid ⟨i0, (S, L, R), T, hle, rfl, HF.out.symm, ⟨HI.out.last, HI.out.has, HI.out.pos, Nat.le_trans HI.out.rlen (by omega), Nat.le_trans HI.out.slen (by omega), HI.out.llen, HI.out.marks⟩, by omega, StepK.trans (fun _ _ k => k) (.of_below HB.out) (StepK.refl (HK.out.on HB.out))⟩
    clear HB HI0 HST HLEN
    go_wp2_with fail
    go_loopw [2] (fun v wr => ∃ (i : Nat) (st : St8) (T' : Nat), i ≤ n ∧ v = .int .i64 (i : Int) ∧ rebF (n - i) i st = FIN ∧ RebI st n (K + i) ∧ T' + (n - i) ≤ T + n ∧ StepK w0 W M B st.1 st.2.1 st.2.2 false T' wr) (fun v _ => n - (intOf v).toNat)
    case atStart => exact HSK.out
    case round =>
      obtain ⟨i, st, T', hin, rfl, hf, hI, hT', M1, k1, hs1, ht1⟩ := hrel
      obtain ⟨a1, q1, ho1, hn1⟩ := k1.site
      have hl1 := hI.llen
      have HL1 : Hid (Calls Try.prog 101 #[.pointer (some ⟨a1.K, 0, none⟩)] wr (Gives (.int .i64 (n : Int)) wr)) := Lib.hid (by
        have := mlenP st.2.1 a1.K a1.MK wr q1.marks
        rw [hl1] at this
        exact this)
      have e1 := q1.c1
      have hB1 := q1.lt
      have HF1 := Lib.hid hf
      have HI1 := Lib.hid hI
      have HK1 := Lib.hid k1
      have HS1 := Lib.hid hs1
      have HU1 := Lib.hid ht1
      have HQ1 := Lib.hid q1
      clear hf hI k1 hs1 ht1 q1 hl1 ho1 hn1 HSK
      by_cases hlt : i < n
      · have p0 : (i : Int) < (n : Int) := by omega
        have hAT := matP st.2.1 a1.K a1.MK wr (i : Int) HQ1.out.marks (by have := HI1.out.llen; omega) (fun x hx => by have := (HI1.out.marks x hx).1; omega)
        have HAT := Lib.hid hAT
        have HHAS : Hid (mHas st.2.1 (i : Int) = true) := Lib.hid (by have := HI1.out.llen; unfold mHas; simp; omega)
        have HMX : Hid (st.2.1.getD i mZero ∈ st.2.1) := Lib.hid (by rw [getD_at (by have := HI1.out.llen; omega)]; exact List.getElem_mem _)
        clear hAT
        go_wp2_with fail
        refine HL1.out.mono ?_
        rintro e w2 ⟨rfl, rfl⟩
        go_wp2_with fail
        refine HAT.out.mono ?_
        rintro e w2 ⟨hA, hb2⟩
        rcases hA with ⟨h0, _⟩ | ⟨_, p, c, rfl, hat⟩
        · rw [HHAS.out] at h0; cases h0
        rw [show ((i : Int)).toNat = i by omega] at hat ⊢
        unfold markV
        have hstep : rebStep i st = (addS false st.1 st.2.2 1 (st.2.1.getD i mZero).name (st.2.1.getD i mZero).attrs, mSetS st.2.1 (i : Int) ⟨(st.1.length : Int), (st.2.1.getD i mZero).name, (st.2.1.getD i mZero).attrs⟩, st.2.2 ++ [⟨(st.1.length : Int), 1, (st.2.1.getD i mZero).name⟩]) := rfl
        have HSTEP := Lib.hid hstep
        have hmx := HI1.out.marks _ HMX.out
        have HF2 : Hid (rebF (n - (i + 1)) (i + 1) (rebStep i st) = FIN) := Lib.hid (by
          have := HF1.out
          rw [show n - i = (n - (i + 1)) + 1 by omega, rebF] at this
          exact this)
        have HI2 := Lib.hid (HI1.out.next hlt (by omega))
        have HAT2 := Lib.hid hat
        have HB2 := Lib.hid hb2
        clear hstep hat hb2 HAT HL1 HF1 HMX HHAS
        generalize st.2.1.getD i mZero = x at *
        obtain ⟨nd, nm, at_⟩ := x
        simp only at HAT2 HSTEP hmx ⊢
        obtain ⟨NM, hNM⟩ : ∃ NM : ByteArray, (⟨nm.toArray⟩ : ByteArray) = NM := ⟨_, rfl⟩
        rw [hNM]
        obtain ⟨w3, hw3⟩ : ∃ w3, w3 = w2.alloc (.cells #[.int .i64 nd, .string NM, .slice p at_.length c] 64) := ⟨_, rfl⟩
        have b3 : Below w2.heap.size w2 w3 := by rw [hw3]; exact (Below.refl _ w2).alloc (Nat.le_refl _) _
        have b13 : Below wr.heap.size wr w3 := HB2.out.trans (b3.mono HB2.out.size)
        have hx3 : w3.heap[w2.heap.size]? = some (.cells #[.int .i64 nd, .string NM, .slice p at_.length c] 64) := by rw [hw3]; exact heap_alloc_new w2 _
        have HK3 := Lib.hid (HK1.out.on b13)
        have HA3 : Hid (AttrsP (fun b => wr.heap.size ≤ b ∧ b < w2.heap.size) w3 (.slice p at_.length c) at_) := Lib.hid ((HAT2.out.mono fun b k hl => ⟨k, hl⟩).kept (.of_below b3))
        have hE1 := HB2.out.size
        have HX3 := Lib.hid hx3
        have HNM := Lib.hid hNM
        have HADD : Hid (Calls Try.prog 52 #[.pointer (some ⟨B, 0, none⟩), .int .i64 1, .string NM, .slice p at_.length c] w3 (fun e w' => e = .returned (.int .i64 (st.1.length : Int)) ∧ StepK w0 w3 M1 B (addS false st.1 st.2.2 1 nm at_) st.2.1 (st.2.2 ++ [⟨(st.1.length : Int), 1, nm⟩]) false (T' + 1) w')) := Lib.hid (by
          have := kAdd HK3.out _ 1 nm at_ _ HA3.out (by omega) (by omega) HI1.out.pos (by have := HI1.out.rlen; omega) (by have := HI1.out.slen; omega) (by omega) 1 (okAdd_off HI1.out.last HI1.out.top 1 nm at_)
          rw [hNM] at this
          exact this)
        have hE : ¬ M1 w2.heap.size := fun k => by have := (HK1.out.inn _ k).2; omega
        have y0 := (block_cell hx3 0).1
        have y1 := (block_cell hx3 1).1
        have y2 := (block_cell hx3 2).1
        simp at y0 y1 y2
        have HB3 := Lib.hid b13
        clear hNM b3 b13 hx3 HAT2 HB2
        go_wp2_with fail
        rw [← hw3]
        refine HADD.out.mono ?_
        rintro e w4 ⟨rfl, M4, k4, hs4, ht4⟩
        obtain ⟨a4, q4, ho4, hn4⟩ := k4.site
        have hl3 := heap_lt HX3.out
        have hx4 : w4.heap[w2.heap.size]? = some (.cells #[.int .i64 nd, .string NM, .slice p at_.length c] 64) := (ht4.block _ hl3 hE).trans HX3.out
        have z0 := (block_cell hx4 0).1
        have z1 := (block_cell hx4 1).1
        have z2 := (block_cell hx4 2).1
        have f0 := (block_cell hx4 0).2
        simp at z0 z1 z2
        have hE4 : ¬ M4 w2.heap.size := fun k => hE (hs4 _ hl3 k)
        have e4 := q4.c1
        have hne : ¬ B = w2.heap.size := by omega
        have hne' : ¬ w2.heap.size = B := by omega
        obtain ⟨w45, hw45⟩ : ∃ w45, w45 = w4.setCell ⟨w2.heap.size, 0, none⟩ (.int .i64 (st.1.length : Int)) := ⟨_, rfl⟩
        have g1 : w45.cell? ⟨B, 1, none⟩ = some (.pointer (some ⟨a4.K, 0, none⟩)) := by rw [hw45, World.cell?_setCell_other _ _ _ _ (by intro e; injection e with e _; exact hne' e)]; exact e4
        have v0 : w45.cell? ⟨w2.heap.size, 0, none⟩ = some (.int .i64 (st.1.length : Int)) := by rw [hw45]; exact World.cell?_setCell_same _ _ (u := .int .i64 nd) _ z0
        have v1 : w45.cell? ⟨w2.heap.size, 1, none⟩ = some (.string NM) := by rw [hw45, World.cell?_setCell_other _ _ _ _ (by intro e; injection e with _ e; omega)]; exact z1
        have v2 : w45.cell? ⟨w2.heap.size, 2, none⟩ = some (.slice p at_.length c) := by rw [hw45, World.cell?_setCell_other _ _ _ _ (by intro e; injection e with _ e; omega)]; exact z2
        have HW45 := Lib.hid hw45
        obtain ⟨w5, hw5⟩ : ∃ w5, w5 = w45.drew := ⟨_, rfl⟩
        have t5 : Turns (fun b => b = w2.heap.size) w4 w5 := by
          rw [hw5, hw45]
          exact ((Turns.refl (fun b => b = w2.heap.size) w4).setCell (.inl rfl) 0 _).trans (.of_below ((Below.refl _ _).drew))
        have q5 := q4.on t5 (fun b _ k e => hE4 (by rw [← e]; exact k))
        have k5 : SiteK w0 w5 M4 B (addS false st.1 st.2.2 1 nm at_) st.2.1 (st.2.2 ++ [⟨(st.1.length : Int), 1, nm⟩]) false (T' + 1) := ⟨⟨a4, q5, ho4, hn4⟩, fun b k => ⟨(k4.inn b k).1, Nat.lt_of_lt_of_le (k4.inn b k).2 t5.size⟩, k4.below.trans (t5.below k4.below.size fun b hb e => by have := HK1.out.below.size; omega)⟩
        have HA5 : Hid (AttrsP (fun b => wr.heap.size ≤ b ∧ b < w2.heap.size) w5 (.slice p at_.length c) at_) := Lib.hid ((HA3.out.kept (ht4.kept fun b _ k m => by have := (HK1.out.inn b m).2; omega)).kept (t5.kept fun b _ k e => by omega))
        have hSE := msetP st.2.1 a4.K a4.MK _ w5 (i : Int) ⟨(st.1.length : Int), nm, at_⟩ p c q5.marks (by have := HI1.out.llen; omega) HA5.out (by show at_.length ≤ _; omega)
        unfold markV at hSE
        simp only [HNM.out] at hSE
        have HSE := Lib.hid hSE
        have HTU : Hid (Turns M W w5) := Lib.hid (((HU1.out.trans (.of_below HB3.out)).trans (ht4.mono fun b hb k => by
          by_cases hl : b < W.heap.size
          · exact .inl (HS1.out b hl k)
          · exact .inr (by omega))).trans (t5.mono fun b _ e => .inr (by have := HU1.out.size; omega)))
        have HS4 : Hid (∀ b, b < W.heap.size → M4 b → M b) := Lib.hid (fun b hb k => HS1.out b hb (hs4 b (by have := HU1.out.size; have := HB3.out.size; omega) k))
        have HQ5 := Lib.hid q5
        have HK5 := Lib.hid k5
        have HO4 := Lib.hid (And.intro ho4 hn4)
        clear hw45 k4 hs4 ht4 q4 ho4 hn4 hl3 hx4 t5 q5 k5 hSE HA3 HA5 HX3 HADD
        go_wp2_with fail
        rw [← HW45.out]
        clear z0 z1 z2 f0 e4
        go_still_tail 6, (by kernel_rfl)
        go_wp2_with fail
        rw [← hw5]
        refine HSE.out.mono ?_
        rintro e w6 ⟨rfl, hm6, ht6⟩
        obtain ⟨q6, t6⟩ := HQ5.out.markStep hm6 ht6
        have hstp := (HK5.out.out (v := .bool true) (e := .returned (.bool true)) ⟨rfl, ⟨_, q6, HO4.out⟩, t6⟩).2
        have HFI : Hid (StepK w0 W M B (rebStep i st).1 (rebStep i st).2.1 (rebStep i st).2.2 false (T' + 1) w6) := Lib.hid (by
          rw [HSTEP.out]
          exact StepK.trans HS4.out HTU.out hstp)
        clear hm6 ht6 q6 t6 hstp HQ5 HK5 HTU HS4 HO4
        go_wp2_with fail
        exact ⟨⟨i + 1, rebStep i st, T' + 1, by omega, by go_num, HF2.out, HI2.out, by omega, HFI.out⟩, by simp [intOf]; omega⟩
      · have p0 : ¬ (i : Int) < (n : Int) := by omega
        obtain rfl : i = n := by omega
        have HFIN : Hid (st = FIN) := Lib.hid (by have := HF1.out; rw [Nat.sub_self] at this; exact this)
        clear HF1
        go_wp2_with fail
        refine HL1.out.mono ?_
        rintro e w2 ⟨rfl, rfl⟩
        go_wp2_with fail
        exact bodyPost_end (results_none rfl _ _ _) rfl ⟨rfl, T', by omega, by rw [← HFIN.out]; exact ⟨M1, HK1.out, HS1.out, HU1.out⟩⟩
end Go.Proofs.Ytmhjfbdldpehdaa
namespace Go.Proofs.Ytmhjfbdldpehdaa
open Go.RowKit

def numsE (R : List EL) : List Int := R.map (·.n)
def nodesM (L : List MK) : List Int := L.map (·.node)
def upTo (k : Nat) : List Int := (List.range k).map (fun i : Nat => (i : Int))
theorem upTo_succ (k : Nat) : upTo (k + 1) = upTo k ++ [(k : Int)] := by simp [upTo, List.range_succ]
theorem upTo_mem {k : Nat} {z : Int} : z ∈ upTo k ↔ 0 ≤ z ∧ z < k := by
  unfold upTo
  rw [List.mem_map]
  constructor
  · rintro ⟨i, hi, rfl⟩
    have := List.mem_range.1 hi
    omega
  · intro h
    exact ⟨z.toNat, List.mem_range.2 (by omega), by omega⟩
theorem upTo_len (k : Nat) : (upTo k).length = k := by simp [upTo]
theorem upTo_inc : ∀ k : Nat, (upTo k).Pairwise (· < ·)
  | 0 => List.Pairwise.nil
  | k + 1 => by
    rw [upTo_succ, List.pairwise_append]
    refine ⟨upTo_inc k, List.pairwise_singleton _ _, fun a ha b hb => ?_⟩
    rw [List.mem_singleton] at hb
    subst hb
    exact (upTo_mem.1 ha).2
theorem elOpen_mem (R : List EL) (z : Int) : elOpen R z = true ↔ z ∈ numsE R := by
  unfold elOpen numsE
  rw [List.any_eq_true, List.mem_map]
  simp
/-- What each mark is. -/
def MarkOk (S : List PN) (x : MK) : Prop := 2 ≤ x.node ∧ x.node < (S.length : Int) ∧ (pget S x.node).name = x.name
def MarkFit (x : MK) : Prop := x.attrs.length ≤ 2 ∧ x.name.length ≤ 10 ∧ x.fits
/-- Behind the law's pushes, and its pops. -/
structure LawI (st : St8) (k K : Nat) : Prop where
  row : numsE st.2.2 = upTo (k + 1)
  less : k < st.1.length
  last : LastOk st.1
  slen : st.1.length ≤ K
  names : ∀ x ∈ st.2.2, x.name.length ≤ 10
  llen : st.2.1.length ≤ K
  marks : ∀ x ∈ st.2.1, MarkOk st.1 x ∧ MarkFit x
  inc : (nodesM st.2.1).Pairwise (· < ·)
theorem LawI.rlen {st : St8} {k K : Nat} (h : LawI st k K) : st.2.2.length = k + 1 := by
  have := congrArg List.length h.row
  rw [upTo_len] at this
  simpa [numsE] using this
theorem LawI.fit {st : St8} {k K : Nat} (h : LawI st k K) (hK : K ≤ 1000) : Fit st.2.2 := by
  have hl := h.less
  have hs := h.slen
  refine ⟨?_, fun x hx => ?_, fun x hx => ?_⟩
  · have e : st.2.2.map (·.n) = upTo (k + 1) := h.row
    rw [e]
    exact (upTo_inc _).imp (fun hab => by omega)
  · have : x.n ∈ numsE st.2.2 := List.mem_map_of_mem hx
    rw [h.row, upTo_mem] at this
    omega
  · have := h.names x hx
    omega
theorem LawI.reb {st : St8} {k K : Nat} (h : LawI st k K) (hK : K ≤ 1000) : RebI st st.2.1.length (K + 1) := by
  have hr := h.rlen
  have hl := h.less
  have hs := h.slen
  refine ⟨h.last, fun x hx => ?_, by omega, by omega, by omega, rfl, fun x hx => ?_⟩
  · have : x.n ∈ numsE st.2.2 := List.mem_map_of_mem hx
    rw [h.row, upTo_mem] at this
    rw [pHas_iff]
    omega
  · obtain ⟨⟨h1, h2, _⟩, h3, h4, _⟩ := h.marks x hx
    exact ⟨by omega, by omega, by omega, by omega⟩
theorem nodesM_room (L : List MK) (x : MK) : (mRoom L x).Sublist L := by
  unfold mRoom
  split
  · exact List.eraseIdx_sublist _ _
  · exact List.Sublist.refl _
/-- One more element, its mark. -/
theorem LawI.push {st : St8} {K : Nat} (h : LawI st (st.1.length - 1) K) (hp : 2 ≤ st.1.length) (nm : List UInt8) (l : List (List UInt8 × List UInt8)) (hf : MarkFit ⟨(st.1.length : Int), nm, l⟩) :
    LawI (addS false st.1 st.2.2 1 nm l, mPush st.2.1 ⟨(st.1.length : Int), nm, l⟩, st.2.2 ++ [⟨(st.1.length : Int), 1, nm⟩]) st.1.length (K + 1) := by
  have hr := h.rlen
  have htop : pHas st.1 (lastE st.2.2).n = true := by
    rw [lastE_at (by omega)]
    have : (st.2.2[st.2.2.length - 1]).n ∈ numsE st.2.2 := List.mem_map_of_mem (List.getElem_mem _)
    rw [h.row, upTo_mem] at this
    rw [pHas_iff]
    omega
  have hlen := add_len st.1 st.2.2 1 nm l
  have hs := h.slen
  refine ⟨?_, by show _ < (addS _ _ _ _ _ _).length; omega, add_last h.last htop _ _ _ (by have := hf.1; simp only at this; omega), by show (addS _ _ _ _ _ _).length ≤ _; omega, ?_, ?_, ?_, ?_⟩
  · show numsE (st.2.2 ++ [_]) = _
    have e : numsE (st.2.2 ++ [⟨(st.1.length : Int), 1, nm⟩]) = numsE st.2.2 ++ [(st.1.length : Int)] := by simp [numsE]
    rw [e, h.row, upTo_succ st.1.length, show st.1.length - 1 + 1 = st.1.length by omega]
  · intro x hx
    rcases List.mem_append.1 hx with k | k
    · exact h.names x k
    · rw [List.mem_singleton] at k
      subst k
      exact hf.2.1
  · show (mRoom _ _ ++ [_]).length ≤ _
    have := (nodesM_room st.2.1 ⟨(st.1.length : Int), nm, l⟩).length_le
    have := h.llen
    simp; omega
  · intro x hx
    rcases List.mem_append.1 hx with k | k
    · obtain ⟨⟨h1, h2, h3⟩, h4⟩ := h.marks x ((nodesM_room _ _).subset k)
      refine ⟨⟨h1, ?_, ?_⟩, h4⟩
      · show _ < ((addS _ _ _ _ _ _).length : Int); omega
      · show (pget (addS _ _ _ _ _ _) _).name = _
        rw [add_name h.last htop 1 nm l (by rw [pHas_iff]; omega)]
        exact h3
    · rw [List.mem_singleton] at k
      subst k
      exact ⟨⟨by simp only; omega, by show _ < ((addS _ _ _ _ _ _).length : Int); simp only; omega, add_new h.last htop 1 nm l⟩, hf⟩
  · show (nodesM (mRoom _ _ ++ [_])).Pairwise _
    have e : nodesM (mRoom st.2.1 ⟨(st.1.length : Int), nm, l⟩ ++ [⟨(st.1.length : Int), nm, l⟩]) = nodesM (mRoom st.2.1 ⟨(st.1.length : Int), nm, l⟩) ++ [(st.1.length : Int)] := by simp [nodesM]
    rw [e, List.pairwise_append]
    refine ⟨h.inc.sublist ((nodesM_room _ _).map _), List.pairwise_singleton _ _, fun a ha b hb => ?_⟩
    rw [List.mem_singleton] at hb
    subst hb
    obtain ⟨x, hx, rfl⟩ := List.mem_map.1 ha
    exact (h.marks x ((nodesM_room _ _).subset hx)).1.2.1
theorem scanP_last (R : List EL) : scanP R (lastE R).n (R.length - 1) = R.length - 1 := by
  obtain ⟨m, hm⟩ : ∃ m, R.length - 1 = m := ⟨_, rfl⟩
  unfold lastE
  rw [hm]
  cases m with
  | zero => rfl
  | succ m =>
    unfold scanP
    rw [if_pos rfl]
theorem numsE_erase (R : List EL) (i : Nat) : numsE (R.eraseIdx i) = (numsE R).eraseIdx i := by
  unfold numsE
  rw [List.eraseIdx_eq_take_drop_succ, List.eraseIdx_eq_take_drop_succ, List.map_append, List.map_take, List.map_drop]
theorem upTo_erase (k : Nat) : (upTo (k + 1)).eraseIdx k = upTo k := by
  rw [upTo_succ, List.eraseIdx_append_of_length_le (by rw [upTo_len]; exact Nat.le_refl _), upTo_len, Nat.sub_self]
  simp
/-- One less. -/
theorem LawI.pop {st : St8} {k K : Nat} (h : LawI st k K) : ∃ k', LawI (st.1, st.2.1, (popS st.2.2).1) k' K := by
  have hr := h.rlen
  have hp : placeS st.2.2 (lastE st.2.2).n = (k : Int) := by
    unfold placeS
    rw [if_pos, scanP_last, hr]
    · simp
    · rw [elOpen_mem, lastE_at (by omega)]
      exact List.mem_map_of_mem (List.getElem_mem _)
  unfold popS dropS
  rw [hp]
  cases k with
  | zero => exact ⟨0, by simpa using h⟩
  | succ k =>
    rw [if_neg (by omega)]
    refine ⟨k, ⟨?_, by have := h.less; show k < st.1.length; omega, h.last, h.slen, fun x hx => h.names x (List.mem_of_mem_eraseIdx hx), h.llen, h.marks, h.inc⟩⟩
    show numsE (st.2.2.eraseIdx _) = _
    rw [numsE_erase, h.row]
    exact upTo_erase (k + 1)
/-- While it is rebuilt: the first i marks are open, in order. -/
structure ReI (n i : Nat) (st : St8) : Prop where
  inc : (numsE st.2.2).Pairwise (· < ·)
  has : ∀ z ∈ numsE st.2.2, pHas st.1 z = true
  last : LastOk st.1
  pos : 0 < st.2.2.length
  llen : st.2.1.length = n
  fit : ∀ x ∈ st.2.1, x.attrs.length ≤ 30
  done : ∀ j, j < i → j < n → (st.2.1.getD j mZero).node ∈ numsE st.2.2 ∧ (pget st.1 (st.2.1.getD j mZero).node).name = (st.2.1.getD j mZero).name
  mono : ∀ j j', j < j' → j' < i → j' < n → (st.2.1.getD j mZero).node < (st.2.1.getD j' mZero).node
theorem getD_set (L : List MK) (i j : Nat) (x : MK) (hi : i < L.length) : (L.set i x).getD j mZero = if i = j then x else L.getD j mZero := by
  rw [List.getD_eq_getElem?_getD, List.getD_eq_getElem?_getD, List.getElem?_set]
  by_cases e : i = j
  · subst e
    simp [hi]
  · simp [e]
theorem ReI.next {n i : Nat} {st : St8} (h : ReI n i st) (hi : i < n) : ReI n (i + 1) (rebStep i st) := by
  have hl := h.llen
  have htop : pHas st.1 (lastE st.2.2).n = true := by
    rw [lastE_at h.pos]
    exact h.has _ (List.mem_map_of_mem (List.getElem_mem _))
  have hlen := add_len st.1 st.2.2 1 (st.2.1.getD i mZero).name (st.2.1.getD i mZero).attrs
  have hm : mSetS st.2.1 (i : Int) ⟨(st.1.length : Int), (st.2.1.getD i mZero).name, (st.2.1.getD i mZero).attrs⟩ = st.2.1.set i ⟨(st.1.length : Int), (st.2.1.getD i mZero).name, (st.2.1.getD i mZero).attrs⟩ := by
    unfold mSetS
    rw [if_pos (by unfold mHas; simp; omega)]
    rfl
  have hr : numsE (st.2.2 ++ [⟨(st.1.length : Int), 1, (st.2.1.getD i mZero).name⟩]) = numsE st.2.2 ++ [(st.1.length : Int)] := by simp [numsE]
  unfold rebStep
  rw [hm]
  have hg := fun j => getD_set st.2.1 i j ⟨(st.1.length : Int), (st.2.1.getD i mZero).name, (st.2.1.getD i mZero).attrs⟩ (by omega)
  have hxf : (st.2.1.getD i mZero).attrs.length ≤ 30 := h.fit _ (by rw [getD_at (by omega)]; exact List.getElem_mem _)
  refine ⟨?_, ?_, add_last h.last htop _ _ _ hxf, by simp, by rw [List.length_set]; exact hl, fun y hy => ?_, ?_, ?_⟩
  · simp only
    rw [hr, List.pairwise_append]
    refine ⟨h.inc, List.pairwise_singleton _ _, fun a ha b hb => ?_⟩
    rw [List.mem_singleton] at hb
    subst hb
    exact ((pHas_iff _ _).1 (h.has a ha)).2
  · intro z hz
    simp only at hz
    rw [hr] at hz
    show pHas (addS _ _ _ _ _ _) z = true
    rw [pHas_iff, hlen]
    rcases List.mem_append.1 hz with k | k
    · have := (pHas_iff _ _).1 (h.has z k)
      omega
    · rw [List.mem_singleton] at k
      omega
  · rcases List.mem_or_eq_of_mem_set hy with k | k
    · exact h.fit y k
    · rw [k]; exact hxf
  · intro j hj hjn
    simp only
    rw [hg, hr]
    split
    · exact ⟨List.mem_append_right _ (by simp), add_new h.last htop _ _ _⟩
    · rename_i hne
      obtain ⟨d1, d2⟩ := h.done j (by omega) hjn
      refine ⟨List.mem_append_left _ d1, ?_⟩
      rw [add_name h.last htop _ _ _ (h.has _ d1)]
      exact d2
  · intro j j' hjj hj' hjn
    simp only
    rw [hg, hg]
    rw [if_neg (by omega)]
    split
    · exact ((pHas_iff _ _).1 (h.has _ (h.done j (by omega) (by omega)).1)).2
    · exact h.mono j j' hjj (by omega) hjn
theorem rebF_ok {n : Nat} : ∀ (c i : Nat) (st : St8), c + i = n → ReI n i st → ReI n n (rebF c i st)
  | 0, i, st, hc, h => by
    have : i = n := by omega
    subst this
    exact h
  | c + 1, i, st, hc, h => rebF_ok c (i + 1) (rebStep i st) (by omega) (h.next (by omega))
theorem rebScan_spec (fO : Int → Bool) (L : List MK) : ∀ i, rebScan fO L i = 0 ∨ ∃ j, j < i ∧ rebScan fO L i = j + 1 ∧ standsS fO L j = true
  | 0 => .inl rfl
  | i + 1 => by
    rw [rebScan]
    split
    · rename_i h
      exact .inr ⟨i, by omega, rfl, h⟩
    · rcases rebScan_spec fO L i with h | ⟨j, h1, h2, h3⟩
      · exact .inl h
      · exact .inr ⟨j, by omega, h2, h3⟩
theorem rebF_len : ∀ (c i : Nat) (st : St8), (rebF c i st).2.1.length = st.2.1.length
  | 0, _, _ => rfl
  | c + 1, i, st => by
    rw [rebF, rebF_len c]
    show (mSetS _ _ _).length = _
    unfold mSetS
    split
    · rw [List.length_set]
    · rfl
/-- At the beginning. -/
theorem LawI.re {st : St8} {k K : Nat} (h : LawI st k K) : ReI st.2.1.length (rebScan (elOpen st.2.2) st.2.1 st.2.1.length) st := by
  have hl := h.less
  have hmo : ∀ j j', j < j' → j' < st.2.1.length → (st.2.1.getD j mZero).node < (st.2.1.getD j' mZero).node := by
    intro j j' hjj hj'
    have := List.pairwise_iff_getElem.1 h.inc j j' (by unfold nodesM; rw [List.length_map]; omega) (by unfold nodesM; rw [List.length_map]; omega) hjj
    rw [getD_at (by omega), getD_at (by omega)]
    simpa [nodesM] using this
  have hmk : ∀ j, j < st.2.1.length → MarkOk st.1 (st.2.1.getD j mZero) := fun j hj => (h.marks _ (by rw [getD_at hj]; exact List.getElem_mem _)).1
  refine ⟨by rw [h.row]; exact upTo_inc _, fun z hz => ?_, h.last, by rw [h.rlen]; omega, rfl, fun x hx => by have := (h.marks x hx).2.1; omega, fun j hj hjn => ?_, fun j j' hjj hj' hjn => hmo j j' hjj hjn⟩
  · rw [h.row, upTo_mem] at hz
    rw [pHas_iff]
    omega
  · refine ⟨?_, (hmk j hjn).2.2⟩
    rcases rebScan_spec (elOpen st.2.2) st.2.1 st.2.1.length with e | ⟨i, hi, e, hs⟩
    · omega
    · have hki := hmk i hi
      unfold standsS at hs
      rw [Bool.or_eq_true, decide_eq_true_eq] at hs
      have hm : (st.2.1.getD i mZero).node ∈ numsE st.2.2 := by
        rcases hs with k1 | k1
        · have := hki.1; omega
        · exact (elOpen_mem _ _).1 k1
      rw [h.row, upTo_mem] at hm ⊢
      have hj2 := hmk j hjn
      have := hj2.1
      rcases Nat.lt_or_ge j i with q | q
      · have := hmo j i q hi
        omega
      · have : j = i := by omega
        subst this
        exact hm
/-- Behind it nothing is left to do. -/
theorem ReI.again {n : Nat} {st : St8} (h : ReI n n st) : rebScan (elOpen st.2.2) st.2.1 n = n := by
  cases n with
  | zero => rfl
  | succ n =>
    rw [rebScan, if_pos]
    unfold standsS
    rw [Bool.or_eq_true]
    right
    rw [elOpen_mem]
    exact (h.done n (by omega) (by omega)).1
end Go.Proofs.Ytmhjfbdldpehdaa
namespace Go.Proofs.Ytmhjfbdldpehdaa
open Go.RowKit Go.Maps

structure RQ (w w0 W : World) (v : Value) (n A B : Nat) (st : St8) (T : Nat) : Prop where
  ex : ∃ M, SiteK w0 W M B st.1 st.2.1 st.2.2 false T ∧ TapeK8 w W M v n A
  sz : w.heap.size ≤ w0.heap.size
  szA : w0.heap.size ≤ A
variable {w w0 W w' : World} {v : Value} {n A B : Nat} {st st' : St8} {T T' : Nat}
theorem RQ.of {M : Nat → Prop} (k : SiteK w0 W M B st.1 st.2.1 st.2.2 false T) (t : TapeK8 w W M v n A) (sz : w.heap.size ≤ w0.heap.size) (szA : w0.heap.size ≤ A) (h : StepK w0 W M B st'.1 st'.2.1 st'.2.2 false T' w') : RQ w w0 w' v n A B st' T' := by
  obtain ⟨M', k', hs, ht⟩ := h
  exact ⟨⟨M', k', t.turns (w1 := w0) hs ht (fun b hb => (k.inn b hb).1) sz⟩, sz, szA⟩
theorem RQ.on (h : RQ w w0 W v n A B st T) (hb : Below W.heap.size W w') : RQ w w0 w' v n A B st T := by
  obtain ⟨⟨M, k, t⟩, sz, szA⟩ := h
  exact ⟨⟨M, k.on hb, t.on hb⟩, sz, szA⟩
theorem RQ.below (h : RQ w w0 W v n A B st T) : Below w0.heap.size w0 W := by
  obtain ⟨⟨M, k, t⟩, sz, szA⟩ := h
  exact k.below
theorem rNext (h : RQ w w0 W v n A B st T) (m : Nat) (hm1 : 1 ≤ m) (hm2 : m ≤ 2147483647) :
    Calls Try.prog 51 #[.pointer (some ⟨A, 0, none⟩), .int .i64 (m : Int)] W (fun e w' => ∃ r : Nat, r < m ∧ e = .returned (.int .i64 (r : Int)) ∧ RQ w w0 w' v n A B st T ∧ w'.heap.size = W.heap.size ∧ ∀ b, b ≠ A → w'.heap[b]? = W.heap[b]?) := by
  obtain ⟨⟨M, k, t⟩, sz, szA⟩ := h
  refine (tape_next w v n A m W t.tape hm1 hm2).mono ?_
  rintro e w' ⟨r, hr, he, hs, ht⟩
  have htt := hs.turns8
  refine ⟨r, hr, he, ⟨⟨M, ⟨k.site.on htt (fun b _ kk e => t.off (by rw [← e]; exact kk)), fun b kk => ⟨(k.inn b kk).1, by rw [hs.size]; exact (k.inn b kk).2⟩, k.below.trans (htt.below k.below.size fun b hb e => by omega)⟩, ⟨ht, t.off, by rw [hs.size]; exact t.lt⟩⟩, sz, szA⟩, hs.size, fun b hb => ?_⟩
  by_cases hl : b < W.heap.size
  · exact htt.block b hl hb
  · rw [Array.getElem?_eq_none (by rw [hs.size]; omega), Array.getElem?_eq_none (by omega)]
theorem rMore (h : RQ w w0 W v n A B st T) :
    Calls Try.prog 50 #[.pointer (some ⟨A, 0, none⟩)] W (fun e w' => ∃ b, e = .returned (.bool b) ∧ RQ w w0 w' v n A B st T) := by
  obtain ⟨M, k, t⟩ := h.ex
  refine (tape_more w v n A W t.tape).mono ?_
  rintro e w' ⟨b, q, he, rfl⟩
  exact ⟨b, he, h.on (below_drewN (Below.refl _ _) q)⟩
theorem rPop {k K : Nat} (h : RQ w w0 W v n A B st T) (hi : LawI st k K) (hK : K ≤ 1000) (hT : T ≤ 100000) :
    Calls Try.prog 60 #[.pointer (some ⟨B, 0, none⟩)] W (fun e w' => ∃ b k', e = .returned (.bool b) ∧ RQ w w0 w' v n A B (st.1, st.2.1, (popS st.2.2).1) (T + 1) ∧ LawI (st.1, st.2.1, (popS st.2.2).1) k' K) := by
  obtain ⟨⟨M, kk, t⟩, sz, szA⟩ := h
  have hr := hi.rlen
  have hless := hi.less
  have hsl := hi.slen
  obtain ⟨k', hi'⟩ := hi.pop
  refine (kPop kk (by omega) (by omega) (by omega) (hi.fit hK)).mono ?_
  rintro e w' ⟨he, hst⟩
  exact ⟨_, k', he, RQ.of (st := st) (st' := (_, _, _)) kk t sz szA hst, hi'⟩
theorem rRebuild {m K : Nat} (h : RQ w w0 W v n A B st T) (hi : RebI st m K) (hm : m ≤ 1000) (hK : K ≤ 10000) (hT : T + m ≤ 100000) :
    Calls Try.prog 61 #[.pointer (some ⟨B, 0, none⟩)] W (fun e w' => e = .returned (.tuple #[]) ∧ ∃ T', T' ≤ T + m ∧ RQ w w0 w' v n A B (rebF (m - rebScan (elOpen st.2.2) st.2.1 m) (rebScan (elOpen st.2.2) st.2.1 m) st) T') := by
  obtain ⟨⟨M, kk, t⟩, sz, szA⟩ := h
  refine (srebuildP kk m K hi hm hK hT).mono ?_
  rintro e w' ⟨he, T', hT', hst⟩
  exact ⟨he, T', hT', RQ.of kk t sz szA hst⟩
theorem rOpen (h : RQ w w0 W v n A B st T) (h0 : 0 < st.2.2.length) (hr : st.2.2.length ≤ 4294967296) : Calls Try.prog 62 #[.pointer (some ⟨B, 0, none⟩)] W (NumsOut st.2.2 W) := by
  obtain ⟨⟨M, k, t⟩, sz, szA⟩ := h
  obtain ⟨a, hh, kk⟩ := k.site
  exact sOpenRowP hh h0 hr
/-- The Site's Marks, and All of them. -/
theorem rMarks (h : RQ w w0 W v n A B st T) (hl : st.2.1.length ≤ 1000) (hx : ∀ x ∈ st.2.1, x.attrs.length ≤ 30) : ∃ K, (∀ W', Below W.heap.size W W' → Calls Try.prog 59 #[.pointer (some ⟨B, 0, none⟩)] W' (Gives (.pointer (some ⟨K, 0, none⟩)) W')) ∧ Calls Try.prog 63 #[.pointer (some ⟨K, 0, none⟩)] W (AllM st.2.1 W) := by
  obtain ⟨⟨M, k, t⟩, sz, szA⟩ := h
  obtain ⟨a, hh, kk⟩ := k.site
  exact ⟨a.K, fun W' hb => smarksP (hh.below hb), mallP _ _ _ _ hh.marks (by omega) (fun x q => by have := hx x q; omega)⟩
/-- The Site's Doc: Size, Node. -/
theorem rDoc (h : RQ w w0 W v n A B st T) : ∃ D, (∀ W', Below W.heap.size W W' → Calls Try.prog 58 #[.pointer (some ⟨B, 0, none⟩)] W' (Gives (.pointer (some ⟨D, 0, none⟩)) W')) ∧ (∀ W', Below W.heap.size W W' → Calls Try.prog 64 #[.pointer (some ⟨D, 0, none⟩)] W' (Gives (.int .i64 (st.1.length : Int)) W')) ∧
    (∀ W', Below W.heap.size W W' → ∀ (j : Nat) (hj : j < st.1.length), st.1[j].attrs.length ≤ 4294967296 → Calls Try.prog 65 #[.pointer (some ⟨D, 0, none⟩), .int .i64 (j : Int)] W' (NodeOut st.1[j] W')) := by
  obtain ⟨⟨M, k, t⟩, sz, szA⟩ := h
  obtain ⟨a, hh, kk⟩ := k.site
  refine ⟨a.D, fun W' hb => sdocP (hh.below hb), fun W' hb => ?_, fun W' hb j hj ha => dnodeP _ _ _ _ j (hh.below hb).doc hj ha⟩
  obtain ⟨p, cap, hr⟩ := (hh.below hb).doc.reads
  exact dsizeP _ _ _ _ _ hr
/-- A block beside turns. -/
theorem SiteK.off {M : Nat → Prop} {S : List PN} {L : List MK} {R : List EL} {E : Nat} (h : SiteK w0 W M B S L R false T) (ht : Turns (fun b => b = E) W w') (hE : ¬ M E) (h0 : w0.heap.size ≤ E) : SiteK w0 w' M B S L R false T :=
  ⟨h.site.on ht (fun b _ k e => hE (by rw [← e]; exact k)), fun b k => ⟨(h.inn b k).1, Nat.lt_of_lt_of_le (h.inn b k).2 ht.size⟩, h.below.trans (ht.below h.below.size fun b hb e => by omega)⟩
theorem TapeK8.off8 {M : Nat → Prop} {E : Nat} (h : TapeK8 w W M v n A) (ht : Turns (fun b => b = E) W w') (hE : E ≠ A) (h0 : w.heap.size ≤ E) : TapeK8 w w' M v n A :=
  ⟨h.tape.turns8 ht h.lt (fun e => hE e.symm) (fun b e => by omega), h.off, Nat.lt_of_lt_of_le h.lt ht.size⟩
end Go.Proofs.Ytmhjfbdldpehdaa
namespace Go.Proofs.Ytmhjfbdldpehdaa
open Go.RowKit

set_option maxHeartbeats 4000000 in
set_option maxRecDepth 100000 in
theorem reb_reg13 {B E K : Nat} {nd : Int} {NM : ByteArray} {va : Value} {w : World} {R : World → Prop} {Q : Exit → Act → World → Prop} {u0 u1 u2 u3 u4 u6 u7 u9 u10 u11 u12 u13 u14 u15 u16 u17 u18 u19 u20 u21 u22 u23 u24 u25 u26 u27 u28 u29 u30 u31 u32 u33 u34 u35 u36 u37 u38 u39 u40 u41 u42 u43 u44 u45 u46 u47 u48 u49 u50 u51 u52 u53 u54 u55 u56 u57 u58 u59 u60 u61 u62 u63 u64 u65 u66 u67 u68 u69 u70 u71 u72 u73 u74 u75 u76 u77 u78 u79 u80 u81 u82 u83 u84 u85 u86 u87 u88 u89 u90 u91 u92 u93 u94 u95 u96 u97 u98 u99 u100 u101 u102 u103 u104 u105 u106 u107 u108 u109 u110 u111 u112 u113 u114 u115 u116 u117 u118 u119 u120 u121 u122 u123 u124 u125 u126 u127 u128 u129 u130 u131 u132 u133 u134 u135 u136 u137 u138 : Value} (c0 : w.cell? ⟨E, 0, none⟩ = some (.int .i64 nd)) (c1 : w.cell? ⟨E, 1, none⟩ = some (.string NM)) (c2 : w.cell? ⟨E, 2, none⟩ = some va)
    (HM : Hid (∀ W, Below w.heap.size w W → Calls Try.prog 59 #[.pointer (some ⟨B, 0, none⟩)] W (Gives (.pointer (some ⟨K, 0, none⟩)) W)))
    (HP : Hid (Calls Try.prog 42 #[.pointer (some ⟨K, 0, none⟩), .agg #[.int .i64 nd, .string NM, va]] w.drew (fun e w' => e = .returned (.tuple #[]) ∧ R w')))
    (hS : ∀ w', R w' → w'.cell? ⟨E, 0, none⟩ = some (.int .i64 nd) ∧ w'.cell? ⟨E, 1, none⟩ = some (.string NM) ∧ w'.cell? ⟨E, 2, none⟩ = some va)
    (hQ : ∀ (x57 x58 x59 x60 : Value) (w' : World), R w' → Q .normal { tmps := #[u0, u1, u2, u3, u4, .pointer (some ⟨B, 0, none⟩), u6, u7, .pointer (some ⟨E, 0, none⟩), u9, u10, u11, u12, u13, u14, u15, u16, u17, u18, u19, u20, u21, u22, u23, u24, u25, u26, u27, u28, u29, u30, u31, u32, u33, u34, u35, u36, u37, u38, u39, u40, u41, u42, u43, u44, u45, u46, u47, u48, u49, u50, u51, u52, u53, u54, u55, u56, x57, x58, x59, x60, u61, u62, u63, u64, u65, u66, u67, u68, u69, u70, u71, u72, u73, u74, u75, u76, u77, u78, u79, u80, u81, u82, u83, u84, u85, u86, u87, u88, u89, u90, u91, u92, u93, u94, u95, u96, u97, u98, u99, u100, u101, u102, u103, u104, u105, u106, u107, u108, u109, u110, u111, u112, u113, u114, u115, u116, u117, u118, u119, u120, u121, u122, u123, u124, u125, u126, u127, u128, u129, u130, u131, u132, u133, u134, u135, u136, u137, u138], defers := [] } w') :
    (Code.region 13 #[{ dst := some 57, op := Op.move (Operand.tmp 5), type := 73, pos := "more.go:80", after := #[], guard := none }, { dst := some 58, op := Op.call { callee := Callee.value (Operand.func 59), args := #[Operand.tmp 57], argTypes := #[ 73 ] }, type := 55, pos := "more.go:80", after := #[{ on := 0, ground := Ground.data }], guard := none }, { dst := some 59, op := Op.load 64 (Operand.tmp 8), type := 64, pos := "more.go:80", after := #[], guard := none }, { dst := some 60, op := Op.call { callee := Callee.value (Operand.func 42), args := #[Operand.tmp 58, Operand.tmp 59], argTypes := #[ 55, 64 ] }, type := 0, pos := "more.go:80", after := #[{ on := 1, ground := Ground.data }, { on := 2, ground := Ground.data }, { on := 1, ground := Ground.chain }], guard := none }] true).wp Try.prog Q { tmps := #[u0, u1, u2, u3, u4, .pointer (some ⟨B, 0, none⟩), u6, u7, .pointer (some ⟨E, 0, none⟩), u9, u10, u11, u12, u13, u14, u15, u16, u17, u18, u19, u20, u21, u22, u23, u24, u25, u26, u27, u28, u29, u30, u31, u32, u33, u34, u35, u36, u37, u38, u39, u40, u41, u42, u43, u44, u45, u46, u47, u48, u49, u50, u51, u52, u53, u54, u55, u56, u57, u58, u59, u60, u61, u62, u63, u64, u65, u66, u67, u68, u69, u70, u71, u72, u73, u74, u75, u76, u77, u78, u79, u80, u81, u82, u83, u84, u85, u86, u87, u88, u89, u90, u91, u92, u93, u94, u95, u96, u97, u98, u99, u100, u101, u102, u103, u104, u105, u106, u107, u108, u109, u110, u111, u112, u113, u114, u115, u116, u117, u118, u119, u120, u121, u122, u123, u124, u125, u126, u127, u128, u129, u130, u131, u132, u133, u134, u135, u136, u137, u138], defers := [] } w := by
  refine wp_region_noPanic ?_
  have HQ := Lib.hid hQ
  have HS := Lib.hid hS
  have hb : Below w.heap.size w w.drew := (Below.refl _ w).drew
  clear hQ hS
  refine wp_region_held_drew (S := fun W => W.cell? ⟨E, 0, none⟩ = some (.int .i64 nd) ∧ W.cell? ⟨E, 1, none⟩ = some (.string NM) ∧ W.cell? ⟨E, 2, none⟩ = some va) (by kernel_rfl) ⟨c0, c1, c2⟩ (fun hHeld => ?_)
  clear c0 c1 c2
  generalize w.drew = w1 at *
  refine wpAnyH_take (i := 0) (oi := { dst := some 57, op := Op.move (Operand.tmp 5), type := 73, pos := "more.go:80", after := #[], guard := none }) (v := ?_) rfl (by kernel_rfl) (by kernel_rfl) (by kernel_rfl) (fun _ _ _ h => h) (Or.inl ⟨by rfl, ?_⟩) (by assumption) ?_
  rotate_left
  focus (intro w hSw; (try dsimp only at hSw); go_simp; (try with_reducible rfl))
  try simp only [Act.put, List.setIfInBounds_toArray, List.set_cons_zero, List.set_cons_succ]
  refine wpAnyH_take (i := 2) (oi := { dst := some 59, op := Op.load 64 (Operand.tmp 8), type := 64, pos := "more.go:80", after := #[], guard := none }) (v := ?_) rfl (by kernel_rfl) (by kernel_rfl) (by kernel_rfl) (fun _ _ _ h => h) (Or.inl ⟨by rfl, ?_⟩) (by assumption) ?_
  rotate_left
  focus (intro w hSw; (try dsimp only at hSw); go_simp; (try with_reducible rfl))
  try simp only [Act.put, List.setIfInBounds_toArray, List.set_cons_zero, List.set_cons_succ]
  refine wpAnyH_ready (rs := [1]) (by kernel_rfl) (by simp) ?_
  refine AllReadyH.cons (o := { dst := some 58, op := Op.call { callee := Callee.value (Operand.func 59), args := #[Operand.tmp 57], argTypes := #[ 73 ] }, type := 55, pos := "more.go:80", after := #[{ on := 0, ground := Ground.data }], guard := none }) rfl (fun K hK => ?_) AllReadyH.nil
  go_simp
  refine (HM.out w1 hb).mono ?_
  rintro e w2 ⟨rfl, rfl⟩
  go_wp2_with fail
  refine hK.out _ _ hHeld (fun hHeld => ?_)
  clear hK K
  try simp only [Act.put, List.setIfInBounds_toArray, List.set_cons_zero, List.set_cons_succ]
  refine wpAnyH_ready (rs := [3]) (by kernel_rfl) (by simp) ?_
  refine AllReadyH.cons (o := { dst := some 60, op := Op.call { callee := Callee.value (Operand.func 42), args := #[Operand.tmp 58, Operand.tmp 59], argTypes := #[ 55, 64 ] }, type := 0, pos := "more.go:80", after := #[{ on := 1, ground := Ground.data }, { on := 2, ground := Ground.data }, { on := 1, ground := Ground.chain }], guard := none }) rfl (fun K hK => ?_) AllReadyH.nil
  go_simp
  refine HP.out.mono ?_
  rintro e w3 ⟨rfl, h3⟩
  go_wp2_with fail
  refine hK.out _ _ (HS.out w3 h3) (fun hHeld => ?_)
  clear hK K
  try simp only [Act.put, List.setIfInBounds_toArray, List.set_cons_zero, List.set_cons_succ]
  refine wpAnyH_done (by kernel_rfl) ?_ _
  exact NoPanic.normal (HQ.out _ _ _ _ w3 h3)

set_option maxHeartbeats 4000000 in
set_option maxRecDepth 100000 in
theorem reb_reg28 {B D g rl rc ml mc at_ i j : Nat} {pr : Option Addr} {NM : ByteArray} {kd sp : Int} {vl : Nat} {tx : ByteArray} {w : World} {Q : Exit → Act → World → Prop} {u0 u1 u2 u3 u4 u6 u7 u8 u9 u12 u15 u16 u17 u18 u19 u20 u21 u22 u23 u24 u25 u26 u27 u28 u29 u30 u31 u32 u33 u34 u35 u36 u37 u38 u39 u40 u41 u42 u43 u44 u45 u46 u47 u48 u49 u50 u51 u52 u53 u54 u55 u56 u57 u58 u59 u60 u61 u62 u63 u64 u65 u66 u67 u68 u69 u70 u71 u72 u73 u74 u75 u76 u77 u78 u79 u80 u81 u82 u83 u84 u85 u86 u87 u88 u89 u90 u91 u92 u93 u94 u95 u96 u97 u98 u99 u100 u101 u102 u103 u104 u105 u106 u107 u108 u109 u110 u111 u112 u113 u114 u115 u116 u117 u118 u119 u120 u121 u122 u123 u124 u125 u126 u127 u128 u129 u130 u131 u132 u133 u134 u135 u136 u137 u138 : Value} (hat : at_ < rl) (hi : i < ml) (c0 : w.cell? ⟨g, i * 3, none⟩ = some (.int .i64 (j : Int))) (c1 : w.cell? ⟨g, i * 3 + 1, none⟩ = some (.string NM))
    (HD : Hid (∀ W, Below w.heap.size w W → Calls Try.prog 58 #[.pointer (some ⟨B, 0, none⟩)] W (Gives (.pointer (some ⟨D, 0, none⟩)) W)))
    (HN : Hid (∀ W, Below w.heap.size w W → Calls Try.prog 65 #[.pointer (some ⟨D, 0, none⟩), .int .i64 (j : Int)] W (fun e W' => ∃ p c, e = .returned (.agg #[.int .i64 kd, .int .i64 sp, .string NM, .slice p vl c, .string tx, .int .i64 0, .slice none 0 0]) ∧ Below W.heap.size W W')))
    (hQ : ∀ (x103 x104 x105 x106 x107 x108 x109 x110 x111 x112 x113 x114 x115 x116 x117 x118 x119 x120 x121 x122 : Value) (w' : World), Below w.heap.size w w' → Q .normal { tmps := #[u0, u1, u2, u3, u4, .pointer (some ⟨B, 0, none⟩), u6, u7, u8, u9, .slice pr rl rc, .slice (some ⟨g, 0, none⟩) ml mc, u12, .int .i64 (at_ : Int), .int .i64 (i : Int), u15, u16, u17, u18, u19, u20, u21, u22, u23, u24, u25, u26, u27, u28, u29, u30, u31, u32, u33, u34, u35, u36, u37, u38, u39, u40, u41, u42, u43, u44, u45, u46, u47, u48, u49, u50, u51, u52, u53, u54, u55, u56, u57, u58, u59, u60, u61, u62, u63, u64, u65, u66, u67, u68, u69, u70, u71, u72, u73, u74, u75, u76, u77, u78, u79, u80, u81, u82, u83, u84, u85, u86, u87, u88, u89, u90, u91, u92, u93, u94, u95, u96, u97, u98, u99, u100, u101, u102, x103, x104, x105, x106, x107, x108, x109, x110, x111, x112, x113, x114, x115, x116, x117, x118, x119, x120, x121, x122, .bool false, u124, u125, u126, u127, u128, u129, u130, u131, u132, u133, u134, u135, u136, u137, u138], defers := [] } w') :
    (Code.region 28 #[{ dst := some 103, op := Op.move (Operand.tmp 13), type := 3, pos := "more.go:94", after := #[], guard := none }, { dst := some 104, op := Op.move (Operand.tmp 10), type := 32, pos := "more.go:94", after := #[], guard := none }, { dst := some 105, op := Op.call { callee := Callee.builtin Builtin.len, args := #[Operand.tmp 104], argTypes := #[ 32 ] }, type := 3, pos := "more.go:94", after := #[{ on := 1, ground := Ground.data }], guard := none }, { dst := some 106, op := Op.binOp BinOp.geq 3 (Operand.tmp 103) (Operand.tmp 105) 3, type := 4, pos := "more.go:94", after := #[{ on := 0, ground := Ground.data }, { on := 2, ground := Ground.data }], guard := none }, { dst := some 107, op := Op.move (Operand.tmp 106), type := 4, pos := "more.go:94", after := #[{ on := 3, ground := Ground.data }], guard := none }, { dst := some 108, op := Op.move (Operand.tmp 5), type := 73, pos := "more.go:94", after := #[{ on := 4, ground := Ground.guard }], guard := some (4, false) }, { dst := some 109, op := Op.call { callee := Callee.value (Operand.func 58), args := #[Operand.tmp 108], argTypes := #[ 73 ] }, type := 24, pos := "more.go:94", after := #[{ on := 5, ground := Ground.data }, { on := 4, ground := Ground.chain }, { on := 4, ground := Ground.guard }], guard := some (4, false) }, { dst := some 110, op := Op.move (Operand.tmp 11), type := 83, pos := "more.go:94", after := #[{ on := 4, ground := Ground.guard }], guard := some (4, false) }, { dst := some 111, op := Op.move (Operand.tmp 14), type := 3, pos := "more.go:94", after := #[{ on := 4, ground := Ground.guard }], guard := some (4, false) }, { dst := some 112, op := Op.indexAddr 83 (Operand.tmp 110) (Operand.tmp 111), type := 0, pos := "more.go:94", after := #[{ on := 7, ground := Ground.data }, { on := 8, ground := Ground.data }, { on := 4, ground := Ground.guard }], guard := some (4, false) }, { dst := some 113, op := Op.fieldAddr 64 (Operand.tmp 112) 0, type := 0, pos := "more.go:94", after := #[{ on := 9, ground := Ground.data }, { on := 4, ground := Ground.guard }], guard := some (4, false) }, { dst := some 114, op := Op.load 3 (Operand.tmp 113), type := 3, pos := "more.go:94", after := #[{ on := 10, ground := Ground.data }, { on := 4, ground := Ground.guard }], guard := some (4, false) }, { dst := some 115, op := Op.call { callee := Callee.value (Operand.func 65), args := #[Operand.tmp 109, Operand.tmp 114], argTypes := #[ 24, 3 ] }, type := 44, pos := "more.go:94", after := #[{ on := 6, ground := Ground.data }, { on := 11, ground := Ground.data }, { on := 6, ground := Ground.chain }, { on := 4, ground := Ground.guard }], guard := some (4, false) }, { dst := some 116, op := Op.field 44 (Operand.tmp 115) 2, type := 9, pos := "more.go:94", after := #[{ on := 12, ground := Ground.data }, { on := 4, ground := Ground.guard }], guard := some (4, false) }, { dst := some 117, op := Op.move (Operand.tmp 11), type := 83, pos := "more.go:94", after := #[{ on := 4, ground := Ground.guard }], guard := some (4, false) }, { dst := some 118, op := Op.move (Operand.tmp 14), type := 3, pos := "more.go:94", after := #[{ on := 4, ground := Ground.guard }], guard := some (4, false) }, { dst := some 119, op := Op.indexAddr 83 (Operand.tmp 117) (Operand.tmp 118), type := 0, pos := "more.go:94", after := #[{ on := 14, ground := Ground.data }, { on := 15, ground := Ground.data }, { on := 4, ground := Ground.guard }], guard := some (4, false) }, { dst := some 120, op := Op.fieldAddr 64 (Operand.tmp 119) 1, type := 0, pos := "more.go:94", after := #[{ on := 16, ground := Ground.data }, { on := 4, ground := Ground.guard }], guard := some (4, false) }, { dst := some 121, op := Op.load 9 (Operand.tmp 120), type := 9, pos := "more.go:94", after := #[{ on := 17, ground := Ground.data }, { on := 4, ground := Ground.guard }], guard := some (4, false) }, { dst := some 122, op := Op.binOp BinOp.neq 9 (Operand.tmp 116) (Operand.tmp 121) 9, type := 4, pos := "more.go:94", after := #[{ on := 13, ground := Ground.data }, { on := 18, ground := Ground.data }, { on := 4, ground := Ground.guard }], guard := some (4, false) }, { dst := some 123, op := Op.pick (Operand.tmp 107) (Operand.const (Value.bool true)) (Operand.tmp 122), type := 4, pos := "more.go:94", after := #[{ on := 4, ground := Ground.data }, { on := 19, ground := Ground.data }], guard := none }] true).wp Try.prog Q { tmps := #[u0, u1, u2, u3, u4, .pointer (some ⟨B, 0, none⟩), u6, u7, u8, u9, .slice pr rl rc, .slice (some ⟨g, 0, none⟩) ml mc, u12, .int .i64 (at_ : Int), .int .i64 (i : Int), u15, u16, u17, u18, u19, u20, u21, u22, u23, u24, u25, u26, u27, u28, u29, u30, u31, u32, u33, u34, u35, u36, u37, u38, u39, u40, u41, u42, u43, u44, u45, u46, u47, u48, u49, u50, u51, u52, u53, u54, u55, u56, u57, u58, u59, u60, u61, u62, u63, u64, u65, u66, u67, u68, u69, u70, u71, u72, u73, u74, u75, u76, u77, u78, u79, u80, u81, u82, u83, u84, u85, u86, u87, u88, u89, u90, u91, u92, u93, u94, u95, u96, u97, u98, u99, u100, u101, u102, u103, u104, u105, u106, u107, u108, u109, u110, u111, u112, u113, u114, u115, u116, u117, u118, u119, u120, u121, u122, u123, u124, u125, u126, u127, u128, u129, u130, u131, u132, u133, u134, u135, u136, u137, u138], defers := [] } w := by
  refine wp_region_noPanic ?_
  have HQ := Lib.hid hQ
  have hb : Below w.heap.size w w.drew := (Below.refl _ w).drew
  have r0 : ¬ (rl : Int) ≤ (at_ : Int) := by omega
  have r1 : (0 : Int) ≤ (i : Int) := by omega
  have r2 : (i : Int) < (ml : Int) := by omega
  have hg := World.block_lt_of_cell? w _ c0
  have hS : ∀ W, Below w.heap.size w W → W.cell? ⟨g, i * 3, none⟩ = some (.int .i64 (j : Int)) ∧ W.cell? ⟨g, i * 3 + 1, none⟩ = some (.string NM) ∧ Below w.heap.size w W := fun W h => ⟨(h.cell (p := ⟨g, i * 3, none⟩) hg).trans c0, (h.cell (p := ⟨g, i * 3 + 1, none⟩) hg).trans c1, h⟩
  have HS := Lib.hid hS
  clear hQ hS
  refine wp_region_held_drew (S := fun W => W.cell? ⟨g, i * 3, none⟩ = some (.int .i64 (j : Int)) ∧ W.cell? ⟨g, i * 3 + 1, none⟩ = some (.string NM) ∧ Below w.heap.size w W) (by kernel_rfl) (HS.out _ hb) (fun hHeld => ?_)
  clear c0 c1 hb
  generalize w.drew = w1 at *
  refine wpAnyH_take (i := 0) (oi := { dst := some 103, op := Op.move (Operand.tmp 13), type := 3, pos := "more.go:94", after := #[], guard := none }) (v := ?_) rfl (by kernel_rfl) (by kernel_rfl) (by kernel_rfl) (fun _ _ _ h => h) (Or.inl ⟨by rfl, ?_⟩) (by assumption) ?_
  rotate_left
  focus (intro w hSw; (try dsimp only at hSw); go_simp; (try with_reducible rfl))
  try simp only [Act.put, List.setIfInBounds_toArray, List.set_cons_zero, List.set_cons_succ]
  refine wpAnyH_take (i := 1) (oi := { dst := some 104, op := Op.move (Operand.tmp 10), type := 32, pos := "more.go:94", after := #[], guard := none }) (v := ?_) rfl (by kernel_rfl) (by kernel_rfl) (by kernel_rfl) (fun _ _ _ h => h) (Or.inl ⟨by rfl, ?_⟩) (by assumption) ?_
  rotate_left
  focus (intro w hSw; (try dsimp only at hSw); go_simp; (try with_reducible rfl))
  try simp only [Act.put, List.setIfInBounds_toArray, List.set_cons_zero, List.set_cons_succ]
  refine wpAnyH_take (i := 2) (oi := { dst := some 105, op := Op.call { callee := Callee.builtin Builtin.len, args := #[Operand.tmp 104], argTypes := #[ 32 ] }, type := 3, pos := "more.go:94", after := #[{ on := 1, ground := Ground.data }], guard := none }) (v := ?_) rfl (by kernel_rfl) (by kernel_rfl) (by kernel_rfl) (fun _ _ _ h => h) (Or.inl ⟨by rfl, ?_⟩) (by assumption) ?_
  rotate_left
  focus (intro w hSw; (try dsimp only at hSw); go_simp; (try with_reducible rfl))
  try simp only [Act.put, List.setIfInBounds_toArray, List.set_cons_zero, List.set_cons_succ]
  refine wpAnyH_take (i := 3) (oi := { dst := some 106, op := Op.binOp BinOp.geq 3 (Operand.tmp 103) (Operand.tmp 105) 3, type := 4, pos := "more.go:94", after := #[{ on := 0, ground := Ground.data }, { on := 2, ground := Ground.data }], guard := none }) (v := ?_) rfl (by kernel_rfl) (by kernel_rfl) (by kernel_rfl) (fun _ _ _ h => h) (Or.inl ⟨by rfl, ?_⟩) (by assumption) ?_
  rotate_left
  focus (intro w hSw; (try dsimp only at hSw); go_simp; (try with_reducible rfl))
  try simp only [Act.put, List.setIfInBounds_toArray, List.set_cons_zero, List.set_cons_succ]
  refine wpAnyH_take (i := 4) (oi := { dst := some 107, op := Op.move (Operand.tmp 106), type := 4, pos := "more.go:94", after := #[{ on := 3, ground := Ground.data }], guard := none }) (v := ?_) rfl (by kernel_rfl) (by kernel_rfl) (by kernel_rfl) (fun _ _ _ h => h) (Or.inl ⟨by rfl, ?_⟩) (by assumption) ?_
  rotate_left
  focus (intro w hSw; (try dsimp only at hSw); go_simp; (try with_reducible rfl))
  try simp only [Act.put, List.setIfInBounds_toArray, List.set_cons_zero, List.set_cons_succ]
  refine wpAnyH_take (i := 5) (oi := { dst := some 108, op := Op.move (Operand.tmp 5), type := 73, pos := "more.go:94", after := #[{ on := 4, ground := Ground.guard }], guard := some (4, false) }) (v := ?_) rfl (by kernel_rfl) (by kernel_rfl) (by kernel_rfl) (fun _ _ _ h => h) (Or.inl ⟨by rfl, ?_⟩) (by assumption) ?_
  rotate_left
  focus (intro w hSw; (try dsimp only at hSw); go_simp; (try with_reducible rfl))
  try simp only [Act.put, List.setIfInBounds_toArray, List.set_cons_zero, List.set_cons_succ]
  refine wpAnyH_take (i := 7) (oi := { dst := some 110, op := Op.move (Operand.tmp 11), type := 83, pos := "more.go:94", after := #[{ on := 4, ground := Ground.guard }], guard := some (4, false) }) (v := ?_) rfl (by kernel_rfl) (by kernel_rfl) (by kernel_rfl) (fun _ _ _ h => h) (Or.inl ⟨by rfl, ?_⟩) (by assumption) ?_
  rotate_left
  focus (intro w hSw; (try dsimp only at hSw); go_simp; (try with_reducible rfl))
  try simp only [Act.put, List.setIfInBounds_toArray, List.set_cons_zero, List.set_cons_succ]
  refine wpAnyH_take (i := 8) (oi := { dst := some 111, op := Op.move (Operand.tmp 14), type := 3, pos := "more.go:94", after := #[{ on := 4, ground := Ground.guard }], guard := some (4, false) }) (v := ?_) rfl (by kernel_rfl) (by kernel_rfl) (by kernel_rfl) (fun _ _ _ h => h) (Or.inl ⟨by rfl, ?_⟩) (by assumption) ?_
  rotate_left
  focus (intro w hSw; (try dsimp only at hSw); go_simp; (try with_reducible rfl))
  try simp only [Act.put, List.setIfInBounds_toArray, List.set_cons_zero, List.set_cons_succ]
  refine wpAnyH_take (i := 9) (oi := { dst := some 112, op := Op.indexAddr 83 (Operand.tmp 110) (Operand.tmp 111), type := 0, pos := "more.go:94", after := #[{ on := 7, ground := Ground.data }, { on := 8, ground := Ground.data }, { on := 4, ground := Ground.guard }], guard := some (4, false) }) (v := ?_) rfl (by kernel_rfl) (by kernel_rfl) (by kernel_rfl) (fun _ _ _ h => h) (Or.inl ⟨by rfl, ?_⟩) (by assumption) ?_
  rotate_left
  focus (intro w hSw; (try dsimp only at hSw); go_simp; (try with_reducible rfl))
  try simp only [Act.put, List.setIfInBounds_toArray, List.set_cons_zero, List.set_cons_succ]
  refine wpAnyH_take (i := 10) (oi := { dst := some 113, op := Op.fieldAddr 64 (Operand.tmp 112) 0, type := 0, pos := "more.go:94", after := #[{ on := 9, ground := Ground.data }, { on := 4, ground := Ground.guard }], guard := some (4, false) }) (v := ?_) rfl (by kernel_rfl) (by kernel_rfl) (by kernel_rfl) (fun _ _ _ h => h) (Or.inl ⟨by rfl, ?_⟩) (by assumption) ?_
  rotate_left
  focus (intro w hSw; (try dsimp only at hSw); go_simp; (try with_reducible rfl))
  try simp only [Act.put, List.setIfInBounds_toArray, List.set_cons_zero, List.set_cons_succ]
  refine wpAnyH_take (i := 11) (oi := { dst := some 114, op := Op.load 3 (Operand.tmp 113), type := 3, pos := "more.go:94", after := #[{ on := 10, ground := Ground.data }, { on := 4, ground := Ground.guard }], guard := some (4, false) }) (v := ?_) rfl (by kernel_rfl) (by kernel_rfl) (by kernel_rfl) (fun _ _ _ h => h) (Or.inl ⟨by rfl, ?_⟩) (by assumption) ?_
  rotate_left
  focus (intro w hSw; (try dsimp only at hSw); go_simp; (try with_reducible rfl))
  try simp only [Act.put, List.setIfInBounds_toArray, List.set_cons_zero, List.set_cons_succ]
  refine wpAnyH_take (i := 14) (oi := { dst := some 117, op := Op.move (Operand.tmp 11), type := 83, pos := "more.go:94", after := #[{ on := 4, ground := Ground.guard }], guard := some (4, false) }) (v := ?_) rfl (by kernel_rfl) (by kernel_rfl) (by kernel_rfl) (fun _ _ _ h => h) (Or.inl ⟨by rfl, ?_⟩) (by assumption) ?_
  rotate_left
  focus (intro w hSw; (try dsimp only at hSw); go_simp; (try with_reducible rfl))
  try simp only [Act.put, List.setIfInBounds_toArray, List.set_cons_zero, List.set_cons_succ]
  refine wpAnyH_take (i := 15) (oi := { dst := some 118, op := Op.move (Operand.tmp 14), type := 3, pos := "more.go:94", after := #[{ on := 4, ground := Ground.guard }], guard := some (4, false) }) (v := ?_) rfl (by kernel_rfl) (by kernel_rfl) (by kernel_rfl) (fun _ _ _ h => h) (Or.inl ⟨by rfl, ?_⟩) (by assumption) ?_
  rotate_left
  focus (intro w hSw; (try dsimp only at hSw); go_simp; (try with_reducible rfl))
  try simp only [Act.put, List.setIfInBounds_toArray, List.set_cons_zero, List.set_cons_succ]
  refine wpAnyH_take (i := 16) (oi := { dst := some 119, op := Op.indexAddr 83 (Operand.tmp 117) (Operand.tmp 118), type := 0, pos := "more.go:94", after := #[{ on := 14, ground := Ground.data }, { on := 15, ground := Ground.data }, { on := 4, ground := Ground.guard }], guard := some (4, false) }) (v := ?_) rfl (by kernel_rfl) (by kernel_rfl) (by kernel_rfl) (fun _ _ _ h => h) (Or.inl ⟨by rfl, ?_⟩) (by assumption) ?_
  rotate_left
  focus (intro w hSw; (try dsimp only at hSw); go_simp; (try with_reducible rfl))
  try simp only [Act.put, List.setIfInBounds_toArray, List.set_cons_zero, List.set_cons_succ]
  refine wpAnyH_take (i := 17) (oi := { dst := some 120, op := Op.fieldAddr 64 (Operand.tmp 119) 1, type := 0, pos := "more.go:94", after := #[{ on := 16, ground := Ground.data }, { on := 4, ground := Ground.guard }], guard := some (4, false) }) (v := ?_) rfl (by kernel_rfl) (by kernel_rfl) (by kernel_rfl) (fun _ _ _ h => h) (Or.inl ⟨by rfl, ?_⟩) (by assumption) ?_
  rotate_left
  focus (intro w hSw; (try dsimp only at hSw); go_simp; (try with_reducible rfl))
  try simp only [Act.put, List.setIfInBounds_toArray, List.set_cons_zero, List.set_cons_succ]
  refine wpAnyH_take (i := 18) (oi := { dst := some 121, op := Op.load 9 (Operand.tmp 120), type := 9, pos := "more.go:94", after := #[{ on := 17, ground := Ground.data }, { on := 4, ground := Ground.guard }], guard := some (4, false) }) (v := ?_) rfl (by kernel_rfl) (by kernel_rfl) (by kernel_rfl) (fun _ _ _ h => h) (Or.inl ⟨by rfl, ?_⟩) (by assumption) ?_
  rotate_left
  focus (intro w hSw; (try dsimp only at hSw); go_simp; (try with_reducible rfl))
  try simp only [Act.put, List.setIfInBounds_toArray, List.set_cons_zero, List.set_cons_succ]
  refine wpAnyH_ready (rs := [6]) (by kernel_rfl) (by simp) ?_
  refine AllReadyH.cons (o := { dst := some 109, op := Op.call { callee := Callee.value (Operand.func 58), args := #[Operand.tmp 108], argTypes := #[ 73 ] }, type := 24, pos := "more.go:94", after := #[{ on := 5, ground := Ground.data }, { on := 4, ground := Ground.chain }, { on := 4, ground := Ground.guard }], guard := some (4, false) }) rfl (fun K hK => ?_) AllReadyH.nil
  go_simp
  refine (HD.out w1 hHeld.2.2).mono ?_
  rintro e w2 ⟨rfl, rfl⟩
  go_wp2_with fail
  refine hK.out _ _ hHeld (fun hHeld => ?_)
  clear hK K
  try simp only [Act.put, List.setIfInBounds_toArray, List.set_cons_zero, List.set_cons_succ]
  refine wpAnyH_ready (rs := [12]) (by kernel_rfl) (by simp) ?_
  refine AllReadyH.cons (o := { dst := some 115, op := Op.call { callee := Callee.value (Operand.func 65), args := #[Operand.tmp 109, Operand.tmp 114], argTypes := #[ 24, 3 ] }, type := 44, pos := "more.go:94", after := #[{ on := 6, ground := Ground.data }, { on := 11, ground := Ground.data }, { on := 6, ground := Ground.chain }, { on := 4, ground := Ground.guard }], guard := some (4, false) }) rfl (fun K hK => ?_) AllReadyH.nil
  go_simp
  refine (HN.out w1 hHeld.2.2).mono ?_
  rintro e w3 ⟨pz, cz, rfl, hb3⟩
  go_wp2_with fail
  have h3 := HS.out w3 (hHeld.2.2.trans (hb3.mono hHeld.2.2.size))
  refine hK.out _ _ h3 (fun hHeld => ?_)
  clear hK K
  try simp only [Act.put, List.setIfInBounds_toArray, List.set_cons_zero, List.set_cons_succ]
  refine wpAnyH_ready (rs := [13]) (by kernel_rfl) (by simp) ?_
  refine AllReadyH.cons (o := { dst := some 116, op := Op.field 44 (Operand.tmp 115) 2, type := 9, pos := "more.go:94", after := #[{ on := 12, ground := Ground.data }, { on := 4, ground := Ground.guard }], guard := some (4, false) }) rfl (fun K hK => ?_) AllReadyH.nil
  go_simp
  refine hK.out _ _ hHeld (fun hHeld => ?_)
  clear hK K
  try simp only [Act.put, List.setIfInBounds_toArray, List.set_cons_zero, List.set_cons_succ]
  refine wpAnyH_ready (rs := [19]) (by kernel_rfl) (by simp) ?_
  refine AllReadyH.cons (o := { dst := some 122, op := Op.binOp BinOp.neq 9 (Operand.tmp 116) (Operand.tmp 121) 9, type := 4, pos := "more.go:94", after := #[{ on := 13, ground := Ground.data }, { on := 18, ground := Ground.data }, { on := 4, ground := Ground.guard }], guard := some (4, false) }) rfl (fun K hK => ?_) AllReadyH.nil
  go_simp
  refine hK.out _ _ hHeld (fun hHeld => ?_)
  clear hK K
  try simp only [Act.put, List.setIfInBounds_toArray, List.set_cons_zero, List.set_cons_succ]
  refine wpAnyH_ready (rs := [20]) (by kernel_rfl) (by simp) ?_
  refine AllReadyH.cons (o := { dst := some 123, op := Op.pick (Operand.tmp 107) (Operand.const (Value.bool true)) (Operand.tmp 122), type := 4, pos := "more.go:94", after := #[{ on := 4, ground := Ground.data }, { on := 19, ground := Ground.data }], guard := none }) rfl (fun K hK => ?_) AllReadyH.nil
  go_simp
  refine hK.out _ _ hHeld (fun hHeld => ?_)
  clear hK K
  try simp only [Act.put, List.setIfInBounds_toArray, List.set_cons_zero, List.set_cons_succ]
  refine wpAnyH_done (by kernel_rfl) ?_ _
  exact NoPanic.normal (HQ.out _ _ _ _ _ _ _ _ _ _ _ _ _ _ _ _ _ _ _ _ w3 hHeld.2.2)
end Go.Proofs.Ytmhjfbdldpehdaa
namespace Go.Proofs.Ytmhjfbdldpehdaa
open Go.RowKit Go.Maps

set_option maxHeartbeats 4000000 in
set_option maxRecDepth 100000 in
theorem reb_blk1 {w w0 W : World} {v : Value} {n A B : Nat} {st : St8} {T K : Nat} {Q : Exit → Act → World → Prop} {u0 u1 u2 u3 u4 u7 u8 u9 u10 u11 u12 u13 u14 u15 u16 u17 u18 u19 u20 u21 u22 u23 u24 u25 u26 u27 u28 u29 u30 u31 u32 u33 u34 u35 u36 u37 u38 u39 u40 u41 u42 u43 u44 u45 u46 u47 u48 u49 u50 u51 u52 u53 u54 u55 u56 u57 u58 u59 u60 u61 u62 u63 u64 u65 u66 u67 u68 u69 u70 u71 u72 u73 u74 u75 u76 u77 u78 u79 u80 u81 u82 u83 u84 u85 u86 u87 u88 u89 u90 u91 u92 u93 u94 u95 u96 u97 u98 u99 u100 u101 u102 u103 u104 u105 u106 u107 u108 u109 u110 u111 u112 u113 u114 u115 u116 u117 u118 u119 u120 u121 u122 u123 u124 u125 u126 u127 u128 u129 u130 u131 u132 u133 u134 u135 u136 u137 u138 : Value} (h : RQ w w0 W v n A B st T) (hi : LawI st (st.1.length - 1) K) (h2 : 2 ≤ st.1.length) (hK : K ≤ 500) (hT : T ≤ 1000)
    (hQ : ∀ (x8 x43 x44 x45 x46 x47 x48 x49 x50 x51 x52 x53 x54 x55 x56 x57 x58 x59 x60 : Value) (w' : World) (st' : St8), RQ w w0 w' v n A B st' (T + 1) → LawI st' (st'.1.length - 1) (K + 1) → 2 ≤ st'.1.length → Q .normal { tmps := #[u0, u1, u2, u3, u4, .pointer (some ⟨B, 0, none⟩), .pointer (some ⟨A, 0, none⟩), u7, x8, u9, u10, u11, u12, u13, u14, u15, u16, u17, u18, u19, u20, u21, u22, u23, u24, u25, u26, u27, u28, u29, u30, u31, u32, u33, u34, u35, u36, u37, u38, u39, u40, u41, u42, x43, x44, x45, x46, x47, x48, x49, x50, x51, x52, x53, x54, x55, x56, x57, x58, x59, x60, u61, u62, u63, u64, u65, u66, u67, u68, u69, u70, u71, u72, u73, u74, u75, u76, u77, u78, u79, u80, u81, u82, u83, u84, u85, u86, u87, u88, u89, u90, u91, u92, u93, u94, u95, u96, u97, u98, u99, u100, u101, u102, u103, u104, u105, u106, u107, u108, u109, u110, u111, u112, u113, u114, u115, u116, u117, u118, u119, u120, u121, u122, u123, u124, u125, u126, u127, u128, u129, u130, u131, u132, u133, u134, u135, u136, u137, u138], defers := [] } w') :
    (Code.block 1 ((Code.region 11 #[{ dst := some 43, op := Op.move (Operand.tmp 6), type := 77, pos := "more.go:78", after := #[], guard := none }, { dst := some 44, op := Op.call { callee := Callee.value (Operand.func 51), args := #[Operand.tmp 43, Operand.const (Value.int IntKind.i64 5)], argTypes := #[ 77, 3 ] }, type := 3, pos := "more.go:78", after := #[{ on := 0, ground := Ground.data }], guard := none }, { dst := some 45, op := Op.call { callee := Callee.value (Operand.func 28), args := #[Operand.tmp 44], argTypes := #[ 3 ] }, type := 9, pos := "more.go:78", after := #[{ on := 1, ground := Ground.data }, { on := 1, ground := Ground.chain }], guard := none }, { dst := some 46, op := Op.move (Operand.tmp 6), type := 77, pos := "more.go:78", after := #[], guard := none }, { dst := some 47, op := Op.call { callee := Callee.value (Operand.func 51), args := #[Operand.tmp 46, Operand.const (Value.int IntKind.i64 7)], argTypes := #[ 77, 3 ] }, type := 3, pos := "more.go:78", after := #[{ on := 3, ground := Ground.data }, { on := 2, ground := Ground.chain }], guard := none }, { dst := some 48, op := Op.call { callee := Callee.value (Operand.func 29), args := #[Operand.tmp 47], argTypes := #[ 3 ] }, type := 42, pos := "more.go:78", after := #[{ on := 4, ground := Ground.data }, { on := 4, ground := Ground.chain }], guard := none }, { dst := some 49, op := Op.build 64 #[(1, Operand.tmp 45), (2, Operand.tmp 48)], type := 64, pos := "more.go:78", after := #[{ on := 2, ground := Ground.data }, { on := 5, ground := Ground.data }], guard := none }, { dst := some 8, op := Op.alloc 64, type := 0, pos := "more.go:78", after := #[], guard := none }, { dst := none, op := Op.store 64 (Operand.tmp 8) (Operand.tmp 49), type := 0, pos := "more.go:78", after := #[{ on := 7, ground := Ground.data }, { on := 6, ground := Ground.data }, { on := 5, ground := Ground.chain }, { on := 0, ground := Ground.phase }, { on := 1, ground := Ground.phase }, { on := 2, ground := Ground.phase }, { on := 3, ground := Ground.phase }, { on := 4, ground := Ground.phase }, { on := 5, ground := Ground.phase }, { on := 6, ground := Ground.phase }, { on := 7, ground := Ground.phase }], guard := none }] false).seq ((Code.region 12 #[{ dst := some 50, op := Op.move (Operand.tmp 5), type := 73, pos := "more.go:79", after := #[], guard := none }, { dst := some 51, op := Op.fieldAddr 64 (Operand.tmp 8) 1, type := 0, pos := "more.go:79", after := #[], guard := none }, { dst := some 52, op := Op.load 9 (Operand.tmp 51), type := 9, pos := "more.go:79", after := #[{ on := 1, ground := Ground.data }], guard := none }, { dst := some 53, op := Op.fieldAddr 64 (Operand.tmp 8) 2, type := 0, pos := "more.go:79", after := #[], guard := none }, { dst := some 54, op := Op.load 42 (Operand.tmp 53), type := 42, pos := "more.go:79", after := #[{ on := 3, ground := Ground.data }], guard := none }, { dst := some 55, op := Op.call { callee := Callee.value (Operand.func 52), args := #[Operand.tmp 50, Operand.const (Value.int IntKind.i64 1), Operand.tmp 52, Operand.tmp 54], argTypes := #[ 73, 3, 9, 42 ] }, type := 3, pos := "more.go:79", after := #[{ on := 0, ground := Ground.data }, { on := 2, ground := Ground.data }, { on := 4, ground := Ground.data }], guard := none }, { dst := some 56, op := Op.fieldAddr 64 (Operand.tmp 8) 0, type := 0, pos := "more.go:79", after := #[{ on := 0, ground := Ground.phase }, { on := 1, ground := Ground.phase }, { on := 2, ground := Ground.phase }, { on := 3, ground := Ground.phase }, { on := 4, ground := Ground.phase }, { on := 5, ground := Ground.phase }], guard := none }, { dst := none, op := Op.store 3 (Operand.tmp 56) (Operand.tmp 55), type := 0, pos := "more.go:79", after := #[{ on := 6, ground := Ground.data }, { on := 5, ground := Ground.data }, { on := 5, ground := Ground.chain }, { on := 0, ground := Ground.phase }, { on := 1, ground := Ground.phase }, { on := 2, ground := Ground.phase }, { on := 3, ground := Ground.phase }, { on := 4, ground := Ground.phase }, { on := 5, ground := Ground.phase }], guard := none }] false).seq (Code.region 13 #[{ dst := some 57, op := Op.move (Operand.tmp 5), type := 73, pos := "more.go:80", after := #[], guard := none }, { dst := some 58, op := Op.call { callee := Callee.value (Operand.func 59), args := #[Operand.tmp 57], argTypes := #[ 73 ] }, type := 55, pos := "more.go:80", after := #[{ on := 0, ground := Ground.data }], guard := none }, { dst := some 59, op := Op.load 64 (Operand.tmp 8), type := 64, pos := "more.go:80", after := #[], guard := none }, { dst := some 60, op := Op.call { callee := Callee.value (Operand.func 42), args := #[Operand.tmp 58, Operand.tmp 59], argTypes := #[ 55, 64 ] }, type := 0, pos := "more.go:80", after := #[{ on := 1, ground := Ground.data }, { on := 2, ground := Ground.data }, { on := 1, ground := Ground.chain }], guard := none }] true)))).wp Try.prog Q { tmps := #[u0, u1, u2, u3, u4, .pointer (some ⟨B, 0, none⟩), .pointer (some ⟨A, 0, none⟩), u7, u8, u9, u10, u11, u12, u13, u14, u15, u16, u17, u18, u19, u20, u21, u22, u23, u24, u25, u26, u27, u28, u29, u30, u31, u32, u33, u34, u35, u36, u37, u38, u39, u40, u41, u42, u43, u44, u45, u46, u47, u48, u49, u50, u51, u52, u53, u54, u55, u56, u57, u58, u59, u60, u61, u62, u63, u64, u65, u66, u67, u68, u69, u70, u71, u72, u73, u74, u75, u76, u77, u78, u79, u80, u81, u82, u83, u84, u85, u86, u87, u88, u89, u90, u91, u92, u93, u94, u95, u96, u97, u98, u99, u100, u101, u102, u103, u104, u105, u106, u107, u108, u109, u110, u111, u112, u113, u114, u115, u116, u117, u118, u119, u120, u121, u122, u123, u124, u125, u126, u127, u128, u129, u130, u131, u132, u133, u134, u135, u136, u137, u138], defers := [] } W := by
  have HQ := Lib.hid hQ
  have HI := Lib.hid hi
  have HX1 := Lib.hid (rNext h 5 (by omega) (by omega))
  clear hQ hi h
  go_wp2_with fail
  refine HX1.out.mono ?_
  rintro e w1 ⟨r1, hr1, rfl, h1, -, -⟩
  have HNM := Lib.hid (name7 (r1 : Int) w1 (by omega) (by omega))
  have H1 := Lib.hid h1
  clear h1 HX1
  have hnl : (nm7 (Within (r1 : Int) 5)).length ≤ 4 := by
    unfold nm7
    split <;> decide
  generalize nm7 (Within (r1 : Int) 5) = nm at *
  go_wp2_with fail
  refine HNM.out.mono ?_
  rintro e w2 ⟨rfl, hb2⟩
  have HX2 := Lib.hid (rNext (H1.out.on hb2) 7 (by omega) (by omega))
  clear hb2 H1 HNM
  obtain ⟨NM, hNM⟩ : ∃ NM : ByteArray, (⟨nm.toArray⟩ : ByteArray) = NM := ⟨_, rfl⟩
  rw [hNM]
  have HNM := Lib.hid hNM
  clear hNM
  go_wp2_with fail
  refine HX2.out.mono ?_
  rintro e w3 ⟨r2, hr2, rfl, h3, -, -⟩
  have HAT := Lib.hid (attrs7 (r2 : Int) w3 (by omega) (by omega))
  have H3 := Lib.hid h3
  clear h3 HX2
  have hal : (at7 (Within (r2 : Int) 7)).length ≤ 2 ∧ ∀ a ∈ at7 (Within (r2 : Int) 7), a.1.length ≤ maxLen ∧ a.2.length ≤ maxLen := by
    unfold at7
    split <;> simp [maxLen]
  generalize at7 (Within (r2 : Int) 7) = al at *
  obtain ⟨hal1, hal2⟩ := hal
  have HAL := Lib.hid hal2
  clear hal2
  go_wp2_with fail
  refine HAT.out.mono ?_
  rintro e w4 ⟨p, c, rfl, hat, hb4⟩
  obtain ⟨⟨M, k, t⟩, sz, szA⟩ := H3.out
  have hz4 := hb4.size
  obtain ⟨w5, hw5⟩ : ∃ w5, w5 = w4.alloc (.cells #[.int .i64 0, .string NM, .slice p al.length c] 64) := ⟨_, rfl⟩
  have b5 : Below w4.heap.size w4 w5 := by rw [hw5]; exact (Below.refl _ w4).alloc (Nat.le_refl _) _
  have hx5 : w5.heap[w4.heap.size]? = some (.cells #[.int .i64 0, .string NM, .slice p al.length c] 64) := by rw [hw5]; exact heap_alloc_new w4 _
  have b35 : Below w3.heap.size w3 w5 := hb4.trans (b5.mono hz4)
  have k5 := k.on b35
  have t5 := t.on b35
  have hA5 : AttrsP (fun b => w3.heap.size ≤ b ∧ b < w4.heap.size) w5 (.slice p al.length c) al := (hat.mono fun b q hl => ⟨q, hl⟩).kept (.of_below b5)
  have hrl := HI.out.rlen
  have hsl := HI.out.slen
  have HBR := Lib.hid (HI.out.reb (by omega))
  have hAD := kAdd k5 _ 1 nm al _ hA5 (by omega) (by omega) (by omega) (by omega) (by omega) (by omega) 1 (okAdd_off HI.out.last HBR.out.top 1 nm al)
  simp only [HNM.out] at hAD
  have HAD := Lib.hid hAD
  have hE : ¬ M w4.heap.size := fun q => by have := (k.inn _ q).2; omega
  have y0 := (block_cell hx5 0).1
  have y1 := (block_cell hx5 1).1
  have y2 := (block_cell hx5 2).1
  simp at y0 y1 y2
  have HX5 := Lib.hid hx5
  have HK5 := Lib.hid k5
  have HT5 := Lib.hid t5
  have HA5 := Lib.hid hA5
  have HKi := Lib.hid k.inn
  have hAM := t.off
  have hAl := t.lt
  have htn := t.tape.new
  clear hAD k5 t5 hA5 hx5 b5 b35 hat hb4 HAT H3 k t HBR
  go_wp2_with fail
  rw [← hw5]
  refine HAD.out.mono ?_
  rintro e w6 ⟨rfl, M6, k6, hs6, ht6⟩
  obtain ⟨a6, q6, ho6, hn6⟩ := k6.site
  have t6 : TapeK8 w w6 M6 v n A := HT5.out.turns (w1 := w0) hs6 ht6 (fun b hb => (HK5.out.inn b hb).1) sz
  have hl5 := heap_lt HX5.out
  have hx6 : w6.heap[w4.heap.size]? = some (.cells #[.int .i64 0, .string NM, .slice p al.length c] 64) := (ht6.block _ hl5 hE).trans HX5.out
  have z0 := (block_cell hx6 0).1
  have z1 := (block_cell hx6 1).1
  have z2 := (block_cell hx6 2).1
  have f0 := (block_cell hx6 0).2
  simp at z0 z1 z2
  have hE6 : ¬ M6 w4.heap.size := fun q => hE (hs6 _ hl5 q)
  obtain ⟨w7, hw7⟩ : ∃ w7, w7 = w6.setCell ⟨w4.heap.size, 0, none⟩ (.int .i64 (st.1.length : Int)) := ⟨_, rfl⟩
  have g0 : w7.cell? ⟨w4.heap.size, 0, none⟩ = some (.int .i64 (st.1.length : Int)) := by rw [hw7]; exact World.cell?_setCell_same _ _ (u := .int .i64 0) _ z0
  have g1 : w7.cell? ⟨w4.heap.size, 1, none⟩ = some (.string NM) := by rw [hw7, World.cell?_setCell_other _ _ _ _ (by intro e; injection e with _ e; omega)]; exact z1
  have g2 : w7.cell? ⟨w4.heap.size, 2, none⟩ = some (.slice p al.length c) := by rw [hw7, World.cell?_setCell_other _ _ _ _ (by intro e; injection e with _ e; omega)]; exact z2
  have t7 : Turns (fun b => b = w4.heap.size) w6 w7 := by
    rw [hw7]
    exact (Turns.refl (fun b => b = w4.heap.size) w6).setCell (.inl rfl) 0 _
  have hd7 : Below w7.heap.size w7 w7.drew := (Below.refl _ w7).drew
  have hz6 : w0.heap.size ≤ w4.heap.size := by omega
  have k8 := (k6.off t7 hE6 hz6).on hd7
  have tp8 : TapeK8 w w7.drew M6 v n A := (t6.off8 t7 (by omega) (by omega)).on hd7
  have q8 := (q6.on t7 (fun b _ q e => hE6 (by rw [← e]; exact q))).below hd7
  have HMK : Hid (∀ W, Below w7.heap.size w7 W → Calls Try.prog 59 #[.pointer (some ⟨B, 0, none⟩)] W (Gives (.pointer (some ⟨a6.K, 0, none⟩)) W)) := Lib.hid fun W hb => smarksP ((q6.on t7 (fun b _ q e => hE6 (by rw [← e]; exact q))).below hb)
  have hA8 : AttrsP (fun b => w3.heap.size ≤ b ∧ b < w4.heap.size) w7.drew (.slice p al.length c) al := ((HA5.out.kept (ht6.kept fun b _ q m => by have := (HKi.out b m).2; omega)).kept (t7.kept fun b _ q e => by omega)).kept (.of_below hd7)
  have hPU := mpushP st.2.1 a6.K a6.MK _ w7.drew ⟨(st.1.length : Int), nm, al⟩ p c q8.marks (by have := HI.out.llen; omega) (fun y hy => (HI.out.marks y hy).2.2.2) hA8 (fun b q m => by
    have h1 := hs6 b (by omega) (q6.kM b m).1
    have := (HKi.out b h1).2
    omega) (fun b m => (q8.kM b m).2.1) ⟨by show al.length ≤ 30; omega, HAL.out⟩
  unfold markV at hPU
  simp only [HNM.out] at hPU
  have HPU : Hid (Calls Try.prog 42 #[.pointer (some ⟨a6.K, 0, none⟩), .agg #[.int .i64 (st.1.length : Int), .string NM, .slice p al.length c]] w7.drew (fun e w' => e = .returned (.tuple #[]) ∧ (MarksM (New a6.MK w7.drew) w' a6.K (mPush st.2.1 ⟨(st.1.length : Int), nm, al⟩) ∧ Turns a6.MK w7.drew w'))) := Lib.hid hPU
  have hE8 : ¬ a6.MK w4.heap.size := fun m => hE6 (q6.kM _ m).1
  have hlt7 := World.block_lt_of_cell? w7 _ g0
  have HK8 := Lib.hid k8
  have HT8 := Lib.hid tp8
  have HQ8 := Lib.hid q8
  have HO8 := Lib.hid (And.intro ho6 hn6)
  have HW7 := Lib.hid hw7
  have HG := Lib.hid (And.intro g0 (And.intro g1 g2))
  clear k8 tp8 q8 hPU k6 q6 ho6 hn6 t6 hx6 z1 z2 t7 hd7 hA8 hw7 HAD HA5 HX5 HK5 HT5 HKi g0 g1 g2 hs6 ht6
  go_upto_region 13 with fail
  rw [← HW7.out]
  refine reb_reg13 HG.out.1 HG.out.2.1 HG.out.2.2 HMK HPU ?_ ?_
  · rintro w9 ⟨_, ht9⟩
    have hc : ∀ i, w9.cell? ⟨w4.heap.size, i, none⟩ = w7.cell? ⟨w4.heap.size, i, none⟩ := fun i => (World.cell?_of_block (w := w7.drew) (ht9.block _ hlt7 hE8))
    exact ⟨(hc 0).trans HG.out.1, (hc 1).trans HG.out.2.1, (hc 2).trans HG.out.2.2⟩
  · rintro x57 x58 x59 x60 w9 ⟨hm9, ht9⟩
    obtain ⟨q9, t9⟩ := HQ8.out.markStep hm9 ht9
    have hstp := (HK8.out.out (v := .bool true) (e := .returned (.bool true)) ⟨rfl, ⟨_, q9, HO8.out⟩, t9⟩).2
    have hRQ : RQ w w0 w9 v n A B (addS false st.1 st.2.2 1 nm al, mPush st.2.1 ⟨(st.1.length : Int), nm, al⟩, st.2.2 ++ [⟨(st.1.length : Int), 1, nm⟩]) (T + 1) := RQ.of (st := (addS false st.1 st.2.2 1 nm al, st.2.1, st.2.2 ++ [⟨(st.1.length : Int), 1, nm⟩])) (st' := (_, _, _)) HK8.out HT8.out sz szA hstp
    have hLI := HI.out.push h2 nm al ⟨hal1, by show nm.length ≤ 10; omega, by show al.length ≤ 30; omega, HAL.out⟩
    have hln := add_len st.1 st.2.2 1 nm al
    have HF := Lib.hid (fun x8 x43 x44 x45 x46 x47 x48 x49 x50 x51 x52 x53 x54 x55 x56 x57 x58 x59 x60 => HQ.out x8 x43 x44 x45 x46 x47 x48 x49 x50 x51 x52 x53 x54 x55 x56 x57 x58 x59 x60 w9 _ hRQ (by rw [show (addS false st.1 st.2.2 1 nm al).length - 1 = st.1.length by omega]; exact hLI) (by show 2 ≤ (addS _ _ _ _ _ _).length; omega))
    clear q9 t9 hstp hRQ hLI hm9 ht9 HQ
    go_wp2_with fail
    exact HF.out _ _ _ _ _ _ _ _ _ _ _ _ _ _ _ _ _ _ _
end Go.Proofs.Ytmhjfbdldpehdaa
namespace Go.Proofs.Ytmhjfbdldpehdaa
open Go.RowKit Go.Maps

theorem rebF_rebI {n : Nat} : ∀ (c i : Nat) (st : St8) (K : Nat), RebI st n K → c + i ≤ n → K + c ≤ 100000 → RebI (rebF c i st) n (K + c)
  | 0, _, _, _, h, _, _ => h
  | c + 1, i, st, K, h, hc, hK => by
    have := rebF_rebI c (i + 1) (rebStep i st) (K + 1) (h.next (by omega) (by omega)) (by omega) (by omega)
    rw [show K + (c + 1) = K + 1 + c by omega]
    exact this
theorem numsAt8 {R : List EL} {b g : Nat} {W : World} (h : numsRow R b g R.length W) {j : Nat} (hj : j < R.length) : W.cell? ⟨g, j, none⟩ = some (.int .i64 R[j].n) := by
  have h2 : W.cell? ⟨g, j, none⟩ = (numsTo R R.length)[j]? := World.ownsRow.cellAt h j (by omega)
  rw [h2]
  unfold numsTo
  rw [List.getElem?_append_left (by simp; omega)]
  simp [hj]
/-- Where each mark's node stands in the row. -/
theorem ReI.pos8 {n : Nat} {st : St8} (h : ReI n n st) : ∃ pos : Nat → Nat, ∀ i, i < n → pos i < st.2.2.length ∧ (∀ hp : pos i < st.2.2.length, (st.2.2[pos i]).n = (st.2.1.getD i mZero).node) ∧ ∀ i', i < i' → i' < n → pos i < pos i' := by
  have hex : ∀ i, ∃ p, i < n → ∃ hp : p < st.2.2.length, (st.2.2[p]).n = (st.2.1.getD i mZero).node := by
    intro i
    by_cases hi : i < n
    · obtain ⟨x, hx, e⟩ := List.mem_map.1 (h.done i hi hi).1
      obtain ⟨p, hp, rfl⟩ := List.getElem_of_mem hx
      exact ⟨p, fun _ => ⟨hp, e⟩⟩
    · exact ⟨0, fun k => absurd k hi⟩
  refine ⟨fun i => Classical.choose (hex i), fun i hi => ?_⟩
  obtain ⟨hp, he⟩ := Classical.choose_spec (hex i) hi
  refine ⟨hp, fun _ => he, fun i' hii hi' => ?_⟩
  obtain ⟨hp', he'⟩ := Classical.choose_spec (hex i') hi'
  have hm := h.mono i i' hii hi' hi'
  rcases Nat.lt_or_ge (Classical.choose (hex i)) (Classical.choose (hex i')) with k | k
  · exact k
  · exfalso
    rcases Nat.lt_or_ge (Classical.choose (hex i')) (Classical.choose (hex i)) with k2 | k2
    · have := List.pairwise_iff_getElem.1 h.inc _ _ (by unfold numsE; rw [List.length_map]; exact hp') (by unfold numsE; rw [List.length_map]; exact hp) k2
      simp only [numsE, List.getElem_map] at this
      omega
    · have e : Classical.choose (hex i) = Classical.choose (hex i') := by omega
      have : (st.2.2[Classical.choose (hex i)]).n = (st.2.2[Classical.choose (hex i')]).n := by congr 1; simp only [e]
      omega
theorem inc_row {R : List EL} (h : (numsE R).Pairwise (· < ·)) {a b : Nat} (hab : a < b) (hb : b < R.length) : R[a].n < R[b].n := by
  have := List.pairwise_iff_getElem.1 h a b (by unfold numsE; rw [List.length_map]; omega) (by unfold numsE; rw [List.length_map]; exact hb) hab
  simpa [numsE] using this
theorem marks_at {B0 : Nat} {W : World} {v : Value} {rs : List (MK × Value)} (h : OutRow B0 W v rs) : ∃ p cap, v = .slice p rs.length cap ∧ ∀ i (hi : i < rs.length), ∃ g, p = some ⟨g, 0, none⟩ ∧ W.cell? ⟨g, i * 3, none⟩ = some (.int .i64 rs[i].1.node) ∧ W.cell? ⟨g, i * 3 + 1, none⟩ = some (.string ⟨rs[i].1.name.toArray⟩) := by
  rcases Joins.ownsRow_forms h.row with ⟨rfl, h0⟩ | ⟨g, cap, rfl⟩
  · exact ⟨none, 0, by rw [h0], fun i hi => by omega⟩
  · refine ⟨_, cap, rfl, fun i hi => ⟨g, rfl, ?_, ?_⟩⟩
    · have := h.row.cellAt (i * 3 + 0) (by omega)
      rw [mkCells_at rs i 0 hi (by omega)] at this
      exact this
    · have := h.row.cellAt (i * 3 + 1) (by omega)
      rw [mkCells_at rs i 1 hi (by omega)] at this
      exact this
set_option maxHeartbeats 8000000 in
set_option maxRecDepth 100000 in
theorem siteRebuilds_walk (v : Value) (n : Nat) (ps : Int) (w : World) (hv : IntsIn w v n) (hp0 : -9223372036854775808 ≤ ps) (hp1 : ps ≤ 9223372036854775807) : Calls Try.prog 8 #[v, .int .i64 ps] w (Yes w) := by
  obtain ⟨pv, cv, rfl⟩ : ∃ p cap, v = .slice p n cap := by
    rcases hv with ⟨p, cap, hv, h0⟩ | ⟨g, off, cap, hv, _⟩
    · exact ⟨p, cap, by rw [hv, h0]⟩
    · exact ⟨_, cap, hv⟩
  have HK := Lib.hid (known8_yes w)
  have HV := Lib.hid hv
  have HWI : Hid (∀ W, Calls Try.prog 55 #[.int .i64 ps, .int .i64 12] W (Gives (.int .i64 ((Within ps 12 : Nat) : Int)) W)) := Lib.hid fun W => within8 ps 12 W hp0 hp1 (by omega) (by omega)
  have hwl := (within_lt ps 12 (by omega)).1
  clear hv hp0 hp1
  generalize Within ps 12 = pops at *
  go_enter Try.func8, Try.ntmps8
  go_wp2_with fail
  refine HK.out.mono ?_
  rintro e w1 ⟨rfl, b1⟩
  have B1 := Lib.hid b1
  clear b1
  have HN : Hid (Calls Try.prog 48 #[] w1 (fun e w' => ∃ B, e = .returned (.pointer (some ⟨B, 0, none⟩)) ∧ SiteB w1 w' B [elemPN 1 [] []] [] [elRoot] false 1)) := Lib.hid (bNew8 w1)
  go_wp2_with fail
  refine HN.out.mono ?_
  rintro e w2 ⟨B, rfl, hs2⟩
  obtain ⟨D0, _, hd0, _, _⟩ := bDoc hs2
  obtain ⟨K0, hk0⟩ := bMarks hs2
  have HD0 := Lib.hid hd0
  have HK0 := Lib.hid hk0
  have HS2 := Lib.hid hs2
  clear hd0 hs2 hk0
  go_wp2_with fail
  refine HD0.out.mono ?_
  rintro e w3 ⟨rfl, rfl⟩
  go_wp2_with fail
  refine HK0.out.mono ?_
  rintro e w3 ⟨rfl, rfl⟩
  have H3 : Hid (RQ w w1 (w2.alloc (.cells #[.slice pv n cv, .int .i64 0] 79)) (.slice pv n cv) n w2.heap.size B ([elemPN 1 [] []], [], [elRoot]) 1) := by
    have hs := HS2.out
    have hz := B1.out.size
    have hz2 := hs.below.size
    have hb : Below w2.heap.size w2 (w2.alloc (.cells #[.slice pv n cv, .int .i64 0] 79)) := (Below.refl _ _).alloc (Nat.le_refl _) _
    have h02 : Below w.heap.size w w2 := B1.out.trans (hs.below.mono hz)
    have ht := TapeAt.made w2 (.slice pv n cv) n 79 (HV.out.below h02)
    refine Lib.hid ⟨⟨_, hs.k.on hb, ⟨⟨HV.out, by omega, ht.row, ht.at_, ht.free, h02.trans (hb.mono (by omega))⟩, fun k => by have := k.2; omega, by simp⟩⟩, hz, hz2⟩
  have HA : Hid (Calls Try.prog 52 #[.pointer (some ⟨B, 0, none⟩), .int .i64 1, .string ⟨#[112]⟩, .slice none 0 0] (w2.alloc (.cells #[.slice pv n cv, .int .i64 0] 79)) (fun e w' => e = .returned (.int .i64 1) ∧ RQ w w1 w' (.slice pv n cv) n w2.heap.size B (k8S1, [], k8R1) 2)) := Lib.hid (by
    obtain ⟨⟨M, k, t⟩, sz, szA⟩ := H3.out
    refine (kAdd k (fun _ => False) 1 [112] [] _ (AttrsP.nil _ _ _ _) (by decide) (by decide) (by decide) (by decide) (by decide) (by decide) 9 (by decide +kernel)).mono ?_
    rintro e w' ⟨he, hst⟩
    exact ⟨he, RQ.of (st' := (k8S1, [], k8R1)) k t sz szA hst⟩)
  have HL1 : Hid (LawI (k8S1, [], k8R1) 1 2) := Lib.hid ⟨by decide +kernel, by decide +kernel, add_last last_start (by decide +kernel) 1 [112] [] (by decide), by decide +kernel, by decide +kernel, by decide, fun x hx => absurd hx (by simp), List.Pairwise.nil⟩
  have HS1 : Hid (k8S1.length = 2) := Lib.hid (by decide +kernel)
  clear HD0 HS2 HN HK HK0
  go_wp2_with fail
  refine HA.out.mono ?_
  rintro e w4 ⟨rfl, h4⟩
  have H4 : Hid (∃ st, RQ w w1 w4 (.slice pv n cv) n w2.heap.size B st 2 ∧ LawI st (st.1.length - 1) 2 ∧ 2 ≤ st.1.length) := Lib.hid ⟨_, h4, by show LawI _ (k8S1.length - 1) 2; rw [HS1.out]; exact HL1.out, by show 2 ≤ k8S1.length; rw [HS1.out]; exact Nat.le_refl _⟩
  clear HA H3 h4 HL1 HS1
  generalize w2.heap.size = A at *
  go_upto_block 0 with fail
  go_cut [] (fun wx => ∃ st T K, RQ w w1 wx (.slice pv n cv) n A B st T ∧ LawI st (st.1.length - 1) K ∧ T ≤ 10 ∧ K ≤ 10)
  case first =>
    clear HWI
    as_aux_lemma =>
      go_wp2_with fail
      go_loopw [7] (fun i wr => ∃ (c : Nat) (st : St8), c ≤ 8 ∧ i = .int .i64 (c : Int) ∧ RQ w w1 wr (.slice pv n cv) n A B st (2 + c) ∧ LawI st (st.1.length - 1) (2 + c) ∧ 2 ≤ st.1.length) (fun i _ => 8 - (intOf i).toNat)
      case atStart =>
        obtain ⟨st, q1, q2, q3⟩ := H4.out
        exact ⟨0, st, by omega, rfl, q1, q2, q3⟩
      case round =>
        obtain ⟨c, st, hc, rfl, hq, hli, h2⟩ := hrel
        by_cases hlt : c < 8
        · have HM := Lib.hid (rMore hq)
          have HLI := Lib.hid hli
          clear hq hli H4
          go_wp2_with fail
          refine HM.out.mono ?_
          rintro e w6 ⟨b, rfl, h6⟩
          have H6 := Lib.hid h6
          clear h6 HM
          cases b
          · go_wp2_with fail
            go_meet
            exact ⟨st, _, _, H6.out, HLI.out, by omega, by omega⟩
          · go_upto_block 1 with fail
            refine reb_blk1 H6.out HLI.out h2 (by omega) (by omega) ?_
            intro x8 x43 x44 x45 x46 x47 x48 x49 x50 x51 x52 x53 x54 x55 x56 x57 x58 x59 x60 w7 st' h7 hl7 h27
            have H7 := Lib.hid h7
            have HL7 := Lib.hid hl7
            clear h7 hl7 H6 HLI
            go_wp2_with fail
            exact ⟨⟨c + 1, st', by omega, by go_num, H7.out, HL7.out, h27⟩, by simp [intOf]; omega⟩
        · have HLI := Lib.hid hli
          have HQ := Lib.hid hq
          clear hq hli H4
          go_wp2_with fail
          go_meet
          exact ⟨st, _, _, HQ.out, HLI.out, by omega, by omega⟩
  case rest =>
    have HC := Lib.hid hcut
    clear hcut H4
    generalize wc = w5 at *
    as_aux_lemma =>
      go_upto_block 2 with fail
      go_cut [] (fun wx => ∃ st T K k, RQ w w1 wx (.slice pv n cv) n A B st T ∧ LawI st k K ∧ T ≤ 30 ∧ K ≤ 10)
      case first =>
        as_aux_lemma =>
          go_wp2_with fail
          go_loopw [9] (fun i wr => ∃ (c : Nat) (st : St8) (T K k : Nat), c ≤ pops ∧ i = .int .i64 (c : Int) ∧ RQ w w1 wr (.slice pv n cv) n A B st T ∧ LawI st k K ∧ T ≤ 10 + c ∧ K ≤ 10) (fun i _ => pops - (intOf i).toNat)
          case atStart =>
            obtain ⟨st, T, K, q1, q2, q3, q4⟩ := HC.out
            exact ⟨0, st, T, K, _, Nat.zero_le _, rfl, q1, q2, by omega, q4⟩
          case round =>
            obtain ⟨c, st, T, K, k, hc, rfl, hq, hli, hT, hK⟩ := hrel
            have HQ := Lib.hid hq
            have HLI := Lib.hid hli
            clear hq hli HC
            by_cases hlt : c < pops
            · have p0 : (c : Int) < (pops : Int) := by omega
              have HP := Lib.hid (rPop HQ.out HLI.out (by omega) (by omega))
              clear HQ HLI
              go_wp2_with fail
              refine (HWI.out _).mono ?_
              rintro e w6 ⟨rfl, rfl⟩
              go_wp2_with fail
              refine HP.out.mono ?_
              rintro e w7 ⟨b, k', rfl, h7, hl7⟩
              have H7 := Lib.hid h7
              have HL7 := Lib.hid hl7
              clear h7 hl7 HP
              go_wp2_with fail
              exact ⟨⟨c + 1, _, T + 1, K, k', by omega, by go_num, H7.out, HL7.out, by omega, hK⟩, by simp [intOf]; omega⟩
            · have p0 : ¬ (c : Int) < (pops : Int) := by omega
              go_wp2_with fail
              refine (HWI.out _).mono ?_
              rintro e w6 ⟨rfl, rfl⟩
              go_wp2_with fail
              go_meet
              exact ⟨st, T, K, k, HQ.out, HLI.out, by omega, hK⟩
      case rest =>
        have HC2 := Lib.hid hcut
        clear hcut HC HWI
        generalize wc = w6 at *
        as_aux_lemma =>
          obtain ⟨st, T, K, k, hq, hli, hT, hK⟩ := HC2.out
          clear HC2
          have hll := hli.llen
          have hRB := hli.reb (by omega)
          have HR1 := Lib.hid (rRebuild hq hRB (by omega) (by omega) (by omega))
          have hsc := rebScan_le (elOpen st.2.2) st.2.1 st.2.1.length
          have hre := rebF_ok (st.2.1.length - rebScan (elOpen st.2.2) st.2.1 st.2.1.length) _ st (by omega) hli.re
          have hrb2 := rebF_rebI (st.2.1.length - rebScan (elOpen st.2.2) st.2.1 st.2.1.length) (rebScan (elOpen st.2.2) st.2.1 st.2.1.length) st (K + 1) hRB (by omega) (by omega)
          obtain ⟨m, hm⟩ : ∃ m, m = st.2.1.length := ⟨_, rfl⟩
          rw [← hm] at hre hrb2 HR1 hll
          obtain ⟨K2, hK2⟩ : ∃ K2, K2 = K + 1 + (m - rebScan (elOpen st.2.2) st.2.1 m) := ⟨_, rfl⟩
          rw [← hK2] at hrb2
          have hK2b : K2 ≤ 40 := by omega
          generalize rebF (m - rebScan (elOpen st.2.2) st.2.1 m) (rebScan (elOpen st.2.2) st.2.1 m) st = st2 at *
          have HRE := Lib.hid hre
          have HRB := Lib.hid hrb2
          clear hq hli hRB hre hrb2 hsc hK2 hm
          go_wp2_with fail
          refine HR1.out.mono ?_
          rintro e w7 ⟨rfl, T2, hT2, h7⟩
          have hpos := HRB.out.pos
          have hrlen := HRB.out.rlen
          have hslen := HRB.out.slen
          have hlen2 := HRB.out.llen
          have HOP := Lib.hid (rOpen h7 hpos (by omega))
          have H7 := Lib.hid h7
          clear h7 HR1
          go_wp2_with fail
          refine HOP.out.mono ?_
          rintro e w8 ⟨rfl, hrow, hb8⟩
          have H8 := Lib.hid (H7.out.on hb8)
          have HROW := Lib.hid hrow
          have hgl := (hrow.lt w7.heap.size rfl).2
          generalize w7.heap.size = G at *
          obtain ⟨KK, hmk, hall⟩ := rMarks H8.out (by omega) (fun x hx => (HRB.out.marks x hx).1)
          have HMK := Lib.hid (hmk w8 (Below.refl _ _))
          have HAL := Lib.hid hall
          clear hrow hb8 hmk hall HOP H7
          go_wp2_with fail
          refine HMK.out.mono ?_
          rintro e w9 ⟨rfl, rfl⟩
          go_wp2_with fail
          refine HAL.out.mono ?_
          rintro e w9 ⟨vl, rs, rfl, hrs, hout, hb9⟩
          obtain ⟨pL, cL, rfl, hcl⟩ := marks_at hout
          have H9 := Lib.hid (H8.out.on hb9)
          obtain ⟨D, hdc, hsz, hnd⟩ := rDoc H9.out
          have HDC := Lib.hid hdc
          have HSZ := Lib.hid hsz
          have HND := Lib.hid hnd
          have hrl : rs.length = m := by rw [← hlen2, ← hrs, List.length_map]
          rw [hrl]
          have HCL : Hid (∀ W, Below w9.heap.size w9 W → ∀ i, i < m → ∃ g, pL = some ⟨g, 0, none⟩ ∧ W.cell? ⟨g, i * 3, none⟩ = some (.int .i64 (st2.2.1.getD i mZero).node) ∧ W.cell? ⟨g, i * 3 + 1, none⟩ = some (.string ⟨(st2.2.1.getD i mZero).name.toArray⟩)) := Lib.hid (fun W hb i hi => by
            obtain ⟨g, e1, e2, e3⟩ := hcl i (by omega)
            have e4 : st2.2.1.getD i mZero = (rs[i]'(by omega)).1 := by
              rw [getD_at (by omega)]
              simp only [← hrs, List.getElem_map]
            rw [e4]
            have hg := World.block_lt_of_cell? w9 _ e2
            exact ⟨g, e1, (hb.cell (p := ⟨g, i * 3, none⟩) hg).trans e2, (hb.cell (p := ⟨g, i * 3 + 1, none⟩) hg).trans e3⟩)
          have HRC : Hid (∀ W, Below w9.heap.size w9 W → ∀ j (hj : j < st2.2.2.length), W.cell? ⟨G, j, none⟩ = some (.int .i64 st2.2.2[j].n)) := Lib.hid (fun W hb j hj => (hb.cell (p := ⟨G, j, none⟩) (Nat.lt_of_lt_of_le hgl hb9.size)).trans ((hb9.cell (p := ⟨G, j, none⟩) hgl).trans (numsAt8 HROW.out hj)))
          obtain ⟨pos, hpo⟩ := HRE.out.pos8
          have HPO := Lib.hid hpo
          clear hcl hout hrs hb9 hdc hsz hnd H8 HAL HMK HROW hpo hgl hrl
          go_wp2_with fail
          refine (HDC.out w9 (Below.refl _ _)).mono ?_
          rintro e w10 ⟨rfl, rfl⟩
          go_wp2_with fail
          refine (HSZ.out w9 (Below.refl _ _)).mono ?_
          rintro e w10 ⟨rfl, rfl⟩
          have HBE := Lib.hid (H9.out.below)
          go_upto_block 4 with fail
          go_cut [] (fun wx => Below w9.heap.size w9 wx)
          case first =>
            as_aux_lemma =>
              go_wp2_with fail
              go_loopw [13, 14] (fun a i wr => ∃ (at_ i' : Nat), i' ≤ m ∧ at_ ≤ st2.2.2.length ∧ a = .int .i64 (at_ : Int) ∧ i = .int .i64 (i' : Int) ∧ (i' < m → at_ ≤ pos i') ∧ Below w9.heap.size w9 wr) (fun _ i _ => m - (intOf i).toNat)
              case atStart => exact ⟨0, 0, Nat.zero_le _, Nat.zero_le _, rfl, rfl, fun _ => Nat.zero_le _, Below.refl _ _⟩
              case round =>
                obtain ⟨at_, i, hi, hat, rfl, rfl, hap, hb⟩ := hrel
                have HB := Lib.hid hb
                clear hb
                by_cases hlt : i < m
                · have p0 : (i : Int) < (m : Int) := by omega
                  obtain ⟨hp1, hp2, hp3⟩ := HPO.out i hlt
                  have hp2' := hp2 hp1
                  have HP3 := Lib.hid hp3
                  obtain ⟨gL, hpL, _, _⟩ := HCL.out w9 (Below.refl _ _) i hlt
                  subst hpL
                  have hap' := hap hlt
                  have hdn := HRE.out.done i hlt hlt
                  have hhas := (pHas_iff _ _).1 (HRE.out.has _ hdn.1)
                  have HNAME := Lib.hid hdn.2
                  have HC3 : Hid (∀ W, Below w9.heap.size w9 W → W.cell? ⟨gL, i * 3, none⟩ = some (.int .i64 (st2.2.1.getD i mZero).node) ∧ W.cell? ⟨gL, i * 3 + 1, none⟩ = some (.string ⟨(st2.2.1.getD i mZero).name.toArray⟩)) := Lib.hid (fun W hb => by
                    obtain ⟨g, e1, e2, e3⟩ := HCL.out W hb i hlt
                    injection e1 with e1
                    injection e1 with e1
                    subst e1
                    exact ⟨e2, e3⟩)
                  have HINC : Hid (∀ a, a < pos i → ∀ ha : a < st2.2.2.length, st2.2.2[a].n < (st2.2.1.getD i mZero).node) := Lib.hid (fun a ha hal => by
                    rw [← hp2']
                    exact inc_row HRE.out.inc ha hp1)
                  have HP2 := Lib.hid hp2'
                  clear hp2 hp2' hp3 hap hdn
                  generalize (st2.2.1.getD i mZero).name = nm at *
                  generalize (st2.2.1.getD i mZero).node = nd at *
                  have i0 : (0 : Int) ≤ (i : Int) := by omega
                  go_upto_block 6 with fail
                  go_cut [13] (fun a wx => a = .int .i64 ((pos i : Nat) : Int) ∧ Below w9.heap.size w9 wx)
                  case first =>
                    as_aux_lemma =>
                      go_wp2_with fail
                      go_loopw [13] (fun a wr => ∃ at_ : Nat, at_ ≤ pos i ∧ a = .int .i64 (at_ : Int) ∧ Below w9.heap.size w9 wr) (fun a _ => pos i - (intOf a).toNat)
                      case atStart => exact ⟨at_, hap', rfl, HB.out⟩
                      case round =>
                        obtain ⟨a, ha, rfl, hb⟩ := hrel
                        have HB2 := Lib.hid hb
                        have c1 := HRC.out _ hb a (by omega)
                        have c2 := (HC3.out _ hb).1
                        have hBD := Lib.hid hb.drew
                        clear hb
                        have a0 : (0 : Int) ≤ (a : Int) := by omega
                        have a1 : (a : Int) < (st2.2.2.length : Int) := by omega
                        by_cases hlp : a < pos i
                        · have hne : (st2.2.2[a].n != nd) = true := by have := HINC.out a hlp (by omega); simp; omega
                          generalize st2.2.2[a].n = z at *
                          go_wp2_with fail
                          go_still (by kernel_rfl)
                          go_wp2_with fail
                          exact ⟨⟨a + 1, by omega, by go_num, hBD.out⟩, by simp [intOf]; omega⟩
                        · have hap2 : a = pos i := by omega
                          have hne : (st2.2.2[a].n != nd) = false := by
                            have e : st2.2.2[a].n = nd := by rw [← HP2.out]; congr 1; simp only [hap2]
                            simp [e]
                          have HAP := Lib.hid hap2
                          clear hap2
                          generalize st2.2.2[a].n = z at *
                          go_wp2_with fail
                          go_still (by kernel_rfl)
                          go_wp2_with fail
                          go_meet
                          exact ⟨by rw [HAP.out], hBD.out⟩
                  case rest =>
                    obtain ⟨rfl, hb⟩ := hcut
                    have HB2 := Lib.hid hb
                    clear hb HB
                    generalize wc = w11 at *
                    as_aux_lemma =>
                      obtain ⟨j, rfl⟩ : ∃ j : Nat, nd = (j : Int) := ⟨nd.toNat, by omega⟩
                      have hj : j < st2.1.length := by omega
                      obtain ⟨c1, c2⟩ := HC3.out _ HB2.out
                      have hnm : nm = st2.1[j].name := by rw [← HNAME.out, pget_nat hj]
                      have HD2 : Hid (∀ W, Below w11.heap.size w11 W → Calls Try.prog 58 #[.pointer (some ⟨B, 0, none⟩)] W (Gives (.pointer (some ⟨D, 0, none⟩)) W)) := Lib.hid (fun W hb => HDC.out W (HB2.out.trans (hb.mono HB2.out.size)))
                      have HN2 : Hid (∀ W, Below w11.heap.size w11 W → Calls Try.prog 65 #[.pointer (some ⟨D, 0, none⟩), .int .i64 (j : Int)] W (fun e W' => ∃ p c, e = .returned (.agg #[.int .i64 st2.1[j].kind, .int .i64 st2.1[j].space, .string ⟨nm.toArray⟩, .slice p st2.1[j].attrs.length c, .string ⟨st2.1[j].text.toArray⟩, .int .i64 0, .slice none 0 0]) ∧ Below W.heap.size W W')) := Lib.hid (fun W hb => by
                        refine (HND.out W (HB2.out.trans (hb.mono HB2.out.size)) j hj (by have := (HRE.out.last (j : Int) (by rw [pHas_iff]; omega)).2; rw [pget_nat hj] at this; omega)).mono ?_
                        rintro e W' ⟨p, c, he, _, hbb⟩
                        exact ⟨p, c, by rw [hnm]; exact he, hbb⟩)
                      have HNX : Hid (i + 1 < m → pos i ≤ pos (i + 1)) := Lib.hid (fun h => by have := HP3.out (i + 1) (by omega) h; omega)
                      clear HNAME hnm HP2 HP3 HINC HC3
                      go_upto_region 28 with fail
                      refine reb_reg28 hp1 hlt c1 c2 HD2 HN2 ?_
                      intro x103 x104 x105 x106 x107 x108 x109 x110 x111 x112 x113 x114 x115 x116 x117 x118 x119 x120 x121 x122 w12 hb12
                      have HB3 := Lib.hid (HB2.out.trans (hb12.mono HB2.out.size))
                      clear hb12 c1 c2 HD2 HN2 HB2
                      go_wp2_with fail
                      exact ⟨⟨pos i, i + 1, by omega, by omega, rfl, by go_num, HNX.out, HB3.out⟩, by simp [intOf]; omega⟩
                · have p0 : ¬ (i : Int) < (m : Int) := by omega
                  go_wp2_with fail
                  go_meet
                  exact HB.out
          case rest =>
            have HB := Lib.hid hcut
            clear hcut
            generalize wc = w11 at *
            as_aux_lemma =>
              have HAG := HRE.out.again
              have H11 := Lib.hid (H9.out.on HB.out)
              have HR2 := Lib.hid (rRebuild H11.out HRB.out (by omega) (by omega) (by omega))
              rw [HAG, Nat.sub_self] at HR2
              clear HAG
              go_wp2_with fail
              refine HR2.out.mono ?_
              rintro e w12 ⟨rfl, T3, hT3, h12⟩
              have h12' : RQ w w1 w12 (.slice pv n cv) n A B st2 T3 := h12
              obtain ⟨D2, hdc, hsz, _⟩ := rDoc h12'
              have HD3 := Lib.hid (hdc w12 (Below.refl _ _))
              have HS3 := Lib.hid (hsz w12 (Below.refl _ _))
              have HOP := Lib.hid (rOpen h12' hpos (by omega))
              have HBL := Lib.hid (B1.out.trans (h12'.below.mono B1.out.size))
              have hz : w.heap.size ≤ w12.heap.size := HBL.out.size
              clear h12 h12' hdc hsz HR2 H11
              go_wp2_with fail
              refine HD3.out.mono ?_
              rintro e w13 ⟨rfl, rfl⟩
              go_wp2_with fail
              refine HS3.out.mono ?_
              rintro e w13 ⟨rfl, rfl⟩
              go_wp2_with fail
              refine HOP.out.mono ?_
              rintro e w13 ⟨rfl, _, hb13⟩
              have HB13 := Lib.hid (HBL.out.trans (hb13.mono hz))
              clear hb13
              go_wp2_with fail
              go_ret
              exact ⟨rfl, HB13.out⟩
end Go.Proofs.Ytmhjfbdldpehdaa
