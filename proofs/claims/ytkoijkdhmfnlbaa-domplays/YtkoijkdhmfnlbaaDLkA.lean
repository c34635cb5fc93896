/-
  The calls of chapter 6 on nodes by numbers, of no program: what each answers, what it leaves; what holds of all nodes stays. No conditions.
  The reference's Doc in memory, and the walks of its calls that only read: is, elem, Up, below, place. Any nodes by numbers, not too many.
  Nodes by numbers, as the program links them, and as the reference has their rows: both say the same, and go on to behind each call. No program is walked.
  Links and rows say the same: put, taken, written. No program is walked.
  Links and rows say the same: taken, laid, written; moved. No program is walked.
  Links and rows say the same behind each call of chapter 6. No program is walked.
-/
import Derived.Test.YtkoijkdhmfnlbaaDAll
import Derived.Test.YtkoijkdhmfnlbaaDTAll
namespace Go.Proofs.Ytkoijkdhmfnlbaa

def upI : Option Nat → Int
  | none => -1
  | some u => (u : Int)
def upAt (S : List Cl) (k : Nat) : Option Nat := match S[k]? with | some c => c.up | none => none
def rowAt (S : List Cl) (k : Nat) : List Nat := match S[k]? with | some c => c.row | none => []
def isN (S : List Cl) (n : Int) : Bool := decide (0 ≤ n) && decide (n < (S.length : Int))
def isEl (S : List Cl) (n : Int) : Bool := isN S n && decide ((ndOf S n.toNat).kind = 1)
/-- Where a kid stands. -/
def place : List Nat → Int → Option Nat
  | [], _ => none
  | k :: r, a => if (k : Int) = a then some 0 else (place r a).map (· + 1)
theorem place_at : ∀ (l : List Nat) (a : Int) (i : Nat), place l a = some i → ∃ k, l[i]? = some k ∧ (k : Int) = a
  | [], _, _, h => by simp [place] at h
  | k :: r, a, i, h => by
    unfold place at h
    split at h
    · cases h
      exact ⟨k, rfl, by assumption⟩
    · obtain ⟨j, hj, rfl⟩ := Option.map_eq_some_iff.1 h
      exact place_at r a j hj
theorem place_mem : ∀ (l : List Nat) (k : Nat), k ∈ l → ∃ i, place l (k : Int) = some i
  | x :: r, k, h => by
    unfold place
    split
    · exact ⟨0, rfl⟩
    · rename_i hx
      rcases List.mem_cons.1 h with h | h
      · subst h; exact absurd rfl hx
      · obtain ⟨i, hi⟩ := place_mem r k h
        exact ⟨i + 1, by rw [hi]; rfl⟩
/-- The place ahead of a kid; the end, of -1. -/
def spot (S : List Cl) (u : Nat) (ahead : Int) : Option Nat := if ahead = -1 then some (rowAt S u).length else place (rowAt S u) ahead
/-- b: is up below n, or n? -/
def putD (S : List Cl) (n up ahead : Int) (b : Bool) : List Cl × Bool :=
  if isN S n && isEl S up && !(n == 0) && (upAt S n.toNat).isNone && !b then
    match spot S up.toNat ahead with
    | some i => (link S n.toNat up.toNat i, true)
    | none => (S, false)
  else (S, false)
def writeD (S : List Cl) (s : List UInt8) (up ahead : Int) : List Cl × Bool :=
  if isEl S up then
    match spot S up.toNat ahead with
    | none => (S, false)
    | some i =>
      if s = [] then (S, true)
      else match (if i = 0 then none else (rowAt S up.toNat)[i - 1]?) with
        | some k => if (ndOf S k).kind = 2 then (addText S k s, true) else (link (lay S ⟨2, 0, [], [], s, 0⟩) S.length up.toNat i, true)
        | none => (link (lay S ⟨2, 0, [], [], s, 0⟩) S.length up.toNat i, true)
  else (S, false)
def takeD (S : List Cl) (n : Int) : List Cl × Bool :=
  if isN S n then
    match upAt S n.toNat with
    | some u => match place (rowAt S u) n with
      | some i => (unlink S n.toNat u i, true)
      | none => (S, false)
    | none => (S, false)
  else (S, false)
/-- b: is to below from, or it? -/
def moveD (S : List Cl) (f t : Int) (b : Bool) : List Cl × Bool :=
  if isEl S f && isEl S t && !(f == t) && !b then (shift S f.toNat t.toNat (rowAt S f.toNat), true) else (S, false)
theorem isN_get {S : List Cl} {n : Int} (h : isN S n = true) : ∃ c, S[n.toNat]? = some c := by
  unfold isN at h
  rw [Bool.and_eq_true, decide_eq_true_eq, decide_eq_true_eq] at h
  exact ⟨S[n.toNat]'(by omega), List.getElem?_eq_getElem (by omega)⟩
theorem isEl_get {S : List Cl} {n : Int} (h : isEl S n = true) : ∃ c, S[n.toNat]? = some c ∧ c.d.kind = 1 := by
  unfold isEl at h
  rw [Bool.and_eq_true, decide_eq_true_eq] at h
  obtain ⟨c, hc⟩ := isN_get h.1
  refine ⟨c, hc, ?_⟩
  have := h.2
  unfold ndOf at this
  rw [hc] at this
  exact this
theorem putD_inv {S : List Cl} (hI : Inv S) (n up ahead : Int) (b : Bool) (hb : b = true ↔ Anc S up.toNat n.toNat) : Inv (putD S n up ahead b).1 := by
  unfold putD
  split
  · rename_i h
    simp only [Bool.and_eq_true] at h
    obtain ⟨⟨⟨⟨h1, h2⟩, _⟩, h4⟩, h5⟩ := h
    split
    · rename_i i _
      obtain ⟨cn, hn⟩ := isN_get h1
      obtain ⟨cu, hu, _⟩ := isEl_get h2
      refine hI.link i hn ?_ hu ?_
      · unfold upAt at h4
        rw [hn] at h4
        exact Option.isNone_iff_eq_none.1 h4
      · intro ha
        rw [hb.2 ha] at h5
        cases h5
    · exact hI
  · exact hI
/-- A new node is below none, and none is below it. -/
theorem anc_new {S : List Cl} (hI : Inv S) (d : Nd) {u : Nat} (hu : u < S.length) : ¬ Anc (lay S d) u S.length := by
  intro h
  obtain ⟨hh, hi⟩ := hI
  have key : ∀ a b, Anc (lay S d) a b → a < S.length → b < S.length := by
    intro a b hab
    induction hab with
    | here n => exact id
    | step h1 h2 _ ih =>
      intro ha
      apply ih
      rcases lay_inv h1 with h1 | ⟨h1, _⟩
      · obtain ⟨⟨e, he, _⟩, _⟩ := hi.upok _ _ _ h1 h2
        exact lt_of_some he
      · omega
  have := key _ _ h hu
  omega
theorem writeD_inv {S : List Cl} (hI : Inv S) (s : List UInt8) (up ahead : Int) : Inv (writeD S s up ahead).1 := by
  have hl : ∀ i, isEl S up = true → Inv (link (lay S ⟨2, 0, [], [], s, 0⟩) S.length up.toNat i) := by
    intro i h
    obtain ⟨cu, hu, _⟩ := isEl_get h
    have hI2 : Inv (lay S ⟨2, 0, [], [], s, 0⟩) := by
      obtain ⟨h, hi⟩ := hI
      exact ⟨h, hi.lay _⟩
    exact hI2.link i (lay_new S _) rfl (lay_old hu) (anc_new hI _ (lt_of_some hu))
  unfold writeD
  split
  · rename_i h
    split
    · exact hI
    · rename_i i _
      split
      · exact hI
      · split
        · split
          · obtain ⟨h, hi⟩ := hI
            exact ⟨h, hi.addText _ _⟩
          · exact hl i h
        · exact hl i h
  · exact hI
theorem takeD_inv {S : List Cl} (hI : Inv S) (n : Int) : Inv (takeD S n).1 := by
  unfold takeD
  split
  · rename_i h
    split
    · rename_i u hu
      split
      · rename_i i hp
        obtain ⟨hh, hi⟩ := hI
        obtain ⟨cn, hn⟩ := isN_get h
        unfold upAt at hu
        rw [hn] at hu
        obtain ⟨⟨e, he, _⟩, _⟩ := hi.upok _ _ _ hn hu
        unfold rowAt at hp
        rw [he] at hp
        obtain ⟨k, hk, hkn⟩ := place_at _ _ _ hp
        have : k = n.toNat := by omega
        subst this
        exact ⟨hh, hi.unlink hn hu he hk⟩
      · exact hI
    · exact hI
  · exact hI
theorem moveD_inv {S : List Cl} (hI : Inv S) (f t : Int) (b : Bool) (hb : b = true ↔ Anc S t.toNat f.toNat) : Inv (moveD S f t b).1 := by
  unfold moveD
  split
  · rename_i h
    simp only [Bool.and_eq_true] at h
    obtain ⟨⟨⟨h1, h2⟩, _⟩, h4⟩ := h
    obtain ⟨cf, hf, _⟩ := isEl_get h1
    obtain ⟨ct, ht, _⟩ := isEl_get h2
    have hr : rowAt S f.toNat = cf.row := by unfold rowAt; rw [hf]
    rw [hr]
    refine hI.shift hf ht ?_
    intro ha
    rw [hb.2 ha] at h4
    cases h4
  · exact hI
end Go.Proofs.Ytkoijkdhmfnlbaa
namespace Go.Proofs.Ytkoijkdhmfnlbaa
open Go.RowKit

/-- The slice v holds the numbers l in w. -/
def NumsAt (w : World) (v : Value) (l : List Nat) : Prop := ∃ p cap, v = .slice p l.length cap ∧ (0 < l.length → ∃ g o, p = some ⟨g, o, none⟩ ∧ g < w.heap.size ∧ ∀ j (hj : j < l.length), w.cell? ⟨g, o + j, none⟩ = some (.int .i64 (l[j] : Int)))
/-- What block B leads to: the reference's nodes S, for reading. -/
structure RDoc (S : List Cl) (B : Nat) (W : World) : Prop where
  len : S.length ≤ 4294967296
  body : ∃ gN cN gU cU gR cR : Nat, W.cell? ⟨B, 0, none⟩ = some (.slice (some ⟨gN, 0, none⟩) S.length cN) ∧ W.cell? ⟨B, 1, none⟩ = some (.slice (some ⟨gU, 0, none⟩) S.length cU) ∧ W.cell? ⟨B, 2, none⟩ = some (.slice (some ⟨gR, 0, none⟩) S.length cR) ∧
    ∀ i (hi : i < S.length), (∃ va, Cells7 W gN (0 + i * 7) S[i].d va (.slice none 0 0) ∧ AttrsP (fun _ => True) W va S[i].d.attrs) ∧ W.cell? ⟨gU, 0 + i, none⟩ = some (.int .i64 (upI S[i].up)) ∧ ∃ v, W.cell? ⟨gR, 0 + i, none⟩ = some v ∧ NumsAt W v S[i].row

theorem isN_iff (S : List Cl) (n : Int) : isN S n = true ↔ 0 ≤ n ∧ n < (S.length : Int) := by
  unfold isN
  rw [Bool.and_eq_true, decide_eq_true_eq, decide_eq_true_eq]
set_option maxHeartbeats 1000000 in
set_option maxRecDepth 100000 in
theorem ris_any (S : List Cl) (B : Nat) (W : World) (n : Int) (h : RDoc S B W) : Calls Try.prog 45 #[.pointer (some ⟨B, 0, none⟩), .int .i64 n] W (Gives (.bool (isN S n)) W) := by
  obtain ⟨_, gN, cN, gU, cU, gR, cR, h0, _, _, _⟩ := h
  by_cases a : 0 ≤ n
  · by_cases b : n < (S.length : Int)
    · have HE := Lib.hid ((isN_iff S n).2 ⟨a, b⟩)
      go_enter Try.func45, Try.ntmps45
      go_wp2
      go_ret
      exact ⟨by rw [HE.out]; rfl, rfl⟩
    · have HE : Hid (isN S n = false) := Lib.hid (by rw [Bool.eq_false_iff]; exact fun h => b ((isN_iff S n).1 h).2)
      go_enter Try.func45, Try.ntmps45
      go_wp2
      go_ret
      exact ⟨by rw [HE.out]; rfl, rfl⟩
  · have HE : Hid (isN S n = false) := Lib.hid (by rw [Bool.eq_false_iff]; exact fun h => a ((isN_iff S n).1 h).1)
    go_enter Try.func45, Try.ntmps45
    go_wp2
    go_ret
    exact ⟨by rw [HE.out]; rfl, rfl⟩
theorem nd_get {S : List Cl} {k : Nat} (h : k < S.length) : ndOf S k = S[k].d := by unfold ndOf; rw [List.getElem?_eq_getElem h]
theorem up_get {S : List Cl} {k : Nat} (h : k < S.length) : upAt S k = S[k].up := by unfold upAt; rw [List.getElem?_eq_getElem h]
theorem row_get {S : List Cl} {k : Nat} (h : k < S.length) : rowAt S k = S[k].row := by unfold rowAt; rw [List.getElem?_eq_getElem h]
set_option maxHeartbeats 1000000 in
set_option maxRecDepth 100000 in
theorem relem_any (S : List Cl) (B : Nat) (W : World) (n : Int) (h : RDoc S B W) : Calls Try.prog 48 #[.pointer (some ⟨B, 0, none⟩), .int .i64 n] W (Gives (.bool (isEl S n)) W) := by
  have HI := Lib.hid (ris_any S B W n h)
  have hlen := h.len
  obtain ⟨_, gN, cN, gU, cU, gR, cR, h0, _, _, hb⟩ := h
  cases hn : isN S n
  · have HE : Hid (isEl S n = false) := Lib.hid (by unfold isEl; rw [hn]; rfl)
    rw [hn] at HI
    clear hb hn
    go_enter Try.func48, Try.ntmps48
    go_wp2_with fail
    refine HI.out.mono ?_
    rintro e w1 ⟨rfl, rfl⟩
    go_wp2_with fail
    go_ret
    exact ⟨by rw [HE.out]; rfl, rfl⟩
  · obtain ⟨n0, n1⟩ := (isN_iff S n).1 hn
    obtain ⟨k, rfl⟩ : ∃ k : Nat, n = (k : Int) := ⟨n.toNat, by omega⟩
    have hk : k < S.length := by omega
    obtain ⟨⟨va, h7, _⟩, _, _⟩ := hb k hk
    have c0 := h7.c0
    rw [Nat.zero_add] at c0
    have HE : Hid (isEl S (k : Int) = (S[k].d.kind == 1)) := Lib.hid (by unfold isEl; rw [hn, Int.toNat_natCast, nd_get hk, Bool.true_and]; rfl)
    rw [hn] at HI
    clear hb hn h7
    go_enter Try.func48, Try.ntmps48
    go_wp2_with fail
    refine HI.out.mono ?_
    rintro e w1 ⟨rfl, rfl⟩
    go_wp2_with fail
    go_ret
    exact ⟨by rw [HE.out]; rfl, rfl⟩
set_option maxHeartbeats 1000000 in
set_option maxRecDepth 100000 in
theorem rup_any (S : List Cl) (B : Nat) (W : World) (n : Int) (h : RDoc S B W) : Calls Try.prog 30 #[.pointer (some ⟨B, 0, none⟩), .int .i64 n] W (Gives (.int .i64 (if isN S n then upI (upAt S n.toNat) else -1)) W) := by
  have HI := Lib.hid (ris_any S B W n h)
  obtain ⟨_, gN, cN, gU, cU, gR, cR, _, h1, _, hb⟩ := h
  cases hn : isN S n
  · rw [hn] at HI
    clear hb hn
    go_enter Try.func30, Try.ntmps30
    go_wp2_with fail
    refine HI.out.mono ?_
    rintro e w1 ⟨rfl, rfl⟩
    go_wp2_with fail
    go_ret
    exact ⟨rfl, rfl⟩
  · obtain ⟨n0, n1⟩ := (isN_iff S n).1 hn
    obtain ⟨k, rfl⟩ : ∃ k : Nat, n = (k : Int) := ⟨n.toNat, by omega⟩
    have hk : k < S.length := by omega
    obtain ⟨_, c0, _⟩ := hb k hk
    rw [hn] at HI
    rw [Nat.zero_add] at c0
    clear hb hn
    go_enter Try.func30, Try.ntmps30
    go_wp2_with fail
    refine HI.out.mono ?_
    rintro e w1 ⟨rfl, rfl⟩
    go_wp2_with fail
    go_ret
    exact ⟨by rw [up_get hk]; rfl, rfl⟩
/-- Is m reached from n, going up? -/
def AncOut (S : List Cl) (n m : Nat) (W : World) (e : Ending) (w' : World) : Prop := ∃ b : Bool, e = .returned (.bool b) ∧ (b = true ↔ Anc S n m) ∧ W = w'
/-- How far it is to the top, at most. -/
def toTop (M : Nat) (h : Nat → Nat) (x : Int) : Nat := if x < 0 then 0 else M + 1 - h x.toNat
theorem toTop_none (M : Nat) (h : Nat → Nat) : toTop M h (-1) = 0 := rfl
theorem toTop_some (M : Nat) (h : Nat → Nat) (k : Nat) : toTop M h (k : Int) = M + 1 - h k := by unfold toTop; rw [if_neg (by omega), Int.toNat_natCast]
theorem anc_up {S : List Cl} {n m u : Nat} {c : Cl} (hn : S[n]? = some c) (hne : n ≠ m) (hu : c.up = some u) : Anc S n m ↔ Anc S u m := by
  constructor
  · intro h
    cases h with
    | here => exact absurd rfl hne
    | step h1 h2 h3 =>
      rw [hn] at h1
      cases h1
      rw [hu] at h2
      cases h2
      exact h3
  · intro h
    exact .step hn hu h
theorem anc_end {S : List Cl} {n m : Nat} {c : Cl} (hn : S[n]? = some c) (hne : n ≠ m) (hu : c.up = none) : ¬ Anc S n m := by
  intro h
  cases h with
  | here => exact hne rfl
  | step h1 h2 _ =>
    rw [hn] at h1
    cases h1
    rw [hu] at h2
    cases h2
set_option maxHeartbeats 1000000 in
set_option maxRecDepth 100000 in
theorem rbelow_any (S : List Cl) (B : Nat) (W : World) (n m : Nat) (h : RDoc S B W) (hI : Inv S) (hn : n < S.length) : Calls Try.prog 49 #[.pointer (some ⟨B, 0, none⟩), .int .i64 (n : Int), .int .i64 (m : Int)] W (AncOut S n m W) := by
  obtain ⟨hh, hi⟩ := hI
  obtain ⟨M, hM⟩ := h_bound hh S.length
  have hlen := h.len
  obtain ⟨_, gN, cN, gU, cU, gR, cR, _, h1, _, hb⟩ := h
  have HB := Lib.hid hb
  have HIV := Lib.hid hi
  have HM := Lib.hid hM
  clear hb hi hM
  go_enter Try.func49, Try.ntmps49
  go_wp2
  go_loop [1] (fun x => ∃ u : Option Nat, x = .int .i64 (upI u) ∧ (∀ k, u = some k → k < S.length ∧ (Anc S n m ↔ Anc S k m)) ∧ (u = none → ¬ Anc S n m)) (fun x => toTop M hh (intOf x))
  case atStart => exact ⟨some n, rfl, fun k hk => by cases hk; exact ⟨hn, Iff.rfl⟩, fun h => by cases h⟩
  case round =>
    obtain ⟨u, rfl, hs, hno⟩ := hrel
    cases u with
    | none =>
      have HNO := Lib.hid (hno rfl)
      go_wp2
      go_ret
      exact ⟨false, rfl, ⟨fun h => (by cases h), fun h => absurd h HNO.out⟩, rfl⟩
    | some k =>
      obtain ⟨hk, hiff⟩ := hs k rfl
      have HIF := Lib.hid hiff
      obtain ⟨_, c0, _⟩ := HB.out k hk
      rw [Nat.zero_add] at c0
      have k0 : (0 : Int) ≤ (k : Int) := by omega
      have k1 : (k : Int) < (S.length : Int) := by omega
      have e1 : upI (some k) = (k : Int) := rfl
      rw [e1]
      clear hs hno hiff
      by_cases hkm : k = m
      · subst hkm
        go_wp2
        go_ret
        exact ⟨true, rfl, ⟨fun _ => HIF.out.2 (.here _), fun _ => rfl⟩, rfl⟩
      · have q : ((k : Int) == (m : Int)) = false := by rw [beq_eq_false_iff_ne]; omega
        have HU : Hid (∀ j, S[k].up = some j → j < S.length ∧ (Anc S n m ↔ Anc S j m) ∧ hh k < hh j) := Lib.hid fun j hj => by
          obtain ⟨⟨e, he, _⟩, hlt⟩ := HIV.out.upok k S[k] j (List.getElem?_eq_getElem hk) hj
          exact ⟨lt_of_some he, HIF.out.trans (anc_up (List.getElem?_eq_getElem hk) hkm hj), hlt⟩
        have HU2 : Hid (S[k].up = none → ¬ Anc S n m) := Lib.hid fun hj h => anc_end (List.getElem?_eq_getElem hk) hkm hj (HIF.out.1 h)
        have HMK := Lib.hid (HM.out k hk)
        clear hkm
        generalize S[k].up = u at *
        go_wp2
        refine ⟨⟨u, rfl, fun j hj => ⟨(HU.out j hj).1, (HU.out j hj).2.1⟩, HU2.out⟩, ?_⟩
        have hmk := HMK.out
        cases u with
        | none =>
          show toTop M hh (-1) < toTop M hh (k : Int)
          rw [toTop_none, toTop_some]
          omega
        | some j =>
          have h3 := (HU.out j rfl).2.2
          have h4 := HM.out j (HU.out j rfl).1
          show toTop M hh (j : Int) < toTop M hh (k : Int)
          rw [toTop_some, toTop_some]
          omega
def placeI : Option Nat → Int
  | none => -1
  | some i => (i : Int)
theorem place_drop (l : List Nat) (a : Int) : ∀ k, k ≤ l.length → (∀ j (_ : j < k) (hj : j < l.length), (l[j] : Int) ≠ a) → place l a = (place (l.drop k) a).map (· + k) := by
  intro k
  induction k with
  | zero => intro _ _; rw [List.drop_zero]; cases place l a <;> rfl
  | succ k ih =>
    intro hk hno
    rw [ih (by omega) (fun j hj hl => hno j (by omega) hl), List.drop_eq_getElem_cons (by omega), place, if_neg (hno k (by omega) (by omega))]
    cases place (l.drop (k + 1)) a with
    | none => rfl
    | some i => simp; omega
theorem place_hit {l : List Nat} {a : Int} {k : Nat} (hk : k < l.length) (hno : ∀ j (_ : j < k) (hj : j < l.length), (l[j] : Int) ≠ a) (h : (l[k] : Int) = a) : place l a = some k := by
  rw [place_drop l a k (by omega) hno, List.drop_eq_getElem_cons hk, place, if_pos h]
  simp
theorem place_none {l : List Nat} {a : Int} (hno : ∀ j (hj : j < l.length), (l[j] : Int) ≠ a) : place l a = none := by
  rw [place_drop l a l.length (Nat.le_refl _) (fun j _ hj => hno j hj), List.drop_length]
  rfl
set_option maxHeartbeats 1000000 in
set_option maxRecDepth 100000 in
theorem rplace_any (S : List Cl) (B : Nat) (W : World) (u : Nat) (a : Int) (h : RDoc S B W) (hu : u < S.length) (hl : S[u].row.length ≤ 4294967296) : Calls Try.prog 46 #[.pointer (some ⟨B, 0, none⟩), .int .i64 (u : Int), .int .i64 a] W (Gives (.int .i64 (placeI (spot S u a))) W) := by
  obtain ⟨_, gN, cN, gU, cU, gR, cR, _, _, h2, hb⟩ := h
  obtain ⟨_, _, v, hv, p, cap, rfl, hr⟩ := hb u hu
  rw [Nat.zero_add] at hv
  have HR := Lib.hid hr
  have HRG := Lib.hid (row_get hu)
  have u0 : (0 : Int) ≤ (u : Int) := by omega
  have u1 : (u : Int) < (S.length : Int) := by omega
  clear hb hr
  by_cases ha : a = -1
  · subst ha
    have HE : Hid (spot S u (-1) = some S[u].row.length) := Lib.hid (by unfold spot; rw [if_pos rfl, HRG.out])
    generalize S[u].row = row at *
    go_enter Try.func46, Try.ntmps46
    go_wp2
    go_ret
    exact ⟨by rw [HE.out]; rfl, rfl⟩
  · have q : (a == -1) = false := by simp [ha]
    have HE : Hid (spot S u a = place S[u].row a) := Lib.hid (by unfold spot; rw [if_neg ha, HRG.out])
    generalize S[u].row = row at *
    clear ha
    go_enter Try.func46, Try.ntmps46
    go_wp2
    go_loop [7] (fun x => ∃ k : Nat, k ≤ row.length ∧ x = .int .i64 (k : Int) ∧ ∀ j (_ : j < k) (hj : j < row.length), (row[j] : Int) ≠ a) (fun x => row.length - (intOf x).toNat)
    case atStart => exact ⟨0, Nat.zero_le _, rfl, fun j h => absurd h (by omega)⟩
    case round =>
      obtain ⟨k, hk, rfl, hno⟩ := hrel
      have HNO := Lib.hid hno
      clear hno
      by_cases hlt : k < row.length
      · obtain ⟨g, o, rfl, hg, hc⟩ := HR.out (by omega)
        have hck := hc k hlt
        have k0 : (0 : Int) ≤ (k : Int) := by omega
        have k1 : (k : Int) < (row.length : Int) := by omega
        clear hc
        by_cases he : (row[k] : Int) = a
        · have HP := Lib.hid (place_hit hlt HNO.out he)
          have q2 : ((row[k] : Int) == a) = true := by simp [he]
          clear he
          generalize row[k] = x at *
          go_wp2
          go_ret
          exact ⟨by rw [HE.out, HP.out]; rfl, rfl⟩
        · have HP := Lib.hid he
          have q2 : ((row[k] : Int) == a) = false := by simp [he]
          clear he
          generalize hx : row[k] = x at *
          have HX := Lib.hid hx
          clear hx
          go_wp2
          refine ⟨⟨k + 1, by omega, by go_num, fun j h1 h2 => ?_⟩, by simp [intOf]; omega⟩
          rcases Nat.lt_or_ge j k with h | h
          · exact HNO.out j h h2
          · have : j = k := by omega
            subst this
            rw [HX.out]
            exact HP.out
      · have HP := Lib.hid (place_none (fun j hj => HNO.out j (by omega) hj))
        go_wp2
        go_ret
        exact ⟨by rw [HE.out, HP.out]; rfl, rfl⟩
end Go.Proofs.Ytkoijkdhmfnlbaa
namespace Go.Proofs.Ytkoijkdhmfnlbaa

/-- What stands at a place of a row; ahead of it. -1: nothing. -/
def nxt (l : List Nat) (i : Nat) : Int := match l[i]? with | some k => (k : Int) | none => -1
def prv (l : List Nat) (i : Nat) : Int := if i = 0 then -1 else nxt l (i - 1)
theorem nxt_some {l : List Nat} {i k : Nat} (h : l[i]? = some k) : nxt l i = (k : Int) := by unfold nxt; rw [h]
theorem nxt_off {l : List Nat} {i : Nat} (h : l.length ≤ i) : nxt l i = -1 := by unfold nxt; rw [List.getElem?_eq_none h]
theorem nxt_is {l : List Nat} {i k : Nat} : nxt l i = (k : Int) ↔ l[i]? = some k := by
  unfold nxt
  cases l[i]? with
  | none => simp
  | some j => simp; omega
theorem nxt_none {l : List Nat} {i : Nat} : nxt l i = -1 ↔ l.length ≤ i := by
  constructor
  · intro h
    rcases Nat.lt_or_ge i l.length with h1 | h1
    · rw [nxt_some (List.getElem?_eq_getElem h1)] at h; omega
    · exact h1
  · exact nxt_off
theorem prv_none {l : List Nat} {i : Nat} (h : i ≤ l.length) : prv l i = -1 ↔ i = 0 := by
  unfold prv
  split
  · simp [*]
  · rw [nxt_none]; omega
theorem prv_zero (l : List Nat) : prv l 0 = -1 := rfl
theorem prv_succ (l : List Nat) (i : Nat) : prv l (i + 1) = nxt l i := by unfold prv; rw [if_neg (by omega)]; rfl
theorem nodup_idx {l : List Nat} (hd : l.Nodup) {p q k : Nat} (hp : l[p]? = some k) (hq : l[q]? = some k) : p = q := by
  have h1 := lt_of_some hp
  have h2 := lt_of_some hq
  rw [List.getElem?_eq_getElem h1] at hp
  rw [List.getElem?_eq_getElem h2] at hq
  exact (List.getElem_inj hd).1 (Option.some.inj (hp.trans hq.symm))
theorem nxt_at {l : List Nat} (hd : l.Nodup) {i m k : Nat} (hm : l[m]? = some k) : nxt l i = (k : Int) ↔ i = m := by
  rw [nxt_is]
  constructor
  · intro h; exact nodup_idx hd h hm
  · rintro rfl; exact hm
theorem prv_at {l : List Nat} (hd : l.Nodup) {i m k : Nat} (hm : l[m]? = some k) : prv l i = (k : Int) ↔ i = m + 1 := by
  unfold prv
  split
  · constructor
    · intro h; omega
    · intro h; omega
  · rw [nxt_at hd hm]; omega
theorem ins_get {l : List Nat} {i n : Nat} (hi : i ≤ l.length) (m : Nat) : (l.take i ++ [n] ++ l.drop i)[m]? = if m < i then l[m]? else if m = i then some n else l[m - 1]? := by
  have hl : (l.take i).length = i := by rw [List.length_take]; omega
  rw [List.append_assoc, List.getElem?_append, hl]
  split
  · rename_i h; rw [List.getElem?_take, if_pos h]
  · rw [List.getElem?_append, List.length_singleton]
    split
    · split
      · rename_i h; subst h; simp
      · omega
    · rw [if_neg (by omega), List.getElem?_drop]
      congr 1; omega
theorem cut_get {l : List Nat} {i : Nat} (hi : i < l.length) (m : Nat) : (l.take i ++ l.drop (i + 1))[m]? = if m < i then l[m]? else l[m + 1]? := by
  have hl : (l.take i).length = i := by rw [List.length_take]; omega
  rw [List.getElem?_append, hl]
  split
  · rename_i h; rw [List.getElem?_take, if_pos h]
  · rw [List.getElem?_drop]
    congr 1; omega
theorem nxt_ins {l : List Nat} {i n : Nat} (hi : i ≤ l.length) (m : Nat) : nxt (l.take i ++ [n] ++ l.drop i) m = if m < i then nxt l m else if m = i then (n : Int) else nxt l (m - 1) := by
  unfold nxt
  rw [ins_get hi]
  by_cases h1 : m < i
  · rw [if_pos h1, if_pos h1]
  · rw [if_neg h1, if_neg h1]
    by_cases h2 : m = i
    · rw [if_pos h2, if_pos h2]
    · rw [if_neg h2, if_neg h2]
theorem nxt_cut {l : List Nat} {i : Nat} (hi : i < l.length) (m : Nat) : nxt (l.take i ++ l.drop (i + 1)) m = if m < i then nxt l m else nxt l (m + 1) := by
  unfold nxt
  rw [cut_get hi]
  by_cases h1 : m < i
  · rw [if_pos h1, if_pos h1]
  · rw [if_neg h1, if_neg h1]

theorem pget_set {S : List PN} {n : Int} (h : pHas S n = true) (f : PN → PN) (j : Nat) : pget (pset S n f) (j : Int) = if n = (j : Int) then f (pget S (j : Int)) else pget S (j : Int) := by
  obtain ⟨m, rfl, hm⟩ := pHas_nat h
  unfold pget pset
  rw [Int.toNat_natCast, Int.toNat_natCast, List.getD_eq_getElem?_getD, List.getD_eq_getElem?_getD, List.getElem?_modify]
  by_cases e : m = j
  · subst e
    rw [if_pos rfl, List.getElem?_eq_getElem hm]
    simp
  · rw [if_neg (by omega)]
    cases S[j]? <;> simp [e]
theorem has_nat {S : List PN} {j : Nat} : pHas S (j : Int) = true ↔ j < S.length := by rw [pHas_iff]; omega
theorem pget_meet {S : List PN} {u b h : Int} (hu : pHas S u = true) (hb : b = -1 ∨ pHas S b = true) (hh : h = -1 ∨ pHas S h = true) (j : Nat) :
    ndP (pget (pMeet S u b h) (j : Int)) = ndP (pget S (j : Int)) ∧ (pget (pMeet S u b h) (j : Int)).up = (pget S (j : Int)).up ∧
    (pget (pMeet S u b h) (j : Int)).first = (if b = -1 ∧ u = (j : Int) then h else (pget S (j : Int)).first) ∧ (pget (pMeet S u b h) (j : Int)).behind = (if b = (j : Int) then h else (pget S (j : Int)).behind) ∧
    (pget (pMeet S u b h) (j : Int)).last = (if h = -1 ∧ u = (j : Int) then b else (pget S (j : Int)).last) ∧ (pget (pMeet S u b h) (j : Int)).before = (if h = (j : Int) then b else (pget S (j : Int)).before) := by
  have j0 : ¬ ((-1 : Int) = (j : Int)) := by omega
  have hs : ∀ n, pHas (pMeet1 S u b h) n = pHas S n := by
    intro n
    unfold pMeet1
    split <;> rw [pset_has]
  have h1 : pget (pMeet1 S u b h) (j : Int) = if b = -1 then (if u = (j : Int) then { pget S (j : Int) with first := h } else pget S (j : Int)) else (if b = (j : Int) then { pget S (j : Int) with behind := h } else pget S (j : Int)) := by
    unfold pMeet1
    by_cases e : b = -1
    · rw [if_pos e, if_pos e, pget_set hu]
    · rw [if_neg e, if_neg e, pget_set (hb.resolve_left e)]
  have h2 : pget (pMeet S u b h) (j : Int) = if h = -1 then (if u = (j : Int) then { pget (pMeet1 S u b h) (j : Int) with last := b } else pget (pMeet1 S u b h) (j : Int)) else (if h = (j : Int) then { pget (pMeet1 S u b h) (j : Int) with before := b } else pget (pMeet1 S u b h) (j : Int)) := by
    unfold pMeet pMeet2
    by_cases e : h = -1
    · rw [if_pos e, if_pos e, pget_set (by rw [hs]; exact hu)]
    · rw [if_neg e, if_neg e, pget_set (by rw [hs]; exact hh.resolve_left e)]
  rw [h2, h1]
  generalize pget S (j : Int) = x
  by_cases a1 : b = -1 <;> by_cases a2 : h = -1 <;> by_cases a3 : u = (j : Int) <;> by_cases a4 : b = (j : Int) <;> by_cases a5 : h = (j : Int) <;> first | (exfalso; omega) | (simp [*, ndP]) | skip
theorem before_link0 {S : List PN} {n u : Int} (hn : pHas S n = true) (m : Nat) (a : Int) (ha : a = -1 ∨ pHas S a = true) : pBefore (pLink0 S n u) (m : Int) a = pBefore S (m : Int) a := by
  unfold pBefore pLink0
  split
  · rw [pget_set hn]
    split <;> rfl
  · rename_i h
    obtain ⟨k, rfl, _⟩ := pHas_nat (ha.resolve_left h)
    rw [pget_set hn]
    split <;> rfl
theorem pget_link {S : List PN} {n u : Nat} {a B : Int} (hn : n < S.length) (hu : u < S.length) (ha : a = -1 ∨ pHas S a = true) (hB : pBefore S (u : Int) a = B) (hb : B = -1 ∨ pHas S B = true) (j : Nat) :
    ndP (pget (pLink S (n : Int) (u : Int) a) (j : Int)) = ndP (pget S (j : Int)) ∧ (pget (pLink S (n : Int) (u : Int) a) (j : Int)).up = (if n = j then (u : Int) else (pget S (j : Int)).up) ∧
    (pget (pLink S (n : Int) (u : Int) a) (j : Int)).first = (if B = -1 ∧ u = j then (n : Int) else (pget S (j : Int)).first) ∧
    (pget (pLink S (n : Int) (u : Int) a) (j : Int)).behind = (if n = j then a else if B = (j : Int) then (n : Int) else (pget S (j : Int)).behind) ∧
    (pget (pLink S (n : Int) (u : Int) a) (j : Int)).last = (if a = -1 ∧ u = j then (n : Int) else (pget S (j : Int)).last) ∧
    (pget (pLink S (n : Int) (u : Int) a) (j : Int)).before = (if a = (j : Int) then (n : Int) else if n = j then B else (pget S (j : Int)).before) := by
  have hn' := has_nat.2 hn
  have hu' := has_nat.2 hu
  have n1 : ¬ ((n : Int) = -1) := by omega
  have hs : ∀ m, pHas (pLink0 S (n : Int) (u : Int)) m = pHas S m := fun m => by unfold pLink0; rw [pset_has]
  have e1 : ((n : Int) = (j : Int)) ↔ (n = j) := by omega
  have e2 : ((u : Int) = (j : Int)) ↔ (u = j) := by omega
  have h0 : pget (pLink0 S (n : Int) (u : Int)) (j : Int) = if n = j then { pget S (j : Int) with up := (u : Int) } else pget S (j : Int) := by
    unfold pLink0
    rw [pget_set hn']
    simp only [e1]
  obtain ⟨p0, p1, p2, p3, p4, p5⟩ := pget_meet (S := pLink0 S (n : Int) (u : Int)) (u := (u : Int)) (b := B) (h := (n : Int)) (by rw [hs]; exact hu') (hb.imp id fun h => by rw [hs]; exact h) (.inr (by rw [hs]; exact hn')) j
  obtain ⟨q0, q1, q2, q3, q4, q5⟩ := pget_meet (S := pMeet (pLink0 S (n : Int) (u : Int)) (u : Int) B (n : Int)) (u := (u : Int)) (b := (n : Int)) (h := a) (by rw [pMeet_has, hs]; exact hu') (.inr (by rw [pMeet_has, hs]; exact hn')) (ha.imp id fun h => by rw [pMeet_has, hs]; exact h) j
  unfold pLink
  rw [before_link0 hn' u a ha, hB, q0, q1, q2, q3, q4, q5, p0, p1, p2, p3, p4, p5, h0]
  generalize pget S (j : Int) = x
  by_cases a1 : n = j <;> simp [a1, e1, e2, n1, ndP]
end Go.Proofs.Ytkoijkdhmfnlbaa
namespace Go.Proofs.Ytkoijkdhmfnlbaa

/-- The program's links say what the rows say. -/
structure Like (S : List PN) (C : List Cl) : Prop where
  len : S.length = C.length
  nd : ∀ (j : Nat) (c : Cl), C[j]? = some c → ndP (pget S (j : Int)) = c.d
  up : ∀ (j : Nat) (c : Cl), C[j]? = some c → (pget S (j : Int)).up = upI c.up
  first : ∀ (j : Nat) (c : Cl), C[j]? = some c → (pget S (j : Int)).first = nxt c.row 0
  last : ∀ (j : Nat) (c : Cl), C[j]? = some c → (pget S (j : Int)).last = prv c.row c.row.length
  kid : ∀ (j : Nat) (c : Cl) (i k : Nat), C[j]? = some c → c.row[i]? = some k → (pget S (k : Int)).before = prv c.row i ∧ (pget S (k : Int)).behind = nxt c.row (i + 1)
/-- Rows and ups say the same. -/
structure Fit6 (C : List Cl) : Prop where
  upok : ∀ (n : Nat) (c : Cl) (u : Nat), C[n]? = some c → c.up = some u → ∃ e : Cl, C[u]? = some e ∧ n ∈ e.row
  rowok : ∀ (u : Nat) (e : Cl) (k : Nat), C[u]? = some e → k ∈ e.row → ∃ c : Cl, C[k]? = some c ∧ c.up = some u
  nodup : ∀ (u : Nat) (e : Cl), C[u]? = some e → e.row.Nodup
theorem Inv.fit {C : List Cl} (h : Inv C) : Fit6 C := by
  obtain ⟨hh, hi⟩ := h
  exact ⟨fun n c u h1 h2 => (hi.upok n c u h1 h2).1, hi.rowok, hi.nodup⟩
theorem Fit6.lt {C : List Cl} (F : Fit6 C) {u k : Nat} {e : Cl} (hu : C[u]? = some e) (hk : k ∈ e.row) : k < C.length := by
  obtain ⟨c, hc, _⟩ := F.rowok u e k hu hk
  exact lt_of_some hc
theorem Fit6.one {C : List Cl} (F : Fit6 C) {u v k : Nat} {e f : Cl} (hu : C[u]? = some e) (hk : k ∈ e.row) (hv : C[v]? = some f) (hk2 : k ∈ f.row) : u = v := by
  obtain ⟨c, hc, h1⟩ := F.rowok u e k hu hk
  obtain ⟨d, hd, h2⟩ := F.rowok v f k hv hk2
  rw [hc] at hd
  cases hd
  rw [h1] at h2
  exact Option.some.inj h2
theorem nxt_mem {l : List Nat} {i k : Nat} (h : nxt l i = (k : Int)) : k ∈ l := List.mem_of_getElem? (nxt_is.1 h)
theorem prv_mem {l : List Nat} {i k : Nat} (h : prv l i = (k : Int)) : k ∈ l := by
  unfold prv at h
  split at h
  · omega
  · exact nxt_mem h
theorem nxt_or (l : List Nat) (i : Nat) : nxt l i = -1 ∨ ∃ k : Nat, nxt l i = (k : Int) ∧ k ∈ l := by
  rcases Nat.lt_or_ge i l.length with h | h
  · exact .inr ⟨l[i], nxt_some (List.getElem?_eq_getElem h), List.getElem_mem h⟩
  · exact .inl (nxt_off h)
theorem prv_or (l : List Nat) (i : Nat) : prv l i = -1 ∨ ∃ k : Nat, prv l i = (k : Int) ∧ k ∈ l := by
  unfold prv
  split
  · exact .inl rfl
  · exact nxt_or _ _
theorem Like.has {S : List PN} {C : List Cl} (L : Like S C) (n : Int) : pHas S n = isN C n := by
  unfold pHas isN
  rw [L.len]
theorem Like.has_nat {S : List PN} {C : List Cl} (L : Like S C) {n : Nat} (h : n < C.length) : pHas S (n : Int) = true := by
  rw [pHas_iff, L.len]; omega
theorem Like.nxt_has {S : List PN} {C : List Cl} (L : Like S C) (F : Fit6 C) {u : Nat} {e : Cl} (hu : C[u]? = some e) (i : Nat) : nxt e.row i = -1 ∨ pHas S (nxt e.row i) = true := by
  rcases nxt_or e.row i with h | ⟨k, h, hk⟩
  · exact .inl h
  · rw [h]; exact .inr (L.has_nat (F.lt hu hk))
theorem Like.prv_has {S : List PN} {C : List Cl} (L : Like S C) (F : Fit6 C) {u : Nat} {e : Cl} (hu : C[u]? = some e) (i : Nat) : prv e.row i = -1 ∨ pHas S (prv e.row i) = true := by
  unfold prv
  split
  · exact .inl rfl
  · exact L.nxt_has F hu _
theorem Like.before {S : List PN} {C : List Cl} (L : Like S C) {u i : Nat} {e : Cl} (hu : C[u]? = some e) (hi : i ≤ e.row.length) : pBefore S (u : Int) (nxt e.row i) = prv e.row i := by
  unfold pBefore
  rcases Nat.lt_or_ge i e.row.length with h | h
  · have hk := nxt_some (List.getElem?_eq_getElem h)
    rw [if_neg (by rw [hk]; omega), hk]
    exact (L.kid u e i _ hu (List.getElem?_eq_getElem h)).1
  · have e2 : i = e.row.length := by omega
    subst e2
    rw [if_pos (nxt_off h)]
    exact L.last u e hu
theorem Like.link {S : List PN} {C : List Cl} (L : Like S C) (F : Fit6 C) {n u i : Nat} {cn cu : Cl} (hn : C[n]? = some cn) (hnu : cn.up = none) (hu : C[u]? = some cu) (hi : i ≤ cu.row.length) :
    okLink S (n : Int) (u : Int) (nxt cu.row i) = true ∧ Like (pLink S (n : Int) (u : Int) (nxt cu.row i)) (Go.Proofs.Ytkoijkdhmfnlbaa.link C n u i) := by
  have hnl := lt_of_some hn
  have hul := lt_of_some hu
  have hn' := L.has_nat hnl
  have hu' := L.has_nat hul
  have ha := L.nxt_has F hu i
  have hb := L.prv_has F hu i
  have hB := L.before hu hi
  have hd := F.nodup u cu hu
  have hnin : ∀ (v : Nat) (e : Cl), C[v]? = some e → n ∉ e.row := by
    intro v e hv hm
    obtain ⟨c, hc, hcu⟩ := F.rowok v e n hv hm
    rw [hn] at hc
    cases hc
    rw [hnu] at hcu
    cases hcu
  refine ⟨?_, ?_⟩
  · unfold okLink
    rw [before_link0 hn' u _ ha, hB, hn', hu']
    simp only [Bool.true_and, Bool.and_eq_true, Bool.or_eq_true, decide_eq_true_eq]
    exact ⟨ha, hb⟩
  · have P := fun j => pget_link (S := S) (n := n) (u := u) (a := nxt cu.row i) (B := prv cu.row i) (by rw [L.len]; exact hnl) (by rw [L.len]; exact hul) ha hB hb j
    refine ⟨by rw [pLink_len, link_len, L.len], ?_, ?_, ?_, ?_, ?_⟩
    · intro j c hj
      obtain ⟨e, he, rfl⟩ := link_inv hj
      rw [(P j).1]
      exact L.nd j e he
    · intro j c hj
      obtain ⟨e, he, rfl⟩ := link_inv hj
      rw [(P j).2.1, L.up j e he]
      split <;> rfl
    · intro j c hj
      obtain ⟨e, he, rfl⟩ := link_inv hj
      rw [(P j).2.2.1, L.first j e he]
      simp only
      by_cases h1 : u = j
      · subst h1
        rw [hu] at he
        cases he
        rw [if_pos rfl, nxt_ins hi]
        by_cases h2 : i = 0
        · rw [if_pos ⟨(prv_none hi).2 h2, rfl⟩, if_neg (by omega), if_pos h2.symm]
        · rw [if_neg (fun h => h2 ((prv_none hi).1 h.1)), if_pos (by omega)]
      · rw [if_neg (by simp [h1]), if_neg h1]
    · intro j c hj
      obtain ⟨e, he, rfl⟩ := link_inv hj
      rw [(P j).2.2.2.2.1, L.last j e he]
      simp only
      by_cases h1 : u = j
      · subst h1
        rw [hu] at he
        cases he
        have hl : (cu.row.take i ++ [n] ++ cu.row.drop i).length = cu.row.length + 1 := by simp; omega
        rw [if_pos rfl, hl, prv_succ, nxt_ins hi]
        by_cases h2 : i = cu.row.length
        · rw [if_pos ⟨nxt_none.2 (by omega), rfl⟩, if_neg (by omega), if_pos h2.symm]
        · rw [if_neg (fun h => h2 (by have := nxt_none.1 h.1; omega)), if_neg (by omega), if_neg (fun h => h2 h.symm)]
          unfold prv
          rw [if_neg (by omega)]
      · rw [if_neg (by simp [h1]), if_neg h1]
    · intro j c m k hj hk
      obtain ⟨e, he, rfl⟩ := link_inv hj
      simp only at hk ⊢
      rw [(P k).2.2.2.2.2, (P k).2.2.2.1]
      by_cases h1 : u = j
      · subst h1
        rw [hu] at he
        cases he
        rw [if_pos rfl] at hk ⊢
        rw [ins_get hi] at hk
        rw [nxt_ins hi]
        have hp : prv (cu.row.take i ++ [n] ++ cu.row.drop i) m = if m = 0 then -1 else if m - 1 < i then nxt cu.row (m - 1) else if m - 1 = i then (n : Int) else nxt cu.row (m - 1 - 1) := by
          unfold prv
          rw [nxt_ins hi]
        rw [hp]
        by_cases c1 : m < i
        · rw [if_pos c1] at hk
          have hkn : ¬ n = k := by rintro rfl; exact hnin u cu hu (List.mem_of_getElem? hk)
          obtain ⟨k1, k2⟩ := L.kid u cu m k hu hk
          rw [k1, k2, if_neg hkn, if_neg hkn, if_neg (by rw [nxt_at hd hk]; omega)]
          constructor
          · unfold prv
            split
            · rfl
            · rw [if_pos (by omega)]
          · by_cases c2 : i = m + 1
            · rw [if_pos ((prv_at hd hk).2 c2), if_neg (by omega), if_pos c2.symm]
            · rw [if_neg (fun h => c2 ((prv_at hd hk).1 h)), if_pos (by omega)]
        · rw [if_neg c1] at hk
          by_cases c2 : m = i
          · rw [if_pos c2] at hk
            cases hk
            subst c2
            have hna : ¬ nxt cu.row m = (n : Int) := fun h => hnin u cu hu (nxt_mem h)
            rw [if_neg hna, if_pos rfl, if_pos rfl]
            constructor
            · unfold prv
              split
              · rfl
              · rw [if_pos (by omega)]
            · rw [if_neg (by omega), if_neg (by omega)]
              rfl
          · rw [if_neg c2] at hk
            have hkn : ¬ n = k := by rintro rfl; exact hnin u cu hu (List.mem_of_getElem? hk)
            obtain ⟨k1, k2⟩ := L.kid u cu (m - 1) k hu hk
            rw [k1, k2, if_neg hkn, if_neg hkn, if_neg (show ¬ prv cu.row i = (k : Int) by rw [prv_at hd hk]; omega), if_neg (show ¬ m = 0 by omega), if_neg (show ¬ m - 1 < i by omega), if_neg (show ¬ m + 1 < i by omega), if_neg (show ¬ m + 1 = i by omega)]
            constructor
            · by_cases c3 : m - 1 = i
              · rw [if_pos ((nxt_at hd hk).2 c3.symm), if_pos c3]
              · rw [if_neg (fun h => c3 ((nxt_at hd hk).1 h).symm), if_neg c3]
                unfold prv
                rw [if_neg (by omega)]
            · rw [show m - 1 + 1 = m + 1 - 1 by omega]
      · rw [if_neg h1] at hk ⊢
        have hkm := List.mem_of_getElem? hk
        have hkn : ¬ n = k := by rintro rfl; exact hnin j e he hkm
        obtain ⟨k1, k2⟩ := L.kid j e m k he hk
        rw [if_neg hkn, if_neg hkn, if_neg (fun h => h1 (F.one hu (nxt_mem h) he hkm)), if_neg (fun h => h1 (F.one hu (prv_mem h) he hkm))]
        exact ⟨k1, k2⟩
end Go.Proofs.Ytkoijkdhmfnlbaa
namespace Go.Proofs.Ytkoijkdhmfnlbaa

theorem pget_unlink {S : List PN} {n u : Nat} {B H : Int} (hn : n < S.length) (hu : u < S.length) (hup : (pget S (n : Int)).up = (u : Int)) (hB : (pget S (n : Int)).before = B) (hH : (pget S (n : Int)).behind = H) (hb : B = -1 ∨ pHas S B = true) (hh : H = -1 ∨ pHas S H = true) (j : Nat) :
    ndP (pget (pUnlink S (n : Int)) (j : Int)) = ndP (pget S (j : Int)) ∧ (pget (pUnlink S (n : Int)) (j : Int)).up = (if n = j then -1 else (pget S (j : Int)).up) ∧
    (pget (pUnlink S (n : Int)) (j : Int)).first = (if B = -1 ∧ u = j then H else (pget S (j : Int)).first) ∧
    (pget (pUnlink S (n : Int)) (j : Int)).behind = (if n = j then -1 else if B = (j : Int) then H else (pget S (j : Int)).behind) ∧
    (pget (pUnlink S (n : Int)) (j : Int)).last = (if H = -1 ∧ u = j then B else (pget S (j : Int)).last) ∧
    (pget (pUnlink S (n : Int)) (j : Int)).before = (if n = j then -1 else if H = (j : Int) then B else (pget S (j : Int)).before) := by
  have hn' := has_nat.2 hn
  have hu' := has_nat.2 hu
  have e1 : ((n : Int) = (j : Int)) ↔ (n = j) := by omega
  have e2 : ((u : Int) = (j : Int)) ↔ (u = j) := by omega
  obtain ⟨p0, p1, p2, p3, p4, p5⟩ := pget_meet (S := S) (u := (u : Int)) (b := B) (h := H) hu' hb hh j
  unfold pUnlink pCut
  rw [hup, hB, hH, pget_set (by rw [pMeet_has]; exact hn')]
  by_cases a1 : n = j
  · rw [if_pos (e1.2 a1)]
    refine ⟨p0, by rw [if_pos a1], ?_, by rw [if_pos a1], ?_, by rw [if_pos a1]⟩
    · show (pget (pMeet S (u : Int) B H) (j : Int)).first = _
      rw [p2]; simp only [e2]
    · show (pget (pMeet S (u : Int) B H) (j : Int)).last = _
      rw [p4]; simp only [e2]
  · rw [if_neg (fun h => a1 (e1.1 h)), if_neg a1, if_neg a1, if_neg a1]
    refine ⟨p0, p1, ?_, p3, ?_, p5⟩
    · rw [p2]; simp only [e2]
    · rw [p4]; simp only [e2]
theorem Like.unlink {S : List PN} {C : List Cl} (L : Like S C) (F : Fit6 C) {n u i : Nat} {cn cu : Cl} (hn : C[n]? = some cn) (hnu : cn.up = some u) (hu : C[u]? = some cu) (hi : cu.row[i]? = some n) :
    okUnlink S (n : Int) = true ∧ Like (pUnlink S (n : Int)) (Go.Proofs.Ytkoijkdhmfnlbaa.unlink C n u i) := by
  have hnl := lt_of_some hn
  have hul := lt_of_some hu
  have hil := lt_of_some hi
  have hn' := L.has_nat hnl
  have hu' := L.has_nat hul
  have hb := L.prv_has F hu i
  have hh := L.nxt_has F hu (i + 1)
  have hd := F.nodup u cu hu
  obtain ⟨hB, hH⟩ := L.kid u cu i n hu hi
  have hup : (pget S (n : Int)).up = (u : Int) := by rw [L.up n cn hn, hnu]; rfl
  refine ⟨?_, ?_⟩
  · unfold okUnlink okMeet
    rw [hup, hB, hH, hn', hu']
    rw [Bool.true_and, Bool.and_eq_true]
    constructor
    · split
      · rfl
      · rename_i h; exact hb.resolve_left h
    · split
      · rfl
      · rename_i h; exact hh.resolve_left h
  · have P := fun j => pget_unlink (S := S) (n := n) (u := u) (B := prv cu.row i) (H := nxt cu.row (i + 1)) (by rw [L.len]; exact hnl) (by rw [L.len]; exact hul) hup hB hH hb hh j
    refine ⟨by rw [pUnlink_len, unlink_len, L.len], ?_, ?_, ?_, ?_, ?_⟩
    · intro j c hj
      obtain ⟨e, he, rfl⟩ := unlink_inv hj
      rw [(P j).1]
      exact L.nd j e he
    · intro j c hj
      obtain ⟨e, he, rfl⟩ := unlink_inv hj
      rw [(P j).2.1, L.up j e he]
      split <;> rfl
    · intro j c hj
      obtain ⟨e, he, rfl⟩ := unlink_inv hj
      rw [(P j).2.2.1, L.first j e he]
      simp only
      by_cases h1 : u = j
      · subst h1
        rw [hu] at he
        cases he
        rw [if_pos rfl, nxt_cut hil]
        by_cases h2 : i = 0
        · rw [if_pos ⟨(prv_none (by omega)).2 h2, rfl⟩, if_neg (by omega), h2]
        · rw [if_neg (fun h => h2 ((prv_none (by omega)).1 h.1)), if_pos (by omega)]
      · rw [if_neg (by simp [h1]), if_neg h1]
    · intro j c hj
      obtain ⟨e, he, rfl⟩ := unlink_inv hj
      rw [(P j).2.2.2.2.1, L.last j e he]
      simp only
      by_cases h1 : u = j
      · subst h1
        rw [hu] at he
        cases he
        have hl : (cu.row.take i ++ cu.row.drop (i + 1)).length = cu.row.length - 1 := by simp; omega
        rw [if_pos rfl, hl]
        have hp : prv (cu.row.take i ++ cu.row.drop (i + 1)) (cu.row.length - 1) = if cu.row.length - 1 = 0 then -1 else if cu.row.length - 1 - 1 < i then nxt cu.row (cu.row.length - 1 - 1) else nxt cu.row (cu.row.length - 1 - 1 + 1) := by
          unfold prv
          rw [nxt_cut hil]
        rw [hp]
        by_cases h2 : i + 1 = cu.row.length
        · rw [if_pos ⟨nxt_none.2 (by omega), rfl⟩]
          unfold prv
          by_cases h3 : i = 0
          · rw [if_pos h3, if_pos (by omega)]
          · rw [if_neg h3, if_neg (by omega), if_pos (by omega), show i - 1 = cu.row.length - 1 - 1 by omega]
        · rw [if_neg (fun h => h2 (by have := nxt_none.1 h.1; omega)), if_neg (by omega), if_neg (by omega)]
          unfold prv
          rw [if_neg (by omega), show cu.row.length - 1 - 1 + 1 = cu.row.length - 1 by omega]
      · rw [if_neg (by simp [h1]), if_neg h1]
    · intro j c m k hj hk
      obtain ⟨e, he, rfl⟩ := unlink_inv hj
      simp only at hk ⊢
      rw [(P k).2.2.2.2.2, (P k).2.2.2.1]
      by_cases h1 : u = j
      · subst h1
        rw [hu] at he
        cases he
        rw [if_pos rfl] at hk ⊢
        rw [cut_get hil] at hk
        rw [nxt_cut hil]
        have hp : prv (cu.row.take i ++ cu.row.drop (i + 1)) m = if m = 0 then -1 else if m - 1 < i then nxt cu.row (m - 1) else nxt cu.row (m - 1 + 1) := by
          unfold prv
          rw [nxt_cut hil]
        rw [hp]
        by_cases c1 : m < i
        · rw [if_pos c1] at hk
          have hkn : ¬ n = k := by
            rintro rfl
            have := nodup_idx hd hk hi
            omega
          obtain ⟨k1, k2⟩ := L.kid u cu m k hu hk
          rw [k1, k2, if_neg hkn, if_neg hkn, if_neg (show ¬ nxt cu.row (i + 1) = (k : Int) by rw [nxt_at hd hk]; omega)]
          constructor
          · unfold prv
            split
            · rfl
            · rw [if_pos (by omega)]
          · by_cases c2 : i = m + 1
            · rw [if_pos ((prv_at hd hk).2 c2), if_neg (by omega), c2]
            · rw [if_neg (fun h => c2 ((prv_at hd hk).1 h)), if_pos (by omega)]
        · rw [if_neg c1] at hk
          have hkn : ¬ n = k := by
            rintro rfl
            have := nodup_idx hd hk hi
            omega
          obtain ⟨k1, k2⟩ := L.kid u cu (m + 1) k hu hk
          rw [k1, k2, if_neg hkn, if_neg hkn, if_neg (show ¬ prv cu.row i = (k : Int) by rw [prv_at hd hk]; omega), if_neg (show ¬ m + 1 < i by omega)]
          refine ⟨?_, rfl⟩
          by_cases c3 : i = m
          · rw [if_pos ((nxt_at hd hk).2 (by omega))]
            subst c3
            unfold prv
            split
            · rfl
            · rw [if_pos (by omega)]
          · rw [if_neg (fun h => c3 (by have := (nxt_at hd hk).1 h; omega)), if_neg (by omega), if_neg (by omega), prv_succ, show m - 1 + 1 = m by omega]
      · rw [if_neg h1] at hk ⊢
        have hkm := List.mem_of_getElem? hk
        have hnr := List.mem_of_getElem? hi
        have hkn : ¬ n = k := by rintro rfl; exact h1 (F.one hu hnr he hkm)
        obtain ⟨k1, k2⟩ := L.kid j e m k he hk
        rw [if_neg hkn, if_neg hkn, if_neg (fun h => h1 (F.one hu (nxt_mem h) he hkm)), if_neg (fun h => h1 (F.one hu (prv_mem h) he hkm))]
        exact ⟨k1, k2⟩
/-- One more node. -/
theorem Like.lay {S : List PN} {C : List Cl} (L : Like S C) (F : Fit6 C) {x : PN} {d : Nd} (hd : ndP x = d) (hu : x.up = -1) (hf : x.first = -1) (hl : x.last = -1) : Like (S ++ [x]) (Go.Proofs.Ytkoijkdhmfnlbaa.lay C d) := by
  have hold : ∀ j, j < C.length → pget (S ++ [x]) (j : Int) = pget S (j : Int) := by
    intro j hj
    unfold pget
    rw [Int.toNat_natCast, List.getD_eq_getElem?_getD, List.getD_eq_getElem?_getD, List.getElem?_append_left (by rw [L.len]; exact hj)]
  have hnew : pget (S ++ [x]) (C.length : Int) = x := by
    unfold pget
    rw [Int.toNat_natCast, List.getD_eq_getElem?_getD, List.getElem?_append_right (by rw [L.len]; exact Nat.le_refl _), L.len]
    simp
  refine ⟨by rw [lay_len]; simp [L.len], ?_, ?_, ?_, ?_, ?_⟩
  · intro j c hj
    rcases lay_inv hj with h1 | ⟨rfl, rfl⟩
    · rw [hold j (lt_of_some h1)]; exact L.nd j c h1
    · rw [hnew]; exact hd
  · intro j c hj
    rcases lay_inv hj with h1 | ⟨rfl, rfl⟩
    · rw [hold j (lt_of_some h1)]; exact L.up j c h1
    · rw [hnew]; exact hu
  · intro j c hj
    rcases lay_inv hj with h1 | ⟨rfl, rfl⟩
    · rw [hold j (lt_of_some h1)]; exact L.first j c h1
    · rw [hnew]; exact hf
  · intro j c hj
    rcases lay_inv hj with h1 | ⟨rfl, rfl⟩
    · rw [hold j (lt_of_some h1)]; exact L.last j c h1
    · rw [hnew]; exact hl
  · intro j c i k hj hk
    rcases lay_inv hj with h1 | ⟨rfl, rfl⟩
    · rw [hold k (F.lt h1 (List.mem_of_getElem? hk))]; exact L.kid j c i k h1 hk
    · cases hk
theorem Fit6.lay {C : List Cl} (F : Fit6 C) (d : Nd) : Fit6 (Go.Proofs.Ytkoijkdhmfnlbaa.lay C d) := by
  refine ⟨?_, ?_, ?_⟩
  · intro n c u hn hu
    rcases lay_inv hn with h1 | ⟨_, rfl⟩
    · obtain ⟨e, he, hm⟩ := F.upok n c u h1 hu
      exact ⟨e, lay_old he, hm⟩
    · cases hu
  · intro u e k hu hk
    rcases lay_inv hu with h1 | ⟨_, rfl⟩
    · obtain ⟨c, hc, hcu⟩ := F.rowok u e k h1 hk
      exact ⟨c, lay_old hc, hcu⟩
    · cases hk
  · intro u e hu
    rcases lay_inv hu with h1 | ⟨_, rfl⟩
    · exact F.nodup u e h1
    · exact List.nodup_nil
/-- A text grows. -/
theorem Like.text {S : List PN} {C : List Cl} (L : Like S C) {k : Nat} (hk : k < C.length) (s : List UInt8) : Like (pText S (k : Int) s) (addText C k s) := by
  have P : ∀ j : Nat, pget (pText S (k : Int) s) (j : Int) = if k = j then { pget S (j : Int) with text := (pget S (j : Int)).text ++ s } else pget S (j : Int) := by
    intro j
    unfold pText
    rw [pget_set (L.has_nat hk)]
    have e1 : ((k : Int) = (j : Int)) ↔ (k = j) := by omega
    simp only [e1]
  refine ⟨by unfold pText; rw [pset_len, addText_len, L.len], ?_, ?_, ?_, ?_, ?_⟩
  · intro j c hj
    obtain ⟨e, he, rfl⟩ := addText_inv hj
    have h1 := L.nd j e he
    rw [P j]
    show _ = if k = j then { e.d with text := e.d.text ++ s } else e.d
    rw [← h1]
    by_cases h2 : k = j
    · rw [if_pos h2, if_pos h2]; rfl
    · rw [if_neg h2, if_neg h2]
  · intro j c hj
    obtain ⟨e, he, rfl⟩ := addText_inv hj
    rw [P j]
    have h1 := L.up j e he
    split <;> exact h1
  · intro j c hj
    obtain ⟨e, he, rfl⟩ := addText_inv hj
    rw [P j]
    have h1 := L.first j e he
    split <;> exact h1
  · intro j c hj
    obtain ⟨e, he, rfl⟩ := addText_inv hj
    rw [P j]
    have h1 := L.last j e he
    split <;> exact h1
  · intro j c i m hj hm
    obtain ⟨e, he, rfl⟩ := addText_inv hj
    rw [P m]
    have h1 := L.kid j e i m he hm
    split <;> exact h1
end Go.Proofs.Ytkoijkdhmfnlbaa
namespace Go.Proofs.Ytkoijkdhmfnlbaa

theorem Fit6.link {C : List Cl} (F : Fit6 C) {n u i : Nat} {cn cu : Cl} (hn : C[n]? = some cn) (hnu : cn.up = none) (hu : C[u]? = some cu) : Fit6 (Go.Proofs.Ytkoijkdhmfnlbaa.link C n u i) := by
  have hnin : ∀ (v : Nat) (e : Cl), C[v]? = some e → n ∉ e.row := by
    intro v e hv hm
    obtain ⟨c, hc, hcu⟩ := F.rowok v e n hv hm
    rw [hn] at hc
    cases hc
    rw [hnu] at hcu
    cases hcu
  refine ⟨?_, ?_, ?_⟩
  · intro m c v hm hv
    obtain ⟨e, he, rfl⟩ := link_inv hm
    simp only at hv
    by_cases hmn : n = m
    · subst hmn
      rw [if_pos rfl] at hv
      cases hv
      exact ⟨_, link_get n u i hu, by simp only [if_pos]; exact mem_ins.2 (Or.inl rfl)⟩
    · rw [if_neg hmn] at hv
      obtain ⟨f, hf, hfm⟩ := F.upok m e v he hv
      refine ⟨_, link_get n u i hf, ?_⟩
      simp only
      by_cases h2 : u = v
      · rw [if_pos h2]
        exact mem_ins.2 (Or.inr hfm)
      · rw [if_neg h2]
        exact hfm
  · intro v e k hv hk
    obtain ⟨f, hf, rfl⟩ := link_inv hv
    simp only at hk
    have key : k ∈ f.row ∨ (k = n ∧ u = v) := by
      by_cases h2 : u = v
      · rw [if_pos h2] at hk
        rcases mem_ins.1 hk with h | h
        · exact Or.inr ⟨h, h2⟩
        · exact Or.inl h
      · rw [if_neg h2] at hk
        exact Or.inl hk
    rcases key with h1 | ⟨rfl, rfl⟩
    · obtain ⟨c, hc, hcv⟩ := F.rowok v f k hf h1
      refine ⟨_, link_get n u i hc, ?_⟩
      simp only
      rw [if_neg (fun (e : n = k) => hnin v f hf (e ▸ h1)), hcv]
    · exact ⟨_, link_get k u i hn, by simp⟩
  · intro v e hv
    obtain ⟨f, hf, rfl⟩ := link_inv hv
    simp only
    split
    · exact nodup_ins (F.nodup v f hf) (hnin v f hf)
    · exact F.nodup v f hf
theorem Fit6.unlink {C : List Cl} (F : Fit6 C) {n u i : Nat} {cn cu : Cl} (hn : C[n]? = some cn) (hnu : cn.up = some u) (hu : C[u]? = some cu) (hr : cu.row[i]? = some n) : Fit6 (Go.Proofs.Ytkoijkdhmfnlbaa.unlink C n u i) := by
  refine ⟨?_, ?_, ?_⟩
  · intro m c v hm hv
    obtain ⟨e, he, rfl⟩ := unlink_inv hm
    simp only at hv
    by_cases hmn : n = m
    · rw [if_pos hmn] at hv
      cases hv
    · rw [if_neg hmn] at hv
      obtain ⟨f, hf, hfm⟩ := F.upok m e v he hv
      refine ⟨_, unlink_get n u i hf, ?_⟩
      simp only
      by_cases h2 : u = v
      · rw [if_pos h2]
        subst h2
        rw [hu] at hf
        cases hf
        exact (mem_cut (F.nodup u cu hu) hr).2 ⟨hfm, fun e => hmn e.symm⟩
      · rw [if_neg h2]
        exact hfm
  · intro v e k hv hk
    obtain ⟨f, hf, rfl⟩ := unlink_inv hv
    simp only at hk
    have key : k ∈ f.row ∧ k ≠ n := by
      by_cases h2 : u = v
      · rw [if_pos h2] at hk
        subst h2
        rw [hu] at hf
        cases hf
        exact (mem_cut (F.nodup u cu hu) hr).1 hk
      · rw [if_neg h2] at hk
        refine ⟨hk, ?_⟩
        rintro rfl
        obtain ⟨c, hc, hcv⟩ := F.rowok v f k hf hk
        rw [hn] at hc
        cases hc
        rw [hnu] at hcv
        exact h2 (Option.some.inj hcv)
    obtain ⟨c, hc, hcv⟩ := F.rowok v f k hf key.1
    refine ⟨_, unlink_get n u i hc, ?_⟩
    simp only
    rw [if_neg (fun e => key.2 e.symm), hcv]
  · intro v e hv
    obtain ⟨f, hf, rfl⟩ := unlink_inv hv
    simp only
    split
    · rw [← List.eraseIdx_eq_take_drop_succ]
      exact List.Nodup.eraseIdx _ (F.nodup v f hf)
    · exact F.nodup v f hf
theorem row_le {C : List Cl} (F : Fit6 C) {c : Cl} (h : c ∈ C) : c.row.length ≤ C.length := by
  obtain ⟨j, hj, rfl⟩ := List.mem_iff_getElem.1 h
  have := List.Nodup.length_le_of_subset (F.nodup j _ (List.getElem?_eq_getElem hj)) (l₂ := List.range C.length) fun k hk => List.mem_range.2 (F.lt (List.getElem?_eq_getElem hj) hk)
  simpa using this
theorem like_elem {S : List PN} {C : List Cl} (L : Like S C) (n : Int) : pElem S n = isEl C n := by
  unfold pElem isEl
  rw [L.has]
  cases h : isN C n
  · rfl
  · obtain ⟨c, hc⟩ := isN_get h
    rw [isN_iff] at h
    obtain ⟨k, rfl⟩ : ∃ k : Nat, n = (k : Int) := ⟨n.toNat, by omega⟩
    rw [Int.toNat_natCast] at hc ⊢
    have h1 := L.nd k c hc
    unfold ndOf
    rw [hc]
    show (true && decide ((pget S (k : Int)).kind = 1)) = (true && decide (c.d.kind = 1))
    rw [← h1]
    rfl
theorem like_place {S : List PN} {C : List Cl} (L : Like S C) (F : Fit6 C) {u : Nat} {cu : Cl} (hu : C[u]? = some cu) (he : isEl C (u : Int) = true) (a : Int) :
    (pPlace S (u : Int) a = true ↔ ∃ i, spot C u a = some i) ∧ ∀ i, spot C u a = some i → i ≤ cu.row.length ∧ nxt cu.row i = a := by
  have hr : rowAt C u = cu.row := by unfold rowAt; rw [hu]
  have h2 : ∀ i, spot C u a = some i → i ≤ cu.row.length ∧ nxt cu.row i = a := by
    intro i hi
    unfold spot at hi
    rw [hr] at hi
    split at hi
    · rename_i ha
      injection hi with hi
      subst hi
      exact ⟨Nat.le_refl _, by rw [nxt_off (Nat.le_refl _), ha]⟩
    · obtain ⟨k, hk, hka⟩ := place_at _ _ _ hi
      exact ⟨Nat.le_of_lt (lt_of_some hk), by rw [nxt_some hk, hka]⟩
  refine ⟨?_, h2⟩
  unfold pPlace
  rw [like_elem L, he, Bool.true_and, Bool.or_eq_true, Bool.and_eq_true, decide_eq_true_eq, decide_eq_true_eq]
  constructor
  · rintro (ha | ⟨ha, hau⟩)
    · exact ⟨_, by unfold spot; rw [if_pos ha]⟩
    · obtain ⟨k, rfl, hk⟩ := pHas_nat ha
      rw [L.len] at hk
      obtain ⟨c, hc⟩ : ∃ c, C[k]? = some c := ⟨_, List.getElem?_eq_getElem hk⟩
      rw [L.up k c hc] at hau
      cases hcu : c.up with
      | none => rw [hcu] at hau; have hau : (-1 : Int) = (u : Int) := hau; omega
      | some v =>
        rw [hcu] at hau
        have : v = u := by have hau : (v : Int) = (u : Int) := hau; omega
        subst this
        obtain ⟨e, he2, hm⟩ := F.upok k c v hc hcu
        rw [hu] at he2
        cases he2
        obtain ⟨i, hi⟩ := place_mem _ _ hm
        exact ⟨i, by unfold spot; rw [if_neg (by omega), hr, hi]⟩
  · rintro ⟨i, hi⟩
    by_cases ha : a = -1
    · exact .inl ha
    · refine .inr ?_
      unfold spot at hi
      rw [if_neg ha, hr] at hi
      obtain ⟨k, hk, rfl⟩ := place_at _ _ _ hi
      obtain ⟨c, hc, hcu⟩ := F.rowok u cu k hu (List.mem_of_getElem? hk)
      refine ⟨L.has_nat (lt_of_some hc), ?_⟩
      rw [L.up k c hc, hcu]
      rfl
theorem anc_kid {C : List Cl} {n m : Nat} (h : Anc C n m) : n = m ∨ ∃ (k : Nat) (c : Cl), C[k]? = some c ∧ c.up = some m := by
  induction h with
  | here n => exact .inl rfl
  | step h1 h2 _ ih =>
    rcases ih with rfl | ih
    · exact .inr ⟨_, _, h1, h2⟩
    · exact .inr ih
theorem like_climb {S : List PN} {C : List Cl} (L : Like S C) {h : Nat → Nat} (hi : InvH C h) {M : Nat} (hM : ∀ k, k < C.length → h k ≤ M) (top : Nat) :
    ∀ (f n : Nat), n < C.length → M + 1 - h n ≤ f → ∃ b, pClimb S (f + 1) (n : Int) (top : Int) = some b ∧ (b = true ↔ Anc C n top) := by
  intro f
  induction f with
  | zero => intro n hn hf; have := hM n hn; omega
  | succ f ih =>
    intro n hn hf
    obtain ⟨c, hc⟩ : ∃ c, C[n]? = some c := ⟨_, List.getElem?_eq_getElem hn⟩
    unfold pClimb
    by_cases e : n = top
    · subst e
      rw [if_pos (.inr rfl)]
      exact ⟨true, by simp, by simp; exact .here _⟩
    · rw [if_neg (by omega), if_pos (L.has_nat hn), L.up n c hc]
      cases hcu : c.up with
      | none =>
        refine ⟨false, ?_, ?_⟩
        · show pClimb S (f + 1) (-1) (top : Int) = _
          unfold pClimb
          rw [if_pos (.inl rfl)]
          simp
        · constructor
          · intro h; cases h
          · intro h; exact absurd h (anc_end hc e hcu)
      | some u =>
        obtain ⟨⟨e2, he2, _⟩, hlt⟩ := hi.upok n c u hc hcu
        obtain ⟨b, h1, h2⟩ := ih u (lt_of_some he2) (by have := hM n hn; omega)
        exact ⟨b, h1, h2.trans (anc_up hc e hcu).symm⟩
theorem like_within {S : List PN} {C : List Cl} (L : Like S C) (hI : Inv C) {n top : Nat} (hn : n < C.length) (ht : top < C.length) : ∃ f b, pWithin S f (n : Int) (top : Int) = some b ∧ (b = true ↔ Anc C n top) := by
  obtain ⟨c, hc⟩ : ∃ c, C[top]? = some c := ⟨_, List.getElem?_eq_getElem ht⟩
  have hfit := hI.fit
  obtain ⟨h, hi⟩ := hI
  obtain ⟨M, hM⟩ := h_bound h C.length
  unfold pWithin
  by_cases e : (pget S (top : Int)).first = -1
  · refine ⟨0, decide ((n : Int) = (top : Int)), by rw [if_pos e], ?_⟩
    rw [L.first top c hc, nxt_none] at e
    rw [decide_eq_true_eq]
    constructor
    · intro h; have : n = top := by omega
      subst this; exact .here _
    · intro h
      rcases anc_kid h with rfl | ⟨k, ck, hk, hku⟩
      · rfl
      · obtain ⟨e2, he2, hm⟩ := hfit.upok k ck top hk hku
        rw [hc] at he2
        cases he2
        have := List.length_pos_of_mem hm
        omega
  · obtain ⟨b, h1, h2⟩ := like_climb L hi hM top (M + 1 - h n) n hn (Nat.le_refl _)
    exact ⟨_, b, by rw [if_neg e]; exact h1, h2⟩
theorem isEl_has {C : List Cl} {n : Int} (h : isEl C n = true) : isN C n = true := by
  unfold isEl at h
  rw [Bool.and_eq_true] at h
  exact h.1
theorem like_put {S : List PN} {C : List Cl} (L : Like S C) (hI : Inv C) (n up ahead : Int) (b' : Bool) (hb' : isN C n = true → isEl C up = true → (b' = true ↔ Anc C up.toNat n.toNat)) :
    ∃ f b, okPut S f n up ahead b = true ∧ (pPut S n up ahead b).2 = (putD C n up ahead b').2 ∧ Like (pPut S n up ahead b).1 (putD C n up ahead b').1 := by
  have F := hI.fit
  by_cases hA : (pHas S n && !decide (n = 0) && decide ((pget S n).up = -1) && pPlace S up ahead) = true
  · have hA2 := hA
    simp only [Bool.and_eq_true, Bool.not_eq_true', decide_eq_false_iff_not, decide_eq_true_eq] at hA2
    obtain ⟨⟨⟨h1, h2⟩, h3⟩, h4⟩ := hA2
    have h1' := h1
    rw [L.has] at h1'
    have h5 : isEl C up = true := by
      rw [← like_elem L]
      unfold pPlace at h4
      rw [Bool.and_eq_true] at h4
      exact h4.1
    obtain ⟨nn, rfl, hnl⟩ := pHas_nat h1
    have h5' := isEl_has h5
    rw [isN_iff] at h5'
    obtain ⟨u, rfl⟩ : ∃ u : Nat, up = (u : Int) := ⟨up.toNat, by omega⟩
    have hul : u < C.length := by omega
    rw [L.len] at hnl
    obtain ⟨cu, hu⟩ : ∃ c, C[u]? = some c := ⟨_, List.getElem?_eq_getElem hul⟩
    obtain ⟨cn, hn⟩ : ∃ c, C[nn]? = some c := ⟨_, List.getElem?_eq_getElem hnl⟩
    obtain ⟨f, b, hw, hb⟩ := like_within L hI hul hnl
    have hbb : b' = b := by
      have h6 := hb' h1' h5
      rw [Int.toNat_natCast, Int.toNat_natCast] at h6
      rw [Bool.eq_iff_iff, h6, hb]
    subst hbb
    have hcn : cn.up = none := by
      rw [L.up nn cn hn] at h3
      cases hx : cn.up with
      | none => rfl
      | some x => rw [hx] at h3; have h3 : (x : Int) = -1 := h3; omega
    obtain ⟨hp1, hp2⟩ := like_place L F hu h5 ahead
    obtain ⟨i, hi⟩ := hp1.1 h4
    obtain ⟨hil, hia⟩ := hp2 i hi
    obtain ⟨hok, hL⟩ := L.link F (i := i) hn hcn hu hil
    rw [hia] at hok hL
    have h0 : ((nn : Int) == 0) = false := by rw [beq_eq_false_iff_ne]; exact h2
    have hua : upAt C nn = none := by unfold upAt; rw [hn]; exact hcn
    refine ⟨f, b', ?_, ?_⟩
    · unfold okPut
      rw [hA, hw, hok]
      simp
    · unfold pPut putD
      rw [hA, h1', h5, h0, Int.toNat_natCast, Int.toNat_natCast, hua]
      cases b'
      · simp only [Bool.not_false, Bool.true_and, Option.isNone_none, hi, if_true]
        exact ⟨trivial, hL⟩
      · simp
        exact L
  · rw [Bool.not_eq_true] at hA
    refine ⟨0, false, by unfold okPut; rw [hA]; rfl, ?_⟩
    have e1 : pPut S n up ahead false = (S, false) := by unfold pPut; rw [hA]; rfl
    have e2 : putD C n up ahead b' = (C, false) := by
      unfold putD
      split
      · rename_i h
        simp only [Bool.and_eq_true, Bool.not_eq_true'] at h
        obtain ⟨⟨⟨⟨g1, g2⟩, g3⟩, g4⟩, g5⟩ := h
        have g1' := g1
        have g2' := isEl_has g2
        rw [isN_iff] at g1' g2'
        obtain ⟨nn, rfl⟩ : ∃ u : Nat, n = (u : Int) := ⟨n.toNat, by omega⟩
        obtain ⟨u, rfl⟩ : ∃ u : Nat, up = (u : Int) := ⟨up.toNat, by omega⟩
        obtain ⟨cu, hu⟩ : ∃ c, C[u]? = some c := ⟨_, List.getElem?_eq_getElem (by omega)⟩
        obtain ⟨cn, hn⟩ : ∃ c, C[nn]? = some c := ⟨_, List.getElem?_eq_getElem (by omega)⟩
        rw [beq_eq_false_iff_ne] at g3
        have hup : (pget S (nn : Int)).up = -1 := by
          rw [L.up nn cn hn]
          rw [Int.toNat_natCast] at g4
          unfold upAt at g4
          rw [hn] at g4
          have g4 : cn.up.isNone = true := g4
          rw [Option.isNone_iff_eq_none.1 g4]
          rfl
        have hpl : pPlace S (u : Int) ahead = false := by
          rw [L.has, g1, hup] at hA
          have g3' : decide ((nn : Int) = 0) = false := by rw [decide_eq_false_iff_not]; exact g3
          rw [g3'] at hA
          simpa using hA
        obtain ⟨hp1, _⟩ := like_place L F hu g2 ahead
        rw [Int.toNat_natCast]
        cases hsp : spot C u ahead with
        | none => rfl
        | some i => rw [hp1.2 ⟨i, hsp⟩] at hpl; cases hpl
      · rfl
    rw [e1, e2]
    exact ⟨rfl, L⟩
end Go.Proofs.Ytkoijkdhmfnlbaa
