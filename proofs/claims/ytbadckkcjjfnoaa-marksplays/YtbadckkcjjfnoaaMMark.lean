/-
  Marks in memory (chapter 7): a list of marks, three cells each; the calls as functions of the list. No program is walked.
-/
import Derived.Test.YtbadckkcjjfnoaaMSame
namespace Go.Proofs.Ytbadckkcjjfnoaa
open Go.RowKit

/-- A mark. -/
structure MK where
  node : Int
  name : List UInt8
  attrs : List (List UInt8 × List UInt8)
deriving DecidableEq, Inhabited

/-- Names and values that a text can have, and not too many. -/
def MK.fits (x : MK) : Prop := x.attrs.length ≤ 30 ∧ ∀ a ∈ x.attrs, a.1.length ≤ maxLen ∧ a.2.length ≤ maxLen
def mWall : MK := ⟨-1, [], []⟩
def mZero : MK := ⟨0, [], []⟩
def alikeM (x y : MK) : Bool := x.name == y.name && sameV x.attrs y.attrs
/-- The first one that is alike, from the i-th down to the last wall, and how many. -/
def mScan (S : List MK) (x : MK) : Nat → Int → Nat → Int × Nat
  | 0, f, n => (f, n)
  | i + 1, f, n => if (S.getD i mZero).node = -1 then (f, n) else if alikeM (S.getD i mZero) x then mScan S x i i (n + 1) else mScan S x i f n
def mRoom (S : List MK) (x : MK) : List MK := if 3 ≤ (mScan S x S.length (-1) 0).2 then S.eraseIdx (mScan S x S.length (-1) 0).1.toNat else S
def mPush (S : List MK) (x : MK) : List MK := mRoom S x ++ [x]
/-- The last wall at or ahead of the i-th place, or 0. -/
def mLast (S : List MK) : Nat → Nat
  | 0 => 0
  | i + 1 => if (S.getD (i + 1) mZero).node = -1 then i + 1 else mLast S i
def mClear (S : List MK) : List MK := S.take (mLast S (S.length - 1))
def mFind (S : List MK) (n : List UInt8) : Nat → Int
  | 0 => -1
  | i + 1 => if (S.getD i mZero).node = -1 then -1 else if (S.getD i mZero).name = n then i else mFind S n i
def mOf (S : List MK) (n : Int) : Int := match S.findIdx? (fun q => q.node == n) with | some i => i | none => -1
theorem getD_at {S : List MK} {i : Nat} (h : i < S.length) : S.getD i mZero = S[i] := by rw [List.getD_eq_getElem?_getD, List.getElem?_eq_getElem h]; rfl
theorem mScan_lt (S : List MK) (x : MK) : ∀ (i : Nat) (f : Int) (n : Nat), (0 < n → 0 ≤ f ∧ f < S.length) → i ≤ S.length → 0 < (mScan S x i f n).2 → 0 ≤ (mScan S x i f n).1 ∧ (mScan S x i f n).1 < S.length
  | 0, f, n, h, _, h2 => h h2
  | i + 1, f, n, h, hi, h2 => by
    unfold mScan at h2 ⊢
    split at h2 <;> rename_i c1
    · rw [if_pos c1]; exact h h2
    · rw [if_neg c1]
      split at h2 <;> rename_i c2
      · rw [if_pos c2]; exact mScan_lt S x i i (n + 1) (fun _ => by omega) (by omega) h2
      · rw [if_neg c2]; exact mScan_lt S x i f n h (by omega) h2
theorem mScan_room (S : List MK) (x : MK) (h : 3 ≤ (mScan S x S.length (-1) 0).2) : 0 ≤ (mScan S x S.length (-1) 0).1 ∧ (mScan S x S.length (-1) 0).1 < S.length := mScan_lt S x S.length (-1) 0 (fun k => absurd k (by omega)) (Nat.le_refl _) (by omega)
theorem mScan_le (S : List MK) (x : MK) : ∀ (i : Nat) (f : Int) (n : Nat), (mScan S x i f n).2 ≤ n + i
  | 0, f, n => Nat.le_refl _
  | i + 1, f, n => by
    unfold mScan
    split
    · omega
    · split
      · have := mScan_le S x i i (n + 1); omega
      · have := mScan_le S x i f n; omega
theorem mLast_le (S : List MK) : ∀ i, mLast S i ≤ i
  | 0 => Nat.le_refl _
  | i + 1 => by
    unfold mLast
    split
    · exact Nat.le_refl _
    · have := mLast_le S i; omega

def mkCell (q : MK × Value) : List Value := [.int .i64 q.1.node, .string ⟨q.1.name.toArray⟩, q.2]
def mkCells (qs : List (MK × Value)) : List Value := qs.flatMap mkCell
theorem mkCells_len (qs : List (MK × Value)) : (mkCells qs).length = qs.length * 3 := by
  induction qs with
  | nil => rfl
  | cons q r ih => show (mkCell q ++ mkCells r).length = _; rw [List.length_append, ih, List.length_cons]; simp [mkCell]; omega
theorem mkCells_app (a b : List (MK × Value)) : mkCells (a ++ b) = mkCells a ++ mkCells b := by unfold mkCells; rw [List.flatMap_append]
theorem mkCells_snoc (qs : List (MK × Value)) (q : MK × Value) : mkCells (qs ++ [q]) = mkCells qs ++ mkCell q := by
  rw [mkCells_app]
  simp [mkCells]
theorem mkCells_at : ∀ (qs : List (MK × Value)) (j i : Nat) (hj : j < qs.length), i < 3 → (mkCells qs)[j * 3 + i]? = (mkCell qs[j])[i]?
  | [], j, _, hj, _ => absurd hj (by simp)
  | q :: r, 0, i, _, hi => by
    show (mkCell q ++ mkCells r)[0 * 3 + i]? = _
    rw [List.getElem?_append_left (by simp [mkCell]; omega), Nat.zero_mul, Nat.zero_add]
    rfl
  | q :: r, j + 1, i, hj, hi => by
    have h := mkCells_at r j i (by simpa using hj) hi
    show (mkCell q ++ mkCells r)[(j + 1) * 3 + i]? = _
    rw [List.getElem?_append_right (by simp [mkCell]; omega), show (j + 1) * 3 + i - (mkCell q).length = j * 3 + i by simp [mkCell]; omega, h]
    rfl
theorem mkCells_take (qs : List (MK × Value)) (k : Nat) : (mkCells qs).take (k * 3) = mkCells (qs.take k) := by
  rcases Nat.lt_or_ge k qs.length with h | h
  · have e := congrArg mkCells (List.take_append_drop k qs)
    rw [mkCells_app] at e
    rw [← e, List.take_append_of_le_length (by rw [mkCells_len, List.length_take]; omega)]
    exact List.take_of_length_le (by rw [mkCells_len, List.length_take]; omega)
  · rw [List.take_of_length_le (by rw [mkCells_len]; omega), List.take_of_length_le h]
theorem mkCells_drop (qs : List (MK × Value)) (k : Nat) : (mkCells qs).drop (k * 3) = mkCells (qs.drop k) := by
  rcases Nat.lt_or_ge k qs.length with h | h
  · have e := congrArg mkCells (List.take_append_drop k qs)
    rw [mkCells_app] at e
    rw [← e, List.drop_append, List.drop_eq_nil_of_le (by rw [mkCells_len, List.length_take]; omega), List.nil_append, mkCells_len, List.length_take, show k * 3 - min k qs.length * 3 = 0 by omega, List.drop_zero]
  · rw [List.drop_eq_nil_of_le (by rw [mkCells_len]; omega), List.drop_eq_nil_of_le h]
    rfl
theorem mkCells_set : ∀ (qs : List (MK × Value)) (j i : Nat) (u : Value) (q : MK × Value) (hj : j < qs.length), i < 3 → mkCell q = (mkCell qs[j]).set i u → (mkCells qs).set (j * 3 + i) u = mkCells (qs.set j q)
  | [], j, _, _, _, hj, _, _ => absurd hj (by simp)
  | p :: r, 0, i, u, q, _, hi, h => by
    show (mkCell p ++ mkCells r).set (0 * 3 + i) u = mkCell q ++ mkCells r
    rw [Nat.zero_mul, Nat.zero_add, List.set_append_left _ _ (by simp [mkCell]; omega)]
    have h' : mkCell q = (mkCell p).set i u := h
    rw [h']
  | p :: r, j + 1, i, u, q, hj, hi, h => by
    show (mkCell p ++ mkCells r).set ((j + 1) * 3 + i) u = mkCell p ++ mkCells (r.set j q)
    rw [List.set_append_right _ _ (by simp [mkCell]; omega), show (j + 1) * 3 + i - (mkCell p).length = j * 3 + i by simp [mkCell]; omega, mkCells_set r j i u q (by simpa using hj) hi h]

/-- The Marks at block B: v is its row, qs what that holds. All that it has lies in blocks of M. -/
structure MarkQ (M : Nat → Prop) (w : World) (B : Nat) (v : Value) (qs : List (MK × Value)) : Prop where
  inM : M B
  lt : B < w.heap.size
  cell : w.cell? ⟨B, 0, none⟩ = some v
  free : w.frozen? ⟨B, 0, none⟩ = false
  row : w.ownsRow 0 63 3 v qs.length (mkCells qs)
  rowM : ∀ g, v.ownBlock = some g → M g ∧ g ≠ B
  attrs : ∀ q ∈ qs, AttrsP (fun b => M b ∧ b ≠ B ∧ some b ≠ v.ownBlock) w q.2 q.1.attrs
def MarksM (M : Nat → Prop) (w : World) (B : Nat) (S : List MK) : Prop := ∃ v qs, qs.map (·.1) = S ∧ MarkQ M w B v qs
theorem MarkQ.mono {M L : Nat → Prop} {w : World} {B : Nat} {v : Value} {qs : List (MK × Value)} (h : MarkQ M w B v qs) (hm : ∀ b, b < w.heap.size → M b → L b) : MarkQ L w B v qs :=
  ⟨hm B h.lt h.inM, h.lt, h.cell, h.free, h.row, fun g e => ⟨hm g (h.row.lt g e).2 (h.rowM g e).1, (h.rowM g e).2⟩, fun q hq => (h.attrs q hq).mono (fun b k hb => ⟨hm b hb k.1, k.2⟩)⟩
theorem MarkQ.on {M L : Nat → Prop} {w w' : World} {B : Nat} {v : Value} {qs : List (MK × Value)} (h : MarkQ M w B v qs) (ht : Turns L w w') (hm : ∀ b, b < w.heap.size → M b → ¬ L b) : MarkQ M w' B v qs := by
  have hk := ht.block B h.lt (hm B h.lt h.inM)
  refine ⟨h.inM, Nat.lt_of_lt_of_le h.lt ht.size, ?_, ?_, ?_, h.rowM, ?_⟩
  · rw [World.cell?_of_block (w := w) hk]; exact h.cell
  · rw [World.frozen?_of_block (w := w) hk]; exact h.free
  · exact ownsRow_kept h.row ht (fun g e => hm g (h.row.lt g e).2 (h.rowM g e).1)
  · exact fun q hq => (h.attrs q hq).kept (ht.kept (fun b hb k => hm b hb k.1))
theorem MarkQ.below {M : Nat → Prop} {w w' : World} {B : Nat} {v : Value} {qs : List (MK × Value)} (h : MarkQ M w B v qs) (hb : Below w.heap.size w w') : MarkQ M w' B v qs := h.on (L := fun _ => False) (.of_below hb) (fun _ _ _ k => k)
theorem MarksM.mono {M L : Nat → Prop} {w : World} {B : Nat} {S : List MK} (h : MarksM M w B S) (hm : ∀ b, b < w.heap.size → M b → L b) : MarksM L w B S := by
  obtain ⟨v, qs, e, h⟩ := h
  exact ⟨v, qs, e, h.mono hm⟩
theorem MarksM.on {M L : Nat → Prop} {w w' : World} {B : Nat} {S : List MK} (h : MarksM M w B S) (ht : Turns L w w') (hm : ∀ b, b < w.heap.size → M b → ¬ L b) : MarksM M w' B S := by
  obtain ⟨v, qs, e, h⟩ := h
  exact ⟨v, qs, e, h.on ht hm⟩
theorem MarksM.below {M : Nat → Prop} {w w' : World} {B : Nat} {S : List MK} (h : MarksM M w B S) (hb : Below w.heap.size w w') : MarksM M w' B S := by
  obtain ⟨v, qs, e, h⟩ := h
  exact ⟨v, qs, e, h.below hb⟩
theorem MarkQ.form {M : Nat → Prop} {w : World} {B : Nat} {v : Value} {qs : List (MK × Value)} (h : MarkQ M w B v qs) : (v = .slice none 0 0 ∧ qs = []) ∨ ∃ g cap, v = .slice (some ⟨g, 0, none⟩) qs.length cap := by
  rcases h.row.2 with ⟨e, h0⟩ | ⟨g, cap, _, e, _⟩
  · exact .inl ⟨e, List.eq_nil_of_length_eq_zero h0⟩
  · exact .inr ⟨g, cap, e⟩
/-- A cell of a mark. -/
theorem MarkQ.at {M : Nat → Prop} {w : World} {B g n cap : Nat} {qs : List (MK × Value)} (h : MarkQ M w B (.slice (some ⟨g, 0, none⟩) n cap) qs) (j i : Nat) (hj : j < qs.length) (hi : i < 3) : w.cell? ⟨g, j * 3 + i, none⟩ = (mkCell qs[j])[i]? := by
  have hr := h.row
  have hn : n = qs.length := by
    rcases hr.2 with ⟨e, _⟩ | ⟨_, _, _, e, _⟩
    · cases e
    · injection e
  subst hn
  rw [hr.cellAt (j * 3 + i) (by omega), mkCells_at qs j i hj hi]
/-- What can be read of the marks: the slice; each one's cells. -/
theorem MarkQ.reads {M : Nat → Prop} {w : World} {B : Nat} {v : Value} {qs : List (MK × Value)} (h : MarkQ M w B v qs) : ∃ p cap, v = .slice p qs.length cap ∧ ∀ j (hj : j < qs.length), ∃ g, p = some ⟨g, 0, none⟩ ∧ g < w.heap.size ∧ w.cell? ⟨g, j * 3, none⟩ = some (.int .i64 qs[j].1.node) ∧ w.cell? ⟨g, j * 3 + 1, none⟩ = some (.string ⟨qs[j].1.name.toArray⟩) ∧ w.cell? ⟨g, j * 3 + 2, none⟩ = some qs[j].2 := by
  rcases h.form with ⟨rfl, rfl⟩ | ⟨g, cap, rfl⟩
  · exact ⟨none, 0, rfl, fun j hj => absurd hj (by simp)⟩
  · exact ⟨_, cap, rfl, fun j hj => ⟨g, rfl, (h.row.lt g rfl).2, h.at j 0 hj (by omega), h.at j 1 hj (by omega), h.at j 2 hj (by omega)⟩⟩
end Go.Proofs.Ytbadckkcjjfnoaa
