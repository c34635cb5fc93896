/-
  The program's Site in memory (chapter 8): a row of open elements, three cells each; which numbers are open and how often a name is, by maps. No program is walked.
-/
import Derived.Test.YtmhjfbdldpehdaaDPKnown
import Derived.Test.YtmhjfbdldpehdaaMMark
import Derived.Maps.OwnSet
namespace Go.Proofs.Ytmhjfbdldpehdaa
open Go.RowKit Go.Maps

/-- An open element: its number, its space, its name. -/
structure EL where
  n : Int
  space : Int
  name : List UInt8
deriving DecidableEq, Inhabited
def EL.html (x : EL) : Bool := decide (x.n ≠ 0) && decide (x.space = 1)
def EL.is (x : EL) (l : List (List UInt8)) : Bool := x.html && l.any (fun s => s == x.name)
def elCell (x : EL) : List Value := [.int .i64 x.n, .int .i64 x.space, .string ⟨x.name.toArray⟩]
def elCells (R : List EL) : List Value := R.flatMap elCell
theorem elCells_len (R : List EL) : (elCells R).length = R.length * 3 := by
  induction R with
  | nil => rfl
  | cons q r ih => show (elCell q ++ elCells r).length = _; rw [List.length_append, ih, List.length_cons]; simp [elCell]; omega
theorem elCells_app (a b : List EL) : elCells (a ++ b) = elCells a ++ elCells b := by unfold elCells; rw [List.flatMap_append]
theorem elCells_snoc (R : List EL) (q : EL) : elCells (R ++ [q]) = elCells R ++ elCell q := by
  rw [elCells_app]
  simp [elCells]
theorem elCells_at : ∀ (R : List EL) (j i : Nat) (hj : j < R.length), i < 3 → (elCells R)[j * 3 + i]? = (elCell R[j])[i]?
  | [], j, _, hj, _ => absurd hj (by simp)
  | q :: r, 0, i, _, hi => by
    show (elCell q ++ elCells r)[0 * 3 + i]? = _
    rw [List.getElem?_append_left (by simp [elCell]; omega), Nat.zero_mul, Nat.zero_add]
    rfl
  | q :: r, j + 1, i, hj, hi => by
    have h := elCells_at r j i (by simpa using hj) hi
    show (elCell q ++ elCells r)[(j + 1) * 3 + i]? = _
    rw [List.getElem?_append_right (by simp [elCell]; omega), show (j + 1) * 3 + i - (elCell q).length = j * 3 + i by simp [elCell]; omega, h]
    rfl
theorem elCells_take (R : List EL) (k : Nat) : (elCells R).take (k * 3) = elCells (R.take k) := by
  rcases Nat.lt_or_ge k R.length with h | h
  · have e := congrArg elCells (List.take_append_drop k R)
    rw [elCells_app] at e
    rw [← e, List.take_append_of_le_length (by rw [elCells_len, List.length_take]; omega)]
    exact List.take_of_length_le (by rw [elCells_len, List.length_take]; omega)
  · rw [List.take_of_length_le (by rw [elCells_len]; omega), List.take_of_length_le h]
theorem elCells_drop (R : List EL) (k : Nat) : (elCells R).drop (k * 3) = elCells (R.drop k) := by
  rcases Nat.lt_or_ge k R.length with h | h
  · have e := congrArg elCells (List.take_append_drop k R)
    rw [elCells_app] at e
    rw [← e, List.drop_append, List.drop_eq_nil_of_le (by rw [elCells_len, List.length_take]; omega), List.nil_append, elCells_len, List.length_take, show k * 3 - min k R.length * 3 = 0 by omega, List.drop_zero]
  · rw [List.drop_eq_nil_of_le (by rw [elCells_len]; omega), List.drop_eq_nil_of_le h]
    rfl
theorem elCells_one (R : List EL) : ∀ u ∈ elCells R, u.oneCell' = true := by
  intro u hu
  obtain ⟨q, _, hu⟩ := List.mem_flatMap.1 hu
  simp only [elCell, List.mem_cons, List.not_mem_nil, or_false] at hu
  rcases hu with rfl | rfl | rfl <;> rfl

/-- Where a Site has what it has: its Doc, its Marks, its maps, its row; what the maps hold. -/
structure SA where
  D : Nat
  K : Nat
  mo : Nat
  mn : Nat
  v : Value
  MD : Nat → Prop
  MK : Nat → Prop
  DO : DataW Unit
  DN : DataW Unit
  no : Nat
  nn : Nat
def elOpen (R : List EL) (n : Int) : Bool := R.any fun x => x.n == n
def elNamed (R : List EL) (s : List UInt8) : Int := ((R.countP fun x => x.html && (x.name == s) : Nat) : Int)
/-- The Site at block B. All that it has lies in blocks of M. fO: what the one map says; fN: the other. -/
structure SiteQ (M : Nat → Prop) (w : World) (B : Nat) (a : SA) (S : List PN) (L : List MK) (R : List EL) (fO : Int → Bool) (fN : List UInt8 → Int) (fo : Bool) : Prop where
  inM : M B
  lt : B < w.heap.size
  c0 : w.cell? ⟨B, 0, none⟩ = some (.pointer (some ⟨a.D, 0, none⟩))
  c1 : w.cell? ⟨B, 1, none⟩ = some (.pointer (some ⟨a.K, 0, none⟩))
  c2 : w.cell? ⟨B, 2, none⟩ = some a.v
  c3 : w.cell? ⟨B, 3, none⟩ = some (.map (some a.mo))
  c4 : w.cell? ⟨B, 4, none⟩ = some (.map (some a.mn))
  c5 : w.cell? ⟨B, 5, none⟩ = some (.bool fo)
  free : ∀ i, w.frozen? ⟨B, i, none⟩ = false
  doc : DocM a.MD w a.D S
  marks : MarksM a.MK w a.K L
  row : w.ownsRow 0 129 3 a.v R.length (elCells R)
  om : w.ownsMap Try.prog 3 unitElem a.mo a.no a.DO
  opens : ∀ n : Int, Maps.has a.DO (.int .i64 n) = fO n
  nm : w.ownsMap Try.prog 9 (plainElem Try.prog 3) a.mn a.nn a.DN
  names : ∀ s : List UInt8, a.DN.atKey (.string s) (.lit (.int .i64 0)) = .lit (.int .i64 (fN s))
  dM : ∀ b, a.MD b → M b ∧ b < w.heap.size ∧ b ≠ B ∧ some b ≠ a.v.ownBlock ∧ b ≠ a.mo ∧ b ≠ a.mn ∧ ¬ a.MK b
  kM : ∀ b, a.MK b → M b ∧ b < w.heap.size ∧ b ≠ B ∧ some b ≠ a.v.ownBlock ∧ b ≠ a.mo ∧ b ≠ a.mn
  rM : ∀ g, a.v.ownBlock = some g → M g ∧ g ≠ B ∧ g ≠ a.mo ∧ g ≠ a.mn
  oM : M a.mo ∧ a.mo ≠ B ∧ a.mo ≠ a.mn
  nM : M a.mn ∧ a.mn ≠ B
variable {M : Nat → Prop} {w w' : World} {B : Nat} {a : SA} {S : List PN} {L : List MK} {R : List EL} {fO : Int → Bool} {fN : List UInt8 → Int} {fo : Bool}
theorem SiteQ.mono {N : Nat → Prop} (h : SiteQ M w B a S L R fO fN fo) (hm : ∀ b, b < w.heap.size → M b → N b) : SiteQ N w B a S L R fO fN fo :=
  { h with
    inM := hm B h.lt h.inM
    dM := fun b k => ⟨hm b (h.dM b k).2.1 (h.dM b k).1, (h.dM b k).2⟩
    kM := fun b k => ⟨hm b (h.kM b k).2.1 (h.kM b k).1, (h.kM b k).2⟩
    rM := fun g e => ⟨hm g (h.row.lt g e).2 (h.rM g e).1, (h.rM g e).2⟩
    oM := ⟨hm _ h.om.lt h.oM.1, h.oM.2⟩
    nM := ⟨hm _ h.nm.lt h.nM.1, h.nM.2⟩ }
theorem ownsMap_block {k : TypeId} {P : Value → Option (DataW Unit × List MemPlace)} {b n : Nat} {D : DataW Unit} (h : w.ownsMap Try.prog k P b n D) (e : w'.heap[b]? = w.heap[b]?) : w'.ownsMap Try.prog k P b n D := by
  obtain ⟨es, clock, hb, r⟩ := h
  exact ⟨es, clock, e.trans hb, r⟩
/-- What stands when other blocks turn. -/
theorem SiteQ.on {N : Nat → Prop} (h : SiteQ M w B a S L R fO fN fo) (ht : Turns N w w') (hm : ∀ b, b < w.heap.size → M b → ¬ N b) : SiteQ M w' B a S L R fO fN fo := by
  have hB := ht.block B h.lt (hm B h.lt h.inM)
  have hc : ∀ i, w'.cell? ⟨B, i, none⟩ = w.cell? ⟨B, i, none⟩ := fun i => World.cell?_of_block (w := w) hB
  exact { h with
    lt := Nat.lt_of_lt_of_le h.lt ht.size
    c0 := (hc 0).trans h.c0
    c1 := (hc 1).trans h.c1
    c2 := (hc 2).trans h.c2
    c3 := (hc 3).trans h.c3
    c4 := (hc 4).trans h.c4
    c5 := (hc 5).trans h.c5
    free := fun i => (World.frozen?_of_block (w := w) hB).trans (h.free i)
    doc := h.doc.on ht (fun b hb k => hm b hb (h.dM b k).1)
    marks := h.marks.on ht (fun b hb k => hm b hb (h.kM b k).1)
    row := ownsRow_kept h.row ht (fun g e => hm g (h.row.lt g e).2 (h.rM g e).1)
    om := ownsMap_block h.om (ht.block _ h.om.lt (hm _ h.om.lt h.oM.1))
    nm := ownsMap_block h.nm (ht.block _ h.nm.lt (hm _ h.nm.lt h.nM.1))
    dM := fun b k => ⟨(h.dM b k).1, Nat.lt_of_lt_of_le (h.dM b k).2.1 ht.size, (h.dM b k).2.2⟩
    kM := fun b k => ⟨(h.kM b k).1, Nat.lt_of_lt_of_le (h.kM b k).2.1 ht.size, (h.kM b k).2.2⟩ }
theorem SiteQ.below (h : SiteQ M w B a S L R fO fN fo) (hb : Below w.heap.size w w') : SiteQ M w' B a S L R fO fN fo := h.on (N := fun _ => False) (.of_below hb) (fun _ _ _ k => k)
/-- What the Doc does. -/
theorem SiteQ.docStep {S' : List PN} (h : SiteQ M w B a S L R fO fN fo) (hd : DocM (New a.MD w) w' a.D S') (ht : Turns a.MD w w') :
    SiteQ (New M w) w' B { a with MD := fun b => New a.MD w b ∧ b < w'.heap.size } S' L R fO fN fo ∧ Turns M w w' := by
  have hB := ht.block B h.lt (fun k => (h.dM B k).2.2.1 rfl)
  have hc : ∀ i, w'.cell? ⟨B, i, none⟩ = w.cell? ⟨B, i, none⟩ := fun i => World.cell?_of_block (w := w) hB
  have hg := fun g e => (h.row.lt g e).2
  refine ⟨?_, ht.mono (fun b _ k => (h.dM b k).1)⟩
  exact { h with
    inM := .inl h.inM
    lt := Nat.lt_of_lt_of_le h.lt ht.size
    c0 := (hc 0).trans h.c0
    c1 := (hc 1).trans h.c1
    c2 := (hc 2).trans h.c2
    c3 := (hc 3).trans h.c3
    c4 := (hc 4).trans h.c4
    c5 := (hc 5).trans h.c5
    free := fun i => (World.frozen?_of_block (w := w) hB).trans (h.free i)
    doc := hd.mono (fun b hb k => ⟨k, hb⟩)
    marks := h.marks.on ht (fun b _ k e => (h.dM b e).2.2.2.2.2.2 k)
    row := ownsRow_kept h.row ht (fun g e k => (h.dM g k).2.2.2.1 e.symm)
    om := ownsMap_block h.om (ht.block _ h.om.lt (fun k => (h.dM _ k).2.2.2.2.1 rfl))
    nm := ownsMap_block h.nm (ht.block _ h.nm.lt (fun k => (h.dM _ k).2.2.2.2.2.1 rfl))
    dM := by
      rintro b ⟨k | k, hb⟩
      · have := h.dM b k
        exact ⟨.inl this.1, hb, this.2.2⟩
      · refine ⟨.inr k, hb, ?_, ?_, ?_, ?_, ?_⟩
        · rintro rfl; have := h.lt; omega
        · intro e; have := hg b e.symm; omega
        · intro e; have e' : b = a.mo := e; have := h.om.lt; omega
        · intro e; have e' : b = a.mn := e; have := h.nm.lt; omega
        · intro e; have := (h.kM b e).2.1; omega
    kM := fun b k => ⟨.inl (h.kM b k).1, Nat.lt_of_lt_of_le (h.kM b k).2.1 ht.size, (h.kM b k).2.2⟩
    rM := fun g e => ⟨.inl (h.rM g e).1, (h.rM g e).2⟩
    oM := ⟨.inl h.oM.1, h.oM.2⟩
    nM := ⟨.inl h.nM.1, h.nM.2⟩ }
/-- What the Marks do. -/
theorem SiteQ.markStep {L' : List MK} (h : SiteQ M w B a S L R fO fN fo) (hd : MarksM (New a.MK w) w' a.K L') (ht : Turns a.MK w w') :
    SiteQ (New M w) w' B { a with MK := fun b => New a.MK w b ∧ b < w'.heap.size } S L' R fO fN fo ∧ Turns M w w' := by
  have hB := ht.block B h.lt (fun k => (h.kM B k).2.2.1 rfl)
  have hc : ∀ i, w'.cell? ⟨B, i, none⟩ = w.cell? ⟨B, i, none⟩ := fun i => World.cell?_of_block (w := w) hB
  have hg := fun g e => (h.row.lt g e).2
  refine ⟨?_, ht.mono (fun b _ k => (h.kM b k).1)⟩
  exact { h with
    inM := .inl h.inM
    lt := Nat.lt_of_lt_of_le h.lt ht.size
    c0 := (hc 0).trans h.c0
    c1 := (hc 1).trans h.c1
    c2 := (hc 2).trans h.c2
    c3 := (hc 3).trans h.c3
    c4 := (hc 4).trans h.c4
    c5 := (hc 5).trans h.c5
    free := fun i => (World.frozen?_of_block (w := w) hB).trans (h.free i)
    marks := hd.mono (fun b hb k => ⟨k, hb⟩)
    doc := h.doc.on ht (fun b _ k e => (h.dM b k).2.2.2.2.2.2 e)
    row := ownsRow_kept h.row ht (fun g e k => (h.kM g k).2.2.2.1 e.symm)
    om := ownsMap_block h.om (ht.block _ h.om.lt (fun k => (h.kM _ k).2.2.2.2.1 rfl))
    nm := ownsMap_block h.nm (ht.block _ h.nm.lt (fun k => (h.kM _ k).2.2.2.2.2 rfl))
    dM := by
      intro b k
      have := h.dM b k
      refine ⟨.inl this.1, Nat.lt_of_lt_of_le this.2.1 ht.size, this.2.2.1, this.2.2.2.1, this.2.2.2.2.1, this.2.2.2.2.2.1, ?_⟩
      rintro ⟨e | e, _⟩
      · exact this.2.2.2.2.2.2 e
      · omega
    kM := by
      rintro b ⟨k | k, hb⟩
      · have := h.kM b k
        exact ⟨.inl this.1, hb, this.2.2⟩
      · refine ⟨.inr k, hb, ?_, ?_, ?_, ?_⟩
        · rintro rfl; have := h.lt; omega
        · intro e; have := hg b e.symm; omega
        · intro e; have e' : b = a.mo := e; have := h.om.lt; omega
        · intro e; have e' : b = a.mn := e; have := h.nm.lt; omega
    rM := fun g e => ⟨.inl (h.rM g e).1, (h.rM g e).2⟩
    oM := ⟨.inl h.oM.1, h.oM.2⟩
    nM := ⟨.inl h.nM.1, h.nM.2⟩ }
/-- The map of numbers turns. -/
theorem SiteQ.openStep {D' : DataW Unit} {n' : Nat} {fO' : Int → Bool} (h : SiteQ M w B a S L R fO fN fo) (hd : w'.ownsMap Try.prog 3 unitElem a.mo n' D') (hg : w.grownBy w' (some a.mo)) (hf : ∀ n : Int, Maps.has D' (.int .i64 n) = fO' n) :
    SiteQ M w' B { a with DO := D', no := n' } S L R fO' fN fo ∧ Turns M w w' := by
  have ht : Turns (fun b => b = a.mo) w w' := .of_grown hg (fun g e => by injection e with e; exact e.symm)
  have hB := ht.block B h.lt (fun k => h.oM.2.1 k.symm)
  have hc : ∀ i, w'.cell? ⟨B, i, none⟩ = w.cell? ⟨B, i, none⟩ := fun i => World.cell?_of_block (w := w) hB
  refine ⟨?_, ht.mono (fun b _ k => by rw [k]; exact h.oM.1)⟩
  exact { h with
    lt := Nat.lt_of_lt_of_le h.lt ht.size
    c0 := (hc 0).trans h.c0
    c1 := (hc 1).trans h.c1
    c2 := (hc 2).trans h.c2
    c3 := (hc 3).trans h.c3
    c4 := (hc 4).trans h.c4
    c5 := (hc 5).trans h.c5
    free := fun i => (World.frozen?_of_block (w := w) hB).trans (h.free i)
    doc := h.doc.on ht (fun b _ k e => (h.dM b k).2.2.2.2.1 e)
    marks := h.marks.on ht (fun b _ k e => (h.kM b k).2.2.2.2.1 e)
    row := ownsRow_kept h.row ht (fun g e k => (h.rM g e).2.2.1 k)
    om := hd
    opens := hf
    nm := ownsMap_block h.nm (ht.block _ h.nm.lt (fun k => h.oM.2.2 k.symm))
    dM := fun b k => ⟨(h.dM b k).1, Nat.lt_of_lt_of_le (h.dM b k).2.1 ht.size, (h.dM b k).2.2⟩
    kM := fun b k => ⟨(h.kM b k).1, Nat.lt_of_lt_of_le (h.kM b k).2.1 ht.size, (h.kM b k).2.2⟩ }
/-- The map of names turns. -/
theorem SiteQ.nameStep {D' : DataW Unit} {n' : Nat} {fN' : List UInt8 → Int} (h : SiteQ M w B a S L R fO fN fo) (hd : w'.ownsMap Try.prog 9 (plainElem Try.prog 3) a.mn n' D') (hg : w.grownBy w' (some a.mn)) (hf : ∀ s : List UInt8, D'.atKey (.string s) (.lit (.int .i64 0)) = .lit (.int .i64 (fN' s))) :
    SiteQ M w' B { a with DN := D', nn := n' } S L R fO fN' fo ∧ Turns M w w' := by
  have ht : Turns (fun b => b = a.mn) w w' := .of_grown hg (fun g e => by injection e with e; exact e.symm)
  have hB := ht.block B h.lt (fun k => h.nM.2 k.symm)
  have hc : ∀ i, w'.cell? ⟨B, i, none⟩ = w.cell? ⟨B, i, none⟩ := fun i => World.cell?_of_block (w := w) hB
  refine ⟨?_, ht.mono (fun b _ k => by rw [k]; exact h.nM.1)⟩
  exact { h with
    lt := Nat.lt_of_lt_of_le h.lt ht.size
    c0 := (hc 0).trans h.c0
    c1 := (hc 1).trans h.c1
    c2 := (hc 2).trans h.c2
    c3 := (hc 3).trans h.c3
    c4 := (hc 4).trans h.c4
    c5 := (hc 5).trans h.c5
    free := fun i => (World.frozen?_of_block (w := w) hB).trans (h.free i)
    doc := h.doc.on ht (fun b _ k e => (h.dM b k).2.2.2.2.2.1 e)
    marks := h.marks.on ht (fun b _ k e => (h.kM b k).2.2.2.2.2 e)
    row := ownsRow_kept h.row ht (fun g e k => (h.rM g e).2.2.2 k)
    om := ownsMap_block h.om (ht.block _ h.om.lt (fun k => h.oM.2.2 k))
    nm := hd
    names := hf
    dM := fun b k => ⟨(h.dM b k).1, Nat.lt_of_lt_of_le (h.dM b k).2.1 ht.size, (h.dM b k).2.2⟩
    kM := fun b k => ⟨(h.kM b k).1, Nat.lt_of_lt_of_le (h.kM b k).2.1 ht.size, (h.kM b k).2.2⟩ }
/-- The row turns, and the Site's own cell is set. -/
theorem SiteQ.rowStep {w1 : World} {v' : Value} {R' : List EL} (h : SiteQ M w B a S L R fO fN fo) (hg : w.grownBy w1 a.v.ownBlock) (hr : w1.ownsRow 0 129 3 v' R'.length (elCells R')) (hat : ∀ g, v'.ownBlock = some g → a.v.ownBlock = some g ∨ w.heap.size ≤ g) :
    SiteQ (New M w) (w1.setCell ⟨B, 2, none⟩ v') B { a with v := v' } S L R' fO fN fo ∧ Turns M w (w1.setCell ⟨B, 2, none⟩ v') := by
  have hT : Turns (fun b => some b = a.v.ownBlock) w w1 := .of_grown hg (fun x e => e.symm)
  have hT2 : Turns (fun b => some b = a.v.ownBlock ∨ b = B) w (w1.setCell ⟨B, 2, none⟩ v') := (hT.mono (L := fun b => some b = a.v.ownBlock ∨ b = B) (fun b _ e => .inl e)).setCell (.inl (.inr rfl)) 2 v'
  have hBv : some B ≠ a.v.ownBlock := fun e => (h.rM B e.symm).2.1 rfl
  have hB1 : w1.heap[B]? = w.heap[B]? := hT.block B h.lt hBv
  have hc : ∀ i, i ≠ 2 → (w1.setCell ⟨B, 2, none⟩ v').cell? ⟨B, i, none⟩ = w.cell? ⟨B, i, none⟩ := fun i hi => by
    rw [World.cell?_setCell_other _ _ _ _ (by intro e; injection e with _ e; exact hi e.symm)]
    exact World.cell?_of_block (w := w) hB1
  have hBv1 : ∀ g, v'.ownBlock = some g → New M w g ∧ g ≠ B ∧ g ≠ a.mo ∧ g ≠ a.mn := by
    intro g e
    rcases hat g e with k | k
    · have := h.rM g k
      exact ⟨.inl this.1, this.2⟩
    · refine ⟨.inr k, ?_, ?_, ?_⟩
      · rintro rfl; have := h.lt; omega
      · rintro rfl; have := h.om.lt; omega
      · rintro rfl; have := h.nm.lt; omega
  have hv1 : ∀ b, b < w.heap.size → (some b ≠ a.v.ownBlock) → some b ≠ v'.ownBlock := by
    intro b hb hne e
    rcases hat b e.symm with k | k
    · exact hne k.symm
    · omega
  have hsz := hT2.size
  refine ⟨?_, hT2.mono (fun b _ k => k.elim (fun e => (h.rM b e.symm).1) (fun e => by rw [e]; exact h.inM))⟩
  exact { h with
    inM := .inl h.inM
    lt := Nat.lt_of_lt_of_le h.lt hsz
    c0 := (hc 0 (by omega)).trans h.c0
    c1 := (hc 1 (by omega)).trans h.c1
    c2 := World.cell?_setCell_same _ _ (u := a.v) _ (by rw [World.cell?_of_block (w := w) hB1]; exact h.c2)
    c3 := (hc 3 (by omega)).trans h.c3
    c4 := (hc 4 (by omega)).trans h.c4
    c5 := (hc 5 (by omega)).trans h.c5
    free := fun i => by rw [World.frozen?_setCell, World.frozen?_of_block (w := w) hB1]; exact h.free i
    doc := h.doc.on hT2 (fun b _ k e => e.elim (h.dM b k).2.2.2.1 (h.dM b k).2.2.1)
    marks := h.marks.on hT2 (fun b _ k e => e.elim (h.kM b k).2.2.2.1 (h.kM b k).2.2.1)
    row := by
      refine hr.kept (row := some B) ⟨rfl, rfl, rfl, by simp, fun k _ hk => heap_setCell_other w1 ⟨B, 2, none⟩ k v' (by rintro rfl; exact hk rfl)⟩ ?_
      cases hv : v'.ownBlock with
      | none => exact .inl rfl
      | some g => exact .inr (by intro e; injection e with e; exact (hBv1 g hv).2.1 e)
    om := ownsMap_block h.om (hT2.block _ h.om.lt (fun k => k.elim (fun e => (h.rM _ e.symm).2.2.1 rfl) h.oM.2.1))
    nm := ownsMap_block h.nm (hT2.block _ h.nm.lt (fun k => k.elim (fun e => (h.rM _ e.symm).2.2.2 rfl) h.nM.2))
    dM := fun b k => ⟨.inl (h.dM b k).1, Nat.lt_of_lt_of_le (h.dM b k).2.1 hsz, (h.dM b k).2.2.1, hv1 b (h.dM b k).2.1 (h.dM b k).2.2.2.1, (h.dM b k).2.2.2.2⟩
    kM := fun b k => ⟨.inl (h.kM b k).1, Nat.lt_of_lt_of_le (h.kM b k).2.1 hsz, (h.kM b k).2.2.1, hv1 b (h.kM b k).2.1 (h.kM b k).2.2.2.1, (h.kM b k).2.2.2.2⟩
    rM := hBv1
    oM := ⟨.inl h.oM.1, h.oM.2⟩
    nM := ⟨.inl h.nM.1, h.nM.2⟩ }
/-- Fostering is set. -/
theorem SiteQ.fosterStep (h : SiteQ M w B a S L R fO fN fo) (f : Bool) : SiteQ M (w.setCell ⟨B, 5, none⟩ (.bool f)) B a S L R fO fN f ∧ Turns M w (w.setCell ⟨B, 5, none⟩ (.bool f)) := by
  have hT : Turns (fun b => b = B) w (w.setCell ⟨B, 5, none⟩ (.bool f)) := (Turns.refl (fun b => b = B) w).setCell (.inl rfl) 5 _
  have hc : ∀ i, i ≠ 5 → (w.setCell ⟨B, 5, none⟩ (.bool f)).cell? ⟨B, i, none⟩ = w.cell? ⟨B, i, none⟩ := fun i hi => World.cell?_setCell_other _ _ _ _ (by intro e; injection e with _ e; exact hi e.symm)
  refine ⟨?_, hT.mono (fun b _ e => by rw [e]; exact h.inM)⟩
  exact { h with
    lt := by simpa using h.lt
    c0 := (hc 0 (by omega)).trans h.c0
    c1 := (hc 1 (by omega)).trans h.c1
    c2 := (hc 2 (by omega)).trans h.c2
    c3 := (hc 3 (by omega)).trans h.c3
    c4 := (hc 4 (by omega)).trans h.c4
    c5 := World.cell?_setCell_same _ _ (u := .bool fo) _ h.c5
    free := fun i => by rw [World.frozen?_setCell]; exact h.free i
    doc := h.doc.on hT (fun b _ k e => (h.dM b k).2.2.1 e)
    marks := h.marks.on hT (fun b _ k e => (h.kM b k).2.2.1 e)
    row := ownsRow_kept h.row hT (fun g e k => (h.rM g e).2.1 k)
    om := ownsMap_block h.om (hT.block _ h.om.lt h.oM.2.1)
    nm := ownsMap_block h.nm (hT.block _ h.nm.lt h.nM.2)
    dM := fun b k => ⟨(h.dM b k).1, Nat.lt_of_lt_of_le (h.dM b k).2.1 hT.size, (h.dM b k).2.2⟩
    kM := fun b k => ⟨(h.kM b k).1, Nat.lt_of_lt_of_le (h.kM b k).2.1 hT.size, (h.kM b k).2.2⟩ }
theorem SiteQ.form (h : SiteQ M w B a S L R fO fN fo) : (a.v = .slice none 0 0 ∧ R = []) ∨ ∃ g cap, a.v = .slice (some ⟨g, 0, none⟩) R.length cap := by
  rcases h.row.2 with ⟨e, h0⟩ | ⟨g, cap, _, e, _⟩
  · exact .inl ⟨e, List.eq_nil_of_length_eq_zero h0⟩
  · exact .inr ⟨g, cap, e⟩
/-- A cell of an open element. -/
theorem SiteQ.at {g cap n : Nat} (h : SiteQ M w B a S L R fO fN fo) (e : a.v = .slice (some ⟨g, 0, none⟩) n cap) (j i : Nat) (hj : j < R.length) (hi : i < 3) : w.cell? ⟨g, j * 3 + i, none⟩ = (elCell R[j])[i]? := by
  have hr := h.row
  rw [e] at hr
  have hn : n = R.length := by
    rcases hr.2 with ⟨e, _⟩ | ⟨_, _, _, e, _⟩
    · cases e
    · injection e
  subst hn
  rw [hr.cellAt (j * 3 + i) (by omega), elCells_at R j i hj hi]
/-- The Site at block B: its nodes, its marks, its row, fostering. T: no more entries than that were made. -/
def SiteM (M : Nat → Prop) (w : World) (B : Nat) (S : List PN) (L : List MK) (R : List EL) (fo : Bool) (T : Nat) : Prop := ∃ a, SiteQ M w B a S L R (elOpen R) (elNamed R) fo ∧ a.no ≤ T ∧ a.nn ≤ T
theorem SiteM.mono {N : Nat → Prop} {T : Nat} (h : SiteM M w B S L R fo T) (hm : ∀ b, b < w.heap.size → M b → N b) : SiteM N w B S L R fo T := by
  obtain ⟨a, h, k⟩ := h
  exact ⟨a, h.mono hm, k⟩
theorem SiteM.on {N : Nat → Prop} {T : Nat} (h : SiteM M w B S L R fo T) (ht : Turns N w w') (hm : ∀ b, b < w.heap.size → M b → ¬ N b) : SiteM M w' B S L R fo T := by
  obtain ⟨a, h, k⟩ := h
  exact ⟨a, h.on ht hm, k⟩
theorem SiteM.below {T : Nat} (h : SiteM M w B S L R fo T) (hb : Below w.heap.size w w') : SiteM M w' B S L R fo T := by
  obtain ⟨a, h, k⟩ := h
  exact ⟨a, h.below hb, k⟩
theorem elOpen_app (A C : List EL) (n : Int) : elOpen (A ++ C) n = (elOpen A n || elOpen C n) := by unfold elOpen; rw [List.any_append]
theorem elNamed_app (A C : List EL) (s : List UInt8) : elNamed (A ++ C) s = elNamed A s + elNamed C s := by unfold elNamed; rw [List.countP_append]; simp
theorem elNamed_cons (x : EL) (C : List EL) (s : List UInt8) : elNamed (x :: C) s = (if (x.html && (x.name == s)) = true then 1 else 0) + elNamed C s := by
  unfold elNamed
  rw [List.countP_cons]
  split <;> simp <;> omega
theorem elOpen_cons (x : EL) (C : List EL) (n : Int) : elOpen (x :: C) n = ((x.n == n) || elOpen C n) := rfl
theorem elNamed_le (R : List EL) (s : List UInt8) : 0 ≤ elNamed R s ∧ elNamed R s ≤ R.length := by
  unfold elNamed
  have := List.countP_le_length (p := fun x : EL => x.html && (x.name == s)) (l := R)
  omega
end Go.Proofs.Ytmhjfbdldpehdaa
