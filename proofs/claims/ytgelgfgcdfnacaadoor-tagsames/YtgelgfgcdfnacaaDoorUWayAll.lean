/-
  A scope through which the run jumps to several labels; the memory of the program's Read; what its map of names holds. No program is walked.
  The frame of the program's Read at its labels, the relations at the labels, the measure. No program is walked.
  The ways of the program's Read from its labels end and cut.
  The ways of the program's Read from its labels between and pass, given those from keep.
  The ways of the program's Read from its label pass: to the labels cut, end, pass again.
  The ways of the program's Read from its label pass: an attribute's name.
  The way of the program's Read from its label keep.
  The walk of the program's Read, where a tag begins. Any text of at most 2^28 bytes; the library's number MaxLen and the table of package refs are there.
-/
import Derived.Test.YtgelgfgcdfnacaaDoorUProgAll
import Derived.ScopeJumps
import Derived.WalkMore
import Derived.Maps.Own
import Derived.Maps.OwnOps
import Derived.Maps.Views
import Derived.Test.YtgelgfgcdfnacaaDoorRProgAll
namespace Go.Proofs.YtgelgfgcdfnacaaDoor
open Go.RowKit Go.Maps

/-- As Q; by a goto to label l: J l. -/
def jumps (J : Nat → Act → World → Prop) (Q : Exit → Act → World → Prop) : Exit → Act → World → Prop
  | .goto l, a, w => J l a w
  | e, a, w => Q e a w
theorem wp_scope_many {P : Program} {a : Act} {w : World} {Q : Exit → Act → World → Prop} {c : Code} (J : Nat → Nat → Act → World → Prop)
    (first : c.wp P (jumps (fun l a w => ∃ n, J l n a w) Q) a w)
    (pass : ∀ l n a w, J l n a w → ∃ rest, findLabel c l = some rest ∧ rest.wp P (jumps (fun l' a' w' => ∃ n', n' < n ∧ J l' n' a' w') Q) a w) : (Code.scope c).wp P Q a w := by
  intro b k cs
  have key : ∀ n l a w, J l n a w → ∃ rest, findLabel c l = some rest ∧ ∃ e a' w', Q e a' w' ∧ Arrives P (lone (b.at a (.code rest :: .inScope c :: k)) cs w) b k cs e a' w' := by
    intro n
    induction n using Nat.strongRecOn with
    | _ n ih =>
      intro l a w hJ
      obtain ⟨rest, hf, hw⟩ := pass l n a w hJ
      refine ⟨rest, hf, ?_⟩
      obtain ⟨e, a₁, w₁, hq, harr⟩ := hw b (.inScope c :: k) cs
      cases e with
      | normal => exact ⟨.normal, a₁, w₁, hq, Steps.trans harr (.one step_inScope)⟩
      | exit id => exact ⟨.exit id, a₁, w₁, hq, fun k' hk => harr k' (by simp [exitTo, hk])⟩
      | goto l' =>
        obtain ⟨n', hlt, hJ'⟩ := hq
        obtain ⟨rest₂, hf₂, e₂, a₂, w₂, hq₂, harr₂⟩ := ih n' hlt l' a₁ w₁ hJ'
        have hg : gotoIn l' (.inScope c :: k) = some (.code rest₂ :: .inScope c :: k) := by simp [gotoIn, hf₂]
        exact ⟨e₂, a₂, w₂, hq₂, .of_steps (harr _ hg) harr₂⟩
      | ret => exact ⟨_, a₁, w₁, hq, harr⟩
      | panic ch => exact ⟨_, a₁, w₁, hq, harr⟩
      | outgrown => exact ⟨_, a₁, w₁, hq, harr⟩
  obtain ⟨e, a₁, w₁, hq, harr⟩ := first b (.inScope c :: k) cs
  cases e with
  | normal => exact ⟨.normal, a₁, w₁, hq, .head step_scope (Steps.trans harr (.one step_inScope))⟩
  | exit id => exact ⟨.exit id, a₁, w₁, hq, fun k' hk => .head step_scope (harr k' (by simp [exitTo, hk]))⟩
  | goto l' =>
    obtain ⟨n, hJ⟩ := hq
    obtain ⟨rest₂, hf₂, e₂, a₂, w₂, hq₂, harr₂⟩ := key n l' a₁ w₁ hJ
    have hg : gotoIn l' (.inScope c :: k) = some (.code rest₂ :: .inScope c :: k) := by simp [gotoIn, hf₂]
    exact ⟨e₂, a₂, w₂, hq₂, .of_steps (.head step_scope (harr _ hg)) harr₂⟩
  | ret => exact ⟨_, a₁, w₁, hq, .of_steps (.one step_scope) harr⟩
  | panic ch => exact ⟨_, a₁, w₁, hq, .of_steps (.one step_scope) harr⟩
  | outgrown => exact ⟨_, a₁, w₁, hq, .of_steps (.one step_scope) harr⟩

/-- What the map of names holds: how often each was read, at most m; of a start: 0 just if no attribute has it. -/
def Seen (st : Bool) (D : DataW Unit) (rs : List (List UInt8 × List UInt8)) (m : Nat) : Prop :=
  IsMap D ∧ ∀ n : List UInt8, ∃ c : Nat, D.atKey (.string n) (.lit (.int .i64 0)) = .lit (.int .i64 (c : Int)) ∧ c ≤ m ∧ (st = true → (c = 0 ↔ Plain.hasName rs n = false))
theorem Seen.start (st : Bool) : Seen st (.map []) [] 0 := ⟨⟨[], rfl⟩, fun _ => ⟨0, rfl, Nat.le_refl _, fun _ => ⟨fun _ => rfl, fun _ => rfl⟩⟩⟩
theorem hasName_add (rs : List (List UInt8 × List UInt8)) (a : List UInt8 × List UInt8) (n : List UInt8) : Plain.hasName (rs ++ [a]) n = (Plain.hasName rs n || a.1 == n) := by
  unfold Plain.hasName
  rw [List.any_append]
  simp
theorem Seen.next {st : Bool} {D : DataW Unit} {rs : List (List UInt8 × List UInt8)} {m : Nat} (h : Seen st D rs m) (a : List UInt8 × List UInt8) (c : Nat) (hc : D.atKey (.string a.1) (.lit (.int .i64 0)) = .lit (.int .i64 (c : Int))) :
    Seen st (D.put (.string a.1) (.lit (.int .i64 ((c + 1 : Nat) : Int)))) (Plain.addAttr st rs a) (m + 1) := by
  obtain ⟨hm, hn⟩ := h
  refine ⟨hm.put _ _, fun n => ?_⟩
  by_cases e : n = a.1
  · subst e
    obtain ⟨c', hc', hl, _⟩ := hn a.1
    rw [hc] at hc'
    have : (c : Int) = (c' : Int) := by injection hc' with q; injection q
    refine ⟨c + 1, atKey_put_same hm (show WideAt.IsKeyLit (.string a.1) from trivial) _ _, by omega, fun hs => ⟨fun q => by omega, fun q => ?_⟩⟩
    subst hs
    exfalso
    unfold Plain.addAttr at q
    cases hh : Plain.hasName rs a.1
    · rw [hh, if_pos (by rfl), hasName_add, hh] at q
      simp at q
    · rw [hh, if_neg (by decide), hh] at q
      cases q
  · obtain ⟨c', hc', hl, hz⟩ := hn n
    refine ⟨c', by rw [atKey_put_other (fun q => e (by injection q)), hc'], by omega, fun hs => ?_⟩
    rw [hz hs]
    subst hs
    unfold Plain.addAttr
    split
    · rw [hasName_add, show (a.1 == n) = false by simpa using fun q => e q.symm, Bool.or_false]
    · exact Iff.rfl
theorem Seen.found {D : DataW Unit} {rs : List (List UInt8 × List UInt8)} {m : Nat} (h : Seen true D rs m) (n : List UInt8) (c : Nat) (hc : D.atKey (.string n) (.lit (.int .i64 0)) = .lit (.int .i64 (c : Int))) : c = 0 ↔ Plain.hasName rs n = false := by
  obtain ⟨c', hc', _, hz⟩ := h.2 n
  rw [hc] at hc'
  have : (c : Int) = (c' : Int) := by injection hc' with q; injection q
  rw [← hz rfl]
  omega
theorem grown_set (W : World) (p : Addr) (u : Value) : W.grownBy (W.setCell p u) (some p.block) :=
  ⟨rfl, rfl, rfl, by simp [World.setCell], fun k _ hk => Below.heap_setCell _ _ _ k (fun e => hk (by rw [e]))⟩
theorem grown_below {W W' : World} (hb : Below W.heap.size W W') : W.grownBy W' none := ⟨hb.os, hb.tape, hb.output, hb.size, fun i hi _ => hb.block i hi⟩
/-- What the program's Read holds in memory: the result's block (w's next), the attribute's, the map's, the token's block b, the row of attributes. -/
structure ReadM (w : World) (b : Nat) (K : Int) (N : ByteArray) (v : Value) (rs : List (List UInt8 × List UInt8)) (an av : ByteArray) (m : Nat) (D : DataW Unit) (W : World) : Prop where
  lt : b < W.heap.size
  le : w.heap.size + 3 ≤ b
  r : ∀ j, W.cell? ⟨w.heap.size, j, none⟩ = (#[.int .i64 0, .string ⟨#[]⟩, .slice none 0 0, .bool false, .string ⟨#[]⟩] : Array Value)[j]?
  fr : ∀ j, W.frozen? ⟨w.heap.size, j, none⟩ = false
  x : ∀ j, W.cell? ⟨w.heap.size + 1, j, none⟩ = (#[.string an, .string av] : Array Value)[j]?
  fx : ∀ j, W.frozen? ⟨w.heap.size + 1, j, none⟩ = false
  mp : W.ownsMap Tryd.prog 9 (plainElem Tryd.prog 3) (w.heap.size + 2) m D
  c : ∀ j, W.cell? ⟨b, j, none⟩ = (#[.int .i64 K, .string N, v, .bool false, .string ⟨#[]⟩] : Array Value)[j]?
  fc : ∀ j, W.frozen? ⟨b, j, none⟩ = false
  row : W.ownsRow (b + 1) 49 2 v rs.length (attrCells rs)
  below : Below w.heap.size w W
section
variable {w W W' : World} {b : Nat} {K : Int} {N : ByteArray} {v : Value} {rs : List (List UInt8 × List UInt8)} {an av : ByteArray} {m : Nat} {D : DataW Unit}
/-- New memory beside it. -/
theorem ReadM.on (h : ReadM w b K N v rs an av m D W) (hb : Below W.heap.size W W') : ReadM w b K N v rs an av m D W' := by
  have h1 := h.lt
  have h2 := h.le
  have hg := grown_below hb
  exact ⟨Nat.lt_of_lt_of_le h1 hb.size, h2, fun j => (hb.cell (p := ⟨w.heap.size, j, none⟩) (by simp; omega)).trans (h.r j), fun j => (hb.frozen (p := ⟨w.heap.size, j, none⟩) (by simp; omega)).trans (h.fr j),
    fun j => (hb.cell (p := ⟨w.heap.size + 1, j, none⟩) (by simp; omega)).trans (h.x j), fun j => (hb.frozen (p := ⟨w.heap.size + 1, j, none⟩) (by simp; omega)).trans (h.fx j), h.mp.kept hg (by simp),
    fun j => (hb.cell (p := ⟨b, j, none⟩) h1).trans (h.c j), fun j => (hb.frozen (p := ⟨b, j, none⟩) h1).trans (h.fc j), h.row.kept (row := none) hg (by cases v.ownBlock <;> simp), h.below.trans (hb.mono h.below.size)⟩
theorem ReadM.drewN (h : ReadM w b K N v rs an av m D W) (n : Nat) : ReadM w b K N v rs an av m D (W.drewN n) := h.on ⟨rfl, rfl, rfl, Nat.le_refl _, fun _ _ => rfl⟩
theorem cells2 {W : World} {p : Nat} {u0 u1 : Value} (h : ∀ j, W.cell? ⟨p, j, none⟩ = (#[u0, u1] : Array Value)[j]?) (i : Nat) (hi : i < 2) (u : Value) (j : Nat) : (W.setCell ⟨p, i, none⟩ u).cell? ⟨p, j, none⟩ = ((#[u0, u1] : Array Value).setIfInBounds i u)[j]? := by
  by_cases e : i = j
  · subst e
    rw [World.cell?_setCell_same W _ u ((h i).trans (Array.getElem?_eq_getElem (by simpa using hi))), Array.getElem?_setIfInBounds_self_of_lt (by simpa using hi)]
  · rw [World.cell?_setCell_other W _ _ u (fun q => e (by injection q)), h, Array.getElem?_setIfInBounds_ne e]
/-- A cell of the attribute's block set: everything else stands. -/
theorem ReadM.set (h : ReadM w b K N v rs an av m D W) (i : Nat) (u : Value) (an' av' : ByteArray) (hx : ∀ j, (W.setCell ⟨w.heap.size + 1, i, none⟩ u).cell? ⟨w.heap.size + 1, j, none⟩ = (#[.string an', .string av'] : Array Value)[j]?) : ReadM w b K N v rs an' av' m D (W.setCell ⟨w.heap.size + 1, i, none⟩ u) := by
  have h1 := h.lt
  have h2 := h.le
  exact ⟨by simpa using h1, h2, fun j => (World.cell?_setCell_other W _ _ _ (fun q => by injection q with q1; omega)).trans (h.r j), fun j => by rw [World.frozen?_setCell]; exact h.fr j,
    hx, fun j => by rw [World.frozen?_setCell]; exact h.fx j, h.mp.kept (grown_set W _ u) (by simp),
    fun j => (World.cell?_setCell_other W _ _ _ (fun q => by injection q with q1; omega)).trans (h.c j), fun j => by rw [World.frozen?_setCell]; exact h.fc j, ownsRow_setCell_below h.row (by simp; omega) _, h.below.setCell (by simp) _⟩
theorem ReadM.name (h : ReadM w b K N v rs an av m D W) (an' : ByteArray) : ReadM w b K N v rs an' av m D (W.setCell ⟨w.heap.size + 1, 0, none⟩ (.string an')) := h.set 0 _ an' av (cells2 h.x 0 (by omega) _)
theorem ReadM.val (h : ReadM w b K N v rs an av m D W) (av' : ByteArray) : ReadM w b K N v rs an av' m D (W.setCell ⟨w.heap.size + 1, 1, none⟩ (.string av')) := h.set 1 _ an av' (cells2 h.x 1 (by omega) _)
/-- The map written. -/
theorem ReadM.upd {m' : Nat} {D' : DataW Unit} (h : ReadM w b K N v rs an av m D W) (hg : W.grownBy W' (some (w.heap.size + 2))) (hm : W'.ownsMap Tryd.prog 9 (plainElem Tryd.prog 3) (w.heap.size + 2) m' D') : ReadM w b K N v rs an av m' D' W' := by
  have h1 := h.lt
  have h2 := h.le
  have hz := hg.size
  have n0 : some w.heap.size ≠ some (w.heap.size + 2) := by simp
  have n1 : some (w.heap.size + 1) ≠ some (w.heap.size + 2) := by simp
  have n2 : some b ≠ some (w.heap.size + 2) := by simp; omega
  refine ⟨by omega, h2, fun j => (hg.cell_far ⟨w.heap.size, j, none⟩ (by simp; omega) n0).trans (h.r j), fun j => (hg.frozen_far ⟨w.heap.size, j, none⟩ (by simp; omega) n0).trans (h.fr j),
    fun j => (hg.cell_far ⟨w.heap.size + 1, j, none⟩ (by simp; omega) n1).trans (h.x j), fun j => (hg.frozen_far ⟨w.heap.size + 1, j, none⟩ (by simp; omega) n1).trans (h.fx j), hm,
    fun j => (hg.cell_far ⟨b, j, none⟩ h1 n2).trans (h.c j), fun j => (hg.frozen_far ⟨b, j, none⟩ h1 n2).trans (h.fc j), h.row.kept hg ?_, h.below.grown hg h.below.size (fun k hk => by cases hk; omega)⟩
  cases e : v.ownBlock with
  | none => simp
  | some g =>
    have := (h.row.lt g e).1
    right
    simp
    omega
/-- One more attribute: the row grown, and its slice set. -/
theorem ReadM.more {v' : Value} {a : List UInt8 × List UInt8} (h : ReadM w b K N v rs an av m D W) (hg : W.grownBy W' v.ownBlock) (hr : W'.ownsRow (b + 1) 49 2 v' (rs.length + 1) (attrCells rs ++ [.string ⟨a.1.toArray⟩, .string ⟨a.2.toArray⟩])) : ReadM w b K N v' (rs ++ [a]) an av m D (W'.setCell ⟨b, 2, none⟩ v') := by
  have h1 := h.lt
  have h2 := h.le
  have f0 : some w.heap.size ≠ v.ownBlock := fun e => by have := (h.row.lt _ e.symm).1; omega
  have f1 : some (w.heap.size + 1) ≠ v.ownBlock := fun e => by have := (h.row.lt _ e.symm).1; omega
  have f2 : some (w.heap.size + 2) ≠ v.ownBlock := fun e => by have := (h.row.lt _ e.symm).1; omega
  have fb : some b ≠ v.ownBlock := fun e => by have := (h.row.lt _ e.symm).1; omega
  have hz := hg.size
  have hW : Below w.heap.size w W' := h.below.grown hg h.below.size (fun k hk => by have := (h.row.lt k hk).1; omega)
  have c' : ∀ j, W'.cell? ⟨b, j, none⟩ = (#[.int .i64 K, .string N, v, .bool false, .string ⟨#[]⟩] : Array Value)[j]? := fun j => (hg.cell_far ⟨b, j, none⟩ h1 fb).trans (h.c j)
  refine ⟨by simp; omega, h2, fun j => (World.cell?_setCell_other W' _ _ _ (fun q => by injection q with q1; omega)).trans ((hg.cell_far ⟨w.heap.size, j, none⟩ (by simp; omega) f0).trans (h.r j)), fun j => by rw [World.frozen?_setCell]; exact (hg.frozen_far ⟨w.heap.size, j, none⟩ (by simp; omega) f0).trans (h.fr j),
    fun j => (World.cell?_setCell_other W' _ _ _ (fun q => by injection q with q1; omega)).trans ((hg.cell_far ⟨w.heap.size + 1, j, none⟩ (by simp; omega) f1).trans (h.x j)), fun j => by rw [World.frozen?_setCell]; exact (hg.frozen_far ⟨w.heap.size + 1, j, none⟩ (by simp; omega) f1).trans (h.fx j),
    (h.mp.kept hg f2).kept (grown_set W' _ _) (by simp; omega),
    fun j => ?_, fun j => by rw [World.frozen?_setCell]; exact (hg.frozen_far ⟨b, j, none⟩ h1 fb).trans (h.fc j), ?_, hW.setCell (by simp; omega) _⟩
  · by_cases e : 2 = j
    · subst e
      rw [World.cell?_setCell_same W' _ v' (c' 2)]
      rfl
    · rw [World.cell?_setCell_other W' _ _ v' (fun q => e (by injection q)), c']
      match j with
      | 0 => rfl
      | 1 => rfl
      | 2 => exact absurd rfl e
      | 3 => rfl
      | 4 => rfl
      | j + 5 => rfl
  · rw [List.length_append, attrCells_snoc]
    exact ownsRow_setCell_below hr (by simp) _
end
end Go.Proofs.YtgelgfgcdfnacaaDoor
namespace Go.Proofs.YtgelgfgcdfnacaaDoor
open Go.RowKit Go.Maps

/-- What Read tells: no token, where the text ends first; else the token, whose row holds the attributes. -/
def ReadOut (K : Int) (nm : List UInt8) (r : Option (List (List UInt8 × List UInt8) × Bool) × Nat) (w : World) (e : Ending) (w' : World) : Prop :=
  ((r.1 = none ∧ e = .returned (.tuple #[.agg #[.int .i64 0, .string ⟨#[]⟩, .slice none 0 0, .bool false, .string ⟨#[]⟩], .int .i64 (r.2 : Int)])) ∨
    ∃ rs self v, r.1 = some (rs, self) ∧ e = .returned (.tuple #[.agg #[.int .i64 K, .string ⟨nm.toArray⟩, v, .bool self, .string ⟨#[]⟩], .int .i64 (r.2 : Int)]) ∧ AttrsAt w' v rs) ∧ Below w.heap.size w w'

/-- Is the last byte of what was passed a slash? -/
def slB (l : List UInt8) (i j : Nat) : Bool := decide (i < j) && decide ((l.getD (j - 1) 0).toNat = 47)
theorem slB_start (l : List UInt8) (i : Nat) : slB l i i = false := by unfold slB; simp
theorem slB_next (s : ByteArray) (i j : Nat) (h : i ≤ j) (hj : j < s.size) : slB s.data.toList i (j + 1) = decide (s[j].toNat = 47) := by
  unfold slB
  rw [decide_eq_true (show i < j + 1 by omega), Bool.true_and, Nat.add_sub_cancel, Plain.getD_get s j hj]

/-- The frame: the text, the places of the blocks, the slash, the place; all else whatever. -/
def Fr (s : ByteArray) (k : Nat) (w : World) (b : Nat) (sl i : Value) (a : Act) : Prop :=
  ∃ u11 u12 u13 u14 u15 u16 u17 u18 u19 u20 u21 u22 u23 u24 u25 u26 u27 u28 u29 u30 u31 u32 u33 u34 u35 u36 u37 u38 u39 u40 u41 u42 u43 u44 u45 u46 u47 u48 u49 u50 u51 u52 u53 u54 u55 u56 u57 u58 u59 u60 u61 u62 u63 u64 u65 u66 u67 u68 u69 u70 u71 u72 u73 u74 u75 u76 u77 u78 u79 u80 u81 u82 u83 u84 u85 u86 u87 u88 u89 u90 u91 u92 u93 u94 u95 u96 u97 u98 u99 u100 u101 u102 u103 u104 u105 u106 u107 u108 u109 u110 u111 u112 u113 u114 u115 u116 : Value, a = { tmps := #[.string s, .int .i64 (k : Int), undef, undef, .pointer (some ⟨w.heap.size, 0, none⟩), .int .i64 0, .pointer (some ⟨w.heap.size + 1, 0, none⟩), sl, .map (some (w.heap.size + 2)), .pointer (some ⟨b, 0, none⟩), i, u11, u12, u13, u14, u15, u16, u17, u18, u19, u20, u21, u22, u23, u24, u25, u26, u27, u28, u29, u30, u31, u32, u33, u34, u35, u36, u37, u38, u39, u40, u41, u42, u43, u44, u45, u46, u47, u48, u49, u50, u51, u52, u53, u54, u55, u56, u57, u58, u59, u60, u61, u62, u63, u64, u65, u66, u67, u68, u69, u70, u71, u72, u73, u74, u75, u76, u77, u78, u79, u80, u81, u82, u83, u84, u85, u86, u87, u88, u89, u90, u91, u92, u93, u94, u95, u96, u97, u98, u99, u100, u101, u102, u103, u104, u105, u106, u107, u108, u109, u110, u111, u112, u113, u114, u115, u116], defers := [] }
theorem Fr.mk {s : ByteArray} {k : Nat} {w : World} {b : Nat} {sl i : Value} {u11 u12 u13 u14 u15 u16 u17 u18 u19 u20 u21 u22 u23 u24 u25 u26 u27 u28 u29 u30 u31 u32 u33 u34 u35 u36 u37 u38 u39 u40 u41 u42 u43 u44 u45 u46 u47 u48 u49 u50 u51 u52 u53 u54 u55 u56 u57 u58 u59 u60 u61 u62 u63 u64 u65 u66 u67 u68 u69 u70 u71 u72 u73 u74 u75 u76 u77 u78 u79 u80 u81 u82 u83 u84 u85 u86 u87 u88 u89 u90 u91 u92 u93 u94 u95 u96 u97 u98 u99 u100 u101 u102 u103 u104 u105 u106 u107 u108 u109 u110 u111 u112 u113 u114 u115 u116 : Value} : Fr s k w b sl i { tmps := #[.string s, .int .i64 (k : Int), undef, undef, .pointer (some ⟨w.heap.size, 0, none⟩), .int .i64 0, .pointer (some ⟨w.heap.size + 1, 0, none⟩), sl, .map (some (w.heap.size + 2)), .pointer (some ⟨b, 0, none⟩), i, u11, u12, u13, u14, u15, u16, u17, u18, u19, u20, u21, u22, u23, u24, u25, u26, u27, u28, u29, u30, u31, u32, u33, u34, u35, u36, u37, u38, u39, u40, u41, u42, u43, u44, u45, u46, u47, u48, u49, u50, u51, u52, u53, u54, u55, u56, u57, u58, u59, u60, u61, u62, u63, u64, u65, u66, u67, u68, u69, u70, u71, u72, u73, u74, u75, u76, u77, u78, u79, u80, u81, u82, u83, u84, u85, u86, u87, u88, u89, u90, u91, u92, u93, u94, u95, u96, u97, u98, u99, u100, u101, u102, u103, u104, u105, u106, u107, u108, u109, u110, u111, u112, u113, u114, u115, u116], defers := [] } := ⟨_, _, _, _, _, _, _, _, _, _, _, _, _, _, _, _, _, _, _, _, _, _, _, _, _, _, _, _, _, _, _, _, _, _, _, _, _, _, _, _, _, _, _, _, _, _, _, _, _, _, _, _, _, _, _, _, _, _, _, _, _, _, _, _, _, _, _, _, _, _, _, _, _, _, _, _, _, _, _, _, _, _, _, _, _, _, _, _, _, _, _, _, _, _, _, _, _, _, _, _, _, _, _, _, _, _, rfl⟩

theorem Fr.elim {s : ByteArray} {k : Nat} {w : World} {b : Nat} {sl i : Value} {a : Act} {C : Act → Prop} (h : Fr s k w b sl i a) (H : ∀ u11 u12 u13 u14 u15 u16 u17 u18 u19 u20 u21 u22 u23 u24 u25 u26 u27 u28 u29 u30 u31 u32 u33 u34 u35 u36 u37 u38 u39 u40 u41 u42 u43 u44 u45 u46 u47 u48 u49 u50 u51 u52 u53 u54 u55 u56 u57 u58 u59 u60 u61 u62 u63 u64 u65 u66 u67 u68 u69 u70 u71 u72 u73 u74 u75 u76 u77 u78 u79 u80 u81 u82 u83 u84 u85 u86 u87 u88 u89 u90 u91 u92 u93 u94 u95 u96 u97 u98 u99 u100 u101 u102 u103 u104 u105 u106 u107 u108 u109 u110 u111 u112 u113 u114 u115 u116 : Value, C { tmps := #[.string s, .int .i64 (k : Int), undef, undef, .pointer (some ⟨w.heap.size, 0, none⟩), .int .i64 0, .pointer (some ⟨w.heap.size + 1, 0, none⟩), sl, .map (some (w.heap.size + 2)), .pointer (some ⟨b, 0, none⟩), i, u11, u12, u13, u14, u15, u16, u17, u18, u19, u20, u21, u22, u23, u24, u25, u26, u27, u28, u29, u30, u31, u32, u33, u34, u35, u36, u37, u38, u39, u40, u41, u42, u43, u44, u45, u46, u47, u48, u49, u50, u51, u52, u53, u54, u55, u56, u57, u58, u59, u60, u61, u62, u63, u64, u65, u66, u67, u68, u69, u70, u71, u72, u73, u74, u75, u76, u77, u78, u79, u80, u81, u82, u83, u84, u85, u86, u87, u88, u89, u90, u91, u92, u93, u94, u95, u96, u97, u98, u99, u100, u101, u102, u103, u104, u105, u106, u107, u108, u109, u110, u111, u112, u113, u114, u115, u116], defers := [] }) : C a :=
  Exists.elim h fun u11 h => Exists.elim h fun u12 h => Exists.elim h fun u13 h => Exists.elim h fun u14 h => Exists.elim h fun u15 h => Exists.elim h fun u16 h => Exists.elim h fun u17 h => Exists.elim h fun u18 h => Exists.elim h fun u19 h => Exists.elim h fun u20 h => Exists.elim h fun u21 h => Exists.elim h fun u22 h => Exists.elim h fun u23 h => Exists.elim h fun u24 h => Exists.elim h fun u25 h => Exists.elim h fun u26 h => Exists.elim h fun u27 h => Exists.elim h fun u28 h => Exists.elim h fun u29 h => Exists.elim h fun u30 h => Exists.elim h fun u31 h => Exists.elim h fun u32 h => Exists.elim h fun u33 h => Exists.elim h fun u34 h => Exists.elim h fun u35 h => Exists.elim h fun u36 h => Exists.elim h fun u37 h => Exists.elim h fun u38 h => Exists.elim h fun u39 h => Exists.elim h fun u40 h => Exists.elim h fun u41 h => Exists.elim h fun u42 h => Exists.elim h fun u43 h => Exists.elim h fun u44 h => Exists.elim h fun u45 h => Exists.elim h fun u46 h => Exists.elim h fun u47 h => Exists.elim h fun u48 h => Exists.elim h fun u49 h => Exists.elim h fun u50 h => Exists.elim h fun u51 h => Exists.elim h fun u52 h => Exists.elim h fun u53 h => Exists.elim h fun u54 h => Exists.elim h fun u55 h => Exists.elim h fun u56 h => Exists.elim h fun u57 h => Exists.elim h fun u58 h => Exists.elim h fun u59 h => Exists.elim h fun u60 h => Exists.elim h fun u61 h => Exists.elim h fun u62 h => Exists.elim h fun u63 h => Exists.elim h fun u64 h => Exists.elim h fun u65 h => Exists.elim h fun u66 h => Exists.elim h fun u67 h => Exists.elim h fun u68 h => Exists.elim h fun u69 h => Exists.elim h fun u70 h => Exists.elim h fun u71 h => Exists.elim h fun u72 h => Exists.elim h fun u73 h => Exists.elim h fun u74 h => Exists.elim h fun u75 h => Exists.elim h fun u76 h => Exists.elim h fun u77 h => Exists.elim h fun u78 h => Exists.elim h fun u79 h => Exists.elim h fun u80 h => Exists.elim h fun u81 h => Exists.elim h fun u82 h => Exists.elim h fun u83 h => Exists.elim h fun u84 h => Exists.elim h fun u85 h => Exists.elim h fun u86 h => Exists.elim h fun u87 h => Exists.elim h fun u88 h => Exists.elim h fun u89 h => Exists.elim h fun u90 h => Exists.elim h fun u91 h => Exists.elim h fun u92 h => Exists.elim h fun u93 h => Exists.elim h fun u94 h => Exists.elim h fun u95 h => Exists.elim h fun u96 h => Exists.elim h fun u97 h => Exists.elim h fun u98 h => Exists.elim h fun u99 h => Exists.elim h fun u100 h => Exists.elim h fun u101 h => Exists.elim h fun u102 h => Exists.elim h fun u103 h => Exists.elim h fun u104 h => Exists.elim h fun u105 h => Exists.elim h fun u106 h => Exists.elim h fun u107 h => Exists.elim h fun u108 h => Exists.elim h fun u109 h => Exists.elim h fun u110 h => Exists.elim h fun u111 h => Exists.elim h fun u112 h => Exists.elim h fun u113 h => Exists.elim h fun u114 h => Exists.elim h fun u115 h => Exists.elim h fun u116 h => Eq.subst (motive := C) h.symm (H u11 u12 u13 u14 u15 u16 u17 u18 u19 u20 u21 u22 u23 u24 u25 u26 u27 u28 u29 u30 u31 u32 u33 u34 u35 u36 u37 u38 u39 u40 u41 u42 u43 u44 u45 u46 u47 u48 u49 u50 u51 u52 u53 u54 u55 u56 u57 u58 u59 u60 u61 u62 u63 u64 u65 u66 u67 u68 u69 u70 u71 u72 u73 u74 u75 u76 u77 u78 u79 u80 u81 u82 u83 u84 u85 u86 u87 u88 u89 u90 u91 u92 u93 u94 u95 u96 u97 u98 u99 u100 u101 u102 u103 u104 u105 u106 u107 u108 u109 u110 u111 u112 u113 u114 u115 u116)

/-- The code of the scope; what stands behind a label. -/
def scopeOf : Option Code → Code
  | some (.seq _ (.scope c)) => c
  | _ => .skip
def after (c : Code) (l : Nat) : Code := match findLabel c l with | some (.seq _ r) => r | _ => .skip

/-- What stands fixed through a call of Read. -/
structure Fix where
  s : ByteArray
  k : Nat
  w : World
  b : Nat
  K : Int
  st : Bool
  NL : List UInt8
  R : Option (List (List UInt8 × List UInt8) × Bool) × Nat
/-- .. and what holds of it. -/
structure Fix.Ok (f : Fix) : Prop where
  size : f.s.size ≤ 268435456
  kind : f.K = 1 ∧ f.st = true ∨ f.K = 2 ∧ f.st = false
  max : HasMax f.w
  early : HasEarly f.w
/-- What holds at the labels: 0 between, 3 pass, 4 keep, 2 end, 1 cut. -/
def Lab (f : Fix) : Nat → Nat → Act → World → Prop
  | 0, n, a, W => ∃ (i m : Nat) (v sl : Value) (rs : List (List UInt8 × List UInt8)) (an av : ByteArray) (D : DataW Unit), Fr f.s f.k f.w f.b sl (.int .i64 (i : Int)) a ∧ ReadM f.w f.b f.K ⟨f.NL.toArray⟩ v rs an av m D W ∧ Seen f.st D rs m ∧ i ≤ f.s.size ∧ m ≤ i ∧ rs.length ≤ m ∧ Plain.readT f.st f.s.data.toList i rs = f.R ∧ n = (f.s.size - i) * 10 + 5
  | 3, n, a, W => ∃ (i j m : Nat) (v : Value) (rs : List (List UInt8 × List UInt8)) (an av : ByteArray) (D : DataW Unit), Fr f.s f.k f.w f.b (.bool (slB f.s.data.toList i j)) (.int .i64 (j : Int)) a ∧ ReadM f.w f.b f.K ⟨f.NL.toArray⟩ v rs an av m D W ∧ Seen f.st D rs m ∧ m ≤ i ∧ rs.length ≤ m ∧ Plain.RunAt Plain.inGap f.s.data.toList i j ∧ Plain.readT f.st f.s.data.toList i rs = f.R ∧ n = (f.s.size - j) * 10 + 4
  | 4, n, a, W => ∃ (q m : Nat) (v sl : Value) (rs : List (List UInt8 × List UInt8)) (an av : ByteArray) (D : DataW Unit), Fr f.s f.k f.w f.b sl (.int .i64 (q : Int)) a ∧ ReadM f.w f.b f.K ⟨f.NL.toArray⟩ v rs an av m D W ∧ Seen f.st D rs m ∧ q ≤ f.s.size ∧ m + 1 ≤ q ∧ rs.length ≤ m ∧ an.size ≤ 1073741824 ∧ av.size ≤ f.s.size ∧ Plain.readT f.st f.s.data.toList q (Plain.addAttr f.st rs (an.data.toList, Plain.clear (Plain.expand av.data.toList true))) = f.R ∧ n = (f.s.size - q) * 10 + 8
  | 2, n, a, W => ∃ (j m : Nat) (sl : Bool) (v : Value) (rs : List (List UInt8 × List UInt8)) (an av : ByteArray) (D : DataW Unit), Fr f.s f.k f.w f.b (.bool sl) (.int .i64 (j : Int)) a ∧ ReadM f.w f.b f.K ⟨f.NL.toArray⟩ v rs an av m D W ∧ j < f.s.size ∧ f.R = (some (rs, sl && f.st), j + 1) ∧ n = 0
  | 1, n, a, W => ∃ (m : Nat) (i sl v : Value) (rs : List (List UInt8 × List UInt8)) (an av : ByteArray) (D : DataW Unit), Fr f.s f.k f.w f.b sl i a ∧ ReadM f.w f.b f.K ⟨f.NL.toArray⟩ v rs an av m D W ∧ f.R = (none, f.s.size) ∧ n = 0
  | _, _, _, _ => False
/-- A way from a label: it returns as Read is to, or jumps, lower. -/
def Way (f : Fix) (l : Nat) : Prop := ∀ (n : Nat) (a : Act) (W : World) (Q : Exit → Act → World → Prop), Lab f l n a W → (∀ a' W', bodyPost Tryd.prog Tryd.f40 (ReadOut f.K f.NL f.R f.w) .ret a' W' → Q .ret a' W') →
    (∀ l' n' a' W', Lab f l' n' a' W' → n' < n → Q (.goto l') a' W') → (after (scopeOf Tryd.f40.body) l).wp Tryd.prog Q a W
end Go.Proofs.YtgelgfgcdfnacaaDoor
namespace Go.Proofs.YtgelgfgcdfnacaaDoor
open Go.RowKit Go.Maps

set_option maxHeartbeats 2000000 in
set_option maxRecDepth 100000 in
theorem way_cut (f : Fix) : Way f 1 := by
  obtain ⟨s, k, w, b, K, st, NL, R⟩ := f
  rintro n a W Q ⟨m, i, sl, v, rs, an, av, D, hF, hM, hR, hn⟩ hret hgo
  simp only at hF hM hR
  refine Fr.elim (C := fun a => (after (scopeOf Tryd.f40.body) 1).wp Tryd.prog Q a W) hF ?_
  clear hF
  intro u11 u12 u13 u14 u15 u16 u17 u18 u19 u20 u21 u22 u23 u24 u25 u26 u27 u28 u29 u30 u31 u32 u33 u34 u35 u36 u37 u38 u39 u40 u41 u42 u43 u44 u45 u46 u47 u48 u49 u50 u51 u52 u53 u54 u55 u56 u57 u58 u59 u60 u61 u62 u63 u64 u65 u66 u67 u68 u69 u70 u71 u72 u73 u74 u75 u76 u77 u78 u79 u80 u81 u82 u83 u84 u85 u86 u87 u88 u89 u90 u91 u92 u93 u94 u95 u96 u97 u98 u99 u100 u101 u102 u103 u104 u105 u106 u107 u108 u109 u110 u111 u112 u113 u114 u115 u116
  have HM := Lib.hid hM
  have HRET := Lib.hid hret
  have HR := Lib.hid hR
  have r0 := hM.r 0
  have r1 := hM.r 1
  have r2 := hM.r 2
  have r3 := hM.r 3
  have r4 := hM.r 4
  have fr := hM.fr
  clear hM hret hgo hn hR
  show Code.wp _ ((Code.region 22 _ _).seq _) _ _ _
  go_wp2
  refine HRET.out _ _ ?_
  refine bodyPost_ret (v := .tuple #[.agg #[.int .i64 0, .string ⟨#[]⟩, .slice none 0 0, .bool false, .string ⟨#[]⟩], .int .i64 (s.size : Int)]) (by simp [results, Tryd.results40, go_sem, *]) rfl ⟨?_, ?_⟩
  · left
    rw [HR.out]
    exact ⟨rfl, rfl⟩
  · iterate 5 refine Below.setCell ?_ (by simp) _
    exact HM.out.below

set_option maxHeartbeats 2000000 in
set_option maxRecDepth 100000 in
theorem way_end (f : Fix) (hf : f.Ok) : Way f 2 := by
  obtain ⟨s, k, w, b, K, st, NL, R⟩ := f
  have hs := hf.size
  have hk := hf.kind
  clear hf
  rintro n a W Q ⟨j, m, sl, v, rs, an, av, D, hF, hM, hj, hR, hn⟩ hret hgo
  simp only at hF hM hR hj hs hk
  refine Fr.elim (C := fun a => (after (scopeOf Tryd.f40.body) 2).wp Tryd.prog Q a W) hF ?_
  clear hF
  intro u11 u12 u13 u14 u15 u16 u17 u18 u19 u20 u21 u22 u23 u24 u25 u26 u27 u28 u29 u30 u31 u32 u33 u34 u35 u36 u37 u38 u39 u40 u41 u42 u43 u44 u45 u46 u47 u48 u49 u50 u51 u52 u53 u54 u55 u56 u57 u58 u59 u60 u61 u62 u63 u64 u65 u66 u67 u68 u69 u70 u71 u72 u73 u74 u75 u76 u77 u78 u79 u80 u81 u82 u83 u84 u85 u86 u87 u88 u89 u90 u91 u92 u93 u94 u95 u96 u97 u98 u99 u100 u101 u102 u103 u104 u105 u106 u107 u108 u109 u110 u111 u112 u113 u114 u115 u116
  obtain ⟨vp, vc, rfl, hvc⟩ := AttrsAt.of_row hM.row
  clear hvc
  have HM := Lib.hid hM
  have HRET := Lib.hid hret
  have HR := Lib.hid hR
  have hlt := hM.lt
  have hle := hM.le
  have r0 := hM.r 0
  have r1 := hM.r 1
  have r2 := hM.r 2
  have r3 := hM.r 3
  have r4 := hM.r 4
  have fr := hM.fr
  have c0 := hM.c 0
  have c1 := hM.c 1
  have c2 := hM.c 2
  have c3 := hM.c 3
  have c4 := hM.c 4
  have fc := hM.fc
  have hne : ¬ w.heap.size = b := by omega
  have hne' : ¬ b = w.heap.size := by omega
  clear hM hret hgo hn hR
  show Code.wp _ ((Code.region 20 _ _).seq _) _ _ _
  rcases hk with ⟨rfl, rfl⟩ | ⟨rfl, rfl⟩
  · go_wp2
    refine HRET.out _ _ ?_
    refine bodyPost_ret (v := .tuple #[.agg #[.int .i64 1, .string ⟨NL.toArray⟩, .slice vp rs.length vc, .bool sl, .string ⟨#[]⟩], .int .i64 ((j + 1 : Nat) : Int)]) (by simp [results, Tryd.results40, go_sem, *]) rfl ⟨?_, ?_⟩
    · right
      rw [HR.out, Bool.and_true]
      refine ⟨rs, _, .slice vp rs.length vc, rfl, rfl, AttrsAt.of_row (base := b + 1) ?_⟩
      iterate 6 refine ownsRow_setCell_below ?_ (by first | (simp; done) | (simp; omega)) _
      exact HM.out.row
    · iterate 6 refine Below.setCell ?_ (by first | (simp; done) | (simp; omega)) _
      exact HM.out.below
  · go_wp2
    refine HRET.out _ _ ?_
    refine bodyPost_ret (v := .tuple #[.agg #[.int .i64 2, .string ⟨NL.toArray⟩, .slice vp rs.length vc, .bool false, .string ⟨#[]⟩], .int .i64 ((j + 1 : Nat) : Int)]) (by simp [results, Tryd.results40, go_sem, *]) rfl ⟨?_, ?_⟩
    · right
      rw [HR.out, Bool.and_false]
      refine ⟨rs, _, .slice vp rs.length vc, rfl, rfl, AttrsAt.of_row (base := b + 1) ?_⟩
      iterate 6 refine ownsRow_setCell_below ?_ (by first | (simp; done) | (simp; omega)) _
      exact HM.out.row
    · iterate 6 refine Below.setCell ?_ (by first | (simp; done) | (simp; omega)) _
      exact HM.out.below
end Go.Proofs.YtgelgfgcdfnacaaDoor
namespace Go.Proofs.YtgelgfgcdfnacaaDoor
open Go.RowKit Go.Maps

theorem gap_stop {l : List UInt8} {i j : Nat} (hR : Plain.RunAt Plain.inGap l i j) (h : ∀ hi : j < l.length, Plain.inGap l[j] = false) : i + Plain.gapN l i = j ∧ Plain.slashAt l i = slB l i j := by
  have := hR.stop h
  have hg : Plain.gapN l i = j - i := this
  have h1 := hR.1
  refine ⟨by omega, ?_⟩
  unfold Plain.slashAt slB
  rw [hg, show i + (j - i) - 1 = j - 1 by omega]
  congr 1
  rw [Bool.eq_iff_iff, decide_eq_true_iff, decide_eq_true_iff]
  omega
set_option maxHeartbeats 2000000 in
set_option maxRecDepth 100000 in
theorem way_between (f : Fix) (h3 : Way f 3) : Way f 0 := by
  rintro n a W Q ⟨i, m, v, sl, rs, an, av, D, hF, hM, hS, hi, hmi, hrs, hR, hn⟩ hret hgo
  refine Fr.elim (C := fun a => (after (scopeOf Tryd.f40.body) 0).wp Tryd.prog Q a W) hF ?_
  clear hF
  intro u11 u12 u13 u14 u15 u16 u17 u18 u19 u20 u21 u22 u23 u24 u25 u26 u27 u28 u29 u30 u31 u32 u33 u34 u35 u36 u37 u38 u39 u40 u41 u42 u43 u44 u45 u46 u47 u48 u49 u50 u51 u52 u53 u54 u55 u56 u57 u58 u59 u60 u61 u62 u63 u64 u65 u66 u67 u68 u69 u70 u71 u72 u73 u74 u75 u76 u77 u78 u79 u80 u81 u82 u83 u84 u85 u86 u87 u88 u89 u90 u91 u92 u93 u94 u95 u96 u97 u98 u99 u100 u101 u102 u103 u104 u105 u106 u107 u108 u109 u110 u111 u112 u113 u114 u115 u116
  have HW : Hid (∀ a, Fr f.s f.k f.w f.b (.bool false) (.int .i64 (i : Int)) a → (after (scopeOf Tryd.f40.body) 3).wp Tryd.prog Q a W) := Lib.hid (by
    intro a hF
    refine h3 ((f.s.size - i) * 10 + 4) a W Q ⟨i, i, m, v, rs, an, av, D, by rw [slB_start]; exact hF, hM, hS, hmi, hrs, Plain.RunAt.start _ _ _ (by rw [len_of]; exact hi), hR, rfl⟩ hret (fun l' n' a' W' hL hlt => hgo l' n' a' W' hL (by omega)))
  clear hret hgo hM hS hR h3
  show Code.wp _ ((Code.region 5 _ _).seq _) _ _ _
  go_wp2
  go_step3
  refine ‹∀ (a : Act) (w : World), Code.wp _ _ _ a w → _› _ _ ?_
  exact HW.out _ Fr.mk
end Go.Proofs.YtgelgfgcdfnacaaDoor
namespace Go.Proofs.YtgelgfgcdfnacaaDoor
open Go.RowKit Go.Maps

set_option maxHeartbeats 4000000 in
set_option maxRecDepth 100000 in
theorem pass_cut (f : Fix) (hf : f.Ok) (n : Nat) (a : Act) (W : World) (Q : Exit → Act → World → Prop) (i j m : Nat) (v : Value) (rs : List (List UInt8 × List UInt8)) (an av : ByteArray) (D : DataW Unit)
    (hF : Fr f.s f.k f.w f.b (.bool (slB f.s.data.toList i j)) (.int .i64 (j : Int)) a) (hM : ReadM f.w f.b f.K ⟨f.NL.toArray⟩ v rs an av m D W) (hS : Seen f.st D rs m) (hmi : m ≤ i) (hrs : rs.length ≤ m) (hR : Plain.RunAt Plain.inGap f.s.data.toList i j) (hRT : Plain.readT f.st f.s.data.toList i rs = f.R) (hn : n = (f.s.size - j) * 10 + 4)
    (hgo : ∀ l' n' a' W', Lab f l' n' a' W' → n' < n → Q (.goto l') a' W') (he : j = f.s.size) : (after (scopeOf Tryd.f40.body) 3).wp Tryd.prog Q a W := by
  obtain ⟨s, k, w, b, K, st, NL, R⟩ := f
  have hs := hf.size
  clear hf
  simp only at *
  have _ := hmi
  have _ := hrs
  have hgs := gap_stop hR (fun h => absurd h (by rw [len_of]; omega))
  have hE : R = (none, s.size) := by
    rw [← hRT, Plain.readT_end _ _ _ _ (by rw [hgs.1, len_of]; omega), len_of]
  have HQ : Hid (∀ sl x a', Fr s k w b sl x a' → Q (.goto 1) a' W) := Lib.hid (fun sl x a' hF' => hgo 1 0 a' W ⟨m, _, _, v, rs, an, av, D, hF', hM, hE, rfl⟩ (by omega))
  have q1 : ((j : Int) == (s.size : Int)) = true := by simp [he]
  refine Fr.elim (C := fun a => (after (scopeOf Tryd.f40.body) 3).wp Tryd.prog Q a W) hF ?_
  clear hF hM hS hmi hrs hR hRT hn hgo hgs hE he
  intro u11 u12 u13 u14 u15 u16 u17 u18 u19 u20 u21 u22 u23 u24 u25 u26 u27 u28 u29 u30 u31 u32 u33 u34 u35 u36 u37 u38 u39 u40 u41 u42 u43 u44 u45 u46 u47 u48 u49 u50 u51 u52 u53 u54 u55 u56 u57 u58 u59 u60 u61 u62 u63 u64 u65 u66 u67 u68 u69 u70 u71 u72 u73 u74 u75 u76 u77 u78 u79 u80 u81 u82 u83 u84 u85 u86 u87 u88 u89 u90 u91 u92 u93 u94 u95 u96 u97 u98 u99 u100 u101 u102 u103 u104 u105 u106 u107 u108 u109 u110 u111 u112 u113 u114 u115 u116
  show Code.wp _ ((Code.block 0 ((Code.region 6 _ _).seq _)).seq _) _ _ _
  go_wp2
  go_step3
  exact HQ.out _ _ _ Fr.mk

set_option maxHeartbeats 4000000 in
set_option maxRecDepth 100000 in
theorem pass_end (f : Fix) (hf : f.Ok) (n : Nat) (a : Act) (W : World) (Q : Exit → Act → World → Prop) (i j m : Nat) (v : Value) (rs : List (List UInt8 × List UInt8)) (an av : ByteArray) (D : DataW Unit)
    (hF : Fr f.s f.k f.w f.b (.bool (slB f.s.data.toList i j)) (.int .i64 (j : Int)) a) (hM : ReadM f.w f.b f.K ⟨f.NL.toArray⟩ v rs an av m D W) (hS : Seen f.st D rs m) (hmi : m ≤ i) (hrs : rs.length ≤ m) (hR : Plain.RunAt Plain.inGap f.s.data.toList i j) (hRT : Plain.readT f.st f.s.data.toList i rs = f.R) (hn : n = (f.s.size - j) * 10 + 4)
    (hgo : ∀ l' n' a' W', Lab f l' n' a' W' → n' < n → Q (.goto l') a' W') (he : j < f.s.size) (h62 : f.s[j].toNat = 62) : (after (scopeOf Tryd.f40.body) 3).wp Tryd.prog Q a W := by
  obtain ⟨s, k, w, b, K, st, NL, R⟩ := f
  have hs := hf.size
  clear hf
  simp only at *
  have _ := hmi
  have _ := hrs
  have he' : j < s.size := he
  have hnb : Plain.blankB s[j] = false := by
    cases hb : Plain.blankB s[j]
    · rfl
    · rw [Plain.blankB_true] at hb; omega
  have hgs := gap_stop hR (fun h => by show Plain.inGap s[j] = false; unfold Plain.inGap; simp [hnb, h62])
  have hE : R = (some (rs, slB s.data.toList i j && st), j + 1) := by
    rw [← hRT, Plain.readT_close _ _ _ _ (by rw [hgs.1, len_of]; omega) (by rw [hgs.1, Plain.getD_get s j he]; exact h62), hgs.1, hgs.2]
  have HQ : Hid (∀ a', Fr s k w b (.bool (slB s.data.toList i j)) (.int .i64 (j : Int)) a' → Q (.goto 2) a' W) := Lib.hid (fun a' hF' => hgo 2 0 a' W ⟨j, m, _, v, rs, an, av, D, hF', hM, he, hE, rfl⟩ (by omega))
  have q0 : ((j : Int) == (s.size : Int)) = false := beq_eq_false_iff_ne.2 (by omega)
  have q1 : ((s[j].toNat : Int) == 62) = true := by simp [h62]
  refine Fr.elim (C := fun a => (after (scopeOf Tryd.f40.body) 3).wp Tryd.prog Q a W) hF ?_
  clear hF hM hS hmi hrs hR hRT hn hgo hgs hE h62 hnb
  intro u11 u12 u13 u14 u15 u16 u17 u18 u19 u20 u21 u22 u23 u24 u25 u26 u27 u28 u29 u30 u31 u32 u33 u34 u35 u36 u37 u38 u39 u40 u41 u42 u43 u44 u45 u46 u47 u48 u49 u50 u51 u52 u53 u54 u55 u56 u57 u58 u59 u60 u61 u62 u63 u64 u65 u66 u67 u68 u69 u70 u71 u72 u73 u74 u75 u76 u77 u78 u79 u80 u81 u82 u83 u84 u85 u86 u87 u88 u89 u90 u91 u92 u93 u94 u95 u96 u97 u98 u99 u100 u101 u102 u103 u104 u105 u106 u107 u108 u109 u110 u111 u112 u113 u114 u115 u116
  show Code.wp _ ((Code.block 0 ((Code.region 6 _ _).seq _)).seq _) _ _ _
  go_wp2
  go_step3
  exact HQ.out _ Fr.mk

set_option maxHeartbeats 4000000 in
set_option maxRecDepth 100000 in
theorem pass_slash (f : Fix) (hf : f.Ok) (n : Nat) (a : Act) (W : World) (Q : Exit → Act → World → Prop) (i j m : Nat) (v : Value) (rs : List (List UInt8 × List UInt8)) (an av : ByteArray) (D : DataW Unit)
    (hF : Fr f.s f.k f.w f.b (.bool (slB f.s.data.toList i j)) (.int .i64 (j : Int)) a) (hM : ReadM f.w f.b f.K ⟨f.NL.toArray⟩ v rs an av m D W) (hS : Seen f.st D rs m) (hmi : m ≤ i) (hrs : rs.length ≤ m) (hR : Plain.RunAt Plain.inGap f.s.data.toList i j) (hRT : Plain.readT f.st f.s.data.toList i rs = f.R) (hn : n = (f.s.size - j) * 10 + 4)
    (hgo : ∀ l' n' a' W', Lab f l' n' a' W' → n' < n → Q (.goto l') a' W') (he : j < f.s.size) (h47 : f.s[j].toNat = 47) : (after (scopeOf Tryd.f40.body) 3).wp Tryd.prog Q a W := by
  obtain ⟨s, k, w, b, K, st, NL, R⟩ := f
  have hs := hf.size
  clear hf
  simp only at *
  have _ := hmi
  have _ := hrs
  have he' : j < s.size := he
  have hN := hR.step (by rw [len_of]; exact he) (show Plain.inGap s[j] = true by unfold Plain.inGap; simp [h47])
  have hij := hR.1
  have hsl := slB_next s i j hij he
  rw [decide_eq_true h47] at hsl
  have HQ : Hid (∀ a', Fr s k w b (.bool true) (.int .i64 ((j + 1 : Nat) : Int)) a' → Q (.goto 3) a' W) := Lib.hid (fun a' hF' => hgo 3 ((s.size - (j + 1)) * 10 + 4) a' W ⟨i, j + 1, m, v, rs, an, av, D, by rw [hsl]; exact hF', hM, hS, hmi, hrs, hN, hRT, rfl⟩ (by omega))
  rw [show ((j + 1 : Nat) : Int) = (j : Int) + 1 by omega] at HQ
  have q0 : ((j : Int) == (s.size : Int)) = false := beq_eq_false_iff_ne.2 (by omega)
  have q1 : ((s[j].toNat : Int) == 62) = false := by simp [h47]
  have q2 : ((s[j].toNat : Int) == 47) = true := by simp [h47]
  refine Fr.elim (C := fun a => (after (scopeOf Tryd.f40.body) 3).wp Tryd.prog Q a W) hF ?_
  clear hF hM hS hmi hrs hR hRT hn hgo hN hsl h47
  intro u11 u12 u13 u14 u15 u16 u17 u18 u19 u20 u21 u22 u23 u24 u25 u26 u27 u28 u29 u30 u31 u32 u33 u34 u35 u36 u37 u38 u39 u40 u41 u42 u43 u44 u45 u46 u47 u48 u49 u50 u51 u52 u53 u54 u55 u56 u57 u58 u59 u60 u61 u62 u63 u64 u65 u66 u67 u68 u69 u70 u71 u72 u73 u74 u75 u76 u77 u78 u79 u80 u81 u82 u83 u84 u85 u86 u87 u88 u89 u90 u91 u92 u93 u94 u95 u96 u97 u98 u99 u100 u101 u102 u103 u104 u105 u106 u107 u108 u109 u110 u111 u112 u113 u114 u115 u116
  show Code.wp _ ((Code.block 0 ((Code.region 6 _ _).seq _)).seq _) _ _ _
  go_wp2
  go_step3
  exact HQ.out _ Fr.mk

set_option maxHeartbeats 4000000 in
set_option maxRecDepth 100000 in
theorem pass_blank (f : Fix) (hf : f.Ok) (n : Nat) (a : Act) (W : World) (Q : Exit → Act → World → Prop) (i j m : Nat) (v : Value) (rs : List (List UInt8 × List UInt8)) (an av : ByteArray) (D : DataW Unit)
    (hF : Fr f.s f.k f.w f.b (.bool (slB f.s.data.toList i j)) (.int .i64 (j : Int)) a) (hM : ReadM f.w f.b f.K ⟨f.NL.toArray⟩ v rs an av m D W) (hS : Seen f.st D rs m) (hmi : m ≤ i) (hrs : rs.length ≤ m) (hR : Plain.RunAt Plain.inGap f.s.data.toList i j) (hRT : Plain.readT f.st f.s.data.toList i rs = f.R) (hn : n = (f.s.size - j) * 10 + 4)
    (hgo : ∀ l' n' a' W', Lab f l' n' a' W' → n' < n → Q (.goto l') a' W') (he : j < f.s.size) (hbl : Plain.blankB f.s[j] = true) : (after (scopeOf Tryd.f40.body) 3).wp Tryd.prog Q a W := by
  obtain ⟨s, k, w, b, K, st, NL, R⟩ := f
  have hs := hf.size
  clear hf
  simp only at *
  have _ := hmi
  have _ := hrs
  have he' : j < s.size := he
  have hN := hR.step (by rw [len_of]; exact he) (show Plain.inGap s[j] = true by unfold Plain.inGap; simp [hbl])
  have hij := hR.1
  have h47 : s[j].toNat ≠ 47 := by intro e; rw [Plain.blankB_true] at hbl; omega
  have h62 : s[j].toNat ≠ 62 := by intro e; rw [Plain.blankB_true] at hbl; omega
  have hsl := slB_next s i j hij he
  rw [decide_eq_false h47] at hsl
  have HQ : Hid (∀ a', Fr s k w b (.bool false) (.int .i64 ((j + 1 : Nat) : Int)) a' → Q (.goto 3) a' W) := Lib.hid (fun a' hF' => hgo 3 ((s.size - (j + 1)) * 10 + 4) a' W ⟨i, j + 1, m, v, rs, an, av, D, by rw [hsl]; exact hF', hM, hS, hmi, hrs, hN, hRT, rfl⟩ (by omega))
  rw [show ((j + 1 : Nat) : Int) = (j : Int) + 1 by omega] at HQ
  have q0 : ((j : Int) == (s.size : Int)) = false := beq_eq_false_iff_ne.2 (by omega)
  have h8 : s[j].toNat < 256 := s[j].toNat_lt
  have q1 : ((s[j].toNat : Int) == 62) = false := beq_eq_false_iff_ne.2 (by omega)
  have q2 : ((s[j].toNat : Int) == 47) = false := beq_eq_false_iff_ne.2 (by omega)
  have HBL := Lib.hid hbl
  refine Fr.elim (C := fun a => (after (scopeOf Tryd.f40.body) 3).wp Tryd.prog Q a W) hF ?_
  clear hF hM hS hmi hrs hR hRT hn hgo hN hsl h47 h62 hbl
  intro u11 u12 u13 u14 u15 u16 u17 u18 u19 u20 u21 u22 u23 u24 u25 u26 u27 u28 u29 u30 u31 u32 u33 u34 u35 u36 u37 u38 u39 u40 u41 u42 u43 u44 u45 u46 u47 u48 u49 u50 u51 u52 u53 u54 u55 u56 u57 u58 u59 u60 u61 u62 u63 u64 u65 u66 u67 u68 u69 u70 u71 u72 u73 u74 u75 u76 u77 u78 u79 u80 u81 u82 u83 u84 u85 u86 u87 u88 u89 u90 u91 u92 u93 u94 u95 u96 u97 u98 u99 u100 u101 u102 u103 u104 u105 u106 u107 u108 u109 u110 u111 u112 u113 u114 u115 u116
  show Code.wp _ ((Code.block 0 ((Code.region 6 _ _).seq _)).seq _) _ _ _
  go_wp2_with (go_at_call 54; refine (blank_yes _ _ HBL.out).mono ?_; rintro e w1 ⟨rfl, rfl⟩)
  go_step3
  exact HQ.out _ Fr.mk
end Go.Proofs.YtgelgfgcdfnacaaDoor
namespace Go.Proofs.YtgelgfgcdfnacaaDoor
open Go.RowKit Go.Maps

theorem endOf_attr (l : List UInt8) (p : Nat) : endOf [47, 62, 61] l (p + 1) = Plain.attrEnd l p := by
  unfold endOf Plain.attrEnd
  rw [Plain.endIn_attr]
theorem attrEnd_le (s : ByteArray) (p : Nat) (h : p < s.size) : p + 1 ≤ Plain.attrEnd s.data.toList p ∧ Plain.attrEnd s.data.toList p ≤ s.size := by
  have h1 := Plain.runP_le Plain.inAttr (s.data.toList.drop (p + 1))
  rw [List.length_drop, len_of] at h1
  unfold Plain.attrEnd
  omega
theorem attrMid_le (s : ByteArray) (p : Nat) (h : p < s.size) : Plain.attrEnd s.data.toList p ≤ Plain.attrMid s.data.toList p ∧ Plain.attrMid s.data.toList p ≤ s.size := by
  have h1 := attrEnd_le s p h
  have h2 := Plain.runP_le Plain.blankB (s.data.toList.drop (Plain.attrEnd s.data.toList p))
  rw [List.length_drop, len_of] at h2
  unfold Plain.attrMid
  omega
theorem Plain.rawAt_le (l : List UInt8) (q : Nat) (h : q ≤ l.length) : q ≤ (Plain.rawAt l q).2 ∧ (Plain.rawAt l q).2 ≤ l.length := by
  have := Plain.valueAt_le l q h
  rw [Plain.valueAt_raw] at this
  exact this
theorem attrName_size (s : ByteArray) (p : Nat) (hs : s.size ≤ 268435456) : (Plain.attrName s.data.toList p).length ≤ 1073741824 := by
  unfold Plain.attrName
  have h1 := Plain.clear_len (Plain.fold ((s.data.toList.take (Plain.attrEnd s.data.toList p)).drop p))
  rw [Plain.fold_length, List.length_drop, List.length_take, len_of] at h1
  omega

set_option maxHeartbeats 4000000 in
set_option maxRecDepth 100000 in
theorem pass_attr (f : Fix) (hf : f.Ok) (n : Nat) (a : Act) (W : World) (Q : Exit → Act → World → Prop) (i j m : Nat) (v : Value) (rs : List (List UInt8 × List UInt8)) (an av : ByteArray) (D : DataW Unit)
    (hF : Fr f.s f.k f.w f.b (.bool (slB f.s.data.toList i j)) (.int .i64 (j : Int)) a) (hM : ReadM f.w f.b f.K ⟨f.NL.toArray⟩ v rs an av m D W) (hS : Seen f.st D rs m) (hmi : m ≤ i) (hrs : rs.length ≤ m) (hR : Plain.RunAt Plain.inGap f.s.data.toList i j) (hRT : Plain.readT f.st f.s.data.toList i rs = f.R) (hn : n = (f.s.size - j) * 10 + 4)
    (hret : ∀ a' W', bodyPost Tryd.prog Tryd.f40 (ReadOut f.K f.NL f.R f.w) .ret a' W' → Q .ret a' W')
    (hgo : ∀ l' n' a' W', Lab f l' n' a' W' → n' < n → Q (.goto l') a' W') (h4 : Way f 4) (he : j < f.s.size) (h62 : f.s[j].toNat ≠ 62) (h47 : f.s[j].toNat ≠ 47) (hbl : Plain.blankB f.s[j] = false) : (after (scopeOf Tryd.f40.body) 3).wp Tryd.prog Q a W := by
  obtain ⟨s, k, w, b, K, st, NL, R⟩ := f
  have hs := hf.size
  have hmax := hf.max
  clear hf
  simp only at hF hM hS hmi hrs hR hRT hn hs hmax
  have he' : j < s.size := he
  have h62 : s[j].toNat ≠ 62 := h62
  have h47 : s[j].toNat ≠ 47 := h47
  have hbl : Plain.blankB s[j] = false := hbl
  have hij := hR.1
  have hgs := gap_stop hR (fun h => by show Plain.inGap s[j] = false; unfold Plain.inGap; simp [hbl, h47])
  have hE1 := attrEnd_le s j he'
  have hE2 := attrMid_le s j he'
  have hE3 := attrName_size s j hs
  have hRT2 := hRT
  rw [Plain.readT_attr _ _ _ _ (by rw [hgs.1, len_of]; omega) (by rw [hgs.1, Plain.getD_get s j he']; exact h62), hgs.1, Plain.attrAt_raw] at hRT2
  have HN := fun W h => Lib.hid (named_tag s ⟨#[47, 62, 61]⟩ j (j + 1) W h (by omega) (by omega) hs)
  rw [show (⟨#[47, 62, 61]⟩ : ByteArray).data.toList = [47, 62, 61] from rfl, endOf_attr, show Plain.clear (Plain.fold ((s.data.toList.take (Plain.attrEnd s.data.toList j)).drop j)) = Plain.attrName s.data.toList j from rfl, show ((j + 1 : Nat) : Int) = (j : Int) + 1 by omega] at HN
  have HB := fun W => Lib.hid (behind_blanks s (Plain.attrEnd s.data.toList j) W (by omega) (by omega))
  rw [show Plain.attrEnd s.data.toList j + Plain.runP Plain.blankB (s.data.toList.drop (Plain.attrEnd s.data.toList j)) = Plain.attrMid s.data.toList j from rfl] at HB
  have HK : Hid (∀ (sl : Value) a' W', ReadM w b K ⟨NL.toArray⟩ v rs ⟨(Plain.attrName s.data.toList j).toArray⟩ ⟨(Plain.rawRest s.data.toList (Plain.attrMid s.data.toList j)).1.toArray⟩ m D W' → Fr s k w b sl (.int .i64 ((Plain.rawRest s.data.toList (Plain.attrMid s.data.toList j)).2 : Int)) a' → Plain.attrMid s.data.toList j ≤ (Plain.rawRest s.data.toList (Plain.attrMid s.data.toList j)).2 → (Plain.rawRest s.data.toList (Plain.attrMid s.data.toList j)).2 ≤ s.size →
      Lab ⟨s, k, w, b, K, st, NL, R⟩ 4 ((s.size - (Plain.rawRest s.data.toList (Plain.attrMid s.data.toList j)).2) * 10 + 8) a' W') := by
    refine Lib.hid fun sl a' W' h1 h2 h3 h5 => ⟨_, m, v, sl, rs, _, _, D, h2, h1, hS, h5, by omega, hrs, ?_, ?_, hRT2, rfl⟩
    · show (Plain.attrName s.data.toList j).toArray.size ≤ _
      rw [List.size_toArray]; exact hE3
    · show (Plain.rawRest s.data.toList (Plain.attrMid s.data.toList j)).1.toArray.size ≤ _
      have := Plain.rawRest_len s.data.toList (Plain.attrMid s.data.toList j)
      rw [len_of] at this
      rw [List.size_toArray]; exact this
  have h8 : s[j].toNat < 256 := s[j].toNat_lt
  have q0 : ((j : Int) == (s.size : Int)) = false := beq_eq_false_iff_ne.2 (by omega)
  have q1 : ((s[j].toNat : Int) == 62) = false := beq_eq_false_iff_ne.2 (by omega)
  have q2 : ((s[j].toNat : Int) == 47) = false := beq_eq_false_iff_ne.2 (by omega)
  have HBL := Lib.hid hbl
  have HM := Lib.hid hM
  have HMX := Lib.hid hmax
  have HGO := Lib.hid hgo
  have HRET := Lib.hid hret
  have HN4 := Lib.hid h4
  have HNN := Lib.hid hn
  have HX := Lib.hid (hM.below)
  refine Fr.elim (C := fun a => (after (scopeOf Tryd.f40.body) 3).wp Tryd.prog Q a W) hF ?_
  clear hF hM hS hmi hrs hR hRT hn hgo hret hgs h62 h47 hbl hmax h4 hRT2 hE3
  intro u11 u12 u13 u14 u15 u16 u17 u18 u19 u20 u21 u22 u23 u24 u25 u26 u27 u28 u29 u30 u31 u32 u33 u34 u35 u36 u37 u38 u39 u40 u41 u42 u43 u44 u45 u46 u47 u48 u49 u50 u51 u52 u53 u54 u55 u56 u57 u58 u59 u60 u61 u62 u63 u64 u65 u66 u67 u68 u69 u70 u71 u72 u73 u74 u75 u76 u77 u78 u79 u80 u81 u82 u83 u84 u85 u86 u87 u88 u89 u90 u91 u92 u93 u94 u95 u96 u97 u98 u99 u100 u101 u102 u103 u104 u105 u106 u107 u108 u109 u110 u111 u112 u113 u114 u115 u116
  show Code.wp _ ((Code.block 0 ((Code.region 6 _ _).seq _)).seq _) _ _ _
  generalize Plain.attrMid s.data.toList j = q at *
  generalize Plain.attrEnd s.data.toList j = E at *
  generalize Plain.attrName s.data.toList j = NM at *
  go_wp2_with (go_at_call 54; refine (blank_no _ _ HBL.out).mono ?_; rintro e w1 ⟨rfl, rfl⟩)
  refine (HN _ (HMX.out.below HX.out)).out.mono ?_
  rintro e w2 ⟨rfl, b2⟩
  have HM2 := Lib.hid (HM.out.on b2)
  have x0 := HM2.out.x 0
  have x1 := HM2.out.x 1
  have fx := HM2.out.fx
  have HM3 := Lib.hid ((HM2.out.name ⟨NM.toArray⟩).val ⟨#[]⟩)
  clear b2 HM HX
  go_wp2_with fail
  generalize (w2.setCell ⟨w.heap.size + 1, 0, none⟩ (.string ⟨NM.toArray⟩)).setCell ⟨w.heap.size + 1, 1, none⟩ (.string ⟨#[]⟩) = W3 at *
  clear x0 x1 fx HM2
  refine (HB _).out.mono ?_
  rintro e w4 ⟨rfl, rfl⟩
  by_cases hqe : q < s.size
  · have q8 : s[q].toNat < 256 := s[q].toNat_lt
    have q3 : ((q : Int) == (s.size : Int)) = false := beq_eq_false_iff_ne.2 (by omega)
    by_cases h61 : s[q].toNat = 61
    · have q4 : ((s[q].toNat : Int) != 61) = false := by simp [h61]
      have hrw : Plain.rawRest s.data.toList q = Plain.rawAt s.data.toList (q + 1 + Plain.runP Plain.blankB (s.data.toList.drop (q + 1))) := by
        unfold Plain.rawRest
        rw [len_of, Plain.getD_get s q hqe, if_neg (by omega)]
      rw [hrw] at HK
      clear hrw h61
      have hr2 := Plain.runP_le Plain.blankB (s.data.toList.drop (q + 1))
      rw [List.length_drop, len_of] at hr2
      have HB2 := fun W => Lib.hid (behind_blanks s (q + 1) W (by omega) (by omega))
      have HV := fun W h => Lib.hid (value_any s (q + 1 + Plain.runP Plain.blankB (s.data.toList.drop (q + 1))) W h (by omega) hs)
      have hp2 : q + 1 ≤ q + 1 + Plain.runP Plain.blankB (s.data.toList.drop (q + 1)) := by omega
      have hp3 : q + 1 + Plain.runP Plain.blankB (s.data.toList.drop (q + 1)) ≤ s.size := by omega
      rw [show ((q + 1 : Nat) : Int) = (q : Int) + 1 by omega] at HB2
      clear hr2
      generalize q + 1 + Plain.runP Plain.blankB (s.data.toList.drop (q + 1)) = p at *
      have hraw := Plain.rawAt_le s.data.toList p (by rw [len_of]; exact hp3)
      rw [len_of] at hraw
      generalize Plain.rawAt s.data.toList p = rw_ at *
      obtain ⟨rv, re⟩ := rw_
      simp only at hraw HK
      go_wp2_with fail
      refine (HB2 _).out.mono ?_
      rintro e w5 ⟨rfl, rfl⟩
      go_wp2_with fail
      refine (HV _ (HMX.out.below HM3.out.below)).out.mono ?_
      rintro e w6 ⟨rfl, nd, rfl⟩
      have HM4 := Lib.hid (HM3.out.drewN nd)
      have x1 := HM4.out.x 1
      have fx := HM4.out.fx 1
      have HM5 := Lib.hid (HM4.out.val ⟨rv.toArray⟩)
      generalize W3.drewN nd = W4 at *
      clear HM3 HM4 HB HB2 HV HN
      go_wp2
      go_step3
      refine ‹∀ (a : Act) (w : World), Code.wp _ _ _ a w → _› _ _ ?_
      refine HN4.out _ _ _ _ (HK.out _ _ _ HM5.out Fr.mk (by omega) (by omega)) HRET.out (fun l' n' a' W' hL hlt => HGO.out l' n' a' W' hL (by have := HNN.out; omega))
    · have q4 : ((s[q].toNat : Int) != 61) = true := by simp; omega
      have hrw : Plain.rawRest s.data.toList q = ([], q) := by
        unfold Plain.rawRest
        rw [len_of, Plain.getD_get s q hqe, if_pos (Or.inr h61)]
      rw [hrw] at HK
      clear hrw h61
      go_wp2
      go_step3
      exact HGO.out 4 _ _ _ (HK.out _ _ _ HM3.out Fr.mk (Nat.le_refl _) (by omega)) (by have := HNN.out; omega)
  · have q3 : ((q : Int) == (s.size : Int)) = true := beq_iff_eq.2 (by omega)
    have hrw : Plain.rawRest s.data.toList q = ([], q) := by
      unfold Plain.rawRest
      rw [len_of, if_pos (Or.inl (by omega))]
    rw [hrw] at HK
    clear hrw
    go_wp2
    go_step3
    exact HGO.out 4 _ _ _ (HK.out _ _ _ HM3.out Fr.mk (Nat.le_refl _) (by omega)) (by have := HNN.out; omega)

theorem way_pass (f : Fix) (hf : f.Ok) (h4 : Way f 4) : Way f 3 := by
  rintro n a W Q ⟨i, j, m, v, rs, an, av, D, hF, hM, hS, hmi, hrs, hR, hRT, hn⟩ hret hgo
  have hj := hR.2.1
  rw [len_of] at hj
  by_cases he : j < f.s.size
  · by_cases h62 : f.s[j].toNat = 62
    · exact pass_end f hf n a W Q i j m v rs an av D hF hM hS hmi hrs hR hRT hn hgo he h62
    · by_cases h47 : f.s[j].toNat = 47
      · exact pass_slash f hf n a W Q i j m v rs an av D hF hM hS hmi hrs hR hRT hn hgo he h47
      · cases hbl : Plain.blankB f.s[j]
        · exact pass_attr f hf n a W Q i j m v rs an av D hF hM hS hmi hrs hR hRT hn hret hgo h4 he h62 h47 hbl
        · exact pass_blank f hf n a W Q i j m v rs an av D hF hM hS hmi hrs hR hRT hn hgo he hbl
  · exact pass_cut f hf n a W Q i j m v rs an av D hF hM hS hmi hrs hR hRT hn hgo (by omega)
end Go.Proofs.YtgelgfgcdfnacaaDoor
namespace Go.Proofs.YtgelgfgcdfnacaaDoor
open Go.RowKit Go.Maps Go.WideMaps

theorem law_str : Keyed Tryd.prog 9 := string_keyed Tryd.underlying9
theorem lit_inj {a b : Int} (h : (DataW.lit (Lit.int .i64 a) : DataW Unit) = .lit (.int .i64 b)) : a = b := by
  injection h with e
  injection e
theorem put_at {D : DataW Unit} (hD : IsMap D) (l : List UInt8) (a b : Int) (h : (D.put (.string l) (.lit (.int .i64 a))).atKey (.string l) (.lit (.int .i64 0)) = .lit (.int .i64 b)) : b = a := by
  rw [atKey_put_same hD (show WideAt.IsKeyLit (.string l) from trivial)] at h
  exact (lit_inj h).symm
theorem info_attr : ∃ i, Tryd.prog.info? 49 = some i ∧ i.zero = some (.agg #[.string ByteArray.empty, .string ByteArray.empty]) ∧ i.size = 2 ∧ i.bytes = 32 := by
  have hi9 : (Tryd.prog.info? 49).map (fun i => (i.zero, i.size, i.bytes)) = some (some (.agg #[.string ByteArray.empty, .string ByteArray.empty]), 2, 32) := by kernel_rfl
  obtain ⟨i0, hi, hx⟩ := Option.map_eq_some_iff.1 hi9
  simp only [Prod.mk.injEq] at hx
  exact ⟨i0, hi, hx.1, hx.2.1, hx.2.2⟩
theorem zero_int (w : World) : (zeroValue 3).run Tryd.prog w = .ok (.int .i64 0) w := by kernel_rfl

set_option maxHeartbeats 4000000 in
set_option maxRecDepth 100000 in
theorem way_keep (f : Fix) (hf : f.Ok) : Way f 4 := by
  obtain ⟨s, k, w, b, K, st, NL, R⟩ := f
  rintro n a W Q ⟨q, m, v, sl, rs, an, av, D, hF, hM, hS, hq, hmq, hrs, han, hav, hRT, hn⟩ hret hgo
  have hs := hf.size
  have hk := hf.kind
  have hmax := hf.max
  have hea := hf.early
  clear hf
  simp only at hF hM hS hq hmq hrs han hav hRT hn hs hk hmax hea
  have hkey : keyOf Tryd.prog 9 (.string an) = some (.string an.data.toList) := keyOf_string_mk Tryd.underlying9 (by unfold maxLen; omega)
  obtain ⟨c0, hrun, hat, hwc⟩ := hM.mp.lookup_int law_str Tryd.underlying70 Tryd.underlying3 (zero_int _) hkey
  obtain ⟨c, hat2, hcm, hcz⟩ := hS.2 an.data.toList
  have hcc : c0 = (c : Int) := by
    rw [hat] at hat2
    exact lit_inj hat2
  subst hcc
  have HWF := Lib.hid (plainElem_int (H := Unit) Tryd.underlying3 (WalkArith.wf_i64 (n := (c : Int) + 1) (by omega)))
  have HS := Lib.hid (hS.next (an.data.toList, Plain.clear (Plain.expand av.data.toList true)) c hat)
  have HM := Lib.hid hM
  have HK := Lib.hid hk
  have HRT := Lib.hid hRT
  have HGO := Lib.hid hgo
  have HNN := Lib.hid hn
  have HMX := Lib.hid hmax
  have HEA := Lib.hid hea
  have HKEY := Lib.hid hkey
  have HCZ := Lib.hid hcz
  have HIM := Lib.hid hS.1
  have hown := Lib.hid hM.mp
  have x0 := hM.x 0
  have hle := hM.le
  have hlt := hM.lt
  refine Fr.elim (C := fun a => (after (scopeOf Tryd.f40.body) 4).wp Tryd.prog Q a W) hF ?_
  clear hF hM hS hRT hn hgo hret hk hmax hea hkey hat hat2 hcz hwc
  intro u11 u12 u13 u14 u15 u16 u17 u18 u19 u20 u21 u22 u23 u24 u25 u26 u27 u28 u29 u30 u31 u32 u33 u34 u35 u36 u37 u38 u39 u40 u41 u42 u43 u44 u45 u46 u47 u48 u49 u50 u51 u52 u53 u54 u55 u56 u57 u58 u59 u60 u61 u62 u63 u64 u65 u66 u67 u68 u69 u70 u71 u72 u73 u74 u75 u76 u77 u78 u79 u80 u81 u82 u83 u84 u85 u86 u87 u88 u89 u90 u91 u92 u93 u94 u95 u96 u97 u98 u99 u100 u101 u102 u103 u104 u105 u106 u107 u108 u109 u110 u111 u112 u113 u114 u115 u116
  show Code.wp _ ((Code.region 16 _ _).seq _) _ _ _
  go_wp2_with (first
      | (at_mapUpdate; refine wpList_mapUpdate_own _ rfl _ _ _ 70 rfl 9 3 law_str Tryd.underlying70 _ (w.heap.size + 2) m _ rfl hown.out (by unfold maxLen; omega) _ _ _ rfl rfl HKEY.out _ [] HWF.out ?_)
      | go_in)
  intro W1 hown1 hgrow1
  have HM1 := Lib.hid (HM.out.upd hgrow1 hown1)
  obtain ⟨c1, hrun1, hat1, hwc1⟩ := hown1.lookup_int law_str Tryd.underlying70 Tryd.underlying3 (zero_int _) HKEY.out
  have hc1 : c1 = (c : Int) + 1 := put_at HIM.out _ _ _ hat1
  subst hc1
  clear hown1 hgrow1 hat1 hwc1 hrun x0 HM hown HWF
  have x0 := HM1.out.x 0
  have x1 := HM1.out.x 1
  have fx := HM1.out.fx 1
  have k0 := HM1.out.c 0
  have HGO0 : Hid (∀ a' W' (v' : Value) rs' av', rs'.length ≤ m + 1 → Fr s k w b sl (.int .i64 (q : Int)) a' → ReadM w b K ⟨NL.toArray⟩ v' rs' an av' (m + 1) (D.put (.string an.data.toList) (.lit (.int .i64 ((c : Int) + 1)))) W' → rs' = Plain.addAttr st rs (an.data.toList, Plain.clear (Plain.expand av.data.toList true)) → Q (.goto 0) a' W') := by
    refine Lib.hid fun a' W' v' rs' av' hl h1 h2 h3 => ?_
    refine HGO.out 0 ((s.size - q) * 10 + 5) a' W' ⟨q, m + 1, v', sl, rs', an, av', _, h1, h2, ?_, hq, hmq, hl, ?_, rfl⟩ (by have := HNN.out; omega)
    · rw [h3]; exact HS.out
    · rw [h3]; exact HRT.out
  rcases HK.out with ⟨rfl, rfl⟩ | ⟨rfl, rfl⟩
  · by_cases hc0 : c = 0
    · have q1 : (((c : Int) + 1) == 1) = true := by simp [hc0]
      have hadd : Plain.addAttr true rs (an.data.toList, Plain.clear (Plain.expand av.data.toList true)) = rs ++ [(an.data.toList, Plain.clear (Plain.expand av.data.toList true))] := by
        unfold Plain.addAttr
        rw [if_pos (by simp only; rw [(HCZ.out rfl).1 hc0]; rfl)]
      have HADD := Lib.hid hadd
      clear hadd hc0
      have HX := Lib.hid (expand_any av true W1 (by omega) (HEA.out.below HM1.out.below HEA.out.size))
      have hxl := Plain.expand_len av.data.toList.length av.data.toList true (Nat.le_refl _)
      rw [len_of] at hxl
      have HZ := fun W h => Lib.hid (zeros_any ⟨(Plain.expand av.data.toList true).toArray⟩ W h (by show (Plain.expand av.data.toList true).toArray.size ≤ _; rw [List.size_toArray]; omega))
      clear hxl
      rw [show (⟨(Plain.expand av.data.toList true).toArray⟩ : ByteArray).data.toList = Plain.expand av.data.toList true from rfl] at HZ
      generalize Plain.clear (Plain.expand av.data.toList true) = CV at *
      generalize Plain.expand av.data.toList true = XV at *
      go_wp2_with fail
      refine HX.out.mono ?_
      rintro e W2 ⟨rfl, b2⟩
      have HM2 := Lib.hid (HM1.out.on b2)
      clear b2 HM1 HX x0 x1 fx k0 hrun1
      go_wp2_with fail
      refine (HZ _ (HMX.out.below HM2.out.below)).out.mono ?_
      rintro e W3 ⟨rfl, b3⟩
      have HM3 := Lib.hid (HM2.out.on b3)
      clear b3 HM2 HZ
      have x1 := HM3.out.x 1
      have fx1 := HM3.out.fx 1
      have HM4 := Lib.hid (HM3.out.val ⟨CV.toArray⟩)
      go_upto_region 19 with fail
      generalize W3.setCell ⟨w.heap.size + 1, 1, none⟩ (.string ⟨CV.toArray⟩) = W4 at *
      clear HM3 x1 fx1
      have x0 := HM4.out.x 0
      have x1 := HM4.out.x 1
      have k2 := HM4.out.c 2
      obtain ⟨vp, vc, rfl, hvc⟩ := AttrsAt.of_row HM4.out.row
      clear hvc
      have z1 : w.heap.size + 1 < W4.heap.size := by have := HM4.out.lt; omega
      have z2 := HM4.out.lt
      obtain ⟨i0, hi, hz0, hz1, hz2⟩ := info_attr
      have HI := Lib.hid (And.intro hi (And.intro hz0 (And.intro hz1 hz2)))
      clear hi hz0 hz1 hz2
      go_wp2_with (first
        | (at_builtin; refine wpList_append_lies _ rfl _ _ 25 rfl (b + 1) 49 i0 (.agg #[.string ByteArray.empty, .string ByteArray.empty]) 2 32 Tryd.underlying25 HI.out.1 HI.out.2.1 HI.out.2.2.1 HI.out.2.2.2 rfl (by omega) _ rs.length (attrCells rs) rfl (HM4.out.row.alloc _) ⟨W4.heap.size, 0, none⟩ 1 1 [.string an, .string ⟨CV.toArray⟩] rfl rfl (World.news_of_block (cs := #[.string an, .string ⟨CV.toArray⟩]) (heap_alloc_new _ _)) (by simp [Value.oneCell']) (by omega) (by unfold maxLen; omega) (by omega) (by simp; omega) _ rfl ?_)
        | go_in)
      intro g cap W5 hr5 hg5 hor5 hlt5
      have HM5 := Lib.hid (ReadM.more (a := (an.data.toList, CV)) (HM4.out.on ((Below.refl _ _).alloc (Nat.le_refl _) (.cells #[.string an, .string ⟨CV.toArray⟩] 49))) hg5 hr5)
      have HMa := Lib.hid (HM4.out.on ((Below.refl _ _).alloc (Nat.le_refl _) (.cells #[.string an, .string ⟨CV.toArray⟩] 49)))
      have fb : some b ≠ (Value.slice vp rs.length vc).ownBlock := fun e => by have := (HM4.out.row.lt _ e.symm).1; omega
      have k5 := (hg5.cell_far ⟨b, 2, none⟩ (by simp; omega) fb).trans (HMa.out.c 2)
      have f5 := (hg5.frozen_far ⟨b, 2, none⟩ (by simp; omega) fb).trans (HMa.out.fc 2)
      clear HMa HM4 fb hr5 hg5 hor5 hlt5 x0 x1 k2
      go_wp2
      go_step3
      exact HGO0.out _ _ _ _ _ (by simp; omega) Fr.mk HM5.out HADD.out.symm
    · have q1 : (((c : Int) + 1) == 1) = false := beq_eq_false_iff_ne.2 (by omega)
      have hadd : rs = Plain.addAttr true rs (an.data.toList, Plain.clear (Plain.expand av.data.toList true)) := by
        unfold Plain.addAttr
        rw [if_neg]
        simp only
        intro hh
        cases hn : Plain.hasName rs an.data.toList
        · exact hc0 ((HCZ.out rfl).2 hn)
        · rw [hn] at hh; cases hh
      have HADD := Lib.hid hadd
      clear hadd hc0
      go_wp2
      go_step3
      exact HGO0.out _ _ v rs av (by omega) Fr.mk HM1.out HADD.out
  · have hadd : rs = Plain.addAttr false rs (an.data.toList, Plain.clear (Plain.expand av.data.toList true)) := by
      unfold Plain.addAttr
      simp
    have HADD := Lib.hid hadd
    clear hadd
    go_wp2
    go_step3
    exact HGO0.out _ _ v rs av (by omega) Fr.mk HM1.out HADD.out
end Go.Proofs.YtgelgfgcdfnacaaDoor
namespace Go.Proofs.YtgelgfgcdfnacaaDoor
open Go.RowKit Go.Maps Go.WideMaps

theorem ways (f : Fix) (hf : f.Ok) : ∀ l, l ≤ 4 → Way f l := by
  have h4 := way_keep f hf
  have h3 := way_pass f hf h4
  intro l hl
  match l, hl with
  | 0, _ => exact way_between f h3
  | 1, _ => exact way_cut f
  | 2, _ => exact way_end f hf
  | 3, _ => exact h3
  | 4, _ => exact h4
theorem lab_le (f : Fix) (l n : Nat) (a : Act) (W : World) (h : Lab f l n a W) : l ≤ 4 := by
  match l with
  | 0 => omega
  | 1 => omega
  | 2 => omega
  | 3 => omega
  | 4 => omega
  | l + 5 => exact h.elim
theorem found (l : Nat) (h : l ≤ 4) : findLabel (scopeOf Tryd.f40.body) l = some (.seq .skip (after (scopeOf Tryd.f40.body) l)) := by
  match l, h with
  | 0, _ => rfl
  | 1, _ => rfl
  | 2, _ => rfl
  | 3, _ => rfl
  | 4, _ => rfl

/-- The memory of Read as its first label is met. -/
theorem ReadM.start (w w2 : World) (K : Int) (N : ByteArray) (b2 : Below (((w.alloc (.cells #[.int .i64 0, .string ⟨#[]⟩, .slice none 0 0, .bool false, .string ⟨#[]⟩] 27)).alloc (.cells #[.string ⟨#[]⟩, .string ⟨#[]⟩] 49)).alloc (.map #[] 0)).heap.size (((w.alloc (.cells #[.int .i64 0, .string ⟨#[]⟩, .slice none 0 0, .bool false, .string ⟨#[]⟩] 27)).alloc (.cells #[.string ⟨#[]⟩, .string ⟨#[]⟩] 49)).alloc (.map #[] 0)) w2) :
    ReadM w w2.heap.size K N (.slice none 0 0) [] ⟨#[]⟩ ⟨#[]⟩ 0 (.map []) (w2.alloc (.cells #[.int .i64 K, .string N, .slice none 0 0, .bool false, .string ⟨#[]⟩] 27)) := by
  have k0 : ∀ j, (w.alloc (.cells #[.int .i64 0, .string ⟨#[]⟩, .slice none 0 0, .bool false, .string ⟨#[]⟩] 27)).cell? ⟨w.heap.size, j, none⟩ = (#[.int .i64 0, .string ⟨#[]⟩, .slice none 0 0, .bool false, .string ⟨#[]⟩] : Array Value)[j]? := fun j => World.cell?_alloc_mark w _ 27 (0, 0) j
  have m0 : ∀ j, (w.alloc (.cells #[.int .i64 0, .string ⟨#[]⟩, .slice none 0 0, .bool false, .string ⟨#[]⟩] 27)).frozen? ⟨w.heap.size, j, none⟩ = false := fun j => by rw [World.frozen?_alloc_mark]; simp
  have hz : (w.alloc (.cells #[.int .i64 0, .string ⟨#[]⟩, .slice none 0 0, .bool false, .string ⟨#[]⟩] 27)).heap.size = w.heap.size + 1 := by simp
  have b1 : Below w.heap.size w (w.alloc (.cells #[.int .i64 0, .string ⟨#[]⟩, .slice none 0 0, .bool false, .string ⟨#[]⟩] 27)) := (Below.refl _ w).alloc (Nat.le_refl _) _
  generalize w.alloc (.cells #[.int .i64 0, .string ⟨#[]⟩, .slice none 0 0, .bool false, .string ⟨#[]⟩] 27) = w1 at *
  have k1 : ∀ j, (w1.alloc (.cells #[.string ⟨#[]⟩, .string ⟨#[]⟩] 49)).cell? ⟨w1.heap.size, j, none⟩ = (#[.string ⟨#[]⟩, .string ⟨#[]⟩] : Array Value)[j]? := fun j => World.cell?_alloc_mark w1 _ 49 (0, 0) j
  have m1 : ∀ j, (w1.alloc (.cells #[.string ⟨#[]⟩, .string ⟨#[]⟩] 49)).frozen? ⟨w1.heap.size, j, none⟩ = false := fun j => by rw [World.frozen?_alloc_mark]; simp
  have c1 : Below w1.heap.size w1 (w1.alloc (.cells #[.string ⟨#[]⟩, .string ⟨#[]⟩] 49)) := (Below.refl _ w1).alloc (Nat.le_refl _) _
  have hz1 : (w1.alloc (.cells #[.string ⟨#[]⟩, .string ⟨#[]⟩] 49)).heap.size = w1.heap.size + 1 := by simp
  generalize w1.alloc (.cells #[.string ⟨#[]⟩, .string ⟨#[]⟩] 49) = w3 at *
  have om : (w3.alloc (.map #[] 0)).ownsMap Tryd.prog 9 (plainElem (H := Unit) Tryd.prog 3) w3.heap.size 0 (.map []) := World.ownsMap_made _ _ _ _
  have c2 : Below w3.heap.size w3 (w3.alloc (.map #[] 0)) := (Below.refl _ w3).alloc (Nat.le_refl _) _
  have hz2 : (w3.alloc (.map #[] 0)).heap.size = w3.heap.size + 1 := by simp
  generalize w3.alloc (.map #[] 0) = w4 at *
  have k4 : ∀ j, (w2.alloc (.cells #[.int .i64 K, .string N, .slice none 0 0, .bool false, .string ⟨#[]⟩] 27)).cell? ⟨w2.heap.size, j, none⟩ = (#[.int .i64 K, .string N, .slice none 0 0, .bool false, .string ⟨#[]⟩] : Array Value)[j]? := fun j => World.cell?_alloc_mark w2 _ 27 (0, 0) j
  have m4 : ∀ j, (w2.alloc (.cells #[.int .i64 K, .string N, .slice none 0 0, .bool false, .string ⟨#[]⟩] 27)).frozen? ⟨w2.heap.size, j, none⟩ = false := fun j => by rw [World.frozen?_alloc_mark]; simp
  have c4 : Below w2.heap.size w2 (w2.alloc (.cells #[.int .i64 K, .string N, .slice none 0 0, .bool false, .string ⟨#[]⟩] 27)) := (Below.refl _ w2).alloc (Nat.le_refl _) _
  have hz4 : (w2.alloc (.cells #[.int .i64 K, .string N, .slice none 0 0, .bool false, .string ⟨#[]⟩] 27)).heap.size = w2.heap.size + 1 := by simp
  generalize w2.alloc (.cells #[.int .i64 K, .string N, .slice none 0 0, .bool false, .string ⟨#[]⟩] 27) = w5 at *
  have hs2 := b2.size
  have e1 : w1.heap.size = w.heap.size + 1 := hz
  have e3 : w3.heap.size = w.heap.size + 2 := by omega
  rw [e1] at k1 m1
  rw [e3] at om
  have B3 : Below w4.heap.size w4 w5 := b2.trans (c4.mono hs2)
  have B2 : Below w3.heap.size w3 w5 := c2.trans (B3.mono (by omega))
  have B1 : Below w1.heap.size w1 w5 := c1.trans (B2.mono (by omega))
  refine ⟨by omega, by omega, fun j => (B1.cell (p := ⟨w.heap.size, j, none⟩) (by simp; omega)).trans (k0 j), fun j => (B1.frozen (p := ⟨w.heap.size, j, none⟩) (by simp; omega)).trans (m0 j),
    fun j => (B2.cell (p := ⟨w.heap.size + 1, j, none⟩) (by simp; omega)).trans (k1 j), fun j => (B2.frozen (p := ⟨w.heap.size + 1, j, none⟩) (by simp; omega)).trans (m1 j), om.kept (grown_below B3) (by simp),
    k4, m4, ⟨rfl, Or.inl ⟨rfl, rfl⟩⟩, b1.trans (B1.mono (by omega))⟩

set_option maxHeartbeats 4000000 in
set_option maxRecDepth 100000 in
theorem read_of (s : ByteArray) (k : Nat) (w : World) (K : Int) (st : Bool) (NL : List UInt8) (E : Nat) (hs : s.size ≤ 268435456) (hK : K = 1 ∧ st = true ∨ K = 2 ∧ st = false) (hmax : HasMax w) (hea : HasEarly w) (hE : E ≤ s.size)
    (HB : ∀ W, HasMax W → Calls Tryd.prog 53 #[.string s, .int .i64 (k : Int)] W (BegunOut K NL E W)) :
    Calls Tryd.prog 40 #[.string s, .int .i64 (k : Int)] w (ReadOut K NL (Plain.readT st s.data.toList E []) w) := by
  obtain ⟨R, hR⟩ : ∃ R, R = Plain.readT st s.data.toList E [] := ⟨_, rfl⟩
  rw [← hR]
  have HR := Lib.hid hR
  clear hR
  have HOK : Hid (∀ b, Fix.Ok ⟨s, k, w, b, K, st, NL, R⟩) := Lib.hid fun b => ⟨hs, hK, hmax, hea⟩
  have HBE := Lib.hid HB
  have HMX := Lib.hid hmax
  clear hmax hea HB hK
  go_enter Tryd.func40, Tryd.ntmps40
  have hmm := @run_makeMap Tryd.prog
  go_wp2_with fail
  refine wp_scope_many (fun l n a W => ∃ b, Lab ⟨s, k, w, b, K, st, NL, R⟩ l n a W) ?_ ?_
  · have HQR : Hid (∀ a' W', bodyPost Tryd.prog Tryd.f40 (ReadOut K NL R w) .ret a' W' → jumps (fun l a w_1 => ∃ n, ∃ b, Lab ⟨s, k, w, b, K, st, NL, R⟩ l n a w_1) (bodyPost Tryd.prog Tryd.f40 (ReadOut K NL R w)) .ret a' W') := Lib.hid fun a' W' h => h
    have HQG : Hid (∀ l' n' b a' W', Lab ⟨s, k, w, b, K, st, NL, R⟩ l' n' a' W' → jumps (fun l a w_1 => ∃ n, ∃ b, Lab ⟨s, k, w, b, K, st, NL, R⟩ l n a w_1) (bodyPost Tryd.prog Tryd.f40 (ReadOut K NL R w)) (.goto l') a' W') := Lib.hid fun l' n' b a' W' h => ⟨n', b, h⟩
    generalize jumps (fun l a w_1 => ∃ n, ∃ b, Lab ⟨s, k, w, b, K, st, NL, R⟩ l n a w_1) (bodyPost Tryd.prog Tryd.f40 (ReadOut K NL R w)) = QQ at *
    go_wp2_with fail
    have hb0 : Below w.heap.size w (((w.alloc (.cells #[.int .i64 0, .string ⟨#[]⟩, .slice none 0 0, .bool false, .string ⟨#[]⟩] 27)).alloc (.cells #[.string ⟨#[]⟩, .string ⟨#[]⟩] 49)).alloc (.map #[] 0)) := (((Below.refl _ _).alloc (Nat.le_refl _) _).alloc (by simp) _).alloc (by simp; omega) _
    have hz0 : (((w.alloc (.cells #[.int .i64 0, .string ⟨#[]⟩, .slice none 0 0, .bool false, .string ⟨#[]⟩] 27)).alloc (.cells #[.string ⟨#[]⟩, .string ⟨#[]⟩] 49)).alloc (.map #[] 0)).heap.size = w.heap.size + 3 := by simp
    refine (HBE.out _ (HMX.out.below hb0)).mono ?_
    rintro e w2 ⟨rfl, b2⟩
    have HM := Lib.hid (ReadM.start w w2 K ⟨NL.toArray⟩ b2)
    clear b2 hb0 hz0
    go_wp2_with fail
    go_step3
    refine ‹∀ (a : Act) (w : World), Code.wp _ _ _ a w → _› _ _ ?_
    refine ways _ (HOK.out w2.heap.size) 0 (by omega) ((s.size - E) * 10 + 5) _ _ _ ⟨E, 0, _, _, [], _, _, _, Fr.mk, HM.out, Seen.start _, hE, Nat.zero_le _, Nat.le_refl _, HR.out.symm, rfl⟩ HQR.out (fun l' n' a' W' hL _ => HQG.out l' n' w2.heap.size a' W' hL)
  · rintro l n a W ⟨b, hL⟩
    have hl := lab_le _ _ _ _ _ hL
    refine ⟨_, found l hl, ?_⟩
    refine wp_seq (wp_skip ?_)
    refine ways _ (HOK.out b) l hl n a W _ hL (fun a' W' h => h) (fun l' n' a' W' hL' hlt => ⟨n', hlt, b, hL'⟩)

/-- A tag's kind, its name, what stands behind the name. -/
def tagKd (l : List UInt8) (k : Nat) : Int := if Plain.tagStart l k then 1 else 2
def tagNm (l : List UInt8) (k : Nat) : List UInt8 := Plain.clear (Plain.fold ((l.take (Plain.nameEnd l (Plain.tagName l k))).drop (Plain.tagName l k)))
def tagRd (l : List UInt8) (k : Nat) : Option (List (List UInt8 × List UInt8) × Bool) × Nat := Plain.readT (Plain.tagStart l k) l (Plain.nameEnd l (Plain.tagName l k)) []
theorem nameEnd_le (s : ByteArray) (p : Nat) (h : p ≤ s.size) : p ≤ Plain.nameEnd s.data.toList p ∧ Plain.nameEnd s.data.toList p ≤ s.size := by
  have h1 := Plain.runP_le Plain.inName (s.data.toList.drop p)
  rw [List.length_drop, len_of] at h1
  unfold Plain.nameEnd
  omega
/-- Where a tag begins. -/
theorem at_facts (s : ByteArray) (k : Nat) (hat : atPlace s.data.toList (k : Int) = true) : ∃ h1 : k + 1 < s.size, s[k].toNat = 60 ∧ (s[k + 1].toNat = 47 → k + 2 < s.size) := by
  unfold atPlace at hat
  rw [Bool.and_eq_true, Bool.and_eq_true, decide_eq_true_iff, decide_eq_true_iff] at hat
  obtain ⟨_, hk, ht⟩ := hat
  rw [len_of] at hk
  have hk' : k < s.size := by omega
  rw [show ((k : Int)).toNat = k by omega] at ht
  by_cases h1 : k + 1 < s.size
  · by_cases h0 : s[k].toNat = 60
    · refine ⟨h1, h0, fun h47 => ?_⟩
      rw [at_slash s k h1 h0 h47] at ht
      refine Classical.byContradiction fun hn => ?_
      rw [List.getD_eq_getElem?_getD, List.getElem?_eq_none (by rw [len_of]; omega)] at ht
      cases ht
    · rw [at_first s k hk' h0] at ht
      cases ht
  · rw [at_short s k h1] at ht
    cases ht
theorem read_any (s : ByteArray) (k : Nat) (w : World) (hmax : HasMax w) (hea : HasEarly w) (hat : atPlace s.data.toList (k : Int) = true) (hs : s.size ≤ 268435456) :
    Calls Tryd.prog 40 #[.string s, .int .i64 (k : Int)] w (ReadOut (tagKd s.data.toList k) (tagNm s.data.toList k) (tagRd s.data.toList k) w) := by
  obtain ⟨h1, h60, h2⟩ := at_facts s k hat
  by_cases h47 : s[k + 1].toNat = 47
  · have hst : Plain.tagStart s.data.toList k = false := by
      unfold Plain.tagStart
      rw [Plain.getD_get s (k + 1) h1]
      simp [h47]
    have hn : Plain.tagName s.data.toList k = k + 2 := by unfold Plain.tagName; rw [hst]; rfl
    have := nameEnd_le s (k + 2) (by have := h2 h47; omega)
    unfold tagKd tagNm tagRd
    rw [hst, hn]
    exact read_of s k w 2 false _ _ hs (Or.inr ⟨rfl, rfl⟩) hmax hea (by omega) (fun W h => begun_end s k W h (h2 h47) h47 hat hs)
  · have hst : Plain.tagStart s.data.toList k = true := by
      unfold Plain.tagStart
      rw [Plain.getD_get s (k + 1) h1]
      simp [h47]
    have hn : Plain.tagName s.data.toList k = k + 1 := by unfold Plain.tagName; rw [hst]; rfl
    have := nameEnd_le s (k + 1) (by omega)
    unfold tagKd tagNm tagRd
    rw [hst, hn]
    exact read_of s k w 1 true _ _ hs (Or.inl ⟨rfl, rfl⟩) hmax hea (by omega) (fun W h => begun_start s k W h h1 h47 hat hs)
end Go.Proofs.YtgelgfgcdfnacaaDoor
