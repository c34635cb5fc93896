/-
  What is read of a tag that is written of quoted attributes; the memory in which the law TagMade works; texts that came in. No program is walked.
-/
import Derived.Test.YtklhllgdkmpnmaaDoorULawV
import Derived.Test.YtklhllgdkmpnmaaDoorUIn
import Derived.SliceStrings
namespace Go.Proofs.YtklhllgdkmpnmaaDoor
open Go.RowKit Go.ChangeShapes Go.WideShapes

/-- What is written so far, and what is to be read of it. -/
def MadeAt (l : List UInt8) (rs : List (List UInt8 × List UInt8)) : Prop :=
  (∃ m, l = 60 :: 112 :: m ∧ (m = [] ∨ ∃ m', m = 32 :: m')) ∧ ∀ d, Plain.readT true (l ++ d) 2 [] = Plain.readT true (l ++ d) l.length rs
theorem MadeAt.start : MadeAt [60, 112] [] := ⟨⟨[], rfl, Or.inl rfl⟩, fun _ => rfl⟩
theorem MadeAt.step {l : List UInt8} {rs : List (List UInt8 × List UInt8)} (h : MadeAt l rs) (n0 : UInt8) (name v : List UInt8) (hn0 : Plain.inAttr n0 = true) (hn : ∀ x ∈ name, Plain.inAttr x = true) (hnm : Plain.clear (Plain.fold (n0 :: name)) = n0 :: name) (hv : (34 : UInt8) ∉ v) :
    MadeAt (l ++ 32 :: n0 :: (name ++ 61 :: 34 :: (v ++ [34]))) (Plain.addAttr true rs (n0 :: name, Plain.clear (Plain.expand v true))) := by
  obtain ⟨⟨m, hm, hh⟩, hr⟩ := h
  refine ⟨⟨m ++ 32 :: n0 :: (name ++ 61 :: 34 :: (v ++ [34])), by rw [hm]; rfl, ?_⟩, fun d => ?_⟩
  · right
    rcases hh with rfl | ⟨m', rfl⟩
    · exact ⟨_, rfl⟩
    · exact ⟨_, rfl⟩
  · have e : (l ++ 32 :: n0 :: (name ++ 61 :: 34 :: (v ++ [34]))) ++ d = l ++ 32 :: n0 :: (name ++ 61 :: 34 :: (v ++ 34 :: d)) := by simp
    rw [e, hr]
    obtain ⟨h4, _⟩ := Plain.read_quoted true (l ++ 32 :: n0 :: (name ++ 61 :: 34 :: (v ++ 34 :: d))) d l.length rs n0 name v 34 (by simp) List.drop_left (Or.inl rfl) hn0 hn hnm hv
    rw [h4]
    congr 1
    simp
    omega
theorem MadeAt.close {l : List UInt8} {rs : List (List UInt8 × List UInt8)} (h : MadeAt l rs) (self : Bool) : tagT ((l ++ (if self then [47] else [])) ++ [62] ++ [60, 120, 62]) 0 = ⟨1, [112], rs, self, ((l ++ (if self then [47] else [])) ++ [62]).length⟩ := by
  obtain ⟨⟨m, hm, hh⟩, hr⟩ := h
  have hd : (l ++ (if self then [47] else [])) ++ [62] ++ [60, 120, 62] = l ++ ((if self then [47] else []) ++ 62 :: [60, 120, 62]) := by simp
  obtain ⟨b, r, hbr, hb⟩ : ∃ b r, m ++ ((if self then [47] else []) ++ 62 :: [60, 120, 62]) = b :: r ∧ Plain.inName b = false := by
    rcases hh with rfl | ⟨m', rfl⟩
    · cases self
      · exact ⟨_, _, rfl, by decide⟩
      · exact ⟨_, _, rfl, by decide⟩
    · exact ⟨_, _, rfl, by decide⟩
  have hl : l ++ ((if self then [47] else []) ++ 62 :: [60, 120, 62]) = 60 :: 112 :: b :: r := by rw [← hbr, hm]; rfl
  obtain ⟨h1, h2, h3⟩ := tag_ahead 112 b r (by decide) (by decide) hb
  rw [← hl] at h1 h2 h3
  rw [hr] at h3
  rw [hd]
  refine tk_some h1 h2 ?_
  rw [h3]
  cases self
  · show Plain.readT true (l ++ 62 :: [60, 120, 62]) l.length rs = _
    rw [Plain.read_close true (l ++ 62 :: [60, 120, 62]) [60, 120, 62] l.length rs (by simp) List.drop_left]
    simp
  · show Plain.readT true (l ++ 47 :: 62 :: [60, 120, 62]) l.length rs = _
    rw [Plain.read_slash true (l ++ 47 :: 62 :: [60, 120, 62]) [60, 120, 62] l.length rs (by simp) List.drop_left]
    simp
theorem clear_none (l : List UInt8) (h : (0 : UInt8) ∉ l) : Plain.clear l = l := by
  induction l with
  | nil => rfl
  | cons c r ih =>
    have hc : c.toNat ≠ 0 := fun e => h (by rw [show (0 : UInt8) = c from UInt8.toNat_inj.1 e.symm]; exact List.mem_cons_self)
    have e : Plain.clear (c :: r) = (if c.toNat = 0 then Plain.bad else [c]) ++ Plain.clear r := by unfold Plain.clear; rw [List.flatMap_cons]
    rw [e, if_neg hc, ih (fun hm => h (List.mem_cons_of_mem _ hm))]
    rfl
theorem value_asis (l : List UInt8) (h38 : (38 : UInt8) ∉ l) (h0 : (0 : UInt8) ∉ l) : Plain.clear (Plain.expand l true) = l := by
  rw [Plain.expand_none l true (fun c hc e => h38 (by rw [show (38 : UInt8) = c from UInt8.toNat_inj.1 e.symm]; exact hc)), clear_none l h0]

/-- Texts that came in. -/
def TextsArg (w : World) (v : Value) (n : Nat) : Prop :=
  ∃ p cap, v = .slice p n cap ∧ ∀ j, j < n → ∃ g off x, p = some ⟨g, off, none⟩ ∧ g < w.heap.size ∧ w.cell? ⟨g, off + j, none⟩ = some (.string x) ∧ x.size ≤ maxLen
theorem texts_open {H : Type} {enc : TypeId × Value → H} {W : World} {base : Nat} {spare : Nat → Bool} {held : Bool} {a : Option Addr} {len cap : Nat} {d : DataW H} {ps : List MemPlace}
    (h : DataW.Trod enc Tryd.prog W base spare held 28 (.slice a len cap) d ps) : TextsArg W (.slice a len cap) len := by
  obtain ⟨fuel, hf⟩ := h
  rcases open_strings Tryd.underlying28 Tryd.underlying9 (by kernel_rfl) hf with ⟨hcs, _⟩ | ⟨ad, l, c, ss, hcs, _, hl, _, hs, _, hcell, hsz⟩
  · simp [Value.cells] at hcs
    obtain ⟨rfl, rfl, rfl⟩ := hcs
    exact ⟨none, 0, rfl, fun j hj => absurd hj (by omega)⟩
  · simp [Value.cells] at hcs
    obtain ⟨rfl, rfl, rfl⟩ := hcs
    have hlm : len ≤ ss.length := by rw [hs]; split <;> omega
    obtain ⟨b, off, spot⟩ := ad
    refine ⟨_, _, rfl, fun j hj => ?_⟩
    have h3 := hcell j (by omega)
    have hspot : spot = none := by simpa [Addr.add] using World.cell?_spot (hcell 0 (by omega))
    subst hspot
    rw [add_plain] at h3
    have h3' : W.cell? ⟨b, off + j, none⟩ = some (.string (ss.getD j ByteArray.empty)) := h3
    exact ⟨b, off, _, rfl, cell_lt h3', h3', hsz _ (by rw [List.getD_eq_getElem?_getD, List.getElem?_eq_getElem (by omega)]; exact List.getElem_mem _)⟩

namespace Plain
def mnames : List (List UInt8) := [[97], [98], [99], [104, 114, 101, 102], [100, 97, 116, 97, 45, 120], [111, 110]]
theorem mnames_ok : ∀ j, j < 6 → ∃ n0 r, mnames.getD j [] = n0 :: r ∧ inAttr n0 = true ∧ (r.all inAttr) = true ∧ clear (fold (n0 :: r)) = n0 :: r ∧ r.length ≤ 5
  | 0, _ => ⟨97, [], by decide⟩
  | 1, _ => ⟨98, [], by decide⟩
  | 2, _ => ⟨99, [], by decide⟩
  | 3, _ => ⟨104, [114, 101, 102], by decide⟩
  | 4, _ => ⟨100, [97, 116, 97, 45, 120], by decide⟩
  | 5, _ => ⟨111, [110], by decide⟩
  | j + 6, h => by omega
end Plain
def mnameCells : Array Value := (Plain.mnames.map strV).toArray
theorem mname_at (j : Nat) (h : j < 6) : mnameCells[j]? = some (.string ⟨(Plain.mnames.getD j []).toArray⟩) := by
  have hl : Plain.mnames.length = 6 := rfl
  unfold mnameCells
  rw [List.getElem?_toArray, List.getElem?_map, List.getElem?_eq_getElem (by omega), List.getD_eq_getElem?_getD, List.getElem?_eq_getElem (by omega)]
  rfl
/-- The memory of TagMade: the tape, the names, the token that is wanted, its row of attributes. -/
structure MadeM (w : World) (v : Value) (n : Nat) (sf : Bool) (rv : Value) (rs : List (List UInt8 × List UInt8)) (W : World) : Prop where
  tape : TapeAt w v n w.heap.size W
  lt : w.heap.size + 2 < W.heap.size
  name : ∀ j, j < 6 → W.cell? ⟨w.heap.size + 1, j, none⟩ = some (.string ⟨(Plain.mnames.getD j []).toArray⟩)
  c : ∀ j, W.cell? ⟨w.heap.size + 1 + 1, j, none⟩ = (#[.int .i64 1, .string ⟨#[112]⟩, rv, .bool sf, .string ⟨#[]⟩] : Array Value)[j]?
  fc : ∀ j, W.frozen? ⟨w.heap.size + 1 + 1, j, none⟩ = false
  row : W.ownsRow (w.heap.size + 3) 44 2 rv rs.length (attrCells rs)
section
variable {w W W' : World} {v : Value} {n : Nat} {sf : Bool} {rv : Value} {rs : List (List UInt8 × List UInt8)}
theorem MadeM.on (h : MadeM w v n sf rv rs W) (hb : Below W.heap.size W W') : MadeM w v n sf rv rs W' := by
  have h1 := h.lt
  exact ⟨h.tape.on hb (by omega), Nat.lt_of_lt_of_le h1 hb.size, fun j hj => (hb.cell (p := ⟨w.heap.size + 1, j, none⟩) (by simp; omega)).trans (h.name j hj), fun j => (hb.cell (p := ⟨w.heap.size + 1 + 1, j, none⟩) h1).trans (h.c j), fun j => (hb.frozen (p := ⟨w.heap.size + 1 + 1, j, none⟩) h1).trans (h.fc j),
    h.row.kept (row := none) (grown_below hb) (by cases rv.ownBlock <;> simp)⟩
theorem MadeM.step (h : MadeM w v n sf rv rs W) (hS : Stepped w.heap.size W W') (hT : TapeAt w v n w.heap.size W') : MadeM w v n sf rv rs W' := by
  have h1 := h.lt
  refine ⟨hT, by rw [hS.size]; exact h1, fun j hj => (hS.cell _ _ (Or.inl (by omega))).trans (h.name j hj), fun j => (hS.cell _ _ (Or.inl (by omega))).trans (h.c j), fun j => (hS.frozen _ _).trans (h.fc j), ?_⟩
  obtain ⟨q1, q2, rfl | ⟨u, rfl⟩⟩ := hS
  · exact h.row.kept (row := none) ⟨rfl, rfl, rfl, Nat.le_refl _, fun _ _ _ => rfl⟩ (by cases rv.ownBlock <;> simp)
  · have hr := h.row.kept (w' := W.drewN q1) (row := none) ⟨rfl, rfl, rfl, Nat.le_refl _, fun _ _ _ => rfl⟩ (by cases rv.ownBlock <;> simp)
    have hr2 := ownsRow_setCell_below hr (a := ⟨w.heap.size, 1, none⟩) (by simp) u
    exact hr2.kept (row := none) ⟨rfl, rfl, rfl, Nat.le_refl _, fun _ _ _ => rfl⟩ (by cases rv.ownBlock <;> simp)
/-- One more attribute. -/
theorem MadeM.more {rv' : Value} {a : List UInt8 × List UInt8} (h : MadeM w v n sf rv rs W) (hg : W.grownBy W' rv.ownBlock) (hr : W'.ownsRow (w.heap.size + 3) 44 2 rv' (rs.length + 1) (attrCells rs ++ [.string ⟨a.1.toArray⟩, .string ⟨a.2.toArray⟩])) : MadeM w v n sf rv' (rs ++ [a]) (W'.setCell ⟨w.heap.size + 1 + 1, 2, none⟩ rv') := by
  have h1 := h.lt
  have hz := hg.size
  have f0 : some w.heap.size ≠ rv.ownBlock := fun e => by have := (h.row.lt _ e.symm).1; omega
  have f1 : some (w.heap.size + 1) ≠ rv.ownBlock := fun e => by have := (h.row.lt _ e.symm).1; omega
  have f2 : some (w.heap.size + 1 + 1) ≠ rv.ownBlock := fun e => by have := (h.row.lt _ e.symm).1; omega
  have hW : Below w.heap.size w W' := h.tape.below.grown hg h.tape.below.size (fun k hk => by have := (h.row.lt k hk).1; omega)
  have c' : ∀ j, W'.cell? ⟨w.heap.size + 1 + 1, j, none⟩ = (#[.int .i64 1, .string ⟨#[112]⟩, rv, .bool sf, .string ⟨#[]⟩] : Array Value)[j]? := fun j => (hg.cell_far ⟨w.heap.size + 1 + 1, j, none⟩ h1 f2).trans (h.c j)
  obtain ⟨a0, ha0, hc0⟩ := h.tape.at_
  refine ⟨⟨h.tape.ints, h.tape.new, ?_, ⟨a0, ha0, ?_⟩, ?_, hW.setCell (by simp; omega) _⟩, by simp; omega, fun j hj => ?_, fun j => ?_, fun j => ?_, ?_⟩
  · exact (World.cell?_setCell_other W' _ _ _ (fun q => by injection q with q1; omega)).trans ((hg.cell_far ⟨w.heap.size, 0, none⟩ (by simp; omega) f0).trans h.tape.row)
  · exact (World.cell?_setCell_other W' _ _ _ (fun q => by injection q with q1; omega)).trans ((hg.cell_far ⟨w.heap.size, 1, none⟩ (by simp; omega) f0).trans hc0)
  · rw [World.frozen?_setCell]; exact (hg.frozen_far ⟨w.heap.size, 1, none⟩ (by simp; omega) f0).trans h.tape.free
  · exact (World.cell?_setCell_other W' _ _ _ (fun q => by injection q with q1; omega)).trans ((hg.cell_far ⟨w.heap.size + 1, j, none⟩ (by simp; omega) f1).trans (h.name j hj))
  · by_cases e : 2 = j
    · subst e
      rw [World.cell?_setCell_same W' _ rv' (c' 2)]
      rfl
    · rw [World.cell?_setCell_other W' _ _ rv' (fun q => e (by injection q)), c']
      match j with
      | 0 => rfl
      | 1 => rfl
      | 2 => exact absurd rfl e
      | 3 => rfl
      | 4 => rfl
      | j + 5 => rfl
  · rw [World.frozen?_setCell]; exact (hg.frozen_far ⟨w.heap.size + 1 + 1, j, none⟩ h1 f2).trans (h.fc j)
  · rw [List.length_append, attrCells_snoc]
    exact ownsRow_setCell_below hr (by simp) _
end
end Go.Proofs.YtklhllgdkmpnmaaDoor
