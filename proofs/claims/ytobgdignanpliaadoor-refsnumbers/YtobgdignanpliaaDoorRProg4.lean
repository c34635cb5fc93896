/-
  The walk of the program's Expand. Any text of at most 2^30 bytes; the program's table holds what its text lays.
-/
import Derived.Test.YtobgdignanpliaaDoorRProg3
import Derived.Shelf.Strings.MapGrows
namespace Go.Proofs.YtobgdignanpliaaDoor
open Go.RowKit

theorem IsB.below {B b : Nat} {bs : List Value} {W W' : World} (h : Lib.IsBuilderF 57 5 B b bs W) (hb : Below W.heap.size W W') : Lib.IsBuilderF 57 5 B b bs W' := h.below hb

theorem idx_no (l : List UInt8) (h : Lib.indexByte l 38 = -1) : ∀ c ∈ l, c.toNat ≠ 38 := by
  intro c hc e
  obtain ⟨k, hk, rfl⟩ := List.getElem_of_mem hc
  have := Lib.indexByte_none h k
  rw [List.getElem?_eq_getElem hk] at this
  exact this (congrArg some (UInt8.toNat_inj.1 e))
theorem idx_yes (l : List UInt8) (h : Lib.indexByte l 38 ≠ -1) : ∃ o : Nat, Lib.indexByte l 38 = (o : Int) ∧ o < l.length ∧ (l.drop o = 38 :: l.drop (o + 1)) ∧ ∀ c ∈ l.take o, c.toNat ≠ 38 := by
  have hg := Lib.indexByte_ge l 38
  obtain ⟨o, ho⟩ : ∃ o : Nat, Lib.indexByte l 38 = (o : Int) := ⟨(Lib.indexByte l 38).toNat, by omega⟩
  obtain ⟨h1, h2⟩ := Lib.indexByte_some ho
  obtain ⟨hlt, he⟩ := List.getElem?_eq_some_iff.1 h1
  refine ⟨o, ho, hlt, by rw [List.drop_eq_getElem_cons hlt, he], ?_⟩
  intro c hc e
  obtain ⟨k, hk, rfl⟩ := List.getElem_of_mem hc
  rw [List.length_take] at hk
  refine h2 k (by omega) ?_
  rw [List.getElem_take] at e
  rw [List.getElem?_eq_getElem (by omega)]
  exact congrArg some (UInt8.toNat_inj.1 e)
theorem index_at (s : ByteArray) (r : Int) (hr : Lib.indexByte s.data.toList 38 = r) (w : World) : Calls Tryd.prog 35 #[.string s, .int .u8 38] w (Gives (.int .i64 r) w) :=
  (Tryd.strings_IndexByte s 38 w).mono fun _ _ h => ⟨by rw [h.1]; exact congrArg _ (int_is hr), h.2.symm⟩
theorem slice_to (s : ByteArray) (o : Nat) (W : World) (h : o ≤ s.size) : (Instr.slice 9 (.string s) none (some (.int .i64 (o : Int))) none).run Tryd.prog W = .ok (.string (s.extract 0 o)) W := by
  rw [run_slice_string_h W 9 s Tryd.underlying9 .i64 (o : Int) (by omega) (by omega)]
  rfl
theorem slice_on (s : ByteArray) (o n : Nat) (W : World) (h : o + n ≤ s.size) : (Instr.slice 9 (.string s) (some (.int .i64 ((o : Int) + (n : Int)))) none none).run Tryd.prog W = .ok (.string (s.extract (o + n) s.size)) W := by
  rw [run_slice_string_from_if W 9 s .i64 ((o : Int) + (n : Int)) Tryd.underlying9, if_pos (by omega)]
  rfl
theorem head_of (s : ByteArray) (o : Nat) : (s.extract 0 o).data.toList = s.data.toList.take o := by
  rw [Lib.extract_data]
  simp

/-- What the loop of Expand keeps. -/
def ExpAt (s : ByteArray) (attr : Bool) (t : ByteArray) (acc : List UInt8) : Prop := t.size ≤ s.size ∧ acc.length + 4 * t.size ≤ 4 * s.size ∧ acc ++ Plain.expand t.data.toList attr = Plain.expand s.data.toList attr
theorem ExpAt.done {s t : ByteArray} {attr : Bool} {acc : List UInt8} (h : ExpAt s attr t acc) (hn : Lib.indexByte t.data.toList 38 = -1) : acc ++ t.data.toList = Plain.expand s.data.toList attr := by
  rw [← h.2.2, Plain.expand_none _ _ (idx_no _ hn)]
theorem ExpAt.split {s t : ByteArray} {attr : Bool} {acc : List UInt8} (h : ExpAt s attr t acc) (o : Nat) (hp : ∀ c ∈ t.data.toList.take o, c.toNat ≠ 38) : acc ++ (t.data.toList.take o ++ Plain.expand (t.data.toList.drop o) attr) = Plain.expand s.data.toList attr := by
  rw [← Plain.expand_plain _ _ attr hp, List.take_append_drop]
  exact h.2.2
theorem ExpAt.byte {s t : ByteArray} {attr : Bool} {acc : List UInt8} (h : ExpAt s attr t acc) (o : Nat) (ho : o < t.size) (hd : t.data.toList.drop o = 38 :: t.data.toList.drop (o + 1)) (hp : ∀ c ∈ t.data.toList.take o, c.toNat ≠ 38) (h0 : (Plain.ref (t.data.toList.drop o) attr).2 = 0) :
    ExpAt s attr (t.extract (o + 1) t.size) (acc ++ t.data.toList.take o ++ [38]) := by
  have h1 := h.1
  have h2 := h.2.1
  have hz : (t.extract (o + 1) t.size).size = t.size - (o + 1) := by rw [ByteArray.size_extract]; omega
  refine ⟨by omega, ?_, ?_⟩
  · rw [hz]; simp; omega
  · rw [tail_of, ← h.split o hp, hd]
    rw [hd] at h0
    rw [Plain.expand_byte _ _ _ h0]
    simp
theorem ExpAt.ref {s t : ByteArray} {attr : Bool} {acc : List UInt8} (h : ExpAt s attr t acc) (o : Nat) (ho : o < t.size) (hd : t.data.toList.drop o = 38 :: t.data.toList.drop (o + 1)) (hp : ∀ c ∈ t.data.toList.take o, c.toNat ≠ 38) (h0 : (Plain.ref (t.data.toList.drop o) attr).2 ≠ 0) :
    o + (Plain.ref (t.data.toList.drop o) attr).2 ≤ t.size ∧ ExpAt s attr (t.extract (o + (Plain.ref (t.data.toList.drop o) attr).2) t.size) (acc ++ t.data.toList.take o ++ (Plain.ref (t.data.toList.drop o) attr).1) := by
  have h1 := h.1
  have h2 := h.2.1
  obtain ⟨_, f2, f3, _, _, f6⟩ := Plain.ref_facts (t.data.toList.drop o) attr
  have f6 := f6 h0
  rw [List.length_drop] at f3
  simp at f3
  have he := Plain.expand_ref 38 (t.data.toList.drop (o + 1)) attr (by rw [← hd]; exact h0)
  rw [← hd, List.drop_drop] at he
  have hsp := h.split o hp
  rw [he] at hsp
  generalize Plain.ref (t.data.toList.drop o) attr = R at *
  have hz : (t.extract (o + R.2) t.size).size = t.size - (o + R.2) := by rw [ByteArray.size_extract]; omega
  refine ⟨by omega, by omega, ?_, ?_⟩
  · rw [hz]; simp; omega
  · rw [tail_of, ← hsp]
    simp

set_option maxHeartbeats 4000000 in
set_option maxRecDepth 100000 in
theorem expand_any (s : ByteArray) (attr : Bool) (w : World) (hs : s.size ≤ 1073741824) (hE : HasEarly w) : Calls Tryd.prog 18 #[.string s, .bool attr] w (Tells (Plain.expand s.data.toList attr) w) := by
  have hw1 := hE.size
  have HE := Lib.hid hE
  clear hE
  go_enter Tryd.func18, Tryd.ntmps18
  go_wp2_with fail
  refine (Tryd.Builder_Grow_fresh w.heap.size w.heap.size s.size _ (Nat.le_refl _) (heap_alloc_new w _) (by simp) (by omega)).mono ?_
  rintro e w2 ⟨rfl, hbd, hb2⟩
  have hb3 : Below w.heap.size w w2 := ((Below.refl _ w).alloc (Nat.le_refl _) _).trans hb2
  have HBD : Hid (Lib.IsBuilderF 57 5 w.heap.size w.heap.size (Lib.byteCells []) w2) := Lib.IsBuilderF.of (Or.inr hbd)
  clear hbd hb2
  go_wp2
  go_loopw [0] (fun v wr => ∃ (t : ByteArray) (acc : List UInt8), v = .string t ∧ ExpAt s attr t acc ∧ Lib.IsBuilderF 57 5 w.heap.size w.heap.size (Lib.byteCells acc) wr ∧ Below w.heap.size w wr) (fun v _ => match v with | .string t => t.size | _ => 0)
  case atStart => exact ⟨s, [], rfl, ⟨Nat.le_refl _, by simp, rfl⟩, HBD.out, hb3⟩
  case round =>
    clear HBD hb3
    obtain ⟨t, acc, rfl, hX, hI, hb⟩ := hrel
    have ht := hX.1
    have hal := hX.2.1
    have HX := Lib.hid hX
    have HI := Lib.hid hI
    have hbs := hb.size
    clear hX hI
    by_cases hi : Lib.indexByte t.data.toList 38 = -1
    · have HIX := fun W => Lib.hid (index_at t (-1) hi W)
      have HD := Lib.hid (HX.out.done hi)
      clear hi
      go_wp2_with fail
      refine (HIX _).out.mono ?_
      rintro e w3 ⟨rfl, rfl⟩
      go_wp2_with fail
      refine (Tryd.Builder_WriteString_k w.heap.size w.heap.size _ t wr HI.out (by rw [Lib.byteCells_length]; omega) hbs).mono ?_
      rintro e w4 ⟨rfl, h4, b4, k4⟩
      have HI4 : Hid (Lib.IsBuilderF 57 5 w.heap.size w.heap.size (Lib.byteCells (acc ++ t.data.toList)) w4) := by
        refine Lib.hid ?_
        rw [Lib.byteCells_append]
        exact Or.inr h4
      have c4 := hb.trans b4
      have z4 := c4.size
      clear h4 k4
      go_wp2_with fail
      refine (Tryd.Builder_String_any_k w.heap.size w.heap.size _ _ HI4.out (by omega)).mono ?_
      rintro e w5 ⟨rfl, _, b5, _⟩
      go_wp2
      go_ret
      refine ⟨?_, c4.trans b5⟩
      rw [← HD.out]
      rfl
    · obtain ⟨o, ho, hol, hd, hp⟩ := idx_yes _ hi
      have hol' : o < t.size := by simpa using hol
      have HIX := fun W => Lib.hid (index_at t (o : Int) ho W)
      have hst := fun W => slice_to t o W (by omega)
      have hsf := fun W => slice_from t o W (by omega)
      have HB0 := Lib.hid (HX.out.byte o hol' hd hp)
      have HB1 := Lib.hid (HX.out.ref o hol' hd hp)
      have HR := fun W hW => Lib.hid (ref_any (t.extract o t.size) attr W (by rw [ByteArray.size_extract]; omega) hW)
      rw [tail_of t o] at HR
      obtain ⟨_, f2, _, _, _, _⟩ := Plain.ref_facts (t.data.toList.drop o) attr
      generalize Plain.ref (t.data.toList.drop o) attr = R at *
      obtain ⟨rv, rn⟩ := R
      simp only at f2 HB0 HB1
      have hh := head_of t o
      have hhs : (t.extract 0 o).size = o := by rw [ByteArray.size_extract]; omega
      have HH := Lib.hid hh
      have hhs' : (t.extract 0 o).size ≤ o := by omega
      have hrs : (⟨rv.toArray⟩ : ByteArray).size ≤ 4 := by show rv.toArray.size ≤ 4; simpa using f2
      clear hi ho hol hd hp hh hhs
      go_wp2_with fail
      refine (HIX _).out.mono ?_
      rintro e w3 ⟨rfl, rfl⟩
      go_wp2_with fail
      refine (Tryd.Builder_WriteString_k w.heap.size w.heap.size _ (t.extract 0 o) wr HI.out (by rw [Lib.byteCells_length]; omega) hbs).mono ?_
      rintro e w4 ⟨rfl, h4, b4, k4⟩
      have HI4 : Hid (Lib.IsBuilderF 57 5 w.heap.size w.heap.size (Lib.byteCells (acc ++ t.data.toList.take o)) w4) := by
        refine Lib.hid ?_
        rw [Lib.byteCells_append, ← HH.out]
        exact Or.inr h4
      have c4 := hb.trans b4
      have z4 := c4.size
      clear h4 k4
      go_wp2_with fail
      refine (HR _ (HE.out.below c4 hw1)).out.mono ?_
      rintro e w5 ⟨rfl, b5⟩
      have HI5 := Lib.hid (IsB.below HI4.out b5)
      have c5 := c4.trans (b5.mono c4.size)
      have z5 := c5.size
      by_cases h0 : rn = 0
      · subst h0
        have hso : ∀ W, (Instr.slice 9 (.string t) (some (.int .i64 ((o : Int) + 1))) none none).run Tryd.prog W = .ok (.string (t.extract (o + 1) t.size)) W := fun W => slice_on t o 1 W (by omega)
        have HX' := Lib.hid (HB0.out rfl)
        have htk : (t.data.toList.take o).length ≤ o := List.length_take_le _ _
        go_wp2_with fail
        refine (Tryd.Builder_WriteString_k w.heap.size w.heap.size _ ⟨#[38]⟩ w5 HI5.out (by rw [Lib.byteCells_length, List.length_append]; show _ + 1 ≤ _; omega) z5).mono ?_
        rintro e w6 ⟨rfl, h6, b6, k6⟩
        have HI6 : Hid (Lib.IsBuilderF 57 5 w.heap.size w.heap.size (Lib.byteCells (acc ++ t.data.toList.take o ++ [38])) w6) := by
          refine Lib.hid ?_
          rw [Lib.byteCells_append (acc ++ t.data.toList.take o)]
          exact Or.inr h6
        clear h6 k6
        go_wp2
        refine ⟨⟨_, _, rfl, HX'.out, HI6.out, c5.trans b6⟩, ?_⟩
        show (t.extract (o + 1) t.size).size < t.size
        rw [ByteArray.size_extract]; omega
      · have hq : ((rn : Int) == 0) = false := beq_eq_false_iff_ne.2 (by omega)
        obtain ⟨hrl, hX2⟩ := HB1.out h0
        have hso := fun W => slice_on t o rn W hrl
        have HX' := Lib.hid hX2
        have htk : (t.data.toList.take o).length ≤ o := List.length_take_le _ _
        clear hX2 HB0 HB1
        go_wp2_with fail
        refine (Tryd.Builder_WriteString_k w.heap.size w.heap.size _ ⟨rv.toArray⟩ w5 HI5.out (by rw [Lib.byteCells_length, List.length_append]; omega) z5).mono ?_
        rintro e w6 ⟨rfl, h6, b6, k6⟩
        have HI6 : Hid (Lib.IsBuilderF 57 5 w.heap.size w.heap.size (Lib.byteCells (acc ++ t.data.toList.take o ++ rv)) w6) := by
          refine Lib.hid ?_
          rw [Lib.byteCells_append (acc ++ t.data.toList.take o)]
          exact Or.inr h6
        clear h6 k6
        go_wp2
        refine ⟨⟨_, _, rfl, HX'.out, HI6.out, c5.trans b6⟩, ?_⟩
        show (t.extract (o + rn) t.size).size < t.size
        rw [ByteArray.size_extract]; omega
end Go.Proofs.YtobgdignanpliaaDoor
