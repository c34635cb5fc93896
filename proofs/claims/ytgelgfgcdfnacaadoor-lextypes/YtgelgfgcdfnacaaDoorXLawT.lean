/-
  The walk of the law LexTypes: true, and nothing old is changed. The library's number MaxLen and the table of package refs are there.
-/
import Derived.Test.YtgelgfgcdfnacaaDoorXKnown
import Derived.Test.YtgelgfgcdfnacaaDoorXDoc
namespace Go.Proofs.YtgelgfgcdfnacaaDoor
open Go.RowKit

namespace Plain
def dwords : List (List UInt8) := [[100, 111, 99, 116, 121, 112, 101], [68, 79, 67, 84, 89, 80, 69], [68, 111, 99, 84, 121, 112, 101]]
end Plain
theorem dwords_ok : ∀ j, j < 3 → (begF doctype ([60, 33] ++ Plain.dwords.getD j []) = true ∧ (62 : UInt8) ∉ [60, 33] ++ Plain.dwords.getD j [] ∧ (Plain.dwords.getD j []).length = 7) := by decide
def dwordCells : Array Value := (Plain.dwords.map strV).toArray
theorem dword_at (j : Nat) (h : j < 3) : dwordCells[j]? = some (.string ⟨(Plain.dwords.getD j []).toArray⟩) := by
  have hl : Plain.dwords.length = 3 := rfl
  unfold dwordCells
  rw [List.getElem?_toArray, List.getElem?_map, List.getElem?_eq_getElem (by omega), List.getD_eq_getElem?_getD, List.getElem?_eq_getElem (by omega)]
  rfl
theorem idx_byte (c : UInt8) (l : List UInt8) (h : idxI [c] l 0 = -1) : c ∉ l := by
  intro hm
  obtain ⟨i, hi, he⟩ := List.getElem_of_mem hm
  have := idx_none [c] l h i hi
  rw [List.drop_eq_getElem_cons hi, he] at this
  simp [List.isPrefixOf] at this
theorem type_parts (D x s : ByteArray) (j : Nat) (hj : j < 3) (hD : D.data.toList = Plain.dwords.getD j []) (hN : idxI [62] x.data.toList 0 = -1) (hx : x.size ≤ 100) (hs : s.size ≤ 40000) : ∃ S : ByteArray, S = ⟨#[60, 33]⟩ ++ D ++ x ++ ⟨#[62]⟩ ++ s ∧ S.size ≤ 50000 ∧ allT S.data.toList 0 [] 0 = allT s.data.toList 0 [] 0 := by
  obtain ⟨h1, h2, h3⟩ := dwords_ok j hj
  have hDs : D.size = 7 := by rw [← len_of, hD, h3]
  refine ⟨_, rfl, ?_, ?_⟩
  · rw [ByteArray.size_append, ByteArray.size_append, ByteArray.size_append, ByteArray.size_append, hDs]
    show 2 + 7 + x.size + 1 + s.size ≤ _
    omega
  · rw [show ((⟨#[60, 33]⟩ : ByteArray) ++ D ++ x ++ ⟨#[62]⟩ ++ s).data.toList = ([60, 33] ++ D.data.toList) ++ x.data.toList ++ 62 :: s.data.toList by simp, hD]
    refine all_type _ _ _ _ h1 ?_
    rw [List.mem_append]
    rintro (h | h)
    · exact h2 h
    · exact idx_byte 62 _ hN h

set_option maxHeartbeats 4000000 in
set_option maxRecDepth 100000 in
theorem lexTypes_walk (v : Value) (n : Nat) (x : ByteArray) (z : Int) (w : World) (hv : IntsIn w v n) (hraw : x.size ≤ maxLen) (h0 : -9223372036854775808 ≤ z) (h1 : z ≤ 9223372036854775807) (hmax : HasMax w) (hea : HasEarly w) :
    Calls Tryd.prog 8 #[v, .string x, .int .i64 z] w (Yes w) := by
  have HK := Lib.hid (known4_yes w ⟨hmax, hea⟩)
  have HR := Lib.hid (Ready.mk hmax hea)
  have HV := Lib.hid hv
  unfold maxLen at hraw
  clear hmax hea hv
  by_cases hb : 100 < x.size
  · have hb' : (100 : Int) < (x.size : Int) := by omega
    go_enter Tryd.func8, Tryd.ntmps8
    go_wp2_with fail
    refine HK.out.mono ?_
    rintro e w1 ⟨rfl, b1⟩
    go_wp2_with fail
    go_ret
    exact ⟨rfl, b1⟩
  · have hb' : ¬ (100 : Int) < (x.size : Int) := by omega
    have HI := fun W => Lib.hid (rindex_any x ⟨#[62]⟩ 0 W (by omega) (by decide) (by omega) (by decide))
    rw [show (⟨#[62]⟩ : ByteArray).data.toList = [62] from rfl] at HI
    rcases idxI_cases [62] x.data.toList 0 with hi | hi
    · rw [hi] at HI
      have HN := Lib.hid hi
      clear hi
      have HW := fun W => Lib.hid (within4 z 3 W h0 h1 (by omega) (by omega))
      have hr := (within_lt z 3 (by omega)).1
      generalize Within z 3 = r at *
      have r0 : (0 : Int) ≤ (r : Int) := by omega
      have r1 : (r : Int) < 3 := by omega
      go_enter Tryd.func8, Tryd.ntmps8
      go_wp2_with fail
      refine HK.out.mono ?_
      rintro e w1 ⟨rfl, b1⟩
      have HB1 := Lib.hid b1
      clear b1
      go_wp2_with fail
      refine (HI _).out.mono ?_
      rintro e w3 ⟨rfl, rfl⟩
      go_wp2_with fail
      have hcr : (w1.alloc (.cells dwordCells 9)).cell? ⟨w1.heap.size, r, none⟩ = some (.string ⟨(Plain.dwords.getD r []).toArray⟩) := (World.cell?_alloc_mark w1 dwordCells 9 (0, 0) r).trans (dword_at r hr)
      have HB2 := Lib.hid (HB1.out.alloc HB1.out.size (.cells dwordCells 9))
      refine (HW (w1.alloc (.cells dwordCells 9))).out.mono ?_
      rintro e w3 ⟨rfl, rfl⟩
      have hlt : w1.heap.size < (w1.alloc (.cells dwordCells 9)).heap.size := by simp
      generalize w1.alloc (.cells dwordCells 9) = W2 at *
      obtain ⟨D, hD, hDl⟩ : ∃ D : ByteArray, (⟨(Plain.dwords.getD r []).toArray⟩ : ByteArray) = D ∧ D.data.toList = Plain.dwords.getD r [] := ⟨_, rfl, rfl⟩
      rw [hD] at hcr
      have hDs : D.size = 7 := by rw [← len_of, hDl, (dwords_ok r hr).2.2]
      clear hD HB1
      go_wp2_with fail
      refine (html4_any v n W2 (HV.out.below HB2.out)).mono ?_
      rintro e w2 ⟨l, rfl, hl, b2⟩
      have HB3 := Lib.hid (HB2.out.trans (b2.mono HB2.out.size))
      clear b2 HB2 HK HV
      obtain ⟨s0, hs0⟩ : ∃ s0 : ByteArray, s0 = ⟨l.toArray⟩ := ⟨_, rfl⟩
      have hsz0 : s0.size ≤ 40000 := by rw [hs0]; show l.toArray.size ≤ _; simpa using hl
      rw [← hs0]
      clear hs0 hl
      obtain ⟨S, hS, hz, hall⟩ := type_parts D x s0 r hr hDl HN.out (by omega) hsz0
      have HA1 := fun W h => Lib.hid (all_is S ⟨#[]⟩ 0 _ (by omega) (by omega) (by decide) hall W h)
      have HA2 := fun W h => Lib.hid (all_is s0 ⟨#[]⟩ 0 _ (by omega) (by omega) (by decide) rfl W h)
      have hlen : (allT s0.data.toList 0 [] 0).length ≤ s0.data.toList.length + 1 := allN_len _ _ _ _ _
      have hat : ∀ t ∈ allT s0.data.toList 0 [] 0, t.attrs.length ≤ s0.data.toList.length + 1 := fun t ht => allN_attrs _ _ _ _ _ t ht
      rw [len_of] at hlen hat
      rw [show (⟨#[]⟩ : ByteArray).data.toList = [] from rfl] at HA2
      generalize allT s0.data.toList 0 [] 0 = ts at *
      have HAT := Lib.hid hat
      clear hat hall
      go_wp2_with fail
      rw [← hS]
      clear hS
      refine (HA1 w2 (HR.out.below HB3.out)).out.mono ?_
      rintro e w4 ⟨v4, rfl, ht4, b4⟩
      have HT4 := Lib.hid ht4
      have HB4 := Lib.hid (HB3.out.trans (b4.mono HB3.out.size))
      clear ht4 b4 HB3 HA1
      go_wp2_with fail
      refine (HA2 w4 (HR.out.below HB4.out)).out.mono ?_
      rintro e w5 ⟨v5, rfl, ht5, b5⟩
      have HT5 := Lib.hid ht5
      have HT4' := Lib.hid (HT4.out.below b5)
      have HB5 := Lib.hid (HB4.out.trans (b5.mono HB4.out.size))
      clear ht5 b5 HB4 HA2 HT4
      go_wp2_with fail
      refine (same4 v4 v5 ts w5 HT4'.out HT5.out (by omega) (fun t ht => by have := HAT.out t ht; omega)).mono ?_
      rintro e w6 ⟨rfl, b6⟩
      go_wp2_with fail
      go_ret
      exact ⟨rfl, HB5.out.trans (b6.mono HB5.out.size)⟩
    · generalize idxI [62] x.data.toList 0 = I at *
      go_enter Tryd.func8, Tryd.ntmps8
      go_wp2_with fail
      refine HK.out.mono ?_
      rintro e w1 ⟨rfl, b1⟩
      have HB1 := Lib.hid b1
      clear b1
      go_wp2_with fail
      refine (HI _).out.mono ?_
      rintro e w3 ⟨rfl, rfl⟩
      go_wp2_with fail
      go_ret
      exact ⟨rfl, HB1.out⟩
end Go.Proofs.YtgelgfgcdfnacaaDoor
