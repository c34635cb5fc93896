/-
  The walks of Blank, Words, Plain: of the program and of the reference. Any text of at most maxLen bytes.
-/
import Derived.Test.YtgelgfgcdfnacaaDoorShelfAll
import Derived.Test.YtgelgfgcdfnacaaDoorPlainAll
import Derived.WalkKit
import Derived.BigCall
import Derived.WalkLawsBesides
import Derived.Lib.Hide
import Derived.Maps.AppendAt
import Derived.Lib.SmallJoins
namespace Go.Proofs.YtgelgfgcdfnacaaDoor
open Go.RowKit

theorem blank_yes (c : UInt8) (w : World) (h : Plain.blankB c = true) :
    Calls Tryd.prog 54 #[.int .u8 (c.toNat : Int)] w fun e w' => e = .returned (.bool true) ∧ w = w' := by
  rw [Plain.blankB_true] at h
  generalize c.toNat = n at h ⊢
  rcases h with rfl | rfl | rfl | rfl | rfl
  all_goals
    go_enter Tryd.func54, Tryd.ntmps54
    go_wp2
    go_ret
    exact ⟨rfl, rfl⟩
theorem blank_no (c : UInt8) (w : World) (h : Plain.blankB c = false) :
    Calls Tryd.prog 54 #[.int .u8 (c.toNat : Int)] w fun e w' => e = .returned (.bool false) ∧ w = w' := by
  have h' : ¬ Plain.blankB c = true := by simp [h]
  rw [Plain.blankB_true] at h'
  clear h
  generalize hn : c.toNat = n at *
  clear hn
  have h9 : ((n : Int) == 9) = false := beq_eq_false_iff_ne.2 (by omega)
  have h10 : ((n : Int) == 10) = false := beq_eq_false_iff_ne.2 (by omega)
  have h12 : ((n : Int) == 12) = false := beq_eq_false_iff_ne.2 (by omega)
  have h13 : ((n : Int) == 13) = false := beq_eq_false_iff_ne.2 (by omega)
  have h32 : ((n : Int) == 32) = false := beq_eq_false_iff_ne.2 (by omega)
  clear h'
  go_enter Tryd.func54, Tryd.ntmps54
  go_wp2
  go_ret
  exact ⟨rfl, rfl⟩
theorem rblank_yes (c : UInt8) (w : World) (h : Plain.blankB c = true) :
    Calls Tryd.prog 38 #[.int .u8 (c.toNat : Int)] w fun e w' => e = .returned (.bool true) ∧ w = w' := by
  rw [Plain.blankB_true] at h
  generalize c.toNat = n at h ⊢
  rcases h with rfl | rfl | rfl | rfl | rfl
  all_goals
    go_enter Tryd.func38, Tryd.ntmps38
    go_wp2
    go_ret
    exact ⟨rfl, rfl⟩
theorem rblank_no (c : UInt8) (w : World) (h : Plain.blankB c = false) :
    Calls Tryd.prog 38 #[.int .u8 (c.toNat : Int)] w fun e w' => e = .returned (.bool false) ∧ w = w' := by
  have h' : ¬ Plain.blankB c = true := by simp [h]
  rw [Plain.blankB_true] at h'
  clear h
  generalize hn : c.toNat = n at *
  clear hn
  have h9 : ((n : Int) == 9) = false := beq_eq_false_iff_ne.2 (by omega)
  have h10 : ((n : Int) == 10) = false := beq_eq_false_iff_ne.2 (by omega)
  have h12 : ((n : Int) == 12) = false := beq_eq_false_iff_ne.2 (by omega)
  have h13 : ((n : Int) == 13) = false := beq_eq_false_iff_ne.2 (by omega)
  have h32 : ((n : Int) == 32) = false := beq_eq_false_iff_ne.2 (by omega)
  clear h'
  go_enter Tryd.func38, Tryd.ntmps38
  go_wp2
  go_ret
  exact ⟨rfl, rfl⟩

/-- A text as a value. -/
def strV (l : List UInt8) : Value := .string ⟨l.toArray⟩

theorem extract_list (s : ByteArray) (f k : Nat) : s.extract f k = ⟨((s.data.toList.take k).drop f).toArray⟩ := by
  apply ByteArray.ext
  apply Array.toList_inj.1
  rw [Lib.extract_data]
  simp [List.drop_take]

theorem info9 : ∃ i, Tryd.prog.info? 9 = some i ∧ i.zero = some (.string ByteArray.empty) ∧ i.size = 1 ∧ i.bytes = 16 := by
  have hi9 : (Tryd.prog.info? 9).map (fun i => (i.zero, i.size, i.bytes)) = some (some (.string ByteArray.empty), 1, 16) := by kernel_rfl
  obtain ⟨i0, hi, hx⟩ := Option.map_eq_some_iff.1 hi9
  simp only [Prod.mk.injEq] at hx
  exact ⟨i0, hi, hx.1, hx.2.1, hx.2.2⟩

/-- What is told of a row of texts: new memory that holds them. -/
def WordsOut (w : World) (ws : List (List UInt8)) (e : Ending) (w' : World) : Prop :=
  ∃ v, e = .returned v ∧ w'.ownsRow w.heap.size 9 1 v ws.length (ws.map strV) ∧ Below w.heap.size w w'

set_option maxHeartbeats 1000000 in
set_option maxRecDepth 100000 in
theorem rwords_any (s : ByteArray) (w : World) (hs : s.size ≤ 4294967296) :
    Calls Tryd.prog 21 #[.string s] w (WordsOut w (Plain.words s.data.toList)) := by
  obtain ⟨i0, hi, hz0, hz1, hz2⟩ := info9
  have hl : s.data.toList.length = s.size := by simp
  have HL := Lib.hid hl
  have HI := Lib.hid (And.intro hi (And.intro hz0 (And.intro hz1 hz2)))
  clear hl hi hz0 hz1 hz2
  go_enter Tryd.func21, Tryd.ntmps21
  go_wp2
  go_loopw [3, 4, 5] (fun v f i wr => ∃ (k from_ : Nat) (out : List (List UInt8)), i = .int .i64 k ∧ f = .int .i64 from_ ∧ Plain.WordsAt s.data.toList k from_ out ∧ wr.ownsRow w.heap.size 9 1 v out.length (out.map strV) ∧ Below w.heap.size w wr) (fun _ _ i _ => s.size + 1 - (intOf i).toNat)
  case atStart =>
    exact ⟨0, 0, [], rfl, rfl, Plain.WordsAt.start _, ⟨by simp, Or.inl ⟨rfl, rfl⟩⟩, Below.refl _ _⟩
  case round =>
    obtain ⟨k, f, out, rfl, rfl, hW, hrow, hb⟩ := hrel
    have hk1 : k ≤ s.size + 1 := by have := hW.2.1; rw [HL.out] at this; exact this
    have hfk : f ≤ k := hW.1
    have hol : out.length ≤ k := hW.2.2.2.1
    have HW := Lib.hid hW
    have HR := Lib.hid hrow
    clear hW hrow
    by_cases hle : k ≤ s.size
    · by_cases hlt : k < s.size
      · have hkl : k < s.data.toList.length := by rw [HL.out]; exact hlt
        cases hbl : Plain.blankB s[k]
        · -- a letter
          have HN := Lib.hid (HW.out.letter hkl hbl)
          have HBL := Lib.hid hbl
          clear hbl
          go_wp2_with (go_at_call 38; refine (rblank_no _ _ HBL.out).mono ?_; rintro e w1 ⟨rfl, rfl⟩)
          go_roundw
          case rel => exact ⟨k + 1, f, out, by go_num, rfl, HN.out, HR.out, hb⟩
          case measure => simp [intOf]; omega
        · -- a blank
          have hbk : ∀ hk : k < s.data.toList.length, Plain.blankB s.data.toList[k] = true := fun _ => hbl
          have HBK := Lib.hid hbk
          have HBL := Lib.hid hbl
          clear hbl hbk
          by_cases hf : f < k
          · have HN := Lib.hid (HW.out.word hf (by omega) HBK.out)
            go_wp2_with (first
              | (go_at_call 38; refine (rblank_yes _ _ HBL.out).mono ?_; rintro e w1 ⟨rfl, rfl⟩)
              | (at_builtin; refine wpList_append_own _ rfl _ _ 39 rfl w.heap.size 9 i0 (.string ByteArray.empty) 1 16 Tryd.underlying39 HI.out.1 HI.out.2.1 HI.out.2.2.1 HI.out.2.2.2 rfl (by decide) _ _ _ rfl (HR.out.alloc _) ⟨wr.heap.size, 0, none⟩ 1 1 [.string (s.extract f k)] rfl rfl (cell_one_new _ _ _) (fun x hx => by simp at hx; subst hx; rfl) (by unfold maxLen; omega) (by omega) (by have := hb.size; simp; omega) ?_; intro v' w3 hown' hgrow3 hnil3))
            go_roundw
            case rel =>
              refine ⟨k + 1, k + 1, out ++ [(s.data.toList.take k).drop f], by go_num, by go_num, HN.out, ?_, (hb.alloc hb.size _).grown hgrow3 (by have := hb.size; simp; omega) (fun q hq => (HR.out.lt q hq).1)⟩
              rw [extract_list] at hown'
              rw [List.length_append, List.map_append]
              exact hown'
            case measure => simp [intOf]; omega
          · have HN := Lib.hid (HW.out.gap hf (by omega) HBK.out)
            go_wp2_with (go_at_call 38; refine (rblank_yes _ _ HBL.out).mono ?_; rintro e w1 ⟨rfl, rfl⟩)
            go_roundw
            case rel => exact ⟨k + 1, k + 1, out, by go_num, by go_num, HN.out, HR.out, hb⟩
            case measure => simp [intOf]; omega
      · have hbk : ∀ hk : k < s.data.toList.length, Plain.blankB s.data.toList[k] = true := fun h => absurd h (by rw [HL.out]; omega)
        have HBK := Lib.hid hbk
        clear hbk
        by_cases hf : f < k
        · have HN := Lib.hid (HW.out.word hf (by rw [HL.out]; omega) HBK.out)
          go_wp2_with (first
            | (at_builtin; refine wpList_append_own _ rfl _ _ 39 rfl w.heap.size 9 i0 (.string ByteArray.empty) 1 16 Tryd.underlying39 HI.out.1 HI.out.2.1 HI.out.2.2.1 HI.out.2.2.2 rfl (by decide) _ _ _ rfl (HR.out.alloc _) ⟨wr.heap.size, 0, none⟩ 1 1 [.string (s.extract f k)] rfl rfl (cell_one_new _ _ _) (fun x hx => by simp at hx; subst hx; rfl) (by unfold maxLen; omega) (by omega) (by have := hb.size; simp; omega) ?_; intro v' w3 hown' hgrow3 hnil3))
          go_roundw
          case rel =>
            refine ⟨k + 1, k + 1, out ++ [(s.data.toList.take k).drop f], by go_num, by go_num, HN.out, ?_, (hb.alloc hb.size _).grown hgrow3 (by have := hb.size; simp; omega) (fun q hq => (HR.out.lt q hq).1)⟩
            rw [extract_list] at hown'
            rw [List.length_append, List.map_append]
            exact hown'
          case measure => simp [intOf]; omega
        · have HN := Lib.hid (HW.out.gap hf (by rw [HL.out]; omega) HBK.out)
          go_wp2
          go_roundw
          case rel => exact ⟨k + 1, k + 1, out, by go_num, by go_num, HN.out, HR.out, hb⟩
          case measure => simp [intOf]; omega
    · have hd := HW.out.done (by rw [HL.out]; omega)
      have HD := Lib.hid hd
      clear hd
      go_wp2
      go_ret
      rw [← HD.out]
      exact ⟨_, rfl, HR.out, hb⟩
end Go.Proofs.YtgelgfgcdfnacaaDoor
