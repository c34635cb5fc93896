/-
  The walks of the reference's Blank, Words, In, without what the rest of chapter 1 needs; rows of texts. Any text of at most 2^32 bytes.
-/
import Derived.Test.YtbadckkcjjfnoaaDBase
import Derived.Test.YtbadckkcjjfnoaaProg
import Derived.Test.YtbadckkcjjfnoaaPlainW
import Derived.WalkKit
import Derived.BigCall
import Derived.WalkLawsBesides
import Derived.Lib.Hide
import Derived.Maps.AppendAt
import Derived.Lib.SmallJoins
import Derived.Deep.QuietTactic
import Derived.BigQuiet
namespace Go.Proofs.Ytbadckkcjjfnoaa
open Go.RowKit

theorem rblank_yes (c : UInt8) (w : World) (h : Plain.blankB c = true) :
    Calls Try.prog 135 #[.int .u8 (c.toNat : Int)] w fun e w' => e = .returned (.bool true) ∧ w = w' := by
  rw [Plain.blankB_true] at h
  generalize c.toNat = n at h ⊢
  rcases h with rfl | rfl | rfl | rfl | rfl
  all_goals
    go_enter Try.func135, Try.ntmps135
    go_wp2
    go_ret
    exact ⟨rfl, rfl⟩
theorem rblank_no (c : UInt8) (w : World) (h : Plain.blankB c = false) :
    Calls Try.prog 135 #[.int .u8 (c.toNat : Int)] w fun e w' => e = .returned (.bool false) ∧ w = w' := by
  have h' : ¬ Plain.blankB c = true := by simp [h]
  rw [Plain.blankB_true] at h'
  clear h
  generalize hn : c.toNat = n at *
  clear hn
  have h9 : ((n : Int) == 9) = false := beq_eq_false_iff_ne.2 (by omega)
  have h10 : ((n : Int) == 10) = false := beq_eq_false_iff_ne.2 (by omega)
  have h12 : ((n : Int) == 12) = false := beq_eq_false_iff_ne.2 (by omega)
  have h13 : ((n : Int) == 13) = false := beq_eq_false_iff_ne.2 (by omega)
  have h32 : ((n : Int) == 32) = false := beq_eq_false_iff_ne.2 (by omega)
  clear h'
  go_enter Try.func135, Try.ntmps135
  go_wp2
  go_ret
  exact ⟨rfl, rfl⟩

/-- A text as a value. -/

theorem extract_list (s : ByteArray) (f k : Nat) : s.extract f k = ⟨((s.data.toList.take k).drop f).toArray⟩ := by
  apply ByteArray.ext
  apply Array.toList_inj.1
  rw [Lib.extract_data]
  simp [List.drop_take]

theorem info9 : ∃ i, Try.prog.info? 9 = some i ∧ i.zero = some (.string ByteArray.empty) ∧ i.size = 1 ∧ i.bytes = 16 := by
  have hi9 : (Try.prog.info? 9).map (fun i => (i.zero, i.size, i.bytes)) = some (some (.string ByteArray.empty), 1, 16) := by kernel_rfl
  obtain ⟨i0, hi, hx⟩ := Option.map_eq_some_iff.1 hi9
  simp only [Prod.mk.injEq] at hx
  exact ⟨i0, hi, hx.1, hx.2.1, hx.2.2⟩

/-- What is told of a row of texts: new memory that holds them. -/
def WordsOut (w : World) (ws : List (List UInt8)) (e : Ending) (w' : World) : Prop :=
  ∃ v, e = .returned v ∧ w'.ownsRow w.heap.size 9 1 v ws.length (ws.map strV) ∧ Below w.heap.size w w'



set_option maxHeartbeats 1000000 in
set_option maxRecDepth 100000 in
theorem rwords_any (s : ByteArray) (w : World) (hs : s.size ≤ 4294967296) :
    Calls Try.prog 109 #[.string s] w (WordsOut w (Plain.words s.data.toList)) := by
  obtain ⟨i0, hi, hz0, hz1, hz2⟩ := info9
  have hl : s.data.toList.length = s.size := by simp
  have HL := Lib.hid hl
  have HI := Lib.hid (And.intro hi (And.intro hz0 (And.intro hz1 hz2)))
  clear hl hi hz0 hz1 hz2
  go_enter Try.func109, Try.ntmps109
  go_wp2
  go_loopw [3, 4, 5] (fun v f i wr => ∃ (k from_ : Nat) (out : List (List UInt8)), i = .int .i64 k ∧ f = .int .i64 from_ ∧ Plain.WordsAt s.data.toList k from_ out ∧ wr.ownsRow w.heap.size 9 1 v out.length (out.map strV) ∧ Below w.heap.size w wr) (fun _ _ i _ => s.size + 1 - (intOf i).toNat)
  case atStart =>
    exact ⟨0, 0, [], rfl, rfl, Plain.WordsAt.start _, ⟨by simp, Or.inl ⟨rfl, rfl⟩⟩, Below.refl _ _⟩
  case round =>
    obtain ⟨k, f, out, rfl, rfl, hW, hrow, hb⟩ := hrel
    have hk1 : k ≤ s.size + 1 := by have := hW.2.1; rw [HL.out] at this; exact this
    have hfk : f ≤ k := hW.1
    have hol : out.length ≤ k := hW.2.2.2.1
    have HW := Lib.hid hW
    have HR := Lib.hid hrow
    clear hW hrow
    by_cases hle : k ≤ s.size
    · by_cases hlt : k < s.size
      · have hkl : k < s.data.toList.length := by rw [HL.out]; exact hlt
        cases hbl : Plain.blankB s[k]
        · -- a letter
          have HN := Lib.hid (HW.out.letter hkl hbl)
          have HBL := Lib.hid hbl
          clear hbl
          go_wp2_with (go_at_call 135; refine (rblank_no _ _ HBL.out).mono ?_; rintro e w1 ⟨rfl, rfl⟩)
          go_roundw
          case rel => exact ⟨k + 1, f, out, by go_num, rfl, HN.out, HR.out, hb⟩
          case measure => simp [intOf]; omega
        · -- a blank
          have hbk : ∀ hk : k < s.data.toList.length, Plain.blankB s.data.toList[k] = true := fun _ => hbl
          have HBK := Lib.hid hbk
          have HBL := Lib.hid hbl
          clear hbl hbk
          by_cases hf : f < k
          · have HN := Lib.hid (HW.out.word hf (by omega) HBK.out)
            go_wp2_with (first
              | (go_at_call 135; refine (rblank_yes _ _ HBL.out).mono ?_; rintro e w1 ⟨rfl, rfl⟩)
              | (at_builtin; refine wpList_append_own _ rfl _ _ 84 rfl w.heap.size 9 i0 (.string ByteArray.empty) 1 16 Try.underlying84 HI.out.1 HI.out.2.1 HI.out.2.2.1 HI.out.2.2.2 rfl (by decide) _ _ _ rfl (HR.out.alloc _) ⟨wr.heap.size, 0, none⟩ 1 1 [.string (s.extract f k)] rfl rfl (cell_one_new _ _ _) (fun x hx => by simp at hx; subst hx; rfl) (by unfold maxLen; omega) (by omega) (by have := hb.size; simp; omega) ?_; intro v' w3 hown' hgrow3 hnil3))
            go_roundw
            case rel =>
              refine ⟨k + 1, k + 1, out ++ [(s.data.toList.take k).drop f], by go_num, by go_num, HN.out, ?_, (hb.alloc hb.size _).grown hgrow3 (by have := hb.size; simp; omega) (fun q hq => (HR.out.lt q hq).1)⟩
              rw [extract_list] at hown'
              rw [List.length_append, List.map_append]
              exact hown'
            case measure => simp [intOf]; omega
          · have HN := Lib.hid (HW.out.gap hf (by omega) HBK.out)
            go_wp2_with (go_at_call 135; refine (rblank_yes _ _ HBL.out).mono ?_; rintro e w1 ⟨rfl, rfl⟩)
            go_roundw
            case rel => exact ⟨k + 1, k + 1, out, by go_num, by go_num, HN.out, HR.out, hb⟩
            case measure => simp [intOf]; omega
      · have hbk : ∀ hk : k < s.data.toList.length, Plain.blankB s.data.toList[k] = true := fun h => absurd h (by rw [HL.out]; omega)
        have HBK := Lib.hid hbk
        clear hbk
        by_cases hf : f < k
        · have HN := Lib.hid (HW.out.word hf (by rw [HL.out]; omega) HBK.out)
          go_wp2_with (first
            | (at_builtin; refine wpList_append_own _ rfl _ _ 84 rfl w.heap.size 9 i0 (.string ByteArray.empty) 1 16 Try.underlying84 HI.out.1 HI.out.2.1 HI.out.2.2.1 HI.out.2.2.2 rfl (by decide) _ _ _ rfl (HR.out.alloc _) ⟨wr.heap.size, 0, none⟩ 1 1 [.string (s.extract f k)] rfl rfl (cell_one_new _ _ _) (fun x hx => by simp at hx; subst hx; rfl) (by unfold maxLen; omega) (by omega) (by have := hb.size; simp; omega) ?_; intro v' w3 hown' hgrow3 hnil3))
          go_roundw
          case rel =>
            refine ⟨k + 1, k + 1, out ++ [(s.data.toList.take k).drop f], by go_num, by go_num, HN.out, ?_, (hb.alloc hb.size _).grown hgrow3 (by have := hb.size; simp; omega) (fun q hq => (HR.out.lt q hq).1)⟩
            rw [extract_list] at hown'
            rw [List.length_append, List.map_append]
            exact hown'
          case measure => simp [intOf]; omega
        · have HN := Lib.hid (HW.out.gap hf (by rw [HL.out]; omega) HBK.out)
          go_wp2
          go_roundw
          case rel => exact ⟨k + 1, k + 1, out, by go_num, by go_num, HN.out, HR.out, hb⟩
          case measure => simp [intOf]; omega
    · have hd := HW.out.done (by rw [HL.out]; omega)
      have HD := Lib.hid hd
      clear hd
      go_wp2
      go_ret
      rw [← HD.out]
      exact ⟨_, rfl, HR.out, hb⟩
/-- The slice v holds the texts ws in w. -/
def TextsAt (w : World) (v : Value) (ws : List (List UInt8)) : Prop :=
  (v = .slice none 0 0 ∧ ws = []) ∨
  ∃ g cap, v = .slice (some ⟨g, 0, none⟩) ws.length cap ∧ g < w.heap.size ∧ ws.length ≤ cap ∧ ∀ j (hj : j < ws.length), w.cell? ⟨g, j, none⟩ = some (strV ws[j])

theorem TextsAt.of_row {w : World} {base : Nat} {v : Value} {ws : List (List UInt8)} (h : w.ownsRow base 9 1 v ws.length (ws.map strV)) : TextsAt w v ws := by
  rcases h.2 with ⟨e0, h0⟩ | ⟨g, cap, cur, rfl, hb, hg, hn, hm, hs, ht⟩
  · exact Or.inl ⟨e0, List.eq_nil_of_length_eq_zero h0⟩
  · have hlt : g < w.heap.size := by
      rcases Nat.lt_or_ge g w.heap.size with h' | h'
      · exact h'
      · rw [Array.getElem?_eq_none h'] at hg; cases hg
    refine Or.inr ⟨g, cap, rfl, hlt, hn, fun j hj => ?_⟩
    have e1 : (cur.toList.take (ws.length * 1))[j]? = (ws.map strV)[j]? := by rw [ht]
    rw [List.getElem?_take, if_pos (by omega), Array.getElem?_toList, List.getElem?_map, List.getElem?_eq_getElem hj] at e1
    simp only [World.cell?, hg]
    simp only [Option.isSome_none, Bool.false_eq_true, if_false]
    rw [e1]
    rfl
theorem TextsAt.below {w w' : World} {v : Value} {ws : List (List UInt8)} (h : TextsAt w v ws) (hb : Below w.heap.size w w') : TextsAt w' v ws := by
  rcases h with h | ⟨g, cap, rfl, hlt, hn, hc⟩
  · exact Or.inl h
  · exact Or.inr ⟨g, cap, rfl, Nat.lt_of_lt_of_le hlt hb.size, hn, fun j hj => (hb.cell (p := ⟨g, j, none⟩) hlt).trans (hc j hj)⟩

/-- What Words tells: a row that holds the words; nothing old is changed. -/
def WordsTold (w : World) (ws : List (List UInt8)) (e : Ending) (w' : World) : Prop := ∃ v, e = .returned v ∧ TextsAt w' v ws ∧ Below w.heap.size w w'
theorem rwords_told (s : ByteArray) (w : World) (hs : s.size ≤ 4294967296) : Calls Try.prog 109 #[.string s] w (WordsTold w (Plain.words s.data.toList)) :=
  (rwords_any s w hs).mono fun _ _ ⟨v, he, hr, hb⟩ => ⟨v, he, TextsAt.of_row hr, hb⟩
theorem TextsAt.slice {w : World} {v : Value} {ws : List (List UInt8)} (h : TextsAt w v ws) :
    ∃ p cap, v = .slice p ws.length cap ∧ ws.length ≤ cap ∧ ∀ j (hj : j < ws.length), ∃ g, p = some ⟨g, 0, none⟩ ∧ g < w.heap.size ∧ w.cell? ⟨g, j, none⟩ = some (.string ⟨ws[j].toArray⟩) := by
  rcases h with ⟨rfl, rfl⟩ | ⟨g, cap, rfl, hlt, hn, hc⟩
  · exact ⟨none, 0, rfl, Nat.le_refl _, fun j hj => absurd hj (by simp)⟩
  · exact ⟨_, cap, rfl, hn, fun j hj => ⟨g, rfl, hlt, hc j hj⟩⟩


theorem any_no {ws : List (List UInt8)} {s : List UInt8} {k : Nat} (h : ∀ j (_ : j < k) (hj : j < ws.length), ws[j] ≠ s) (hk : ws.length ≤ k) : (ws.any fun x => x == s) = false := by
  rw [List.any_eq_false]
  intro x hx
  obtain ⟨i, hi, rfl⟩ := List.getElem_of_mem hx
  rw [beq_iff_eq]
  exact h i (by omega) hi
set_option maxHeartbeats 1000000 in
set_option maxRecDepth 100000 in
theorem rin_any (v : Value) (ws : List (List UInt8)) (s : ByteArray) (w : World) (h : TextsAt w v ws) (hN : ws.length ≤ 4294967297) : Calls Try.prog 142 #[v, .string s] w (Brings (.bool (ws.any fun x => x == s.data.toList)) w) := by
  obtain ⟨p, cap, rfl, hn, hcell⟩ := h.slice
  have HC := Lib.hid hcell
  clear hcell h
  go_enter Try.func142, Try.ntmps142
  go_wp2
  go_loop [5] (fun i => ∃ k : Nat, k ≤ ws.length ∧ i = .int .i64 k ∧ ∀ j (_ : j < k) (hj : j < ws.length), ws[j] ≠ s.data.toList) (fun i => ws.length - (intOf i).toNat)
  case atStart => exact ⟨0, Nat.zero_le _, rfl, fun j h => absurd h (by omega)⟩
  case round =>
    obtain ⟨k, hk, rfl, hno⟩ := hrel
    have HNO := Lib.hid hno
    clear hno
    by_cases hlt : k < ws.length
    · obtain ⟨g, rfl, hg, hc⟩ := HC.out k hlt
      have k0 : (0 : Int) ≤ (k : Int) := by omega
      have k1 : (k : Int) < (ws.length : Int) := by omega
      by_cases he : ws[k] = s.data.toList
      · have HE : Hid ((ws.any fun x => x == s.data.toList) = true) := Lib.hid (by rw [List.any_eq_true]; exact ⟨ws[k], List.getElem_mem hlt, by simp [he]⟩)
        have q1 : ((⟨ws[k].toArray⟩ : ByteArray).toList == s.toList) = true := by rw [Lib.toList_data, Lib.toList_data, beq_iff_eq]; exact he
        clear he
        generalize (⟨ws[k].toArray⟩ : ByteArray) = A at *
        go_wp2
        go_ret
        exact ⟨by rw [HE.out]; rfl, Below.refl _ _⟩
      · have q1 : ((⟨ws[k].toArray⟩ : ByteArray).toList == s.toList) = false := by rw [Lib.toList_data, Lib.toList_data, beq_eq_false_iff_ne]; exact he
        have HE := Lib.hid he
        clear he
        generalize (⟨ws[k].toArray⟩ : ByteArray) = A at *
        go_wp2
        refine ⟨⟨k + 1, by omega, by go_num, fun j h1 h2 => ?_⟩, by simp [intOf]; omega⟩
        rcases Nat.lt_or_ge j k with h | h
        · exact HNO.out j h h2
        · have : j = k := by omega
          subst this
          exact HE.out
    · have HE := Lib.hid (any_no HNO.out (by omega))
      go_wp2
      go_ret
      exact ⟨by rw [HE.out]; rfl, Below.refl _ _⟩
end Go.Proofs.Ytbadckkcjjfnoaa
