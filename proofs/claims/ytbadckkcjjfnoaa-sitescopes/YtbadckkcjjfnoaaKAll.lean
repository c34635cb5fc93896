/-
  Plain facts on lists of bytes, of no program: blanks, words, what is joined of them. No conditions.
  The walks of the reference's Blank, Words, In, without what the rest of chapter 1 needs; rows of texts. Any text of at most 2^32 bytes.
  The sets of names (chapter 5), of no program. No conditions.
  The walks of the reference's chapter 5: the names of a set, walls, states. Any numbers, any name.
  The walk of the reference's Wall; of the laws' own: within, name. Any numbers, any name.
-/
import Derived.Lib.Join
import Derived.Test.YtbadckkcjjfnoaaDAll
import Derived.Test.YtbadckkcjjfnoaaProg
import Derived.WalkKit
import Derived.BigCall
import Derived.WalkLawsBesides
import Derived.Lib.Hide
import Derived.Maps.AppendAt
import Derived.Lib.SmallJoins
import Derived.Deep.QuietTactic
import Derived.BigQuiet
import Derived.Deep.AppendLies
import Derived.Laws.OwnMore
namespace Go.Proofs.Ytbadckkcjjfnoaa.Plain

def blankB (c : UInt8) : Bool := c == 9 || c == 10 || c == 12 || c == 13 || c == 32

/-- The words of l behind a word that has begun with cur. -/
def wordsAux : List UInt8 → List UInt8 → List (List UInt8)
  | cur, [] => if cur.isEmpty then [] else [cur]
  | cur, c :: r => if blankB c then (if cur.isEmpty then wordsAux [] r else cur :: wordsAux [] r) else wordsAux (cur ++ [c]) r
def words (l : List UInt8) : List (List UInt8) := wordsAux [] l

/-- Where the loop stands: out are the words found, l from f to k is the word that has begun. -/
def WordsAt (l : List UInt8) (k f : Nat) (out : List (List UInt8)) : Prop :=
  f ≤ k ∧ k ≤ l.length + 1 ∧ out ++ wordsAux ((l.take k).drop f) (l.drop k) = words l ∧ out.length ≤ k ∧ (l.length < k → f = k)

theorem WordsAt.start (l : List UInt8) : WordsAt l 0 0 [] := ⟨Nat.le_refl _, by omega, by simp [words], by simp, by omega⟩

theorem WordsAt.letter {l : List UInt8} {k f : Nat} {out : List (List UInt8)} (h : WordsAt l k f out) (hk : k < l.length) (hc : blankB l[k] = false) : WordsAt l (k + 1) f out := by
  obtain ⟨h1, h2, h3, h4, h5⟩ := h
  refine ⟨by omega, by omega, ?_, by omega, by omega⟩
  rw [← h3]
  congr 1
  rw [List.drop_eq_getElem_cons hk, List.take_succ_eq_append_getElem hk, List.drop_append_of_le_length (by simp; omega)]
  simp [wordsAux, hc]

theorem cur_nonempty (l : List UInt8) (k f : Nat) (hf : f < k) (hk : k ≤ l.length) : ((l.take k).drop f).isEmpty = false := by
  cases h : ((l.take k).drop f) with
  | nil =>
    have := congrArg List.length h
    simp at this
    omega
  | cons a b => rfl

theorem WordsAt.word {l : List UInt8} {k f : Nat} {out : List (List UInt8)} (h : WordsAt l k f out) (hf : f < k) (hk : k ≤ l.length) (hc : ∀ hk : k < l.length, blankB l[k] = true) : WordsAt l (k + 1) (k + 1) (out ++ [(l.take k).drop f]) := by
  obtain ⟨h1, h2, h3, h4, h5⟩ := h
  refine ⟨by omega, by omega, ?_, by simp; omega, by omega⟩
  rw [← h3, List.append_assoc]
  congr 1
  have hz : (List.take (k + 1) l).drop (k + 1) = [] := List.drop_eq_nil_of_le (by simp; omega)
  rw [hz]
  have hne := cur_nonempty l k f hf hk
  by_cases hl : k < l.length
  · rw [List.drop_eq_getElem_cons hl, wordsAux, if_pos (hc hl), if_neg (by simp [hne])]
    rfl
  · rw [List.drop_eq_nil_of_le (by omega : l.length ≤ k), List.drop_eq_nil_of_le (by omega : l.length ≤ k + 1)]
    simp only [wordsAux, hne]
    simp

theorem WordsAt.gap {l : List UInt8} {k f : Nat} {out : List (List UInt8)} (h : WordsAt l k f out) (hf : ¬ f < k) (hk : k ≤ l.length) (hc : ∀ hk : k < l.length, blankB l[k] = true) : WordsAt l (k + 1) (k + 1) out := by
  obtain ⟨h1, h2, h3, h4, h5⟩ := h
  refine ⟨by omega, by omega, ?_, by omega, by omega⟩
  rw [← h3]
  congr 1
  have hz : (List.take (k + 1) l).drop (k + 1) = [] := List.drop_eq_nil_of_le (by simp; omega)
  have hz' : (List.take k l).drop f = [] := List.drop_eq_nil_of_le (by simp; omega)
  rw [hz, hz']
  by_cases hl : k < l.length
  · rw [List.drop_eq_getElem_cons hl, wordsAux, if_pos (hc hl)]
    simp
  · rw [List.drop_eq_nil_of_le (by omega : l.length ≤ k), List.drop_eq_nil_of_le (by omega : l.length ≤ k + 1)]

theorem WordsAt.done {l : List UInt8} {k f : Nat} {out : List (List UInt8)} (h : WordsAt l k f out) (hk : l.length < k) : out = words l := by
  obtain ⟨h1, h2, h3, h4, h5⟩ := h
  have hf := h5 hk
  rw [← h3, List.drop_eq_nil_of_le (by omega : l.length ≤ k), List.drop_eq_nil_of_le (by simp; omega : (List.take k l).length ≤ f)]
  simp [wordsAux]

theorem blankB_true (c : UInt8) : blankB c = true ↔ c.toNat = 9 ∨ c.toNat = 10 ∨ c.toNat = 12 ∨ c.toNat = 13 ∨ c.toNat = 32 := by
  simp only [blankB, Bool.or_eq_true, beq_iff_eq]
  constructor
  · rintro ((((rfl | rfl) | rfl) | rfl) | rfl) <;> decide
  · rintro (h | h | h | h | h)
    · exact Or.inl (Or.inl (Or.inl (Or.inl (UInt8.toNat_inj.1 h))))
    · exact Or.inl (Or.inl (Or.inl (Or.inr (UInt8.toNat_inj.1 h))))
    · exact Or.inl (Or.inl (Or.inr (UInt8.toNat_inj.1 h)))
    · exact Or.inl (Or.inr (UInt8.toNat_inj.1 h))
    · exact Or.inr (UInt8.toNat_inj.1 h)

/-- The words, one blank between. -/
def plain (l : List UInt8) : List UInt8 := Lib.join (words l) [32]

theorem lens_cons (x : List UInt8) (r : List (List UInt8)) : Lib.lens (x :: r) = x.length + Lib.lens r := by simp [Lib.lens]
theorem wordsAux_lens (l : List UInt8) : ∀ cur : List UInt8, Lib.lens (wordsAux cur l) + (wordsAux cur l).length ≤ cur.length + l.length + 1 := by
  induction l with
  | nil =>
    intro cur
    cases cur with
    | nil => simp [wordsAux, Lib.lens]
    | cons a b => simp [wordsAux, Lib.lens]
  | cons c r ih =>
    intro cur
    unfold wordsAux
    split
    · split
      · have := ih []
        simp at this ⊢
        omega
      · have := ih []
        rw [lens_cons]
        simp at this ⊢
        omega
    · have := ih (cur ++ [c])
      simp at this ⊢
      omega
theorem join_len_le (ws : List (List UInt8)) (n : Nat) (h : Lib.lens ws + ws.length ≤ n + 1) : (Lib.join ws [32]).length ≤ n := by
  cases ws with
  | nil => simp [Lib.join_nil]
  | cons x r =>
    rw [Lib.join_length]
    simp at h ⊢
    omega
theorem plain_len (l : List UInt8) : (plain l).length ≤ l.length := by
  refine join_len_le _ _ ?_
  have := wordsAux_lens l []
  simpa [words] using this
theorem words_count (l : List UInt8) : (words l).length ≤ l.length + 1 := by
  have := wordsAux_lens l []
  simp [words] at this ⊢
  omega

theorem join_take_succ (ws : List (List UInt8)) (k : Nat) (hk : k < ws.length) (h0 : 0 < k) : Lib.join (ws.take (k + 1)) [32] = Lib.join (ws.take k) [32] ++ [32] ++ ws[k] := by
  cases ws with
  | nil => simp at hk
  | cons x r =>
    obtain ⟨j, rfl⟩ : ∃ j, k = j + 1 := ⟨k - 1, by omega⟩
    rw [List.take_succ_cons, List.take_succ_cons, Lib.join_cons, Lib.join_cons]
    have hj : j < r.length := by simpa using hk
    rw [Lib.joinTail_take_succ [32] r j r[j] (List.getElem?_eq_getElem hj)]
    simp
theorem join_take_one (ws : List (List UInt8)) (hk : 0 < ws.length) : Lib.join (ws.take 1) [32] = ws[0] := by
  cases ws with
  | nil => simp at hk
  | cons x r => simp [Lib.join_one]
theorem join_take_le (ws : List (List UInt8)) (k : Nat) : (Lib.join (ws.take k) [32]).length ≤ (Lib.join ws [32]).length := by
  cases ws with
  | nil => simp [Lib.join_nil]
  | cons x r =>
    cases k with
    | zero => simp [Lib.join_nil]
    | succ k =>
      rw [List.take_succ_cons, Lib.join_cons, Lib.join_cons]
      have := Lib.joinTail_take_le [32] r k
      simp
      omega

/-! ### Without the blanks at both ends -/
def trimL (l : List UInt8) : List UInt8 := l.dropWhile blankB
def trim (l : List UInt8) : List UInt8 := (trimL (trimL l).reverse).reverse

theorem trimL_cons (c : UInt8) (l : List UInt8) (h : blankB c = true) : trimL (c :: l) = trimL l := by simp [trimL, h]
theorem trimL_stop (c : UInt8) (l : List UInt8) (h : blankB c = false) : trimL (c :: l) = c :: l := by simp [trimL, h]
/-- l begins with no blank. -/
def Front (l : List UInt8) : Prop := l = [] ∨ ∃ c r, l = c :: r ∧ blankB c = false
theorem Front.trimL {l : List UInt8} (h : Front l) : Plain.trimL l = l := by
  rcases h with rfl | ⟨c, r, rfl, hc⟩
  · rfl
  · exact trimL_stop c r hc
theorem trim_front (l : List UInt8) (hf : Front l) : trim l = (trimL l.reverse).reverse := by unfold trim; rw [hf.trimL]
/-- A blank at the end goes. -/
theorem trim_snoc (l : List UInt8) (c : UInt8) (hf : Front (l ++ [c])) (h : blankB c = true) : Front l ∧ trim (l ++ [c]) = trim l := by
  have hl : Front l := by
    cases l with
    | nil => exact Or.inl rfl
    | cons a r =>
      rcases hf with h1 | ⟨c', r', h1, h2⟩
      · simp at h1
      · simp at h1
        exact Or.inr ⟨a, r, rfl, by rw [h1.1]; exact h2⟩
  refine ⟨hl, ?_⟩
  rw [trim_front _ hf, trim_front _ hl, List.reverse_append]
  simp [trimL_cons, h]
/-- Nothing goes. -/
theorem trim_same (l : List UInt8) (c : UInt8) (hf : Front (l ++ [c])) (h : blankB c = false) : trim (l ++ [c]) = l ++ [c] := by
  rw [trim_front _ hf, List.reverse_append]
  simp [trimL_stop, h]
theorem trim_nil : trim [] = [] := rfl
theorem trim_cons (c : UInt8) (l : List UInt8) (h : blankB c = true) : trim (c :: l) = trim l := by unfold trim; rw [trimL_cons c l h]
end Go.Proofs.Ytbadckkcjjfnoaa.Plain
namespace Go.Proofs.Ytbadckkcjjfnoaa
open Go.RowKit

theorem rblank_yes (c : UInt8) (w : World) (h : Plain.blankB c = true) :
    Calls Try.prog 135 #[.int .u8 (c.toNat : Int)] w fun e w' => e = .returned (.bool true) ∧ w = w' := by
  rw [Plain.blankB_true] at h
  generalize c.toNat = n at h ⊢
  rcases h with rfl | rfl | rfl | rfl | rfl
  all_goals
    go_enter Try.func135, Try.ntmps135
    go_wp2
    go_ret
    exact ⟨rfl, rfl⟩
theorem rblank_no (c : UInt8) (w : World) (h : Plain.blankB c = false) :
    Calls Try.prog 135 #[.int .u8 (c.toNat : Int)] w fun e w' => e = .returned (.bool false) ∧ w = w' := by
  have h' : ¬ Plain.blankB c = true := by simp [h]
  rw [Plain.blankB_true] at h'
  clear h
  generalize hn : c.toNat = n at *
  clear hn
  have h9 : ((n : Int) == 9) = false := beq_eq_false_iff_ne.2 (by omega)
  have h10 : ((n : Int) == 10) = false := beq_eq_false_iff_ne.2 (by omega)
  have h12 : ((n : Int) == 12) = false := beq_eq_false_iff_ne.2 (by omega)
  have h13 : ((n : Int) == 13) = false := beq_eq_false_iff_ne.2 (by omega)
  have h32 : ((n : Int) == 32) = false := beq_eq_false_iff_ne.2 (by omega)
  clear h'
  go_enter Try.func135, Try.ntmps135
  go_wp2
  go_ret
  exact ⟨rfl, rfl⟩

/-- A text as a value. -/

theorem extract_list (s : ByteArray) (f k : Nat) : s.extract f k = ⟨((s.data.toList.take k).drop f).toArray⟩ := by
  apply ByteArray.ext
  apply Array.toList_inj.1
  rw [Lib.extract_data]
  simp [List.drop_take]

theorem info9 : ∃ i, Try.prog.info? 9 = some i ∧ i.zero = some (.string ByteArray.empty) ∧ i.size = 1 ∧ i.bytes = 16 := by
  have hi9 : (Try.prog.info? 9).map (fun i => (i.zero, i.size, i.bytes)) = some (some (.string ByteArray.empty), 1, 16) := by kernel_rfl
  obtain ⟨i0, hi, hx⟩ := Option.map_eq_some_iff.1 hi9
  simp only [Prod.mk.injEq] at hx
  exact ⟨i0, hi, hx.1, hx.2.1, hx.2.2⟩

/-- What is told of a row of texts: new memory that holds them. -/
def WordsOut (w : World) (ws : List (List UInt8)) (e : Ending) (w' : World) : Prop :=
  ∃ v, e = .returned v ∧ w'.ownsRow w.heap.size 9 1 v ws.length (ws.map strV) ∧ Below w.heap.size w w'



set_option maxHeartbeats 1000000 in
set_option maxRecDepth 100000 in
theorem rwords_any (s : ByteArray) (w : World) (hs : s.size ≤ 4294967296) :
    Calls Try.prog 109 #[.string s] w (WordsOut w (Plain.words s.data.toList)) := by
  obtain ⟨i0, hi, hz0, hz1, hz2⟩ := info9
  have hl : s.data.toList.length = s.size := by simp
  have HL := Lib.hid hl
  have HI := Lib.hid (And.intro hi (And.intro hz0 (And.intro hz1 hz2)))
  clear hl hi hz0 hz1 hz2
  go_enter Try.func109, Try.ntmps109
  go_wp2
  go_loopw [3, 4, 5] (fun v f i wr => ∃ (k from_ : Nat) (out : List (List UInt8)), i = .int .i64 k ∧ f = .int .i64 from_ ∧ Plain.WordsAt s.data.toList k from_ out ∧ wr.ownsRow w.heap.size 9 1 v out.length (out.map strV) ∧ Below w.heap.size w wr) (fun _ _ i _ => s.size + 1 - (intOf i).toNat)
  case atStart =>
    exact ⟨0, 0, [], rfl, rfl, Plain.WordsAt.start _, ⟨by simp, Or.inl ⟨rfl, rfl⟩⟩, Below.refl _ _⟩
  case round =>
    obtain ⟨k, f, out, rfl, rfl, hW, hrow, hb⟩ := hrel
    have hk1 : k ≤ s.size + 1 := by have := hW.2.1; rw [HL.out] at this; exact this
    have hfk : f ≤ k := hW.1
    have hol : out.length ≤ k := hW.2.2.2.1
    have HW := Lib.hid hW
    have HR := Lib.hid hrow
    clear hW hrow
    by_cases hle : k ≤ s.size
    · by_cases hlt : k < s.size
      · have hkl : k < s.data.toList.length := by rw [HL.out]; exact hlt
        cases hbl : Plain.blankB s[k]
        · -- a letter
          have HN := Lib.hid (HW.out.letter hkl hbl)
          have HBL := Lib.hid hbl
          clear hbl
          go_wp2_with (go_at_call 135; refine (rblank_no _ _ HBL.out).mono ?_; rintro e w1 ⟨rfl, rfl⟩)
          go_roundw
          case rel => exact ⟨k + 1, f, out, by go_num, rfl, HN.out, HR.out, hb⟩
          case measure => simp [intOf]; omega
        · -- a blank
          have hbk : ∀ hk : k < s.data.toList.length, Plain.blankB s.data.toList[k] = true := fun _ => hbl
          have HBK := Lib.hid hbk
          have HBL := Lib.hid hbl
          clear hbl hbk
          by_cases hf : f < k
          · have HN := Lib.hid (HW.out.word hf (by omega) HBK.out)
            go_wp2_with (first
              | (go_at_call 135; refine (rblank_yes _ _ HBL.out).mono ?_; rintro e w1 ⟨rfl, rfl⟩)
              | (at_builtin; refine wpList_append_own _ rfl _ _ 84 rfl w.heap.size 9 i0 (.string ByteArray.empty) 1 16 Try.underlying84 HI.out.1 HI.out.2.1 HI.out.2.2.1 HI.out.2.2.2 rfl (by decide) _ _ _ rfl (HR.out.alloc _) ⟨wr.heap.size, 0, none⟩ 1 1 [.string (s.extract f k)] rfl rfl (cell_one_new _ _ _) (fun x hx => by simp at hx; subst hx; rfl) (by unfold maxLen; omega) (by omega) (by have := hb.size; simp; omega) ?_; intro v' w3 hown' hgrow3 hnil3))
            go_roundw
            case rel =>
              refine ⟨k + 1, k + 1, out ++ [(s.data.toList.take k).drop f], by go_num, by go_num, HN.out, ?_, (hb.alloc hb.size _).grown hgrow3 (by have := hb.size; simp; omega) (fun q hq => (HR.out.lt q hq).1)⟩
              rw [extract_list] at hown'
              rw [List.length_append, List.map_append]
              exact hown'
            case measure => simp [intOf]; omega
          · have HN := Lib.hid (HW.out.gap hf (by omega) HBK.out)
            go_wp2_with (go_at_call 135; refine (rblank_yes _ _ HBL.out).mono ?_; rintro e w1 ⟨rfl, rfl⟩)
            go_roundw
            case rel => exact ⟨k + 1, k + 1, out, by go_num, by go_num, HN.out, HR.out, hb⟩
            case measure => simp [intOf]; omega
      · have hbk : ∀ hk : k < s.data.toList.length, Plain.blankB s.data.toList[k] = true := fun h => absurd h (by rw [HL.out]; omega)
        have HBK := Lib.hid hbk
        clear hbk
        by_cases hf : f < k
        · have HN := Lib.hid (HW.out.word hf (by rw [HL.out]; omega) HBK.out)
          go_wp2_with (first
            | (at_builtin; refine wpList_append_own _ rfl _ _ 84 rfl w.heap.size 9 i0 (.string ByteArray.empty) 1 16 Try.underlying84 HI.out.1 HI.out.2.1 HI.out.2.2.1 HI.out.2.2.2 rfl (by decide) _ _ _ rfl (HR.out.alloc _) ⟨wr.heap.size, 0, none⟩ 1 1 [.string (s.extract f k)] rfl rfl (cell_one_new _ _ _) (fun x hx => by simp at hx; subst hx; rfl) (by unfold maxLen; omega) (by omega) (by have := hb.size; simp; omega) ?_; intro v' w3 hown' hgrow3 hnil3))
          go_roundw
          case rel =>
            refine ⟨k + 1, k + 1, out ++ [(s.data.toList.take k).drop f], by go_num, by go_num, HN.out, ?_, (hb.alloc hb.size _).grown hgrow3 (by have := hb.size; simp; omega) (fun q hq => (HR.out.lt q hq).1)⟩
            rw [extract_list] at hown'
            rw [List.length_append, List.map_append]
            exact hown'
          case measure => simp [intOf]; omega
        · have HN := Lib.hid (HW.out.gap hf (by rw [HL.out]; omega) HBK.out)
          go_wp2
          go_roundw
          case rel => exact ⟨k + 1, k + 1, out, by go_num, by go_num, HN.out, HR.out, hb⟩
          case measure => simp [intOf]; omega
    · have hd := HW.out.done (by rw [HL.out]; omega)
      have HD := Lib.hid hd
      clear hd
      go_wp2
      go_ret
      rw [← HD.out]
      exact ⟨_, rfl, HR.out, hb⟩
/-- The slice v holds the texts ws in w. -/
def TextsAt (w : World) (v : Value) (ws : List (List UInt8)) : Prop :=
  (v = .slice none 0 0 ∧ ws = []) ∨
  ∃ g cap, v = .slice (some ⟨g, 0, none⟩) ws.length cap ∧ g < w.heap.size ∧ ws.length ≤ cap ∧ ∀ j (hj : j < ws.length), w.cell? ⟨g, j, none⟩ = some (strV ws[j])

theorem TextsAt.of_row {w : World} {base : Nat} {v : Value} {ws : List (List UInt8)} (h : w.ownsRow base 9 1 v ws.length (ws.map strV)) : TextsAt w v ws := by
  rcases h.2 with ⟨e0, h0⟩ | ⟨g, cap, cur, rfl, hb, hg, hn, hm, hs, ht⟩
  · exact Or.inl ⟨e0, List.eq_nil_of_length_eq_zero h0⟩
  · have hlt : g < w.heap.size := by
      rcases Nat.lt_or_ge g w.heap.size with h' | h'
      · exact h'
      · rw [Array.getElem?_eq_none h'] at hg; cases hg
    refine Or.inr ⟨g, cap, rfl, hlt, hn, fun j hj => ?_⟩
    have e1 : (cur.toList.take (ws.length * 1))[j]? = (ws.map strV)[j]? := by rw [ht]
    rw [List.getElem?_take, if_pos (by omega), Array.getElem?_toList, List.getElem?_map, List.getElem?_eq_getElem hj] at e1
    simp only [World.cell?, hg]
    simp only [Option.isSome_none, Bool.false_eq_true, if_false]
    rw [e1]
    rfl
theorem TextsAt.below {w w' : World} {v : Value} {ws : List (List UInt8)} (h : TextsAt w v ws) (hb : Below w.heap.size w w') : TextsAt w' v ws := by
  rcases h with h | ⟨g, cap, rfl, hlt, hn, hc⟩
  · exact Or.inl h
  · exact Or.inr ⟨g, cap, rfl, Nat.lt_of_lt_of_le hlt hb.size, hn, fun j hj => (hb.cell (p := ⟨g, j, none⟩) hlt).trans (hc j hj)⟩

/-- What Words tells: a row that holds the words; nothing old is changed. -/
def WordsTold (w : World) (ws : List (List UInt8)) (e : Ending) (w' : World) : Prop := ∃ v, e = .returned v ∧ TextsAt w' v ws ∧ Below w.heap.size w w'
theorem rwords_told (s : ByteArray) (w : World) (hs : s.size ≤ 4294967296) : Calls Try.prog 109 #[.string s] w (WordsTold w (Plain.words s.data.toList)) :=
  (rwords_any s w hs).mono fun _ _ ⟨v, he, hr, hb⟩ => ⟨v, he, TextsAt.of_row hr, hb⟩
theorem TextsAt.slice {w : World} {v : Value} {ws : List (List UInt8)} (h : TextsAt w v ws) :
    ∃ p cap, v = .slice p ws.length cap ∧ ws.length ≤ cap ∧ ∀ j (hj : j < ws.length), ∃ g, p = some ⟨g, 0, none⟩ ∧ g < w.heap.size ∧ w.cell? ⟨g, j, none⟩ = some (.string ⟨ws[j].toArray⟩) := by
  rcases h with ⟨rfl, rfl⟩ | ⟨g, cap, rfl, hlt, hn, hc⟩
  · exact ⟨none, 0, rfl, Nat.le_refl _, fun j hj => absurd hj (by simp)⟩
  · exact ⟨_, cap, rfl, hn, fun j hj => ⟨g, rfl, hlt, hc j hj⟩⟩


theorem any_no {ws : List (List UInt8)} {s : List UInt8} {k : Nat} (h : ∀ j (_ : j < k) (hj : j < ws.length), ws[j] ≠ s) (hk : ws.length ≤ k) : (ws.any fun x => x == s) = false := by
  rw [List.any_eq_false]
  intro x hx
  obtain ⟨i, hi, rfl⟩ := List.getElem_of_mem hx
  rw [beq_iff_eq]
  exact h i (by omega) hi
set_option maxHeartbeats 1000000 in
set_option maxRecDepth 100000 in
theorem rin_any (v : Value) (ws : List (List UInt8)) (s : ByteArray) (w : World) (h : TextsAt w v ws) (hN : ws.length ≤ 4294967297) : Calls Try.prog 142 #[v, .string s] w (Brings (.bool (ws.any fun x => x == s.data.toList)) w) := by
  obtain ⟨p, cap, rfl, hn, hcell⟩ := h.slice
  have HC := Lib.hid hcell
  clear hcell h
  go_enter Try.func142, Try.ntmps142
  go_wp2
  go_loop [5] (fun i => ∃ k : Nat, k ≤ ws.length ∧ i = .int .i64 k ∧ ∀ j (_ : j < k) (hj : j < ws.length), ws[j] ≠ s.data.toList) (fun i => ws.length - (intOf i).toNat)
  case atStart => exact ⟨0, Nat.zero_le _, rfl, fun j h => absurd h (by omega)⟩
  case round =>
    obtain ⟨k, hk, rfl, hno⟩ := hrel
    have HNO := Lib.hid hno
    clear hno
    by_cases hlt : k < ws.length
    · obtain ⟨g, rfl, hg, hc⟩ := HC.out k hlt
      have k0 : (0 : Int) ≤ (k : Int) := by omega
      have k1 : (k : Int) < (ws.length : Int) := by omega
      by_cases he : ws[k] = s.data.toList
      · have HE : Hid ((ws.any fun x => x == s.data.toList) = true) := Lib.hid (by rw [List.any_eq_true]; exact ⟨ws[k], List.getElem_mem hlt, by simp [he]⟩)
        have q1 : ((⟨ws[k].toArray⟩ : ByteArray).toList == s.toList) = true := by rw [Lib.toList_data, Lib.toList_data, beq_iff_eq]; exact he
        clear he
        generalize (⟨ws[k].toArray⟩ : ByteArray) = A at *
        go_wp2
        go_ret
        exact ⟨by rw [HE.out]; rfl, Below.refl _ _⟩
      · have q1 : ((⟨ws[k].toArray⟩ : ByteArray).toList == s.toList) = false := by rw [Lib.toList_data, Lib.toList_data, beq_eq_false_iff_ne]; exact he
        have HE := Lib.hid he
        clear he
        generalize (⟨ws[k].toArray⟩ : ByteArray) = A at *
        go_wp2
        refine ⟨⟨k + 1, by omega, by go_num, fun j h1 h2 => ?_⟩, by simp [intOf]; omega⟩
        rcases Nat.lt_or_ge j k with h | h
        · exact HNO.out j h h2
        · have : j = k := by omega
          subst this
          exact HE.out
    · have HE := Lib.hid (any_no HNO.out (by omega))
      go_wp2
      go_ret
      exact ⟨by rw [HE.out]; rfl, Below.refl _ _⟩
end Go.Proofs.Ytbadckkcjjfnoaa
namespace Go.Proofs.Ytbadckkcjjfnoaa.Plain

def setVoid : List UInt8 := [97, 114, 101, 97, 32, 98, 97, 115, 101, 32, 98, 97, 115, 101, 102, 111, 110, 116, 32, 98, 103, 115, 111, 117, 110, 100, 32, 98, 114, 32, 99, 111, 108, 32, 101, 109, 98, 101, 100, 32, 102, 114, 97, 109, 101, 32, 104, 114, 32, 105, 109, 103, 32, 105, 110, 112, 117, 116, 32, 107, 101, 121, 103, 101, 110, 32, 108, 105, 110, 107, 32, 109, 101, 116, 97, 32, 112, 97, 114, 97, 109, 32, 115, 111, 117, 114, 99, 101, 32, 116, 114, 97, 99, 107, 32, 119, 98, 114]
def setFormat : List UInt8 := [97, 32, 98, 32, 98, 105, 103, 32, 99, 111, 100, 101, 32, 101, 109, 32, 102, 111, 110, 116, 32, 105, 32, 110, 111, 98, 114, 32, 115, 32, 115, 109, 97, 108, 108, 32, 115, 116, 114, 105, 107, 101, 32, 115, 116, 114, 111, 110, 103, 32, 116, 116, 32, 117]
def setSpecial : List UInt8 := [97, 100, 100, 114, 101, 115, 115, 32, 97, 112, 112, 108, 101, 116, 32, 97, 114, 101, 97, 32, 97, 114, 116, 105, 99, 108, 101, 32, 97, 115, 105, 100, 101, 32, 98, 97, 115, 101, 32, 98, 97, 115, 101, 102, 111, 110, 116, 32, 98, 103, 115, 111, 117, 110, 100, 32, 98, 108, 111, 99, 107, 113, 117, 111, 116, 101, 32, 98, 111, 100, 121, 32, 98, 114, 32, 98, 117, 116, 116, 111, 110, 32, 99, 97, 112, 116, 105, 111, 110, 32, 99, 101, 110, 116, 101, 114, 32, 99, 111, 108, 32, 99, 111, 108, 103, 114, 111, 117, 112, 32, 100, 100, 32, 100, 101, 116, 97, 105, 108, 115, 32, 100, 105, 97, 108, 111, 103, 32, 100, 105, 114, 32, 100, 105, 118, 32, 100, 108, 32, 100, 116, 32, 101, 109, 98, 101, 100, 32, 102, 105, 101, 108, 100, 115, 101, 116, 32, 102, 105, 103, 99, 97, 112, 116, 105, 111, 110, 32, 102, 105, 103, 117, 114, 101, 32, 102, 111, 111, 116, 101, 114, 32, 102, 111, 114, 109, 32, 102, 114, 97, 109, 101, 32, 102, 114, 97, 109, 101, 115, 101, 116, 32, 104, 49, 32, 104, 50, 32, 104, 51, 32, 104, 52, 32, 104, 53, 32, 104, 54, 32, 104, 101, 97, 100, 32, 104, 101, 97, 100, 101, 114, 32, 104, 103, 114, 111, 117, 112, 32, 104, 114, 32, 104, 116, 109, 108, 32, 105, 102, 114, 97, 109, 101, 32, 105, 109, 103, 32, 105, 110, 112, 117, 116, 32, 107, 101, 121, 103, 101, 110, 32, 108, 105, 32, 108, 105, 110, 107, 32, 108, 105, 115, 116, 105, 110, 103, 32, 109, 97, 105, 110, 32, 109, 97, 114, 113, 117, 101, 101, 32, 109, 101, 110, 117, 32, 109, 101, 116, 97, 32, 110, 97, 118, 32, 110, 111, 101, 109, 98, 101, 100, 32, 110, 111, 102, 114, 97, 109, 101, 115, 32, 110, 111, 115, 99, 114, 105, 112, 116, 32, 111, 98, 106, 101, 99, 116, 32, 111, 108, 32, 112, 32, 112, 97, 114, 97, 109, 32, 112, 108, 97, 105, 110, 116, 101, 120, 116, 32, 112, 114, 101, 32, 115, 99, 114, 105, 112, 116, 32, 115, 101, 97, 114, 99, 104, 32, 115, 101, 99, 116, 105, 111, 110, 32, 115, 101, 108, 101, 99, 116, 32, 115, 111, 117, 114, 99, 101, 32, 115, 116, 121, 108, 101, 32, 115, 117, 109, 109, 97, 114, 121, 32, 116, 97, 98, 108, 101, 32, 116, 98, 111, 100, 121, 32, 116, 100, 32, 116, 101, 109, 112, 108, 97, 116, 101, 32, 116, 101, 120, 116, 97, 114, 101, 97, 32, 116, 102, 111, 111, 116, 32, 116, 104, 32, 116, 104, 101, 97, 100, 32, 116, 105, 116, 108, 101, 32, 116, 114, 32, 116, 114, 97, 99, 107, 32, 117, 108, 32, 119, 98, 114, 32, 120, 109, 112]
def setImply : List UInt8 := [100, 100, 32, 100, 116, 32, 108, 105, 32, 111, 112, 116, 103, 114, 111, 117, 112, 32, 111, 112, 116, 105, 111, 110, 32, 112, 32, 114, 98, 32, 114, 112, 32, 114, 116, 32, 114, 116, 99]
def setHeads : List UInt8 := [104, 49, 32, 104, 50, 32, 104, 51, 32, 104, 52, 32, 104, 53, 32, 104, 54]
def setBlocks : List UInt8 := [97, 100, 100, 114, 101, 115, 115, 32, 97, 114, 116, 105, 99, 108, 101, 32, 97, 115, 105, 100, 101, 32, 98, 108, 111, 99, 107, 113, 117, 111, 116, 101, 32, 99, 101, 110, 116, 101, 114, 32, 100, 101, 116, 97, 105, 108, 115, 32, 100, 105, 97, 108, 111, 103, 32, 100, 105, 114, 32, 100, 105, 118, 32, 100, 108, 32, 102, 105, 101, 108, 100, 115, 101, 116, 32, 102, 105, 103, 99, 97, 112, 116, 105, 111, 110, 32, 102, 105, 103, 117, 114, 101, 32, 102, 111, 111, 116, 101, 114, 32, 102, 111, 114, 109, 32, 104, 101, 97, 100, 101, 114, 32, 104, 103, 114, 111, 117, 112, 32, 109, 97, 105, 110, 32, 109, 101, 110, 117, 32, 110, 97, 118, 32, 111, 108, 32, 112, 32, 115, 101, 97, 114, 99, 104, 32, 115, 101, 99, 116, 105, 111, 110, 32, 115, 117, 109, 109, 97, 114, 121, 32, 117, 108]
def setBreaks : List UInt8 := [98, 32, 98, 105, 103, 32, 98, 108, 111, 99, 107, 113, 117, 111, 116, 101, 32, 98, 111, 100, 121, 32, 98, 114, 32, 99, 101, 110, 116, 101, 114, 32, 99, 111, 100, 101, 32, 100, 100, 32, 100, 105, 118, 32, 100, 108, 32, 100, 116, 32, 101, 109, 32, 101, 109, 98, 101, 100, 32, 104, 49, 32, 104, 50, 32, 104, 51, 32, 104, 52, 32, 104, 53, 32, 104, 54, 32, 104, 101, 97, 100, 32, 104, 114, 32, 105, 32, 105, 109, 103, 32, 108, 105, 32, 108, 105, 115, 116, 105, 110, 103, 32, 109, 101, 110, 117, 32, 109, 101, 116, 97, 32, 110, 111, 98, 114, 32, 111, 108, 32, 112, 32, 112, 114, 101, 32, 114, 117, 98, 121, 32, 115, 32, 115, 109, 97, 108, 108, 32, 115, 112, 97, 110, 32, 115, 116, 114, 105, 107, 101, 32, 115, 116, 114, 111, 110, 103, 32, 115, 117, 98, 32, 115, 117, 112, 32, 116, 97, 98, 108, 101, 32, 116, 116, 32, 117, 32, 117, 108, 32, 118, 97, 114]
def setMute : List UInt8 := [105, 102, 114, 97, 109, 101, 32, 110, 111, 101, 109, 98, 101, 100, 32, 110, 111, 102, 114, 97, 109, 101, 115, 32, 112, 108, 97, 105, 110, 116, 101, 120, 116, 32, 115, 99, 114, 105, 112, 116, 32, 115, 116, 121, 108, 101, 32, 116, 101, 109, 112, 108, 97, 116, 101, 32, 116, 101, 120, 116, 97, 114, 101, 97, 32, 116, 105, 116, 108, 101, 32, 120, 109, 112]
def setGone : List UInt8 := [97, 112, 112, 108, 101, 116, 32, 97, 114, 101, 97, 32, 97, 117, 100, 105, 111, 32, 98, 97, 115, 101, 32, 98, 97, 115, 101, 102, 111, 110, 116, 32, 98, 103, 115, 111, 117, 110, 100, 32, 98, 117, 116, 116, 111, 110, 32, 99, 97, 110, 118, 97, 115, 32, 99, 111, 108, 32, 99, 111, 108, 103, 114, 111, 117, 112, 32, 100, 105, 97, 108, 111, 103, 32, 101, 109, 98, 101, 100, 32, 102, 114, 97, 109, 101, 32, 105, 102, 114, 97, 109, 101, 32, 105, 110, 112, 117, 116, 32, 107, 101, 121, 103, 101, 110, 32, 108, 105, 110, 107, 32, 109, 101, 116, 97, 32, 110, 111, 101, 109, 98, 101, 100, 32, 110, 111, 102, 114, 97, 109, 101, 115, 32, 111, 98, 106, 101, 99, 116, 32, 111, 112, 116, 103, 114, 111, 117, 112, 32, 111, 112, 116, 105, 111, 110, 32, 112, 97, 114, 97, 109, 32, 112, 108, 97, 105, 110, 116, 101, 120, 116, 32, 115, 99, 114, 105, 112, 116, 32, 115, 101, 108, 101, 99, 116, 32, 115, 111, 117, 114, 99, 101, 32, 115, 116, 121, 108, 101, 32, 116, 101, 109, 112, 108, 97, 116, 101, 32, 116, 101, 120, 116, 97, 114, 101, 97, 32, 116, 105, 116, 108, 101, 32, 116, 114, 97, 99, 107, 32, 118, 105, 100, 101, 111, 32, 119, 98, 114, 32, 120, 109, 112]
/-- The names of a set, as one text. -/
def setT (n : Int) : List UInt8 := if n = 1 then setVoid else if n = 2 then setFormat else if n = 3 then setSpecial else if n = 4 then setImply else if n = 5 then setHeads else if n = 6 then setBlocks else if n = 7 then setBreaks else if n = 8 then setMute else if n = 9 then setGone else []
def hasT (n : Int) (s : List UInt8) : Bool := (words (setT n)).any fun x => x == s
def wallAny : List UInt8 := [97, 112, 112, 108, 101, 116, 32, 99, 97, 112, 116, 105, 111, 110, 32, 104, 116, 109, 108, 32, 109, 97, 114, 113, 117, 101, 101, 32, 111, 98, 106, 101, 99, 116, 32, 116, 97, 98, 108, 101, 32, 116, 100, 32, 116, 101, 109, 112, 108, 97, 116, 101, 32, 116, 104]
def wallList : List UInt8 := [97, 112, 112, 108, 101, 116, 32, 99, 97, 112, 116, 105, 111, 110, 32, 104, 116, 109, 108, 32, 109, 97, 114, 113, 117, 101, 101, 32, 111, 98, 106, 101, 99, 116, 32, 116, 97, 98, 108, 101, 32, 116, 100, 32, 116, 101, 109, 112, 108, 97, 116, 101, 32, 116, 104, 32, 111, 108, 32, 117, 108]
def wallButton : List UInt8 := [97, 112, 112, 108, 101, 116, 32, 99, 97, 112, 116, 105, 111, 110, 32, 104, 116, 109, 108, 32, 109, 97, 114, 113, 117, 101, 101, 32, 111, 98, 106, 101, 99, 116, 32, 116, 97, 98, 108, 101, 32, 116, 100, 32, 116, 101, 109, 112, 108, 97, 116, 101, 32, 116, 104, 32, 98, 117, 116, 116, 111, 110]
def wallTable : List UInt8 := [104, 116, 109, 108, 32, 116, 97, 98, 108, 101, 32, 116, 101, 109, 112, 108, 97, 116, 101]
def wallMath : List UInt8 := [97, 110, 110, 111, 116, 97, 116, 105, 111, 110, 45, 120, 109, 108, 32, 109, 105, 32, 109, 110, 32, 109, 111, 32, 109, 115, 32, 109, 116, 101, 120, 116]
def wallSvg : List UInt8 := [100, 101, 115, 99, 32, 102, 111, 114, 101, 105, 103, 110, 79, 98, 106, 101, 99, 116, 32, 116, 105, 116, 108, 101]
/-- The walls of a scope in a space, as one text. -/
def wallT (c p : Int) : List UInt8 :=
  if c = 4 then (if p = 1 then wallTable else [])
  else if c = 1 ∨ c = 2 ∨ c = 3 then (if p = 1 then (if c = 2 then wallList else if c = 3 then wallButton else wallAny) else if p = 3 then wallMath else if p = 2 then wallSvg else [])
  else []
def isWall (c p : Int) (s : List UInt8) : Bool := (words (wallT c p)).any fun x => x == s
def stateT (s : List UInt8) : Int := if s = [116, 101, 120, 116, 97, 114, 101, 97] ∨ s = [116, 105, 116, 108, 101] then 1 else if s = [105, 102, 114, 97, 109, 101] ∨ s = [110, 111, 101, 109, 98, 101, 100] ∨ s = [110, 111, 102, 114, 97, 109, 101, 115] ∨ s = [115, 99, 114, 105, 112, 116] ∨ s = [115, 116, 121, 108, 101] ∨ s = [120, 109, 112] then 2 else if s = [112, 108, 97, 105, 110, 116, 101, 120, 116] then 3 else 0
def nameT : List UInt8 := [97, 110, 110, 111, 116, 97, 116, 105, 111, 110, 45, 120, 109, 108, 32, 109, 105, 32, 100, 101, 115, 99, 32, 102, 111, 114, 101, 105, 103, 110, 79, 98, 106, 101, 99, 116, 32, 116, 105, 116, 108, 101, 32, 115, 118, 103, 32, 115, 112, 97, 110, 32, 104, 116, 109, 108, 32, 98, 117, 116, 116, 111, 110, 32, 111, 108]
/-- All names, up to a set. -/
def namesTo (k : Nat) : List (List UInt8) := words nameT ++ (List.range (k - 1)).flatMap fun (j : Nat) => words (setT ((j : Int) + 1))
theorem namesTo_one : namesTo 1 = words nameT := by simp [namesTo]
theorem namesTo_step (k : Nat) (h : 1 ≤ k) : namesTo (k + 1) = namesTo k ++ words (setT (k : Int)) := by
  obtain ⟨m, rfl⟩ : ∃ m, k = m + 1 := ⟨k - 1, by omega⟩
  unfold namesTo
  rw [show m + 1 + 1 - 1 = m + 1 by omega, show m + 1 - 1 = m by omega, List.range_succ, List.flatMap_append, List.append_assoc]
  simp
/-- All names. -/
def names : List (List UInt8) := namesTo 10
theorem namesTo_le : ∀ d k : Nat, 1 ≤ k → (namesTo k).length ≤ (namesTo (k + d)).length
  | 0, _, _ => Nat.le_refl _
  | d + 1, k, h => by
    have h1 := namesTo_le d k h
    rw [show k + (d + 1) = (k + d) + 1 by omega, namesTo_step (k + d) (by omega), List.length_append]
    omega
set_option maxRecDepth 100000 in
theorem sets_some : ∀ k : Nat, k < 10 → 1 ≤ k → 0 < (words (setT (k : Int))).length := by decide +kernel
set_option maxRecDepth 100000 in
theorem names_len : names.length = 258 := by decide +kernel
set_option maxRecDepth 100000 in
theorem inside : (words setVoid ++ words setHeads ++ words setBlocks).all (fun x => (words setSpecial).any fun y => y == x) = true ∧ (words setFormat).all (fun x => !((words setSpecial).any fun y => y == x)) = true ∧ (words setMute).all (fun x => (words setGone).any fun y => y == x) = true ∧ ([[116, 101, 120, 116, 97, 114, 101, 97], [116, 105, 116, 108, 101], [105, 102, 114, 97, 109, 101], [110, 111, 101, 109, 98, 101, 100], [110, 111, 102, 114, 97, 109, 101, 115], [115, 99, 114, 105, 112, 116], [115, 116, 121, 108, 101], [120, 109, 112], [112, 108, 97, 105, 110, 116, 101, 120, 116]] : List (List UInt8)).all (fun x => ((words setMute).any fun y => y == x) && ((words setSpecial).any fun y => y == x)) = true := by decide +kernel
end Go.Proofs.Ytbadckkcjjfnoaa.Plain
namespace Go.Proofs.Ytbadckkcjjfnoaa
open Go.RowKit

theorem set_len (n : Int) : (Plain.setT n).length ≤ 700 := by
  unfold Plain.setT
  repeat' split
  all_goals decide +kernel
theorem words_len (l : List UInt8) (h : l.length ≤ 4294967296) : (Plain.words l).length ≤ 4294967297 := by have := Plain.words_count l; omega
end Go.Proofs.Ytbadckkcjjfnoaa
namespace Go.Proofs.Ytbadckkcjjfnoaa
open Go.RowKit

set_option maxHeartbeats 1000000 in
set_option maxRecDepth 100000 in
theorem rwall5 (c p : Int) (s : ByteArray) (w : World) : Calls Try.prog 117 #[.int .i64 c, .int .i64 p, .string s] w (Brings (.bool (Plain.isWall c p s.data.toList)) w) := by
  by_cases hc4 : c = 4
  · subst hc4
    by_cases hp : p = 1
    · subst hp
      go_enter Try.func117, Try.ntmps117
      go_wp2_with fail
      refine (rwords_told _ _ (by decide)).mono ?_
      rintro e w1 ⟨v, rfl, ht, b⟩
      have HI := Lib.hid (rin_any v _ s w1 ht (words_len _ (by decide)))
      obtain ⟨p, cp, rfl, _⟩ := ht.slice
      clear ht
      go_wp2_with fail
      refine HI.out.mono ?_
      rintro e w2 ⟨rfl, b2⟩
      go_wp2_with fail
      go_ret
      exact ⟨rfl, b.trans (b2.mono b.size)⟩
    · have q : (p == 1) = false := by simp [hp]
      have HE : Hid (Plain.isWall 4 p s.data.toList = false) := Lib.hid (by simp [Plain.isWall, Plain.wallT, hp, Plain.words, Plain.wordsAux])
      clear hp
      go_enter Try.func117, Try.ntmps117
      go_wp2_with fail
      go_ret
      exact ⟨by rw [HE.out]; rfl, Below.refl _ _⟩
  by_cases hc2 : c = 2
  · subst hc2
    by_cases hp1 : p = 1
    · subst hp1
      go_enter Try.func117, Try.ntmps117
      go_wp2_with fail
      refine (rwords_told _ _ (by decide)).mono ?_
      rintro e w1 ⟨v, rfl, ht, b⟩
      have HI := Lib.hid (rin_any v _ s w1 ht (words_len _ (by decide)))
      obtain ⟨p, cp, rfl, _⟩ := ht.slice
      clear ht
      go_wp2_with fail
      refine HI.out.mono ?_
      rintro e w2 ⟨rfl, b2⟩
      go_wp2_with fail
      go_ret
      exact ⟨rfl, b.trans (b2.mono b.size)⟩
    by_cases hp3 : p = 3
    · subst hp3
      go_enter Try.func117, Try.ntmps117
      go_wp2_with fail
      refine (rwords_told _ _ (by decide)).mono ?_
      rintro e w1 ⟨v, rfl, ht, b⟩
      have HI := Lib.hid (rin_any v _ s w1 ht (words_len _ (by decide)))
      obtain ⟨p, cp, rfl, _⟩ := ht.slice
      clear ht
      go_wp2_with fail
      refine HI.out.mono ?_
      rintro e w2 ⟨rfl, b2⟩
      go_wp2_with fail
      go_ret
      exact ⟨rfl, b.trans (b2.mono b.size)⟩
    by_cases hp2 : p = 2
    · subst hp2
      go_enter Try.func117, Try.ntmps117
      go_wp2_with fail
      refine (rwords_told _ _ (by decide)).mono ?_
      rintro e w1 ⟨v, rfl, ht, b⟩
      have HI := Lib.hid (rin_any v _ s w1 ht (words_len _ (by decide)))
      obtain ⟨p, cp, rfl, _⟩ := ht.slice
      clear ht
      go_wp2_with fail
      refine HI.out.mono ?_
      rintro e w2 ⟨rfl, b2⟩
      go_wp2_with fail
      go_ret
      exact ⟨rfl, b.trans (b2.mono b.size)⟩
    have q1 : (p == 1) = false := by simp [hp1]
    have q2 : (p == 2) = false := by simp [hp2]
    have q3 : (p == 3) = false := by simp [hp3]
    have HE : Hid (Plain.isWall 2 p s.data.toList = false) := Lib.hid (by simp [Plain.isWall, Plain.wallT, hp1, hp2, hp3, Plain.words, Plain.wordsAux])
    clear hp1 hp2 hp3
    go_enter Try.func117, Try.ntmps117
    go_wp2_with fail
    go_ret
    exact ⟨by rw [HE.out]; rfl, Below.refl _ _⟩
  by_cases hc3 : c = 3
  · subst hc3
    by_cases hp1 : p = 1
    · subst hp1
      go_enter Try.func117, Try.ntmps117
      go_wp2_with fail
      refine (rwords_told _ _ (by decide)).mono ?_
      rintro e w1 ⟨v, rfl, ht, b⟩
      have HI := Lib.hid (rin_any v _ s w1 ht (words_len _ (by decide)))
      obtain ⟨p, cp, rfl, _⟩ := ht.slice
      clear ht
      go_wp2_with fail
      refine HI.out.mono ?_
      rintro e w2 ⟨rfl, b2⟩
      go_wp2_with fail
      go_ret
      exact ⟨rfl, b.trans (b2.mono b.size)⟩
    by_cases hp3 : p = 3
    · subst hp3
      go_enter Try.func117, Try.ntmps117
      go_wp2_with fail
      refine (rwords_told _ _ (by decide)).mono ?_
      rintro e w1 ⟨v, rfl, ht, b⟩
      have HI := Lib.hid (rin_any v _ s w1 ht (words_len _ (by decide)))
      obtain ⟨p, cp, rfl, _⟩ := ht.slice
      clear ht
      go_wp2_with fail
      refine HI.out.mono ?_
      rintro e w2 ⟨rfl, b2⟩
      go_wp2_with fail
      go_ret
      exact ⟨rfl, b.trans (b2.mono b.size)⟩
    by_cases hp2 : p = 2
    · subst hp2
      go_enter Try.func117, Try.ntmps117
      go_wp2_with fail
      refine (rwords_told _ _ (by decide)).mono ?_
      rintro e w1 ⟨v, rfl, ht, b⟩
      have HI := Lib.hid (rin_any v _ s w1 ht (words_len _ (by decide)))
      obtain ⟨p, cp, rfl, _⟩ := ht.slice
      clear ht
      go_wp2_with fail
      refine HI.out.mono ?_
      rintro e w2 ⟨rfl, b2⟩
      go_wp2_with fail
      go_ret
      exact ⟨rfl, b.trans (b2.mono b.size)⟩
    have q1 : (p == 1) = false := by simp [hp1]
    have q2 : (p == 2) = false := by simp [hp2]
    have q3 : (p == 3) = false := by simp [hp3]
    have HE : Hid (Plain.isWall 3 p s.data.toList = false) := Lib.hid (by simp [Plain.isWall, Plain.wallT, hp1, hp2, hp3, Plain.words, Plain.wordsAux])
    clear hp1 hp2 hp3
    go_enter Try.func117, Try.ntmps117
    go_wp2_with fail
    go_ret
    exact ⟨by rw [HE.out]; rfl, Below.refl _ _⟩
  by_cases hc1 : c = 1
  · subst hc1
    by_cases hp1 : p = 1
    · subst hp1
      go_enter Try.func117, Try.ntmps117
      go_wp2_with fail
      refine (rwords_told _ _ (by decide)).mono ?_
      rintro e w1 ⟨v, rfl, ht, b⟩
      have HI := Lib.hid (rin_any v _ s w1 ht (words_len _ (by decide)))
      obtain ⟨p, cp, rfl, _⟩ := ht.slice
      clear ht
      go_wp2_with fail
      refine HI.out.mono ?_
      rintro e w2 ⟨rfl, b2⟩
      go_wp2_with fail
      go_ret
      exact ⟨rfl, b.trans (b2.mono b.size)⟩
    by_cases hp3 : p = 3
    · subst hp3
      go_enter Try.func117, Try.ntmps117
      go_wp2_with fail
      refine (rwords_told _ _ (by decide)).mono ?_
      rintro e w1 ⟨v, rfl, ht, b⟩
      have HI := Lib.hid (rin_any v _ s w1 ht (words_len _ (by decide)))
      obtain ⟨p, cp, rfl, _⟩ := ht.slice
      clear ht
      go_wp2_with fail
      refine HI.out.mono ?_
      rintro e w2 ⟨rfl, b2⟩
      go_wp2_with fail
      go_ret
      exact ⟨rfl, b.trans (b2.mono b.size)⟩
    by_cases hp2 : p = 2
    · subst hp2
      go_enter Try.func117, Try.ntmps117
      go_wp2_with fail
      refine (rwords_told _ _ (by decide)).mono ?_
      rintro e w1 ⟨v, rfl, ht, b⟩
      have HI := Lib.hid (rin_any v _ s w1 ht (words_len _ (by decide)))
      obtain ⟨p, cp, rfl, _⟩ := ht.slice
      clear ht
      go_wp2_with fail
      refine HI.out.mono ?_
      rintro e w2 ⟨rfl, b2⟩
      go_wp2_with fail
      go_ret
      exact ⟨rfl, b.trans (b2.mono b.size)⟩
    have q1 : (p == 1) = false := by simp [hp1]
    have q2 : (p == 2) = false := by simp [hp2]
    have q3 : (p == 3) = false := by simp [hp3]
    have HE : Hid (Plain.isWall 1 p s.data.toList = false) := Lib.hid (by simp [Plain.isWall, Plain.wallT, hp1, hp2, hp3, Plain.words, Plain.wordsAux])
    clear hp1 hp2 hp3
    go_enter Try.func117, Try.ntmps117
    go_wp2_with fail
    go_ret
    exact ⟨by rw [HE.out]; rfl, Below.refl _ _⟩
  have q1 : (c == 1) = false := by simp [hc1]
  have q2 : (c == 2) = false := by simp [hc2]
  have q3 : (c == 3) = false := by simp [hc3]
  have q4 : (c == 4) = false := by simp [hc4]
  have HE : Hid (Plain.isWall c p s.data.toList = false) := Lib.hid (by simp [Plain.isWall, Plain.wallT, hc1, hc2, hc3, hc4, Plain.words, Plain.wordsAux])
  clear hc1 hc2 hc3 hc4
  go_enter Try.func117, Try.ntmps117
  go_wp2_with fail
  go_ret
  exact ⟨by rw [HE.out]; rfl, Below.refl _ _⟩
end Go.Proofs.Ytbadckkcjjfnoaa
