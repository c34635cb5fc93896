/-
  Rows of tokens in memory. No program is walked.
  The walk of the program's All. Any text of at most 2^28 bytes, any state; the library's number MaxLen and the table of package refs are there.
  The walks of the laws' own in chapter 4: within, last, the text of numbers. Any slice of numbers.
  The walks of the laws' same and known: true. The library's number MaxLen and the table of package refs are there.
-/
import Derived.Test.YtgelgfgcdfnacaaGreatDoorXLex
import Derived.Deep.AppendLies
import Derived.Laws.OwnMore
import Derived.Lib.SmallJoins
import Derived.Test.YtgelgfgcdfnacaaGreatDoorXLex5
import Derived.Test.YtgelgfgcdfnacaaGreatDoorUHtml
import Derived.Deep.RegionWith
import Derived.Test.YtgelgfgcdfnacaaGreatDoorUOne
import Derived.Test.YtgelgfgcdfnacaaGreatDoorUKnown
namespace Go.Proofs.YtgelgfgcdfnacaaGreatDoor
open Go.RowKit

/-- A token's five cells, its row of attributes given. -/
def tokCell (q : Tok × Value) : List Value := [.int .i64 q.1.kind, .string ⟨q.1.name.toArray⟩, q.2, .bool q.1.self, .string ⟨q.1.text.toArray⟩]
def tokCells (qs : List (Tok × Value)) : List Value := qs.flatMap tokCell
theorem tokCells_snoc (qs : List (Tok × Value)) (q : Tok × Value) : tokCells (qs ++ [q]) = tokCells qs ++ tokCell q := by
  unfold tokCells
  rw [List.flatMap_append]
  simp
theorem tokCells_at : ∀ (qs : List (Tok × Value)) (j i : Nat) (hj : j < qs.length), i < 5 → (tokCells qs)[j * 5 + i]? = (tokCell qs[j])[i]?
  | [], j, _, hj, _ => absurd hj (by simp)
  | q :: r, 0, i, _, hi => by
    show (tokCell q ++ tokCells r)[0 * 5 + i]? = _
    rw [List.getElem?_append_left (by simp [tokCell]; omega), Nat.zero_mul, Nat.zero_add]
    rfl
  | q :: r, j + 1, i, hj, hi => by
    have h := tokCells_at r j i (by simpa using hj) hi
    show (tokCell q ++ tokCells r)[(j + 1) * 5 + i]? = _
    rw [List.getElem?_append_right (by simp [tokCell]; omega), show (j + 1) * 5 + i - (tokCell q).length = j * 5 + i by simp [tokCell]; omega, h]
    rfl
/-- The slice v holds the tokens ts in w. -/
def TokensAt (w : World) (v : Value) (ts : List Tok) : Prop :=
  ∃ p cap, v = .slice p ts.length cap ∧ ∀ j (hj : j < ts.length), ∃ g x, p = some ⟨g, 0, none⟩ ∧ g < w.heap.size ∧ AttrsAt w x ts[j].attrs ∧ ∀ i, i < 5 → w.cell? ⟨g, j * 5 + i, none⟩ = (tokCell (ts[j], x))[i]?
theorem TokensAt.below {w w' : World} {v : Value} {ts : List Tok} (h : TokensAt w v ts) (hb : Below w.heap.size w w') : TokensAt w' v ts := by
  obtain ⟨p, cap, rfl, h⟩ := h
  refine ⟨p, cap, rfl, fun j hj => ?_⟩
  obtain ⟨g, x, hp, hg, ha, hc⟩ := h j hj
  exact ⟨g, x, hp, Nat.lt_of_lt_of_le hg hb.size, ha.below hb, fun i hi => (hb.cell (p := ⟨g, j * 5 + i, none⟩) hg).trans (hc i hi)⟩
theorem TokensAt.of_row {w : World} {base : Nat} {v : Value} {qs : List (Tok × Value)} (h : w.ownsRow base 33 5 v qs.length (tokCells qs)) (ha : ∀ q ∈ qs, AttrsAt w q.2 q.1.attrs) : TokensAt w v (qs.map (·.1)) := by
  rcases Joins.ownsRow_forms h with ⟨rfl, h0⟩ | ⟨g, cap, rfl⟩
  · exact ⟨none, 0, by rw [List.length_map, h0], fun j hj => absurd hj (by rw [List.length_map]; omega)⟩
  · refine ⟨some ⟨g, 0, none⟩, cap, by rw [List.length_map], fun j hj => ?_⟩
    rw [List.length_map] at hj
    refine ⟨g, qs[j].2, rfl, (h.lt g rfl).2, ?_, fun i hi => ?_⟩
    · rw [List.getElem_map]; exact ha _ (List.getElem_mem hj)
    · rw [h.cellAt (j * 5 + i) (by omega), tokCells_at qs j i hj hi, List.getElem_map]
/-- What All tells. -/
def ToksOut (ts : List Tok) (w : World) (e : Ending) (w' : World) : Prop := ∃ v, e = .returned v ∧ TokensAt w' v ts ∧ Below w.heap.size w w'
theorem info_tok : ∃ i, Tryz.prog.info? 33 = some i ∧ i.zero = some (.agg #[.int .i64 0, .string ByteArray.empty, .slice none 0 0, .bool false, .string ByteArray.empty]) ∧ i.size = 5 ∧ i.bytes = 72 := by
  have hi9 : (Tryz.prog.info? 33).map (fun i => (i.zero, i.size, i.bytes)) = some (some (.agg #[.int .i64 0, .string ByteArray.empty, .slice none 0 0, .bool false, .string ByteArray.empty]), 5, 72) := by kernel_rfl
  obtain ⟨i0, hi, hx⟩ := Option.map_eq_some_iff.1 hi9
  simp only [Prod.mk.injEq] at hx
  exact ⟨i0, hi, hx.1, hx.2.1, hx.2.2⟩
/-- A row of tokens that is being made: its cells, and its tokens' attributes. -/
structure RowW (w : World) (v : Value) (qs : List (Tok × Value)) (W : World) : Prop where
  row : W.ownsRow w.heap.size 33 5 v qs.length (tokCells qs)
  attrs : ∀ q ∈ qs, AttrsAt W q.2 q.1.attrs
  below : Below w.heap.size w W
  nil : qs = [] → v = .slice none 0 0
theorem RowW.start (w : World) : RowW w (.slice none 0 0) [] w := ⟨⟨rfl, Or.inl ⟨rfl, rfl⟩⟩, fun _ h => absurd h (by simp), Below.refl _ _, fun _ => rfl⟩
theorem RowW.on {w W W' : World} {v : Value} {qs : List (Tok × Value)} (h : RowW w v qs W) (hb : Below W.heap.size W W') : RowW w v qs W' :=
  ⟨h.row.kept (row := none) ⟨hb.os, hb.tape, hb.output, hb.size, fun i hi _ => hb.block i hi⟩ (by cases v.ownBlock <;> simp), fun q hq => (h.attrs q hq).below hb, h.below.trans (hb.mono h.below.size), h.nil⟩
theorem AttrsAt.grown {W W' : World} {x : Value} {rs : List (List UInt8 × List UInt8)} {w : World} {v : Value} {qs : List (Tok × Value)} (h : AttrsAt W x rs) (hr : RowW w v qs W) (hg : W.grownBy W' v.ownBlock) : AttrsAt W' x rs := by
  obtain ⟨p, cap, rfl, h⟩ := h
  refine ⟨p, cap, rfl, fun j hj => ?_⟩
  obtain ⟨g, hp, hgl, h0, h1⟩ := h j hj
  have hne : some g ≠ v.ownBlock := by
    intro e
    have hl := (hr.row.lt g e.symm)
    obtain ⟨g', hp', _, h0', _⟩ := h 0 (by omega)
    rw [hp] at hp'
    have e2 : g = g' := by injection hp' with hp'; injection hp'
    subst e2
    rcases Joins.ownsRow_forms hr.row with ⟨rfl, _⟩ | ⟨g2, cap2, rfl⟩
    · cases e
    · have e3 : g = g2 := by simpa [Value.ownBlock] using e
      subst e3
      cases qs with
      | nil =>
        have := hr.nil rfl
        simp at this
      | cons q r =>
        have h5 := hr.row.cellAt 0 (by simp)
        rw [Nat.zero_mul, h5] at h0'
        simp [tokCells, tokCell] at h0'
  exact ⟨g, hp, Nat.lt_of_lt_of_le hgl hg.size, (hg.cell_far ⟨g, j * 2, none⟩ hgl hne).trans h0, (hg.cell_far ⟨g, j * 2 + 1, none⟩ hgl hne).trans h1⟩
/-- One more token. -/
theorem RowW.more {w W W' : World} {v v' : Value} {qs : List (Tok × Value)} {q : Tok × Value} (h : RowW w v qs W) (ha : AttrsAt W q.2 q.1.attrs) (hg : W.grownBy W' v.ownBlock) (hr : W'.ownsRow w.heap.size 33 5 v' (qs.length + 1) (tokCells qs ++ tokCell q)) : RowW w v' (qs ++ [q]) W' := by
  refine ⟨?_, ?_, h.below.grown hg h.below.size (fun k hk => (h.row.lt k hk).1), fun e => absurd e (by simp)⟩
  · rw [List.length_append, tokCells_snoc]
    exact hr
  · intro x hx
    rw [List.mem_append] at hx
    rcases hx with hx | hx
    · exact (h.attrs x hx).grown h hg
    · rw [List.mem_singleton] at hx
      subst hx
      exact ha.grown h hg
end Go.Proofs.YtgelgfgcdfnacaaGreatDoor
namespace Go.Proofs.YtgelgfgcdfnacaaGreatDoor
open Go.RowKit

set_option maxHeartbeats 4000000 in
set_option maxRecDepth 100000 in
theorem all_lex (s A : ByteArray) (st : Nat) (w : World) (hR : Ready w) (hst : st ≤ 4) (hs : s.size ≤ 268435456) (hA : A.size ≤ 268435456) : Calls Tryz.prog 9 #[.string s, .int .i64 (st : Int), .string A] w (ToksOut (allT s.data.toList st A.data.toList 0) w) := by
  have HR := Lib.hid hR
  have HL := Lib.hid (len_of s)
  clear hR
  obtain ⟨i0, hi, hz0, hz1, hz2⟩ := info_tok
  have HI := Lib.hid (And.intro hi (And.intro hz0 (And.intro hz1 hz2)))
  clear hi hz0 hz1 hz2
  go_enter Tryz.func9, Tryz.ntmps9
  go_wp2_with fail
  go_loopw [7, 8] (fun v x wr => ∃ (k : Nat) (qs : List (Tok × Value)) (vp : Option Addr) (vc : Nat), v = .slice vp qs.length vc ∧ k ≤ s.size ∧ qs.length ≤ k ∧ x = .int .i64 (k : Int) ∧ allT s.data.toList st A.data.toList 0 = qs.map (·.1) ++ allT s.data.toList st A.data.toList k ∧ RowW w (.slice vp qs.length vc) qs wr) (fun _ x _ => s.size - (intOf x).toNat)
  case atStart => exact ⟨0, [], none, 0, rfl, Nat.zero_le _, Nat.zero_le _, rfl, rfl, RowW.start w⟩
  case round =>
    obtain ⟨k, qs, vp, vc, rfl, hk, hq, rfl, hall, hW⟩ := hrel
    have HALL := Lib.hid hall
    have HW := Lib.hid hW
    clear hall hW
    have hG := goes_next s.data.toList k st A.data.toList
    have HS5 := Lib.hid (allT_stop s.data.toList st A.data.toList k)
    have HST := Lib.hid (allT_step s.data.toList st A.data.toList k)
    unfold Goes at hG
    rw [HL.out] at hG
    have HNX := fun W h => Lib.hid (next_lex s A k st W h hk hst hs hA)
    generalize nextT s.data.toList k st A.data.toList = T at *
    obtain ⟨⟨tk, tn, ta, ts, tt⟩, tb⟩ := T
    simp only at hG HS5 HST
    go_wp2_with fail
    refine (HNX wr (HR.out.below HW.out.below)).out.mono ?_
    rintro e w2 ⟨v2, rfl, ha2, b2⟩
    obtain ⟨p2, cap2, hv2⟩ := ha2.form
    subst hv2
    have HW2 := Lib.hid (HW.out.on b2)
    have HA2 := Lib.hid ha2
    clear b2 ha2 HW HNX
    have hsz := HW2.out.below.size
    go_wp2_with (first
      | (at_builtin; refine wpList_append_lies _ rfl _ _ 27 rfl w.heap.size 33 i0 (.agg #[.int .i64 0, .string ByteArray.empty, .slice none 0 0, .bool false, .string ByteArray.empty]) 5 72 Tryz.underlying27 HI.out.1 HI.out.2.1 HI.out.2.2.1 HI.out.2.2.2 rfl (by omega) _ qs.length (tokCells qs) rfl ((HW2.out.row.alloc _).alloc _) ⟨w2.heap.size + 1, 0, none⟩ 1 1 [.int .i64 tk, .string ⟨tn.toArray⟩, .slice p2 ta.length cap2, .bool ts, .string ⟨tt.toArray⟩] rfl rfl (World.news_of_block (cs := #[.int .i64 tk, .string ⟨tn.toArray⟩, .slice p2 ta.length cap2, .bool ts, .string ⟨tt.toArray⟩]) (by have := heap_alloc_new (w2.alloc (.cells #[.int .i64 tk, .string ⟨tn.toArray⟩, .slice p2 ta.length cap2, .bool ts, .string ⟨tt.toArray⟩] 33)) (.cells #[.int .i64 tk, .string ⟨tn.toArray⟩, .slice p2 ta.length cap2, .bool ts, .string ⟨tt.toArray⟩] 33); simpa using this)) (by simp [Value.oneCell']) (by omega) (by unfold maxLen; omega) (by omega) (by simp; omega) _ rfl ?_)
      | go_in)
    intro g cap w3 hr3 hg3 hor3 hlt3
    have hb2 : Below w2.heap.size w2 ((w2.alloc (.cells #[.int .i64 tk, .string ⟨tn.toArray⟩, .slice p2 ta.length cap2, .bool ts, .string ⟨tt.toArray⟩] 33)).alloc (.cells #[.int .i64 tk, .string ⟨tn.toArray⟩, .slice p2 ta.length cap2, .bool ts, .string ⟨tt.toArray⟩] 33)) := ((Below.refl _ w2).alloc (Nat.le_refl _) _).alloc (by simp) _
    have HWa := Lib.hid (HW2.out.on hb2)
    have HW3 := Lib.hid (HWa.out.more (q := (⟨tk, tn, ta, ts, tt⟩, .slice p2 ta.length cap2)) (HA2.out.below hb2) hg3 hr3)
    have hne : some w2.heap.size ≠ (Value.slice vp qs.length vc).ownBlock := fun e => by have := (HW2.out.row.lt _ e.symm).2; omega
    have c0 : w3.cell? ⟨w2.heap.size, 0, none⟩ = some (.int .i64 tk) := by
      rw [hg3.cell_far ⟨w2.heap.size, 0, none⟩ (by simp; omega) hne, World.cell?_alloc_lt _ _ _ (by simp)]
      exact World.cell?_alloc_mark w2 _ 33 (0, 0) 0
    have hl2 : w2.heap.size < w3.heap.size := by have := hg3.size; simp at this; omega
    clear hb2 HWa hr3 hg3 hor3 hlt3 hne HW2 HA2
    by_cases h5 : tk = 5
    · have q5 : (tk == 5) = true := by simp [h5]
      have HE := Lib.hid (HS5.out h5)
      clear HS5 HST h5
      go_wp2_with fail
      go_ret
      refine ⟨_, rfl, ?_, HW3.out.below⟩
      have := TokensAt.of_row HW3.out.row HW3.out.attrs
      rw [HALL.out, HE.out]
      rw [List.map_append] at this
      exact this
    · have q5 : (tk == 5) = false := beq_eq_false_iff_ne.2 h5
      have HE := Lib.hid (HST.out h5)
      have hgo : k < tb ∧ tb ≤ s.size := by rcases hG with h | h <;> omega
      clear HS5 HST h5 hG
      go_wp2_with fail
      refine ⟨⟨tb, qs ++ [(⟨tk, tn, ta, ts, tt⟩, .slice p2 ta.length cap2)], some ⟨g, 0, none⟩, cap, by rw [List.length_append]; rfl, hgo.2, by rw [List.length_append]; simp; omega, rfl, ?_, ?_⟩, by simp [intOf]; omega⟩
      · rw [HALL.out, HE.out]
        simp
      · have := HW3.out
        rw [show (qs ++ [((⟨tk, tn, ta, ts, tt⟩ : Tok), Value.slice p2 ta.length cap2)]).length = qs.length + 1 by simp]
        exact this
end Go.Proofs.YtgelgfgcdfnacaaGreatDoor
namespace Go.Proofs.YtgelgfgcdfnacaaGreatDoor
open Go.RowKit

set_option maxHeartbeats 1000000 in
theorem within4 (n : Int) (m : Nat) (w : World) (h0 : -9223372036854775808 ≤ n) (h1 : n ≤ 9223372036854775807) (hm1 : 1 ≤ m) (hm2 : m ≤ 2147483647) :
    Calls Tryz.prog 7 #[.int .i64 n, .int .i64 (m : Int)] w (Gives (.int .i64 ((Within n m : Nat) : Int)) w) := by
  have HW := Lib.hid (within_lt n m hm1).2
  by_cases hn : 0 ≤ n
  · have g1 := Int.emod_nonneg n (show (m : Int) ≠ 0 by omega)
    go_enter Tryz.func7, Tryz.ntmps7
    go_wp2
    go_ret
    exact ⟨ret_is HW.out.symm, rfl⟩
  · obtain ⟨g1, g2, g3, g4⟩ := tmod_facts n m (by omega) hm1
    have G3 := Lib.hid g3
    have G4 := Lib.hid g4
    clear g3 g4
    by_cases hz : n.tmod m < 0
    · go_enter Tryz.func7, Tryz.ntmps7
      go_wp2
      go_ret
      exact ⟨ret_is ((G3.out hz).trans HW.out.symm), rfl⟩
    · go_enter Tryz.func7, Tryz.ntmps7
      go_wp2
      go_ret
      exact ⟨ret_is ((G4.out hz).trans HW.out.symm), rfl⟩

namespace Plain
def lpieces : List (List UInt8) := [[60], [60, 47], [62], [60, 33, 45, 45], [45, 45, 62], [45, 45, 33, 62], [45, 62], [45], [60, 33, 45, 45, 62], [60, 33, 45, 45, 45, 62], [60, 33, 91, 67, 68, 65, 84, 65, 91], [93, 93, 62], [93], [60, 33, 100, 111, 99, 116, 121, 112, 101, 32, 104, 116, 109, 108, 62], [60, 33, 68, 79, 67, 84, 89, 80, 69], [60, 33, 120], [60, 63, 112, 104, 112, 32], [60, 47, 62], [60, 47, 32, 97, 62], [60, 47, 112, 62], [60, 112, 62], [60, 98, 32, 97, 61, 49, 62], [60, 47, 116, 105, 116, 108, 101, 62], [60, 47, 84, 73, 84, 76, 69, 32], [60, 47, 116, 105, 116, 108, 101, 47], [60, 47, 116, 105, 116, 108, 101, 120, 62], [60, 47, 115, 116, 121, 108, 101, 62], [60, 47, 115, 99, 114, 105, 112, 116, 10, 62], [60, 116, 105, 116, 108, 101, 62], [38, 108, 116, 59], [38, 97, 109, 112], [0], [116, 101, 120, 116], [32], [10], [97, 60, 98], [60, 49], [61, 34, 120, 34], [39], [60, 98, 114, 47, 62], [38], [93, 93, 38, 103, 116, 59]]
theorem lpieces_ok : ∀ j, j < 42 → (lpieces.getD j []).length ≤ 20 := by decide
def lasts : List (List UInt8) := [[116, 105, 116, 108, 101], [115, 116, 121, 108, 101], [115, 99, 114, 105, 112, 116], [112], [84, 105, 116, 108, 101], [], [116, 101, 120, 116, 97, 114, 101, 97], [49], [116]]
theorem lasts_ok : ∀ j, j < 9 → (lasts.getD j []).length ≤ 20 := by decide
end Plain
def lpieceCells : Array Value := (Plain.lpieces.map strV).toArray
theorem lpiece_at (j : Nat) (h : j < 42) : lpieceCells[j]? = some (.string ⟨(Plain.lpieces.getD j []).toArray⟩) := by
  have hl : Plain.lpieces.length = 42 := rfl
  unfold lpieceCells
  rw [List.getElem?_toArray, List.getElem?_map, List.getElem?_eq_getElem (by omega), List.getD_eq_getElem?_getD, List.getElem?_eq_getElem (by omega)]
  rfl
def lastCells : Array Value := (Plain.lasts.map strV).toArray
theorem last_at (j : Nat) (h : j < 9) : lastCells[j]? = some (.string ⟨(Plain.lasts.getD j []).toArray⟩) := by
  have hl : Plain.lasts.length = 9 := rfl
  unfold lastCells
  rw [List.getElem?_toArray, List.getElem?_map, List.getElem?_eq_getElem (by omega), List.getD_eq_getElem?_getD, List.getElem?_eq_getElem (by omega)]
  rfl

/-- What last tells: one of nine. -/
def LastOut (k : Int) (w : World) (e : Ending) (w' : World) : Prop := e = .returned (.string ⟨(Plain.lasts.getD (Within k 9) []).toArray⟩) ∧ Below w.heap.size w w'
set_option maxHeartbeats 1000000 in
set_option maxRecDepth 100000 in
theorem last4 (k : Int) (w : World) (h0 : -9223372036854775808 ≤ k) (h1 : k ≤ 9223372036854775807) : Calls Tryz.prog 10 #[.int .i64 k] w (LastOut k w) := by
  have HW := fun W => Lib.hid (within4 k 9 W h0 h1 (by omega) (by omega))
  have hr := (within_lt k 9 (by omega)).1
  unfold LastOut
  generalize Within k 9 = r at *
  have hc : ∀ j, j < 9 → (w.alloc (.cells lastCells 9)).cell? ⟨w.heap.size, j, none⟩ = some (.string ⟨(Plain.lasts.getD j []).toArray⟩) := by
    intro j hj
    exact (World.cell?_alloc_mark w lastCells 9 (0, 0) j).trans (last_at j hj)
  have hcr := hc r hr
  clear hc
  go_enter Tryz.func10, Tryz.ntmps10
  go_wp2_with fail
  have HB : Below w.heap.size w (w.alloc (.cells lastCells 9)) := (Below.refl _ w).alloc (Nat.le_refl _) _
  refine (HW (w.alloc (.cells lastCells 9))).out.mono ?_
  rintro e w1 ⟨rfl, rfl⟩
  have hlt : w.heap.size < (w.alloc (.cells lastCells 9)).heap.size := by simp
  generalize w.alloc (.cells lastCells 9) = W1 at *
  obtain ⟨X, hX⟩ : ∃ X : ByteArray, (⟨(Plain.lasts.getD r []).toArray⟩ : ByteArray) = X := ⟨_, rfl⟩
  rw [hX] at hcr
  have HXX := Lib.hid hX
  clear hX
  have r0 : (0 : Int) ≤ (r : Int) := by omega
  have r1 : (r : Int) < 9 := by omega
  go_wp2_with fail
  go_ret
  exact ⟨by rw [HXX.out]; rfl, HB⟩

/-- What the loop of the law's text keeps. -/
structure LexAt (w : World) (v : Value) (n i : Nat) (acc : List UInt8) (wr : World) : Prop where
  len : acc.length ≤ 1000 * i
  tape : TapeAt w v n w.heap.size wr
  piece : ∀ j, j < 42 → wr.cell? ⟨w.heap.size + 1, j, none⟩ = some (.string ⟨(Plain.lpieces.getD j []).toArray⟩)
  big : w.heap.size + 1 < wr.heap.size
theorem LexAt.on {w : World} {v : Value} {n i : Nat} {acc : List UInt8} {W W' : World} (h : LexAt w v n i acc W) (hb : Below W.heap.size W W') : LexAt w v n i acc W' :=
  ⟨h.len, h.tape.on hb (by have := h.big; omega), fun j hj => (hb.cell (p := ⟨w.heap.size + 1, j, none⟩) h.big).trans (h.piece j hj), Nat.lt_of_lt_of_le h.big hb.size⟩
theorem LexAt.drewN {w : World} {v : Value} {n i : Nat} {acc : List UInt8} {W : World} (h : LexAt w v n i acc W) (q : Nat) : LexAt w v n i acc (W.drewN q) :=
  ⟨h.len, h.tape.drewN q, fun j hj => (World.cell?_drewN ..).trans (h.piece j hj), by simpa using h.big⟩
theorem LexAt.step {w : World} {v : Value} {n i : Nat} {acc : List UInt8} {W W' : World} (h : LexAt w v n i acc W) (hS : Stepped w.heap.size W W') (hT : TapeAt w v n w.heap.size W') : LexAt w v n i acc W' :=
  ⟨h.len, hT, fun j hj => (hS.cell _ _ (Or.inl (by omega))).trans (h.piece j hj), by rw [hS.size]; exact h.big⟩
theorem LexAt.add {w : World} {v : Value} {n i : Nat} {acc x : List UInt8} {W : World} (h : LexAt w v n i acc W) (hx : x.length ≤ 1000) : LexAt w v n (i + 1) (acc ++ x) W :=
  ⟨by rw [List.length_append]; have := h.len; omega, h.tape, h.piece, h.big⟩
theorem IntsIn.made (W : World) (zs : List Int) (t : TypeId) (hz : ∀ z ∈ zs, -9223372036854775808 ≤ z ∧ z ≤ 9223372036854775807) (hl : zs.length ≤ 1000) : IntsIn (W.alloc (.cells (zs.map fun z => Value.int .i64 z).toArray t)) (.slice (some ⟨W.heap.size, 0, none⟩) zs.length zs.length) zs.length := by
  refine Or.inr ⟨W.heap.size, 0, zs.length, rfl, by simp, by unfold maxLen; omega, fun j hj => ⟨zs[j], ?_, hz _ (List.getElem_mem hj)⟩⟩
  refine (World.cell?_alloc_mark W _ t (0, 0) (0 + j)).trans ?_
  rw [Nat.zero_add, List.getElem?_toArray, List.getElem?_map, List.getElem?_eq_getElem hj]
  rfl
/-- What Html tells: a text, not long. -/
def Html4Out (w : World) (e : Ending) (w' : World) : Prop := ∃ h : List UInt8, e = .returned (.string ⟨h.toArray⟩) ∧ h.length ≤ 40000 ∧ Below w.heap.size w w'

set_option maxHeartbeats 4000000 in
set_option maxRecDepth 100000 in
theorem html4_any (v : Value) (n : Nat) (w : World) (hv : IntsIn w v n) : Calls Tryz.prog 6 #[v] w (Html4Out w) := by
  obtain ⟨p, cap, hvv⟩ : ∃ p cap, v = .slice p n cap := by
    rcases hv with ⟨p, cap, rfl, rfl⟩ | ⟨g, off, cap, rfl, _⟩
    · exact ⟨p, cap, rfl⟩
    · exact ⟨_, cap, rfl⟩
  subst hvv
  have HV := Lib.hid hv
  clear hv
  have hT : TapeAt w (.slice p n cap) n w.heap.size ((w.alloc (.cells #[.slice p n cap, .int .i64 0] 40)).alloc (.cells lpieceCells 9)) :=
    (TapeAt.made w _ n _ HV.out).on ((Below.refl _ _).alloc (Nat.le_refl _) _) (by simp)
  have hP : ∀ j, j < 42 → ((w.alloc (.cells #[.slice p n cap, .int .i64 0] 40)).alloc (.cells lpieceCells 9)).cell? ⟨w.heap.size + 1, j, none⟩ = some (.string ⟨(Plain.lpieces.getD j []).toArray⟩) := by
    intro j hj
    have h := World.cell?_alloc_mark (w.alloc (.cells #[.slice p n cap, .int .i64 0] 40)) lpieceCells 9 (0, 0) j
    rw [show (w.alloc (.cells #[.slice p n cap, .int .i64 0] 40)).heap.size = w.heap.size + 1 by simp] at h
    rw [h, lpiece_at j hj]
  have HX0 : Hid (LexAt w (.slice p n cap) n 0 [] ((w.alloc (.cells #[.slice p n cap, .int .i64 0] 40)).alloc (.cells lpieceCells 9))) := Lib.hid ⟨by simp, hT, hP, by simp⟩
  clear hT hP
  go_enter Tryz.func6, Tryz.ntmps6
  go_wp2_with fail
  go_loopw [5, 6] (fun o x wr => ∃ (i : Nat) (acc : List UInt8), i ≤ 40 ∧ x = .int .i64 (i : Int) ∧ o = .string ⟨acc.toArray⟩ ∧ LexAt w (.slice p n cap) n i acc wr) (fun _ x _ => 40 - (intOf x).toNat)
  case atStart => exact ⟨0, [], by omega, rfl, rfl, HX0.out⟩
  case round =>
    obtain ⟨i, acc, hi, rfl, rfl, hX⟩ := hrel
    have hal := hX.len
    have hsa : (⟨acc.toArray⟩ : ByteArray).size ≤ 40000 := by show acc.toArray.size ≤ _; simp; omega
    have HX := Lib.hid hX
    clear hX HX0
    by_cases h40 : i < 40
    · go_wp2_with fail
      refine (tape_more w _ n w.heap.size wr HX.out.tape).mono ?_
      rintro e w1 ⟨bm, m1, rfl, rfl⟩
      cases bm
      · have HB := Lib.hid (below_drewN HX.out.tape.below m1)
        go_wp2
        go_ret
        exact ⟨acc, rfl, by omega, HB.out⟩
      · have HX1 := Lib.hid (HX.out.drewN m1)
        generalize wr.drewN m1 = W1 at *
        clear HX
        go_wp2_with fail
        refine (tape_next w _ n w.heap.size 46 _ HX1.out.tape (by omega) (by omega)).mono ?_
        rintro e W2 ⟨q, hq, rfl, hS, hT2⟩
        have HX2 := Lib.hid (HX1.out.step hS hT2)
        clear hS hT2 HX1
        have r0 : (0 : Int) ≤ (q : Int) := by omega
        by_cases hq1 : q < 42
        · have hpc := HX2.out.piece q hq1
          have hp2 := Plain.lpieces_ok q hq1
          have hsp : (⟨(Plain.lpieces.getD q []).toArray⟩ : ByteArray).size ≤ 20 := by show (Plain.lpieces.getD q []).toArray.size ≤ _; rw [List.size_toArray]; exact hp2
          have r1 : (q : Int) < 42 := by omega
          have hbg := HX2.out.big
          generalize Plain.lpieces.getD q [] = P at *
          go_wp2
          exact ⟨⟨i + 1, acc ++ P, by omega, by go_num, congrArg Value.string (str_app acc P), HX2.out.add (by omega)⟩, by simp [intOf]; omega⟩
        · have r1 : ¬ (q : Int) < 42 := by omega
          by_cases hq2 : q = 42
          · have q2 : ((q : Int) == 42) = true := by simp [hq2]
            go_wp2_with fail
            refine (tape_next w _ n w.heap.size 60 _ HX2.out.tape (by omega) (by omega)).mono ?_
            rintro e Y0 ⟨y0, hy0, rfl, hS, hT2⟩
            have HY0 := Lib.hid (HX2.out.step hS hT2)
            clear hS hT2 HX2
            go_wp2_with fail
            refine (tape_next w _ n w.heap.size 60 _ HY0.out.tape (by omega) (by omega)).mono ?_
            rintro e Y1 ⟨y1, hy1, rfl, hS, hT2⟩
            have HY1 := Lib.hid (HY0.out.step hS hT2)
            clear hS hT2 HY0
            go_wp2_with fail
            have hI := IntsIn.made Y1 [(y0 : Int), (y1 : Int)] 3 (by simp; omega) (by simp)
            have HI : Hid (IntsIn (Y1.alloc (.cells #[.int .i64 (y0 : Int), .int .i64 (y1 : Int)] 3)) (.slice (some ⟨Y1.heap.size, 0, none⟩) 2 2) 2) := Lib.hid hI
            have HZ := Lib.hid (HY1.out.on ((Below.refl _ Y1).alloc (Nat.le_refl _) (.cells #[.int .i64 (y0 : Int), .int .i64 (y1 : Int)] 3)))
            clear hI HY1
            generalize Y1.alloc (.cells #[.int .i64 (y0 : Int), .int .i64 (y1 : Int)] 3) = Z at *
            refine (html_any _ 2 Z HI.out).mono ?_
            rintro e Z2 ⟨x, rfl, _, hxl, b2⟩
            have HZ2 := Lib.hid (HZ.out.on b2)
            clear HZ b2 HI
            have hxs : (⟨x.toArray⟩ : ByteArray).size ≤ 1000 := by show x.toArray.size ≤ _; simp; omega
            go_wp2_with fail
            exact ⟨⟨i + 1, acc ++ x, by omega, by go_num, congrArg Value.string (str_app acc x), HZ2.out.add (by omega)⟩, by simp [intOf]; omega⟩
          · have q2 : ((q : Int) == 42) = false := beq_eq_false_iff_ne.2 (by omega)
            go_wp2_with fail
            refine (tape_next w _ n w.heap.size 12 _ HX2.out.tape (by omega) (by omega)).mono ?_
            rintro e Y0 ⟨y0, hy0, rfl, hS, hT2⟩
            have HY0 := Lib.hid (HX2.out.step hS hT2)
            clear hS hT2 HX2
            go_wp2_with fail
            refine (tape_next w _ n w.heap.size 40 _ HY0.out.tape (by omega) (by omega)).mono ?_
            rintro e Y1 ⟨y1, hy1, rfl, hS, hT2⟩
            have HY1 := Lib.hid (HY0.out.step hS hT2)
            clear hS hT2 HY0
            go_wp2_with fail
            refine (tape_next w _ n w.heap.size 40 _ HY1.out.tape (by omega) (by omega)).mono ?_
            rintro e Y2 ⟨y2, hy2, rfl, hS, hT2⟩
            have HY2 := Lib.hid (HY1.out.step hS hT2)
            clear hS hT2 HY1
            go_wp2_with fail
            have hI := IntsIn.made Y2 [(y0 : Int), (y1 : Int), (y2 : Int), 4] 3 (by simp; omega) (by simp)
            have HI : Hid (IntsIn (Y2.alloc (.cells #[.int .i64 (y0 : Int), .int .i64 (y1 : Int), .int .i64 (y2 : Int), .int .i64 4] 3)) (.slice (some ⟨Y2.heap.size, 0, none⟩) 4 4) 4) := Lib.hid hI
            have HZ := Lib.hid (HY2.out.on ((Below.refl _ Y2).alloc (Nat.le_refl _) (.cells #[.int .i64 (y0 : Int), .int .i64 (y1 : Int), .int .i64 (y2 : Int), .int .i64 4] 3)))
            clear hI HY2
            generalize Y2.alloc (.cells #[.int .i64 (y0 : Int), .int .i64 (y1 : Int), .int .i64 (y2 : Int), .int .i64 4] 3) = Z at *
            refine (html3_any _ 4 Z HI.out).mono ?_
            rintro e Z2 ⟨x, rfl, _, hxl, b2⟩
            have HZ2 := Lib.hid (HZ.out.on b2)
            clear HZ b2 HI
            have hxs : (⟨x.toArray⟩ : ByteArray).size ≤ 1000 := by show x.toArray.size ≤ _; simp; omega
            go_wp2_with fail
            exact ⟨⟨i + 1, acc ++ x, by omega, by go_num, congrArg Value.string (str_app acc x), HZ2.out.add (by omega)⟩, by simp [intOf]; omega⟩
    · go_wp2
      go_ret
      exact ⟨acc, rfl, by omega, HX.out.tape.below⟩
end Go.Proofs.YtgelgfgcdfnacaaGreatDoor
namespace Go.Proofs.YtgelgfgcdfnacaaGreatDoor
open Go.RowKit

theorem readL_attrs (l : List UInt8) (k : Nat) : (readL l k).1.attrs.length ≤ l.length + 1 := by
  unfold readL
  split
  · simp [stopT]
  · exact tagT_len l k
theorem dataT_attrs (l : List UInt8) (k : Nat) : (dataT l k).1.attrs.length ≤ l.length + 1 := by
  unfold dataT
  split
  · simp [stopT]
  · split
    · exact readL_attrs l k
    · split
      · unfold remarkT
        split
        · simp [noteT]
        · split <;> simp [noteT, noteTo]
      · split
        · simp [noteTo, noteT]
        · split <;> simp [noteTo, noteT, textT]
theorem nextT_attrs (l : List UInt8) (k st : Nat) (last : List UInt8) : (nextT l k st last).1.attrs.length ≤ l.length + 1 := by
  unfold nextT
  split
  · simp [stopT]
  · split
    · simp [textT]
    · split
      · unfold closedT
        split
        · exact readL_attrs l k
        · simp [textT]
      · split
        · simp [textT]
        · exact dataT_attrs l _
theorem allN_attrs (l : List UInt8) (st : Nat) (last : List UInt8) : ∀ (f k : Nat) (t : Tok), t ∈ allN l st last f k → t.attrs.length ≤ l.length + 1
  | 0, _, _, h => by simp [allN] at h
  | f + 1, k, t, h => by
    have hn := nextT_attrs l k st last
    rw [allN] at h
    split at h
    · rw [List.mem_singleton] at h
      rw [h]
      exact hn
    · rw [List.mem_cons] at h
      rcases h with h | h
      · rw [h]; exact hn
      · exact allN_attrs l st last f _ t h

set_option maxHeartbeats 2000000 in
set_option maxRecDepth 100000 in
theorem same4 (a b : Value) (ts : List Tok) (w : World) (ha : TokensAt w a ts) (hb : TokensAt w b ts) (hN : ts.length ≤ 4294967296) (hA : ∀ t ∈ ts, t.attrs.length ≤ 4294967296) : Calls Tryz.prog 8 #[a, b] w (Yes w) := by
  obtain ⟨p, cap, rfl, hc⟩ := ha
  obtain ⟨p2, cap2, rfl, hc2⟩ := hb
  have HC := Lib.hid hc
  have HC2 := Lib.hid hc2
  have HAT := Lib.hid hA
  clear hc hc2 hA
  go_enter Tryz.func8, Tryz.ntmps8
  go_wp2_with fail
  go_loopw [5] (fun x wr => ∃ k : Nat, k ≤ ts.length ∧ x = .int .i64 (k : Int) ∧ Below w.heap.size w wr) (fun x _ => ts.length - (intOf x).toNat)
  case atStart => exact ⟨0, Nat.zero_le _, rfl, Below.refl _ _⟩
  case round =>
    obtain ⟨k, hk, rfl, hB⟩ := hrel
    have HB := Lib.hid hB
    clear hB
    by_cases hlt : k < ts.length
    · obtain ⟨g, x, rfl, hg, hx, h1⟩ := HC.out k hlt
      obtain ⟨g2, y, rfl, hg2, hy, h2⟩ := HC2.out k hlt
      have HAK := Lib.hid (HAT.out ts[k] (List.getElem_mem hlt))
      obtain ⟨T, hT⟩ : ∃ T, ts[k] = T := ⟨_, rfl⟩
      rw [hT] at hx hy h1 h2 HAK
      obtain ⟨tk, tn, ta, tf, tt⟩ := T
      have a0 := (HB.out.cell (p := ⟨g, k * 5 + 0, none⟩) hg).trans (h1 0 (by omega))
      have a1 := (HB.out.cell (p := ⟨g, k * 5 + 1, none⟩) hg).trans (h1 1 (by omega))
      have a2 := (HB.out.cell (p := ⟨g, k * 5 + 2, none⟩) hg).trans (h1 2 (by omega))
      have a3 := (HB.out.cell (p := ⟨g, k * 5 + 3, none⟩) hg).trans (h1 3 (by omega))
      have a4 := (HB.out.cell (p := ⟨g, k * 5 + 4, none⟩) hg).trans (h1 4 (by omega))
      have c0 := (HB.out.cell (p := ⟨g2, k * 5 + 0, none⟩) hg2).trans (h2 0 (by omega))
      have c1 := (HB.out.cell (p := ⟨g2, k * 5 + 1, none⟩) hg2).trans (h2 1 (by omega))
      have c2 := (HB.out.cell (p := ⟨g2, k * 5 + 2, none⟩) hg2).trans (h2 2 (by omega))
      have c3 := (HB.out.cell (p := ⟨g2, k * 5 + 3, none⟩) hg2).trans (h2 3 (by omega))
      have c4 := (HB.out.cell (p := ⟨g2, k * 5 + 4, none⟩) hg2).trans (h2 4 (by omega))
      simp only [tokCell, Nat.add_zero, List.getElem?_cons_zero, List.getElem?_cons_succ] at a0 a1 a2 a3 a4 c0 c1 c2 c3 c4
      have HO := fun W h3 h4 => Lib.hid (rone_any tk ⟨tn.toArray⟩ ⟨tt.toArray⟩ tf x y ta W h3 h4 HAK.out)
      have HBX := Lib.hid hx
      have HBY := Lib.hid hy
      have hgs := HB.out.size
      have hgr : g < wr.heap.size := by omega
      have hgr2 : g2 < wr.heap.size := by omega
      have k0 : (0 : Int) ≤ (k : Int) := by omega
      have k1 : (k : Int) < (ts.length : Int) := by omega
      obtain ⟨px, cx, hpx⟩ := hx.form
      obtain ⟨py, cy, hpy⟩ := hy.form
      subst hpx hpy
      clear hx hy h1 h2 hT HC HC2
      go_wp2_with fail
      go_region_with (go_at_call 14; refine (HO wr.drew (HBX.out.below HB.out.drew) (HBY.out.below HB.out.drew)).out.mono ?_; rintro e w3 ⟨rfl, b3⟩)
      all_goals
        go_wp2_with fail
        exact ⟨⟨k + 1, by omega, by go_num, HB.out.drew.trans (b3.mono HB.out.size)⟩, by simp [intOf]; omega⟩
    · go_wp2
      go_ret
      exact ⟨rfl, HB.out⟩

theorem all_is (s A : ByteArray) (st : Nat) (ts : List Tok) (hst : st ≤ 4) (hs : s.size ≤ 268435456) (hA : A.size ≤ 268435456) (h : allT s.data.toList st A.data.toList 0 = ts) (w : World) (hR : Ready w) : Calls Tryz.prog 9 #[.string s, .int .i64 (st : Int), .string A] w (ToksOut ts w) := by
  have := all_lex s A st w hR hst hs hA
  rwa [h] at this
theorem next_is (s A : ByteArray) (k st : Nat) (T : Tok × Nat) (hk : k ≤ s.size) (hst : st ≤ 4) (hs : s.size ≤ 268435456) (hA : A.size ≤ 268435456) (h : nextT s.data.toList k st A.data.toList = T) (w : World) (hR : Ready w) : Calls Tryz.prog 12 #[.string s, .int .i64 (k : Int), .int .i64 (st : Int), .string A] w (LexOut T w) := by
  have := next_lex s A k st w hR hk hst hs hA
  rwa [h] at this
/-- The cells of a row's token. -/
theorem TokensAt.cells {w : World} {p : Option Addr} {n cap : Nat} {ts : List Tok} (h : TokensAt w (.slice p n cap) ts) (j : Nat) (hj : j < ts.length) : ∃ g x, p = some ⟨g, 0, none⟩ ∧ g < w.heap.size ∧ w.cell? ⟨g, j * 5 + 0, none⟩ = some (.int .i64 ts[j].kind) ∧ w.cell? ⟨g, j * 5 + 1, none⟩ = some (.string ⟨ts[j].name.toArray⟩) ∧ w.cell? ⟨g, j * 5 + 2, none⟩ = some x ∧ w.cell? ⟨g, j * 5 + 3, none⟩ = some (.bool ts[j].self) ∧ w.cell? ⟨g, j * 5 + 4, none⟩ = some (.string ⟨ts[j].text.toArray⟩) := by
  obtain ⟨p', cap', hv, h⟩ := h
  obtain ⟨rfl, rfl, rfl⟩ := Value.slice.inj hv
  obtain ⟨g, x, hp, hg, _, hc⟩ := h j hj
  exact ⟨g, x, hp, hg, hc 0 (by omega), hc 1 (by omega), hc 2 (by omega), hc 3 (by omega), hc 4 (by omega)⟩
theorem TokensAt.form {w : World} {v : Value} {ts : List Tok} (h : TokensAt w v ts) : ∃ p cap, v = .slice p ts.length cap := by
  obtain ⟨p, cap, hv, _⟩ := h
  exact ⟨p, cap, hv⟩

theorem known_all : allT [60, 33, 45, 45, 45, 45, 62, 97] 0 [] 0 = [noteT [], textT [97], ⟨5, [], [], false, []⟩] := by rfl
theorem known_next : nextT [97, 60, 98] 0 0 [] = (textT [97], 1) := by rfl
set_option maxHeartbeats 4000000 in
set_option maxRecDepth 100000 in
theorem known4_yes (w : World) (hR : Ready w) : Calls Tryz.prog 5 #[] w (Yes w) := by
  have R1 := fun W h1 => Lib.hid (all_is ⟨#[60, 33, 45, 45, 45, 45, 62, 97]⟩ ⟨#[]⟩ 0 _ (by omega) (by decide) (by decide) known_all W h1)
  have R2 := fun W h1 => Lib.hid (next_is ⟨#[97, 60, 98]⟩ ⟨#[]⟩ 0 0 _ (by decide) (by omega) (by decide) (by decide) known_next W h1)
  have HR := Lib.hid hR
  clear hR
  go_enter Tryz.func5, Tryz.ntmps5
  go_wp2_with fail
  refine (R1 _ HR.out).out.mono ?_
  rintro e w1 ⟨v, rfl, ht, b1⟩
  obtain ⟨p, cap, hv⟩ := ht.form
  subst hv
  have HT := Lib.hid ht
  have HB1 := Lib.hid b1
  clear ht b1 R1
  go_wp2_with fail
  refine (R2 _ (HR.out.below HB1.out)).out.mono ?_
  rintro e w2 ⟨v2, rfl, ha2, b2⟩
  obtain ⟨p2, cap2, hv2⟩ := ha2.form
  subst hv2
  have HT2 := HT.out.below b2
  have HB2 := Lib.hid (HB1.out.trans (b2.mono HB1.out.size))
  clear ha2 b2 R2 HT HB1
  obtain ⟨g, x0, rfl, hg, a0, a1, a2, a3, a4⟩ := HT2.cells 0 (by simp)
  obtain ⟨g', x1, hgg, hg', d0, d1, d2, d3, d4⟩ := HT2.cells 1 (by simp)
  obtain ⟨g'', x2, hgg2, hg2, e0, e1, e2, e3, e4⟩ := HT2.cells 2 (by simp)
  injection hgg with hgg
  injection hgg with hgg
  injection hgg2 with hgg2
  injection hgg2 with hgg2
  subst hgg hgg2
  simp only [List.getElem_cons_zero, List.getElem_cons_succ, noteT, textT] at a0 a1 a2 a3 a4 d0 d1 d2 d3 d4 e0 e1 e2 e3 e4
  clear HT2
  go_wp2_with fail
  go_ret
  exact ⟨rfl, HB2.out.alloc HB2.out.size _⟩
end Go.Proofs.YtgelgfgcdfnacaaGreatDoor
