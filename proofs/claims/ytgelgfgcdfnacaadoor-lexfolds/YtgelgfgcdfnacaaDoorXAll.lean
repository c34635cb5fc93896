/-
  The walk of the program's All. Any text of at most 2^28 bytes, any state; the library's number MaxLen and the table of package refs are there.
-/
import Derived.Test.YtgelgfgcdfnacaaDoorXLex5
import Derived.Test.YtgelgfgcdfnacaaDoorXTok
namespace Go.Proofs.YtgelgfgcdfnacaaDoor
open Go.RowKit

set_option maxHeartbeats 4000000 in
set_option maxRecDepth 100000 in
theorem all_lex (s A : ByteArray) (st : Nat) (w : World) (hR : Ready w) (hst : st ≤ 4) (hs : s.size ≤ 268435456) (hA : A.size ≤ 268435456) : Calls Tryd.prog 19 #[.string s, .int .i64 (st : Int), .string A] w (ToksOut (allT s.data.toList st A.data.toList 0) w) := by
  have HR := Lib.hid hR
  have HL := Lib.hid (len_of s)
  clear hR
  obtain ⟨i0, hi, hz0, hz1, hz2⟩ := info_tok
  have HI := Lib.hid (And.intro hi (And.intro hz0 (And.intro hz1 hz2)))
  clear hi hz0 hz1 hz2
  go_enter Tryd.func19, Tryd.ntmps19
  go_wp2_with fail
  go_loopw [7, 8] (fun v x wr => ∃ (k : Nat) (qs : List (Tok × Value)) (vp : Option Addr) (vc : Nat), v = .slice vp qs.length vc ∧ k ≤ s.size ∧ qs.length ≤ k ∧ x = .int .i64 (k : Int) ∧ allT s.data.toList st A.data.toList 0 = qs.map (·.1) ++ allT s.data.toList st A.data.toList k ∧ RowW w (.slice vp qs.length vc) qs wr) (fun _ x _ => s.size - (intOf x).toNat)
  case atStart => exact ⟨0, [], none, 0, rfl, Nat.zero_le _, Nat.zero_le _, rfl, rfl, RowW.start w⟩
  case round =>
    obtain ⟨k, qs, vp, vc, rfl, hk, hq, rfl, hall, hW⟩ := hrel
    have HALL := Lib.hid hall
    have HW := Lib.hid hW
    clear hall hW
    have hG := goes_next s.data.toList k st A.data.toList
    have HS5 := Lib.hid (allT_stop s.data.toList st A.data.toList k)
    have HST := Lib.hid (allT_step s.data.toList st A.data.toList k)
    unfold Goes at hG
    rw [HL.out] at hG
    have HNX := fun W h => Lib.hid (next_lex s A k st W h hk hst hs hA)
    generalize nextT s.data.toList k st A.data.toList = T at *
    obtain ⟨⟨tk, tn, ta, ts, tt⟩, tb⟩ := T
    simp only at hG HS5 HST
    go_wp2_with fail
    refine (HNX wr (HR.out.below HW.out.below)).out.mono ?_
    rintro e w2 ⟨v2, rfl, ha2, b2⟩
    obtain ⟨p2, cap2, hv2⟩ := ha2.form
    subst hv2
    have HW2 := Lib.hid (HW.out.on b2)
    have HA2 := Lib.hid ha2
    clear b2 ha2 HW HNX
    have hsz := HW2.out.below.size
    go_wp2_with (first
      | (at_builtin; refine wpList_append_lies _ rfl _ _ 35 rfl w.heap.size 27 i0 (.agg #[.int .i64 0, .string ByteArray.empty, .slice none 0 0, .bool false, .string ByteArray.empty]) 5 72 Tryd.underlying35 HI.out.1 HI.out.2.1 HI.out.2.2.1 HI.out.2.2.2 rfl (by omega) _ qs.length (tokCells qs) rfl ((HW2.out.row.alloc _).alloc _) ⟨w2.heap.size + 1, 0, none⟩ 1 1 [.int .i64 tk, .string ⟨tn.toArray⟩, .slice p2 ta.length cap2, .bool ts, .string ⟨tt.toArray⟩] rfl rfl (World.news_of_block (cs := #[.int .i64 tk, .string ⟨tn.toArray⟩, .slice p2 ta.length cap2, .bool ts, .string ⟨tt.toArray⟩]) (by have := heap_alloc_new (w2.alloc (.cells #[.int .i64 tk, .string ⟨tn.toArray⟩, .slice p2 ta.length cap2, .bool ts, .string ⟨tt.toArray⟩] 27)) (.cells #[.int .i64 tk, .string ⟨tn.toArray⟩, .slice p2 ta.length cap2, .bool ts, .string ⟨tt.toArray⟩] 27); simpa using this)) (by simp [Value.oneCell']) (by omega) (by unfold maxLen; omega) (by omega) (by simp; omega) _ rfl ?_)
      | go_in)
    intro g cap w3 hr3 hg3 hor3 hlt3
    have hb2 : Below w2.heap.size w2 ((w2.alloc (.cells #[.int .i64 tk, .string ⟨tn.toArray⟩, .slice p2 ta.length cap2, .bool ts, .string ⟨tt.toArray⟩] 27)).alloc (.cells #[.int .i64 tk, .string ⟨tn.toArray⟩, .slice p2 ta.length cap2, .bool ts, .string ⟨tt.toArray⟩] 27)) := ((Below.refl _ w2).alloc (Nat.le_refl _) _).alloc (by simp) _
    have HWa := Lib.hid (HW2.out.on hb2)
    have HW3 := Lib.hid (HWa.out.more (q := (⟨tk, tn, ta, ts, tt⟩, .slice p2 ta.length cap2)) (HA2.out.below hb2) hg3 hr3)
    have hne : some w2.heap.size ≠ (Value.slice vp qs.length vc).ownBlock := fun e => by have := (HW2.out.row.lt _ e.symm).2; omega
    have c0 : w3.cell? ⟨w2.heap.size, 0, none⟩ = some (.int .i64 tk) := by
      rw [hg3.cell_far ⟨w2.heap.size, 0, none⟩ (by simp; omega) hne, World.cell?_alloc_lt _ _ _ (by simp)]
      exact World.cell?_alloc_mark w2 _ 27 (0, 0) 0
    have hl2 : w2.heap.size < w3.heap.size := by have := hg3.size; simp at this; omega
    clear hb2 HWa hr3 hg3 hor3 hlt3 hne HW2 HA2
    by_cases h5 : tk = 5
    · have q5 : (tk == 5) = true := by simp [h5]
      have HE := Lib.hid (HS5.out h5)
      clear HS5 HST h5
      go_wp2_with fail
      go_ret
      refine ⟨_, rfl, ?_, HW3.out.below⟩
      have := TokensAt.of_row HW3.out.row HW3.out.attrs
      rw [HALL.out, HE.out]
      rw [List.map_append] at this
      exact this
    · have q5 : (tk == 5) = false := beq_eq_false_iff_ne.2 h5
      have HE := Lib.hid (HST.out h5)
      have hgo : k < tb ∧ tb ≤ s.size := by rcases hG with h | h <;> omega
      clear HS5 HST h5 hG
      go_wp2_with fail
      refine ⟨⟨tb, qs ++ [(⟨tk, tn, ta, ts, tt⟩, .slice p2 ta.length cap2)], some ⟨g, 0, none⟩, cap, by rw [List.length_append]; rfl, hgo.2, by rw [List.length_append]; simp; omega, rfl, ?_, ?_⟩, by simp [intOf]; omega⟩
      · rw [HALL.out, HE.out]
        simp
      · have := HW3.out
        rw [show (qs ++ [((⟨tk, tn, ta, ts, tt⟩ : Tok), Value.slice p2 ta.length cap2)]).length = qs.length + 1 by simp]
        exact this
end Go.Proofs.YtgelgfgcdfnacaaDoor
