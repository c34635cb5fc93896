/-
  The walk of the law LexPlaces: true, and nothing old is changed. The library's number MaxLen and the table of package refs are there.
-/
import Derived.Test.YtgelgfgcdfnacaaDoorXKnown
namespace Go.Proofs.YtgelgfgcdfnacaaDoor
open Go.RowKit

set_option maxHeartbeats 4000000 in
set_option maxRecDepth 100000 in
theorem lexPlaces_walk (v : Value) (n : Nat) (raw : ByteArray) (z k : Int) (w : World) (hv : IntsIn w v n) (hraw : raw.size ≤ maxLen) (h0 : -9223372036854775808 ≤ z) (h1 : z ≤ 9223372036854775807) (g0 : -9223372036854775808 ≤ k) (g1 : k ≤ 9223372036854775807) (hmax : HasMax w) (hea : HasEarly w) :
    Calls Tryd.prog 3 #[v, .string raw, .int .i64 z, .int .i64 k] w (Yes w) := by
  have HK := Lib.hid (known4_yes w ⟨hmax, hea⟩)
  have HR := Lib.hid (Ready.mk hmax hea)
  have HV := Lib.hid hv
  unfold maxLen at hraw
  clear hmax hea hv
  by_cases hb : 200 < raw.size
  · have hb' : (200 : Int) < (raw.size : Int) := by omega
    go_enter Tryd.func3, Tryd.ntmps3
    go_wp2_with fail
    refine HK.out.mono ?_
    rintro e w1 ⟨rfl, b1⟩
    go_wp2_with fail
    go_ret
    exact ⟨rfl, b1⟩
  · have hb' : ¬ (200 : Int) < (raw.size : Int) := by omega
    go_enter Tryd.func3, Tryd.ntmps3
    go_wp2_with fail
    refine HK.out.mono ?_
    rintro e w1 ⟨rfl, b1⟩
    have HB1 := Lib.hid b1
    clear b1
    go_wp2_with fail
    refine (html4_any v n w1 (HV.out.below HB1.out)).mono ?_
    rintro e w2 ⟨l, rfl, hl, b2⟩
    have HB2 := Lib.hid (HB1.out.trans (b2.mono HB1.out.size))
    clear b2 HB1 HK HV
    obtain ⟨s0, hs0⟩ : ∃ s0 : ByteArray, s0 = ⟨l.toArray⟩ := ⟨_, rfl⟩
    have hsz0 : s0.size ≤ 40000 := by rw [hs0]; show l.toArray.size ≤ _; simpa using hl
    rw [← hs0]
    clear hs0 hl
    go_wp2_with fail
    obtain ⟨s, hs⟩ : ∃ s : ByteArray, s = s0 ++ raw := ⟨_, rfl⟩
    have hsz : s.size ≤ 40200 := by rw [hs, ByteArray.size_append]; omega
    rw [← hs]
    clear hs
    have HWI := fun W => Lib.hid (within4 z 5 W h0 h1 (by omega) (by omega))
    have hst := (within_lt z 5 (by omega)).1
    generalize Within z 5 = st at *
    have HLA := fun W => Lib.hid (last4 k W g0 g1)
    have hla := Plain.lasts_ok (Within k 9) (within_lt k 9 (by omega)).1
    unfold LastOut at HLA
    obtain ⟨A, hA⟩ : ∃ A : ByteArray, (⟨(Plain.lasts.getD (Within k 9) []).toArray⟩ : ByteArray) = A := ⟨_, rfl⟩
    have hAs : A.size ≤ 20 := by rw [← hA]; show (Plain.lasts.getD (Within k 9) []).toArray.size ≤ _; rw [List.size_toArray]; exact hla
    rw [hA] at HLA
    clear hA hla
    have HL := Lib.hid (len_of s)
    go_loopw [10, 11] (fun x y wr => ∃ (a j : Nat), x = .int .i64 (a : Int) ∧ y = .int .i64 (j : Int) ∧ j ≤ a ∧ a ≤ s.size ∧ Below w.heap.size w wr) (fun _ y _ => s.size + 1 - (intOf y).toNat)
    case atStart => exact ⟨0, 0, rfl, rfl, Nat.le_refl _, Nat.zero_le _, HB2.out⟩
    case round =>
      obtain ⟨a, j, rfl, rfl, hj, ha, hB⟩ := hrel
      have HB := Lib.hid hB
      clear hB HB2
      have hG := goes_next s.data.toList a st A.data.toList
      unfold Goes at hG
      rw [HL.out] at hG
      have HNX := fun W h => Lib.hid (next_lex s A a st W h ha (by omega) (by omega) (by omega))
      generalize nextT s.data.toList a st A.data.toList = T at *
      obtain ⟨⟨tk, tn, ta, ts, tt⟩, tb⟩ := T
      simp only at hG
      go_wp2_with fail
      refine (HWI _).out.mono ?_
      rintro e w3 ⟨rfl, rfl⟩
      go_wp2_with fail
      refine (HLA _).out.mono ?_
      rintro e w3 ⟨rfl, b3⟩
      have HB3 := Lib.hid (HB.out.trans (b3.mono HB.out.size))
      clear b3 HB
      go_wp2_with fail
      refine (HNX w3 (HR.out.below HB3.out)).out.mono ?_
      rintro e w4 ⟨v4, rfl, ha4, b4⟩
      obtain ⟨p4, cap4, hv4⟩ := ha4.form
      subst hv4
      have HB4 := Lib.hid (HB3.out.trans (b4.mono HB3.out.size))
      clear ha4 b4 HB3 HNX
      rcases hG with ⟨h5, hbh⟩ | ⟨h5, h6, h7, h8⟩
      · have q5 : (tk == 5) = true := by simp [h5]
        have qb : ((tb : Int) == (s.size : Int)) = true := by simp [hbh]
        clear h5 hbh
        go_wp2_with fail
        go_ret
        exact ⟨rfl, HB4.out.alloc HB4.out.size _⟩
      · have q5 : (tk == 5) = false := beq_eq_false_iff_ne.2 (by omega)
        go_wp2_with fail
        exact ⟨⟨tb, j + 1, rfl, by go_num, by omega, by omega, HB4.out.alloc HB4.out.size _⟩, by simp [intOf]; omega⟩
end Go.Proofs.YtgelgfgcdfnacaaDoor
