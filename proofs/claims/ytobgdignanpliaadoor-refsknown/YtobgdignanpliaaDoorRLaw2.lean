/-
  The walks of the laws RefsExpands, RefsPlain, RefsParts, RefsKnown: true, and nothing old is changed. The program's table holds what its text lays.
-/
import Derived.Test.YtobgdignanpliaaDoorRLaw
namespace Go.Proofs.YtobgdignanpliaaDoor
open Go.RowKit

set_option maxHeartbeats 2000000 in
set_option maxRecDepth 100000 in
theorem expands_walk (v : Value) (n : Nat) (raw : ByteArray) (attr : Bool) (w : World) (hv : IntsIn w v n) (hr : raw.size ≤ maxLen) (hE : HasEarly w) : Calls Tryd.prog 5 #[v, .string raw, .bool attr] w (Yes w) := by
  unfold maxLen at hr
  have HE := Lib.hid hE
  have HK := Lib.hid (known2_yes w hE)
  have HV := Lib.hid hv
  clear hE hv
  by_cases h2 : 300 < raw.size
  · have h2' : (300 : Int) < (raw.size : Int) := by omega
    go_enter Tryd.func5, Tryd.ntmps5
    go_wp2_with fail
    refine HK.out.mono ?_
    rintro e w1 ⟨rfl, b1⟩
    go_wp2
    go_ret
    exact ⟨rfl, b1⟩
  · have h2' : ¬ (300 : Int) < (raw.size : Int) := by omega
    go_enter Tryd.func5, Tryd.ntmps5
    go_wp2_with fail
    refine HK.out.mono ?_
    rintro e w1 ⟨rfl, b1⟩
    go_wp2_with fail
    refine (html_any v n w1 (HV.out.below b1)).mono ?_
    rintro e w2 ⟨h, rfl, hh1, hh2, b2⟩
    have c2 := b1.trans (b2.mono b1.size)
    have hsz : (⟨h.toArray⟩ : ByteArray).size ≤ 1000 := by show h.toArray.size ≤ _; rw [List.size_toArray]; exact hh2
    generalize (⟨h.toArray⟩ : ByteArray) = H at *
    clear hh1 hh2 b2 b1
    have hz3 : (H ++ raw ++ H).size ≤ 4000 := by rw [ByteArray.size_append, ByteArray.size_append]; omega
    have A1 := fun X hX => Lib.hid (expand_any H attr X (by omega) hX)
    have A2 := fun X => Lib.hid (rexpand_any H attr X (by omega))
    have B1 := fun X hX => Lib.hid (expand_any raw attr X (by omega) hX)
    have B2 := fun X => Lib.hid (rexpand_any raw attr X (by omega))
    have C1 := fun X hX => Lib.hid (expand_any (H ++ raw ++ H) attr X (by omega) hX)
    have C2 := fun X => Lib.hid (rexpand_any (H ++ raw ++ H) attr X (by omega))
    unfold Tells at A1 A2 B1 B2 C1 C2
    generalize (⟨(Plain.expand H.data.toList attr).toArray⟩ : ByteArray) = EA at *
    generalize (⟨(Plain.expand raw.data.toList attr).toArray⟩ : ByteArray) = EB at *
    generalize (⟨(Plain.expand (H ++ raw ++ H).data.toList attr).toArray⟩ : ByteArray) = EC at *
    have hab : H.size + raw.size ≤ 2000 := by omega
    have habc : H.size + raw.size + H.size ≤ 4000 := by omega
    clear hz3
    go_wp2_with fail
    refine (A1 _ (Below.early HE.out c2)).out.mono ?_
    rintro e w3 ⟨rfl, b3⟩
    have c3 := c2.trans (b3.mono c2.size)
    go_wp2_with fail
    refine (A2 _).out.mono ?_
    rintro e w4 ⟨rfl, b4⟩
    have c4 := c3.trans (b4.mono c3.size)
    go_wp2_with fail
    refine (B1 _ (Below.early HE.out c4)).out.mono ?_
    rintro e w5 ⟨rfl, b5⟩
    have c5 := c4.trans (b5.mono c4.size)
    go_wp2_with fail
    refine (B2 _).out.mono ?_
    rintro e w6 ⟨rfl, b6⟩
    have c6 := c5.trans (b6.mono c5.size)
    go_wp2_with fail
    refine (C1 _ (Below.early HE.out c6)).out.mono ?_
    rintro e w7 ⟨rfl, b7⟩
    have c7 := c6.trans (b7.mono c6.size)
    go_wp2_with fail
    refine (C2 _).out.mono ?_
    rintro e w8 ⟨rfl, b8⟩
    have c8 := c7.trans (b8.mono c7.size)
    go_wp2
    go_ret
    exact ⟨by simp, c8⟩

theorem byte_str (s : ByteArray) (k : Nat) (h : k < s.size) : s.extract k (k + 1) = ⟨#[s[k]]⟩ := by
  rw [ext_part, drop_at s k h]
  rfl
theorem slice_sign (s : ByteArray) (k : Nat) (W : World) (h : k < s.size) : (Instr.slice 9 (.string s) (some (.int .i64 (k : Int))) (some (.int .i64 ((k : Int) + 1))) none).run Tryd.prog W = .ok (.string ⟨#[s[k]]⟩) W := by
  rw [slice_byte s k W h, byte_str s k h]
set_option maxHeartbeats 1000000 in
set_option maxRecDepth 100000 in
theorem amp_no (s : ByteArray) (w : World) (hs : s.size ≤ 4294967296) (hno : ∀ k (h : k < s.size), s[k] ≠ 38) :
    Calls Tryd.prog 21 #[.string s, .string ⟨#[38]⟩, .int .i64 0] w (Gives (.int .i64 (-1)) w) := by
  have HN := Lib.hid hno
  clear hno
  go_enter Tryd.func21, Tryd.ntmps21
  go_wp2
  go_loop [7] (fun v => ∃ k : Nat, v = .int .i64 k ∧ k ≤ s.size) (fun v => s.size + 1 - (intOf v).toNat)
  case atStart => exact ⟨0, rfl, Nat.zero_le _⟩
  case round =>
    obtain ⟨k, rfl, hk⟩ := hrel
    by_cases hlt : k < s.size
    · have hsl := fun W => slice_sign s k W hlt
      have hq : (s[k] == 38) = false := beq_eq_false_iff_ne.2 (HN.out k hlt)
      go_wp2
      exact ⟨⟨k + 1, by go_num, by omega⟩, by simp [intOf]; omega⟩
    · go_wp2
      go_ret
      exact ⟨rfl, rfl⟩
/-- What a call tells that only computes: a number that is not below 0. -/
def GivesNat (w : World) (e : Ending) (w' : World) : Prop := ∃ o : Nat, e = .returned (.int .i64 (o : Int)) ∧ w = w'
set_option maxHeartbeats 1000000 in
set_option maxRecDepth 100000 in
theorem amp_yes (s : ByteArray) (w : World) (hs : s.size ≤ 4294967296) (j : Nat) (hj : j < s.size) (hy : s[j] = 38) :
    Calls Tryd.prog 21 #[.string s, .string ⟨#[38]⟩, .int .i64 0] w (GivesNat w) := by
  have HY := Lib.hid hy
  clear hy
  go_enter Tryd.func21, Tryd.ntmps21
  go_wp2
  go_loop [7] (fun v => ∃ k : Nat, v = .int .i64 k ∧ k ≤ j) (fun v => s.size + 1 - (intOf v).toNat)
  case atStart => exact ⟨0, rfl, Nat.zero_le _⟩
  case round =>
    obtain ⟨k, rfl, hk⟩ := hrel
    have hlt : k < s.size := by omega
    have hsl := fun W => slice_sign s k W hlt
    by_cases hq : s[k] = 38
    · have hq : (s[k] == 38) = true := beq_iff_eq.2 hq
      go_wp2
      go_ret
      exact ⟨k, rfl, rfl⟩
    · have hkj : k < j := by
        rcases Nat.lt_or_ge k j with h | h
        · exact h
        · exfalso
          obtain rfl : k = j := by omega
          exact hq HY.out
      have hq : (s[k] == 38) = false := beq_eq_false_iff_ne.2 hq
      go_wp2
      exact ⟨⟨k + 1, by go_num, by omega⟩, by simp [intOf]; omega⟩

theorem mk_same (s : ByteArray) : (⟨s.data.toList.toArray⟩ : ByteArray) = s := rfl
theorem no_amp (s : ByteArray) (h : ∀ k (h : k < s.size), s[k] ≠ 38) (attr : Bool) : Plain.expand s.data.toList attr = s.data.toList := by
  refine Plain.expand_none _ _ fun c hc e => ?_
  obtain ⟨k, hk, rfl⟩ := List.getElem_of_mem hc
  exact h k (by simpa using hk) (UInt8.toNat_inj.1 e)

/-- What Expand of a text tells, and that it is whole. -/
structure ExpFacts (s E : ByteArray) (attr b : Bool) : Prop where
  exp : ∀ X, HasEarly X → Calls Tryd.prog 18 #[.string s, .bool attr] X fun e w' => e = .returned (.string E) ∧ Below X.heap.size X w'
  whole : ∀ X, Calls Tryd.prog 14 #[.string E] X (Gives (.bool b) X)
theorem exp_facts (s : ByteArray) (attr : Bool) (hs : s.size ≤ 1000) (hw : Plain.whole s.data.toList = true) : ∃ E, ExpFacts s E attr true := by
  refine ⟨⟨(Plain.expand s.data.toList attr).toArray⟩, fun X hX => expand_any s attr X (by omega) hX, fun X => ?_⟩
  have hl := Plain.expand_len _ s.data.toList attr (Nat.le_refl _)
  have hz : (⟨(Plain.expand s.data.toList attr).toArray⟩ : ByteArray).size ≤ 4294967296 := by
    show (Plain.expand s.data.toList attr).toArray.size ≤ _
    rw [List.size_toArray]
    simp at hl
    omega
  have := rwhole_any ⟨(Plain.expand s.data.toList attr).toArray⟩ X hz
  have e : Plain.whole (⟨(Plain.expand s.data.toList attr).toArray⟩ : ByteArray).data.toList = true := Plain.expand_whole _ s.data.toList attr (Nat.le_refl _) hw
  rw [e] at this
  exact this

set_option maxHeartbeats 2000000 in
set_option maxRecDepth 100000 in
theorem plain_walk (v : Value) (n : Nat) (s : ByteArray) (w : World) (hv : IntsIn w v n) (hr : s.size ≤ maxLen) (hE : HasEarly w) : Calls Tryd.prog 7 #[v, .string s] w (Yes w) := by
  unfold maxLen at hr
  have HE := Lib.hid hE
  have HK := Lib.hid (known2_yes w hE)
  have HV := Lib.hid hv
  clear hE hv
  by_cases h2 : 1000 < s.size
  · have h2' : (1000 : Int) < (s.size : Int) := by omega
    go_enter Tryd.func7, Tryd.ntmps7
    go_wp2_with fail
    refine HK.out.mono ?_
    rintro e w1 ⟨rfl, b1⟩
    go_wp2
    go_ret
    exact ⟨rfl, b1⟩
  · have h2' : ¬ (1000 : Int) < (s.size : Int) := by omega
    have WS := fun X => Lib.hid (rwhole_any s X (by omega))
    have TAIL : Hid (∀ (X : World), Below w.heap.size w X → Calls Tryd.prog 15 #[v] X fun e X' => ∃ H E, e = .returned (.string H) ∧ ExpFacts H E true true ∧ Below X.heap.size X X') := by
      refine Lib.hid fun X hX => (html_any v n X (HV.out.below hX)).mono ?_
      rintro e X' ⟨h, rfl, hh1, hh2, b⟩
      obtain ⟨E, hE⟩ := exp_facts ⟨h.toArray⟩ true (by show h.toArray.size ≤ _; rw [List.size_toArray]; exact hh2) hh1
      exact ⟨_, E, rfl, hE, b⟩
    have WE : Hid (Plain.whole s.data.toList = true → ∃ E, ExpFacts s E false true) := Lib.hid fun hw => exp_facts s false (by omega) hw
    by_cases ha : ∀ k (h : k < s.size), s[k] ≠ 38
    · have HI := fun X => Lib.hid (amp_no s X (by omega) ha)
      have E1 := fun X hX => Lib.hid (expand_any s false X (by omega) hX)
      have E2 := fun X hX => Lib.hid (expand_any s true X (by omega) hX)
      unfold Tells at E1 E2
      rw [no_amp s ha, mk_same] at E1 E2
      clear ha
      have q1 : (s.toList != s.toList) = false := by simp
      cases hw : Plain.whole s.data.toList
      · rw [hw] at WS
        clear hw WE
        go_enter Tryd.func7, Tryd.ntmps7
        go_wp2_with fail
        refine HK.out.mono ?_
        rintro e w1 ⟨rfl, b1⟩
        go_wp2_with fail
        refine (HI _).out.mono ?_
        rintro e w2 ⟨rfl, rfl⟩
        go_wp2_with fail
        refine (E1 _ (Below.early HE.out b1)).out.mono ?_
        rintro e w2 ⟨rfl, b2⟩
        have c2 := b1.trans (b2.mono b1.size)
        go_wp2_with fail
        refine (E2 _ (Below.early HE.out c2)).out.mono ?_
        rintro e w3 ⟨rfl, b3⟩
        have c3 := c2.trans (b3.mono c2.size)
        go_wp2_with fail
        refine (TAIL.out _ c3).mono ?_
        rintro e w4 ⟨H, E, rfl, hF, b4⟩
        have HF := Lib.hid hF
        have c4 := c3.trans (b4.mono c3.size)
        clear hF
        go_wp2_with fail
        refine (WS _).out.mono ?_
        rintro e w5 ⟨rfl, rfl⟩
        go_wp2_with fail
        refine (HF.out.exp _ (Below.early HE.out c4)).mono ?_
        rintro e w6 ⟨rfl, b6⟩
        have c6 := c4.trans (b6.mono c4.size)
        go_wp2_with fail
        refine (HF.out.whole _).mono ?_
        rintro e w7 ⟨rfl, rfl⟩
        go_wp2
        go_ret
        exact ⟨rfl, c6⟩
      · rw [hw] at WS
        obtain ⟨E0, hE0⟩ := WE.out hw
        have HE2 := Lib.hid hE0
        clear hw WE hE0
        go_enter Tryd.func7, Tryd.ntmps7
        go_wp2_with fail
        refine HK.out.mono ?_
        rintro e w1 ⟨rfl, b1⟩
        go_wp2_with fail
        refine (HI _).out.mono ?_
        rintro e w2 ⟨rfl, rfl⟩
        go_wp2_with fail
        refine (E1 _ (Below.early HE.out b1)).out.mono ?_
        rintro e w2 ⟨rfl, b2⟩
        have c2 := b1.trans (b2.mono b1.size)
        go_wp2_with fail
        refine (E2 _ (Below.early HE.out c2)).out.mono ?_
        rintro e w3 ⟨rfl, b3⟩
        have c3 := c2.trans (b3.mono c2.size)
        go_wp2_with fail
        refine (TAIL.out _ c3).mono ?_
        rintro e w4 ⟨H, E, rfl, hF, b4⟩
        have HF := Lib.hid hF
        have c4 := c3.trans (b4.mono c3.size)
        clear hF
        go_wp2_with fail
        refine (WS _).out.mono ?_
        rintro e w5 ⟨rfl, rfl⟩
        go_wp2_with fail
        refine (HE2.out.exp _ (Below.early HE.out c4)).mono ?_
        rintro e w5 ⟨rfl, b5⟩
        have c5 := c4.trans (b5.mono c4.size)
        go_wp2_with fail
        refine (HE2.out.whole _).mono ?_
        rintro e w6 ⟨rfl, rfl⟩
        go_wp2_with fail
        refine (HF.out.exp _ (Below.early HE.out c5)).mono ?_
        rintro e w6 ⟨rfl, b6⟩
        have c6 := c5.trans (b6.mono c5.size)
        go_wp2_with fail
        refine (HF.out.whole _).mono ?_
        rintro e w7 ⟨rfl, rfl⟩
        go_wp2
        go_ret
        exact ⟨rfl, c6⟩
    · obtain ⟨j, hj, hy⟩ : ∃ j, ∃ hj : j < s.size, s[j] = 38 := by
        apply Classical.byContradiction
        intro hno
        exact ha fun k hk e => hno ⟨k, hk, e⟩
      have HI := fun X => Lib.hid (amp_yes s X (by omega) j hj hy)
      clear ha hy
      cases hw : Plain.whole s.data.toList
      · rw [hw] at WS
        clear hw WE
        go_enter Tryd.func7, Tryd.ntmps7
        go_wp2_with fail
        refine HK.out.mono ?_
        rintro e w1 ⟨rfl, b1⟩
        go_wp2_with fail
        refine (HI _).out.mono ?_
        rintro e w2 ⟨o, rfl, rfl⟩
        have q1 : ¬ (o : Int) < 0 := by omega
        go_wp2_with fail
        refine (TAIL.out _ b1).mono ?_
        rintro e w4 ⟨H, E, rfl, hF, b4⟩
        have HF := Lib.hid hF
        have c4 := b1.trans (b4.mono b1.size)
        clear hF
        go_wp2_with fail
        refine (WS _).out.mono ?_
        rintro e w5 ⟨rfl, rfl⟩
        go_wp2_with fail
        refine (HF.out.exp _ (Below.early HE.out c4)).mono ?_
        rintro e w6 ⟨rfl, b6⟩
        have c6 := c4.trans (b6.mono c4.size)
        go_wp2_with fail
        refine (HF.out.whole _).mono ?_
        rintro e w7 ⟨rfl, rfl⟩
        go_wp2
        go_ret
        exact ⟨rfl, c6⟩
      · rw [hw] at WS
        obtain ⟨E0, hE0⟩ := WE.out hw
        have HE2 := Lib.hid hE0
        clear hw WE hE0
        go_enter Tryd.func7, Tryd.ntmps7
        go_wp2_with fail
        refine HK.out.mono ?_
        rintro e w1 ⟨rfl, b1⟩
        go_wp2_with fail
        refine (HI _).out.mono ?_
        rintro e w2 ⟨o, rfl, rfl⟩
        have q1 : ¬ (o : Int) < 0 := by omega
        go_wp2_with fail
        refine (TAIL.out _ b1).mono ?_
        rintro e w4 ⟨H, E, rfl, hF, b4⟩
        have HF := Lib.hid hF
        have c4 := b1.trans (b4.mono b1.size)
        clear hF
        go_wp2_with fail
        refine (WS _).out.mono ?_
        rintro e w5 ⟨rfl, rfl⟩
        go_wp2_with fail
        refine (HE2.out.exp _ (Below.early HE.out c4)).mono ?_
        rintro e w5 ⟨rfl, b5⟩
        have c5 := c4.trans (b5.mono c4.size)
        go_wp2_with fail
        refine (HE2.out.whole _).mono ?_
        rintro e w6 ⟨rfl, rfl⟩
        go_wp2_with fail
        refine (HF.out.exp _ (Below.early HE.out c5)).mono ?_
        rintro e w6 ⟨rfl, b6⟩
        have c6 := c5.trans (b6.mono c5.size)
        go_wp2_with fail
        refine (HF.out.whole _).mono ?_
        rintro e w7 ⟨rfl, rfl⟩
        go_wp2
        go_ret
        exact ⟨rfl, c6⟩

theorem amp_cat (a b : ByteArray) (attr : Bool) (ha : a.size ≤ 1000) : Plain.expand ((a ++ ⟨#[32]⟩) ++ b).data.toList attr = Plain.expand (a ++ ⟨#[32]⟩).data.toList attr ++ Plain.expand b.data.toList attr := by
  have e1 : ((a ++ ⟨#[32]⟩) ++ b).data.toList = a.data.toList ++ 32 :: b.data.toList := by simp [ByteArray.data_append]
  have e2 : (a ++ ⟨#[32]⟩ : ByteArray).data.toList = a.data.toList ++ [32] := by simp [ByteArray.data_append]
  rw [e1, e2]
  exact Plain.expand_app 1000 _ _ attr (by simpa using ha)
/-- What Expand tells of two texts, and of both, one behind the other. -/
structure CatFacts (a b EA EB : ByteArray) (attr : Bool) : Prop where
  la : EA.size ≤ 4004
  lb : EB.size ≤ 4000
  xa : ∀ X, HasEarly X → Calls Tryd.prog 18 #[.string a, .bool attr] X fun e w' => e = .returned (.string EA) ∧ Below X.heap.size X w'
  xb : ∀ X, HasEarly X → Calls Tryd.prog 18 #[.string b, .bool attr] X fun e w' => e = .returned (.string EB) ∧ Below X.heap.size X w'
  xc : ∀ X, HasEarly X → Calls Tryd.prog 18 #[.string (a ++ b), .bool attr] X fun e w' => e = .returned (.string (EA ++ EB)) ∧ Below X.heap.size X w'
theorem len_size (E : ByteArray) : E.data.toList.length = E.size := by simp
theorem cat_of (a b : ByteArray) (attr : Bool) (ha : a.size ≤ 1001) (hb : b.size ≤ 1000) (hc : Plain.expand (a ++ b).data.toList attr = Plain.expand a.data.toList attr ++ Plain.expand b.data.toList attr) : ∃ EA EB, CatFacts a b EA EB attr := by
  have s2 : (a ++ b).size ≤ 2001 := by rw [ByteArray.size_append]; omega
  have l1 := Plain.expand_len _ a.data.toList attr (Nat.le_refl _)
  have l2 := Plain.expand_len _ b.data.toList attr (Nat.le_refl _)
  rw [len_size] at l1 l2
  refine ⟨⟨(Plain.expand a.data.toList attr).toArray⟩, ⟨(Plain.expand b.data.toList attr).toArray⟩, ?_, ?_, fun X hX => expand_any a attr X (by omega) hX, fun X hX => expand_any b attr X (by omega) hX, fun X hX => ?_⟩
  · show (Plain.expand a.data.toList attr).toArray.size ≤ _
    rw [List.size_toArray]; omega
  · show (Plain.expand b.data.toList attr).toArray.size ≤ _
    rw [List.size_toArray]; omega
  · have := expand_any (a ++ b) attr X (by omega) hX
    unfold Tells at this
    rw [hc, ← str_app] at this
    exact this
theorem cat_facts (a b : ByteArray) (attr : Bool) (ha : a.size ≤ 1000) (hb : b.size ≤ 1000) : ∃ EA EB, CatFacts (a ++ ⟨#[32]⟩) b EA EB attr :=
  cat_of _ b attr (by rw [ByteArray.size_append]; show a.size + 1 ≤ _; omega) hb (amp_cat a b attr ha)

set_option maxHeartbeats 2000000 in
set_option maxRecDepth 100000 in
theorem parts_walk (v v2 : Value) (n n2 : Nat) (w : World) (hv : IntsIn w v n) (hv2 : IntsIn w v2 n2) (hE : HasEarly w) : Calls Tryd.prog 8 #[v, v2] w (Yes w) := by
  have HE := Lib.hid hE
  have HK := Lib.hid (known2_yes w hE)
  have HV := Lib.hid hv
  have HV2 := Lib.hid hv2
  clear hE hv hv2
  go_enter Tryd.func8, Tryd.ntmps8
  go_wp2_with fail
  refine HK.out.mono ?_
  rintro e w1 ⟨rfl, b1⟩
  go_wp2_with fail
  refine (html_any v n w1 (HV.out.below b1)).mono ?_
  rintro e w2 ⟨h, rfl, hh1, hh2, b2⟩
  have c2 := b1.trans (b2.mono b1.size)
  have hsz : (⟨h.toArray⟩ : ByteArray).size ≤ 1000 := by show h.toArray.size ≤ _; rw [List.size_toArray]; exact hh2
  generalize (⟨h.toArray⟩ : ByteArray) = A at *
  clear hh1 hh2 b2 b1
  go_wp2_with fail
  refine (html_any v2 n2 w2 (HV2.out.below c2)).mono ?_
  rintro e w3 ⟨h3, rfl, hh1, hh2, b3⟩
  have c3 := c2.trans (b3.mono c2.size)
  have hsz3 : (⟨h3.toArray⟩ : ByteArray).size ≤ 1000 := by show h3.toArray.size ≤ _; rw [List.size_toArray]; exact hh2
  generalize (⟨h3.toArray⟩ : ByteArray) = B at *
  clear hh1 hh2 b3 c2
  obtain ⟨EA, EB, hF⟩ := cat_facts A B false hsz hsz3
  obtain ⟨FA, FB, hT⟩ := cat_facts A B true hsz hsz3
  have hs1 : (A ++ ⟨#[32]⟩ : ByteArray).size ≤ 1001 := by rw [ByteArray.size_append]; show A.size + 1 ≤ _; omega
  generalize (A ++ ⟨#[32]⟩ : ByteArray) = A1 at *
  have HF := Lib.hid hF
  have HT := Lib.hid hT
  have l1 := hF.la
  have l2 := hF.lb
  have l3 := hT.la
  have l4 := hT.lb
  clear hF hT
  go_wp2_with fail
  refine (HF.out.xc _ (Below.early HE.out c3)).mono ?_
  rintro e w4 ⟨rfl, b4⟩
  have c4 := c3.trans (b4.mono c3.size)
  go_wp2_with fail
  refine (HF.out.xa _ (Below.early HE.out c4)).mono ?_
  rintro e w5 ⟨rfl, b5⟩
  have c5 := c4.trans (b5.mono c4.size)
  go_wp2_with fail
  refine (HF.out.xb _ (Below.early HE.out c5)).mono ?_
  rintro e w6 ⟨rfl, b6⟩
  have c6 := c5.trans (b6.mono c5.size)
  go_wp2_with fail
  refine (HT.out.xc _ (Below.early HE.out c6)).mono ?_
  rintro e w7 ⟨rfl, b7⟩
  have c7 := c6.trans (b7.mono c6.size)
  go_wp2_with fail
  refine (HT.out.xa _ (Below.early HE.out c7)).mono ?_
  rintro e w8 ⟨rfl, b8⟩
  have c8 := c7.trans (b8.mono c7.size)
  go_wp2_with fail
  refine (HT.out.xb _ (Below.early HE.out c8)).mono ?_
  rintro e w9 ⟨rfl, b9⟩
  have c9 := c8.trans (b9.mono c8.size)
  go_wp2
  go_ret
  exact ⟨by simp, c9⟩
end Go.Proofs.YtobgdignanpliaaDoor
