/-
  The walk of the reference's closed. Any text of at most 2^28 bytes.
-/
import Derived.Test.YtgelgfgcdfnacaaGreatDoorXRef2
import Derived.Test.YtgelgfgcdfnacaaGreatDoorUTok
namespace Go.Proofs.YtgelgfgcdfnacaaGreatDoor
open Go.RowKit

/-- What step tells: a token; or none, and where it goes on. -/
def StepOut (l : List UInt8) (k st : Nat) (last : List UInt8) (w : World) (e : Ending) (w' : World) : Prop :=
  RefOut (nextT l k st last) true w e w' ∨
  ∃ (K : Int) (N : ByteArray) (p : Option Addr) (n c : Nat) (b : Bool) (T : ByteArray) (q : Nat), e = .returned (.tuple #[.agg #[.int .i64 K, .string N, .slice p n c, .bool b, .string T], .int .i64 (q : Int), .bool false]) ∧ k < q ∧ q ≤ l.length ∧ nextT l q st last = nextT l k st last ∧ Below w.heap.size w w'
theorem next_end (l : List UInt8) (k st : Nat) (last : List UInt8) (h : l.length ≤ k) : nextT l k st last = stopT l := by
  unfold nextT
  rw [if_pos h]
/-- What a tag that is read comes to. -/
theorem read_step (l : List UInt8) (k st : Nat) (last : List UInt8) (hk : k < l.length) (h : nextT l k st last = readL l k) : ((tagT l k).kind = 0 → k < (tagT l k).behind ∧ (tagT l k).behind ≤ l.length ∧ nextT l (tagT l k).behind st last = nextT l k st last) ∧ ((tagT l k).kind ≠ 0 → nextT l k st last = (⟨(tagT l k).kind, (tagT l k).name, (tagT l k).attrs, (tagT l k).self, []⟩, (tagT l k).behind)) := by
  refine ⟨fun h0 => ?_, fun h0 => ?_⟩
  · have hb : (tagT l k).behind = l.length := by
      rcases tagT_cases l k with ⟨_, h2⟩ | ⟨rs, self, n, _, h2⟩
      · rw [h2]
      · rw [h2] at h0
        exact absurd h0 (tagKd_ne l k)
    rw [hb]
    refine ⟨hk, Nat.le_refl _, ?_⟩
    rw [next_end _ _ _ _ (Nat.le_refl _), h]
    unfold readL
    rw [if_pos h0]
  · rw [h]
    unfold readL
    rw [if_neg h0]
theorem place_at (s : ByteArray) (k : Nat) (hk : k < s.size) (h : Plain.atTag (s.data.toList.drop k) = true) : atPlace s.data.toList (k : Int) = true := by
  unfold atPlace
  rw [len_of, decide_eq_true (by omega), decide_eq_true (by omega), Bool.true_and, Bool.true_and, Int.toNat_natCast]
  exact h

set_option maxHeartbeats 4000000 in
set_option maxRecDepth 100000 in
theorem rclosed_any (s A : ByteArray) (k st : Nat) (w : World) (hk : k < s.size) (hst : st = 1 ∨ st = 2) (hs : s.size ≤ 268435456) (hA : A.size ≤ 1000) : Calls Tryz.prog 39 #[.string s, .int .i64 (k : Int), .int .i64 (st : Int), .string A] w (StepOut s.data.toList k st A.data.toList w) := by
  have HX := Lib.hid (ResW.start w)
  have HEN := fun W => Lib.hid (rending_any s A k W (by omega) hs hA)
  have hk' : k < s.data.toList.length := by rw [len_of]; exact hk
  have hnx : nextT s.data.toList k st A.data.toList = closedT s.data.toList k st A.data.toList := by
    unfold nextT
    rw [if_neg (by omega), if_neg (by omega), if_pos hst]
  have hle := endL_le A.data.toList s.data.toList k (by omega)
  have hcl : closedT s.data.toList k st A.data.toList = if endL A.data.toList s.data.toList k = k then readL s.data.toList k else (textT (insideT st (mid s.data.toList k (endL A.data.toList s.data.toList k))), endL A.data.toList s.data.toList k) := rfl
  have hei : endI A.data.toList s.data.toList k = if endL A.data.toList s.data.toList k < s.data.toList.length then ((endL A.data.toList s.data.toList k : Nat) : Int) else -1 := rfl
  have hat : endL A.data.toList s.data.toList k = k → Plain.atTag (s.data.toList.drop k) = true := by
    intro h
    cases he : endA A.data.toList (s.data.toList.drop k)
    · rw [endL_miss _ _ k hk' he] at h
      have := endL_le A.data.toList s.data.toList (k + 1) (by omega)
      omega
    · exact endA_tag _ _ he
  rw [hcl] at hnx
  clear hcl
  rw [hei] at HEN
  clear hei
  rw [len_of] at hle HEN
  generalize endL A.data.toList s.data.toList k = E at *
  by_cases hEk : E = k
  · rw [if_pos hEk] at hnx
    have hT := hat hEk
    have HTC := Lib.hid (read_step s.data.toList k st A.data.toList hk' hnx)
    have HRD := fun W => Lib.hid (rread_tk s k W (place_at s k hk hT) hs)
    rw [if_pos (by omega)] at HEN
    subst hEk
    clear hat hT hnx
    go_enter Tryz.func39, Tryz.ntmps39
    go_wp2_with fail
    generalize w.alloc (.cells #[.int .i64 0, .string ⟨#[]⟩, .slice none 0 0, .bool false, .string ⟨#[]⟩] 33) = W0 at *
    refine (HEN W0).out.mono ?_
    rintro e w1 ⟨rfl, b1⟩
    have HX1 := Lib.hid (HX.out.on b1)
    clear b1 HX HEN
    go_wp2_with fail
    refine (HRD w1).out.mono ?_
    rintro e w3 ⟨v3, rfl, ha3, b3⟩
    obtain ⟨p3, cap3, hv3⟩ := ha3.form
    subst hv3
    have HX3 := Lib.hid (HX1.out.on b3)
    have HA3 := Lib.hid ha3
    clear b3 ha3 HRD
    have hlt := HX3.out.lt
    have r0 := HX3.out.r 0
    have r1 := HX3.out.r 1
    have r2 := HX3.out.r 2
    have r3 := HX3.out.r 3
    have r4 := HX3.out.r 4
    have fr := HX3.out.fr
    generalize tagT s.data.toList E = T at *
    obtain ⟨K, nm, rs, sf, bh⟩ := T
    simp only at HTC
    by_cases hK : K = 0
    · subst hK
      go_wp2_with fail
      go_region_with (fail)
      all_goals
        go_wp2_with fail
        try go_simp
        obtain ⟨d1, d2⟩ := HX3.out.done (HA3.out) (.int .i64 0) (.string ⟨nm.toArray⟩) (.slice p3 rs.length cap3) (.bool sf) (.string ⟨#[]⟩)
        refine bodyPost_ret (v := .tuple #[.agg #[.int .i64 0, .string ⟨nm.toArray⟩, .slice p3 rs.length cap3, .bool sf, .string ⟨#[]⟩], .int .i64 (bh : Int), .bool false]) (by simp [results, Tryz.results39, go_sem, *]) rfl ?_
        exact Or.inr ⟨0, _, p3, rs.length, cap3, sf, _, bh, rfl, (HTC.out.1 trivial).1, (HTC.out.1 trivial).2.1, (HTC.out.1 trivial).2.2, (d1.alloc d1.size _).drew⟩
    · have q1 : (K != 0) = true := by simp [hK]
      have HNX := Lib.hid (HTC.out.2 hK)
      clear hK HTC
      go_wp2_with fail
      go_region_with (fail)
      all_goals
        go_wp2_with fail
        try go_simp
        obtain ⟨d1, d2⟩ := HX3.out.done (HA3.out) (.int .i64 K) (.string ⟨nm.toArray⟩) (.slice p3 rs.length cap3) (.bool sf) (.string ⟨#[]⟩)
        refine bodyPost_ret (v := .tuple #[.agg #[.int .i64 K, .string ⟨nm.toArray⟩, .slice p3 rs.length cap3, .bool sf, .string ⟨#[]⟩], .int .i64 (bh : Int), .bool true]) (by simp [results, Tryz.results39, go_sem, *]) rfl ?_
        refine Or.inl ?_
        rw [HNX.out]
        exact ⟨_, rfl, d2.below (((Below.refl _ _).alloc (Nat.le_refl _) _).drew), (d1.alloc d1.size _).drew⟩
  · rw [if_neg hEk] at hnx
    have HNX := Lib.hid hnx
    clear hnx hat
    have hsl := fun W => slice_mid s k E W hle.1 hle.2
    have HM := Lib.hid (mid_list s k E)
    have hms : (s.extract k E).size ≤ 268435456 := by simp; omega
    generalize s.extract k E = M at *
    have HEX := fun W => Lib.hid (rexpand_any M false W (by omega))
    have hxl := Plain.expand_len _ M.data.toList false (Nat.le_refl _)
    rw [len_of] at hxl
    have HI : Hid (insideT st M.data.toList = Plain.clear (if st = 1 then Plain.expand M.data.toList false else M.data.toList)) := Lib.hid rfl
    obtain ⟨X, hX, hXl⟩ : ∃ X : ByteArray, (⟨(Plain.expand M.data.toList false).toArray⟩ : ByteArray) = X ∧ X.data.toList = Plain.expand M.data.toList false := ⟨_, rfl, rfl⟩
    have hXs : X.size ≤ 1073741824 := by rw [← len_of, hXl]; omega
    have HCX := fun W => Lib.hid (rclear_any X W hXs)
    have HCM := fun W => Lib.hid (rclear_any M W (by omega))
    rw [hXl] at HCX
    unfold Tells at HEX
    rw [hX] at HEX
    clear hX hXl
    have q1 : ((E : Int) == (k : Int)) = false := beq_eq_false_iff_ne.2 (by omega)
    by_cases hEl : E < s.size
    · rw [if_pos hEl] at HEN
      by_cases h1 : st = 1
      · subst h1
        rw [if_pos rfl] at HI
        go_enter Tryz.func39, Tryz.ntmps39
        go_wp2_with fail
        generalize w.alloc (.cells #[.int .i64 0, .string ⟨#[]⟩, .slice none 0 0, .bool false, .string ⟨#[]⟩] 33) = W0 at *
        refine (HEN W0).out.mono ?_
        rintro e w1 ⟨rfl, b1⟩
        have HX1 := Lib.hid (HX.out.on b1)
        clear b1 HX HEN
        go_wp2_with fail
        refine (HEX w1).out.mono ?_
        rintro e w2 ⟨rfl, b2⟩
        have HX2 := Lib.hid (HX1.out.on b2)
        clear b2 HX1
        go_wp2_with fail
        refine (HCX w2).out.mono ?_
        rintro e w9 ⟨rfl, rfl⟩
        have hlt := HX2.out.lt
        have r0 := HX2.out.r 0
        have r1 := HX2.out.r 1
        have r2 := HX2.out.r 2
        have r3 := HX2.out.r 3
        have r4 := HX2.out.r 4
        have fr := HX2.out.fr
        go_wp2_with fail
        obtain ⟨d1, d2⟩ := HX2.out.done (AttrsAt.nil _) (.int .i64 3) (.string ⟨#[]⟩) (.slice none 0 0) (.bool false) (.string ⟨(Plain.clear (Plain.expand M.data.toList false)).toArray⟩)
        refine bodyPost_ret (v := .tuple #[.agg #[.int .i64 3, .string ⟨#[]⟩, .slice none 0 0, .bool false, .string ⟨(Plain.clear (Plain.expand M.data.toList false)).toArray⟩], .int .i64 (E : Int), .bool true]) (by simp [results, Tryz.results39, go_sem, *]) rfl ?_
        refine Or.inl ?_
        rw [HNX.out, show mid s.data.toList k E = M.data.toList from HM.out.symm, HI.out]
        exact ⟨_, rfl, d2, d1⟩
      · rw [if_neg h1] at HI
        have q2 : ((st : Int) == 1) = false := beq_eq_false_iff_ne.2 (by omega)
        go_enter Tryz.func39, Tryz.ntmps39
        go_wp2_with fail
        generalize w.alloc (.cells #[.int .i64 0, .string ⟨#[]⟩, .slice none 0 0, .bool false, .string ⟨#[]⟩] 33) = W0 at *
        refine (HEN W0).out.mono ?_
        rintro e w1 ⟨rfl, b1⟩
        have HX1 := Lib.hid (HX.out.on b1)
        clear b1 HX HEN
        go_wp2_with fail
        refine (HCM w1).out.mono ?_
        rintro e w9 ⟨rfl, rfl⟩
        have hlt := HX1.out.lt
        have r0 := HX1.out.r 0
        have r1 := HX1.out.r 1
        have r2 := HX1.out.r 2
        have r3 := HX1.out.r 3
        have r4 := HX1.out.r 4
        have fr := HX1.out.fr
        go_wp2_with fail
        obtain ⟨d1, d2⟩ := HX1.out.done (AttrsAt.nil _) (.int .i64 3) (.string ⟨#[]⟩) (.slice none 0 0) (.bool false) (.string ⟨(Plain.clear M.data.toList).toArray⟩)
        refine bodyPost_ret (v := .tuple #[.agg #[.int .i64 3, .string ⟨#[]⟩, .slice none 0 0, .bool false, .string ⟨(Plain.clear M.data.toList).toArray⟩], .int .i64 (E : Int), .bool true]) (by simp [results, Tryz.results39, go_sem, *]) rfl ?_
        refine Or.inl ?_
        rw [HNX.out, show mid s.data.toList k E = M.data.toList from HM.out.symm, HI.out]
        exact ⟨_, rfl, d2, d1⟩
    · rw [if_neg hEl] at HEN
      have hEs : E = s.size := by omega
      subst hEs
      have q3 : ((-1 : Int) == (k : Int)) = false := beq_eq_false_iff_ne.2 (by omega)
      by_cases h1 : st = 1
      · subst h1
        rw [if_pos rfl] at HI
        go_enter Tryz.func39, Tryz.ntmps39
        go_wp2_with fail
        generalize w.alloc (.cells #[.int .i64 0, .string ⟨#[]⟩, .slice none 0 0, .bool false, .string ⟨#[]⟩] 33) = W0 at *
        refine (HEN W0).out.mono ?_
        rintro e w1 ⟨rfl, b1⟩
        have HX1 := Lib.hid (HX.out.on b1)
        clear b1 HX HEN
        go_wp2_with fail
        refine (HEX w1).out.mono ?_
        rintro e w2 ⟨rfl, b2⟩
        have HX2 := Lib.hid (HX1.out.on b2)
        clear b2 HX1
        go_wp2_with fail
        refine (HCX w2).out.mono ?_
        rintro e w9 ⟨rfl, rfl⟩
        have hlt := HX2.out.lt
        have r0 := HX2.out.r 0
        have r1 := HX2.out.r 1
        have r2 := HX2.out.r 2
        have r3 := HX2.out.r 3
        have r4 := HX2.out.r 4
        have fr := HX2.out.fr
        go_wp2_with fail
        obtain ⟨d1, d2⟩ := HX2.out.done (AttrsAt.nil _) (.int .i64 3) (.string ⟨#[]⟩) (.slice none 0 0) (.bool false) (.string ⟨(Plain.clear (Plain.expand M.data.toList false)).toArray⟩)
        refine bodyPost_ret (v := .tuple #[.agg #[.int .i64 3, .string ⟨#[]⟩, .slice none 0 0, .bool false, .string ⟨(Plain.clear (Plain.expand M.data.toList false)).toArray⟩], .int .i64 (s.size : Int), .bool true]) (by simp [results, Tryz.results39, go_sem, *]) rfl ?_
        refine Or.inl ?_
        rw [HNX.out, show mid s.data.toList k s.size = M.data.toList from HM.out.symm, HI.out]
        exact ⟨_, rfl, d2, d1⟩
      · rw [if_neg h1] at HI
        have q2 : ((st : Int) == 1) = false := beq_eq_false_iff_ne.2 (by omega)
        go_enter Tryz.func39, Tryz.ntmps39
        go_wp2_with fail
        generalize w.alloc (.cells #[.int .i64 0, .string ⟨#[]⟩, .slice none 0 0, .bool false, .string ⟨#[]⟩] 33) = W0 at *
        refine (HEN W0).out.mono ?_
        rintro e w1 ⟨rfl, b1⟩
        have HX1 := Lib.hid (HX.out.on b1)
        clear b1 HX HEN
        go_wp2_with fail
        refine (HCM w1).out.mono ?_
        rintro e w9 ⟨rfl, rfl⟩
        have hlt := HX1.out.lt
        have r0 := HX1.out.r 0
        have r1 := HX1.out.r 1
        have r2 := HX1.out.r 2
        have r3 := HX1.out.r 3
        have r4 := HX1.out.r 4
        have fr := HX1.out.fr
        go_wp2_with fail
        obtain ⟨d1, d2⟩ := HX1.out.done (AttrsAt.nil _) (.int .i64 3) (.string ⟨#[]⟩) (.slice none 0 0) (.bool false) (.string ⟨(Plain.clear M.data.toList).toArray⟩)
        refine bodyPost_ret (v := .tuple #[.agg #[.int .i64 3, .string ⟨#[]⟩, .slice none 0 0, .bool false, .string ⟨(Plain.clear M.data.toList).toArray⟩], .int .i64 (s.size : Int), .bool true]) (by simp [results, Tryz.results39, go_sem, *]) rfl ?_
        refine Or.inl ?_
        rw [HNX.out, show mid s.data.toList k s.size = M.data.toList from HM.out.symm, HI.out]
        exact ⟨_, rfl, d2, d1⟩
end Go.Proofs.YtgelgfgcdfnacaaGreatDoor
