/-
  The walks of the reference's tokens: upTo, ending, note, remark. Any text of at most 2^28 bytes.
-/
import Derived.Test.YtgelgfgcdfnacaaGreatDoorXIdx
import Derived.Test.YtgelgfgcdfnacaaGreatDoorXLex
namespace Go.Proofs.YtgelgfgcdfnacaaGreatDoor
open Go.RowKit

theorem idx_up (x l : List UInt8) (f : Nat) (hf : f ≤ l.length) : (idxI x l f = -1 ∧ upL [x] l f = (l.length, l.length)) ∨ ∃ a : Nat, idxI x l f = (a : Int) ∧ f ≤ a ∧ upL [x] l f = (a, a + x.length) ∧ a + x.length ≤ l.length := by
  obtain ⟨m, hm⟩ : ∃ m, l.length - f = m := ⟨_, rfl⟩
  induction m generalizing f with
  | zero => exact Or.inl ⟨idxI_end x l f (by omega), upL_end _ l f (by omega)⟩
  | succ m ih =>
    cases h : x.isPrefixOf (l.drop f)
    · rw [idxI_miss x l f (by omega) h, upL_miss [x] l f (by omega) (by rw [find_one, h]; rfl)]
      rcases ih (f + 1) (by omega) (by omega) with h1 | ⟨a, h1, h2, h3⟩
      · exact Or.inl h1
      · exact Or.inr ⟨a, h1, by omega, h3⟩
    · have := prefix_len _ _ h
      rw [List.length_drop] at this
      exact Or.inr ⟨f, idxI_hit x l f (by omega) h, Nat.le_refl _, upL_hit [x] l f (by omega) x (by rw [find_one, h]; rfl), by omega⟩
/-- What upTo tells. -/
def upV (l : List UInt8) (f : Nat) (U : Nat × Nat) : Value := .tuple #[.string ⟨(mid l f U.1).toArray⟩, .int .i64 (U.2 : Int)]
set_option maxHeartbeats 1000000 in
set_option maxRecDepth 100000 in
theorem rupTo_any (s x : ByteArray) (f : Nat) (w : World) (hf : f ≤ s.size) (hx : 1 ≤ x.size) (hs : s.size ≤ 268435456) (hxs : x.size ≤ 1000) : Calls Tryz.prog 44 #[.string s, .int .i64 (f : Int), .string x] w (Gives (upV s.data.toList f (upL [x.data.toList] s.data.toList f)) w) := by
  have HI := fun W => Lib.hid (rindex_any s x f W hf hx hs (by omega))
  have HL := Lib.hid (len_of s)
  unfold upV
  rcases idx_up x.data.toList s.data.toList f (by rw [len_of]; exact hf) with ⟨h1, h2⟩ | ⟨a, h1, h2, h3, h4⟩
  · rw [h1] at HI
    rw [h2, mid_drop, len_of]
    have HM := Lib.hid (from_list s f)
    have HE : Hid ((⟨(s.data.toList.drop f).toArray⟩ : ByteArray) = s.extract f s.size) := Lib.hid (by rw [← HM.out])
    clear h1 h2
    go_enter Tryz.func44, Tryz.ntmps44
    go_wp2_with fail
    refine (HI _).out.mono ?_
    rintro e w1 ⟨rfl, rfl⟩
    go_wp2_with fail
    go_ret2
    refine ⟨?_, rfl⟩
    rw [HE.out]
    rfl
  · rw [h1] at HI
    rw [len_of, len_of] at h4
    rw [h3, len_of]
    have hsl := fun W => slice_mid s f a W h2 (by omega)
    have HE : Hid ((⟨(mid s.data.toList f a).toArray⟩ : ByteArray) = s.extract f a) := Lib.hid (by unfold mid; rw [← mid_list])
    generalize s.extract f a = M at *
    clear h1 h3
    go_enter Tryz.func44, Tryz.ntmps44
    go_wp2_with fail
    refine (HI _).out.mono ?_
    rintro e w1 ⟨rfl, rfl⟩
    go_wp2_with fail
    go_ret2
    refine ⟨?_, rfl⟩
    simp only
    rw [HE.out, Int.natCast_add]
    rfl
/-- What step tells, of a token. -/
def RefOut (t : Tok × Nat) (b : Bool) (w : World) (e : Ending) (w' : World) : Prop :=
  ∃ v, e = .returned (.tuple #[.agg #[.int .i64 t.1.kind, .string ⟨t.1.name.toArray⟩, v, .bool t.1.self, .string ⟨t.1.text.toArray⟩], .int .i64 (t.2 : Int), .bool b]) ∧ AttrsAt w' v t.1.attrs ∧ Below w.heap.size w w'
set_option maxHeartbeats 1000000 in
set_option maxRecDepth 100000 in
theorem rnote_any (s : ByteArray) (f : Nat) (w : World) (hf : f ≤ s.size) (hs : s.size ≤ 268435456) : Calls Tryz.prog 46 #[.string s, .int .i64 (f : Int)] w (RefOut (noteTo [[62]] s.data.toList f) true w) := by
  have HX := Lib.hid (ResW.start w)
  have HU := fun W => Lib.hid (rupTo_any s ⟨#[62]⟩ f W hf (by decide) hs (by decide))
  rw [show (⟨#[62]⟩ : ByteArray).data.toList = [62] from rfl] at HU
  have hle := up_le [[62]] s.data.toList f (by rw [len_of]; exact hf)
  rw [len_of] at hle
  have HN : Hid (noteTo [[62]] s.data.toList f = (noteT (Plain.clear (mid s.data.toList f (upL [[62]] s.data.toList f).1)), (upL [[62]] s.data.toList f).2)) := Lib.hid rfl
  unfold upV at HU
  generalize upL [[62]] s.data.toList f = U at *
  obtain ⟨a, b⟩ := U
  simp only at hle
  obtain ⟨M, hM, hMl⟩ : ∃ M : ByteArray, (⟨(mid s.data.toList f a).toArray⟩ : ByteArray) = M ∧ M.data.toList = mid s.data.toList f a := ⟨_, rfl, rfl⟩
  have hMs : M.size ≤ 268435456 := by
    rw [← len_of, hMl]
    unfold mid
    rw [List.length_drop, List.length_take, len_of]
    omega
  simp only at HU
  rw [hM] at HU
  have HML := Lib.hid hMl
  clear hM hMl
  have HC := fun W => Lib.hid (rclear_any M W (by omega))
  go_enter Tryz.func46, Tryz.ntmps46
  go_wp2_with fail
  generalize w.alloc (.cells #[.int .i64 0, .string ⟨#[]⟩, .slice none 0 0, .bool false, .string ⟨#[]⟩] 33) = W0 at *
  refine (HU W0).out.mono ?_
  rintro e w1 ⟨rfl, rfl⟩
  go_wp2_with fail
  refine (HC W0).out.mono ?_
  rintro e w1 ⟨rfl, rfl⟩
  have hlt := HX.out.lt
  have r0 := HX.out.r 0
  have r1 := HX.out.r 1
  have r2 := HX.out.r 2
  have r3 := HX.out.r 3
  have r4 := HX.out.r 4
  have fr := HX.out.fr
  go_wp2_with fail
  obtain ⟨d1, d2⟩ := HX.out.done (AttrsAt.nil _) (.int .i64 4) (.string ⟨#[]⟩) (.slice none 0 0) (.bool false) (.string ⟨(Plain.clear M.data.toList).toArray⟩)
  refine bodyPost_ret (v := .tuple #[.agg #[.int .i64 4, .string ⟨#[]⟩, .slice none 0 0, .bool false, .string ⟨(Plain.clear M.data.toList).toArray⟩], .int .i64 (b : Int), .bool true]) (by simp [results, Tryz.results46, go_sem, *]) rfl ?_
  rw [HN.out, ← HML.out]
  exact ⟨_, rfl, d2, d1⟩
/-- Two ends: the one that stands first. -/
theorem up_two (a b l : List UInt8) (f : Nat) (hf : f ≤ l.length) : upL [a, b] l f = if (upL [b] l f).1 < (upL [a] l f).1 then upL [b] l f else upL [a] l f := by
  obtain ⟨m, hm⟩ : ∃ m, l.length - f = m := ⟨_, rfl⟩
  induction m generalizing f with
  | zero => rw [upL_end _ l f (by omega), upL_end _ l f (by omega), upL_end _ l f (by omega), if_neg (by omega)]
  | succ m ih =>
    have hfl : f < l.length := by omega
    have h2 : [a, b].find? (fun e => e.isPrefixOf (l.drop f)) = if a.isPrefixOf (l.drop f) then some a else if b.isPrefixOf (l.drop f) then some b else none := by
      cases ha : a.isPrefixOf (l.drop f)
      · rw [List.find?_cons_of_neg (by rw [ha]; decide), find_one]
        rfl
      · rw [List.find?_cons_of_pos (p := fun e : List UInt8 => e.isPrefixOf (l.drop f)) ha]
        rfl
    cases ha : a.isPrefixOf (l.drop f)
    · cases hb : b.isPrefixOf (l.drop f)
      · rw [upL_miss _ l f hfl (by rw [h2, ha, hb]; rfl), upL_miss [b] l f hfl (by rw [find_one, hb]; rfl), upL_miss [a] l f hfl (by rw [find_one, ha]; rfl)]
        exact ih (f + 1) (by omega) (by omega)
      · have e1 := upL_hit [a, b] l f hfl b (by rw [h2, ha, hb]; rfl)
        have e2 := upL_hit [b] l f hfl b (by rw [find_one, hb]; rfl)
        have e3 := upL_miss [a] l f hfl (by rw [find_one, ha]; rfl)
        have e4 := up_le [a] l (f + 1) (by omega)
        rw [e1, e2, e3, if_pos (by simp only; omega)]
    · have e1 := upL_hit [a, b] l f hfl a (by rw [h2, ha]; rfl)
      have e2 := upL_hit [a] l f hfl a (by rw [find_one, ha]; rfl)
      have e4 := up_le [b] l f (by omega)
      rw [e1, e2, if_neg (by simp only; omega)]
theorem mid_len (l : List UInt8) (f a : Nat) (ha : a ≤ l.length) : (mid l f a).length = a - f := by
  unfold mid
  rw [List.length_drop, List.length_take]
  omega
set_option maxHeartbeats 2000000 in
set_option maxRecDepth 100000 in
theorem rremark_any (s : ByteArray) (f : Nat) (w : World) (hf : f ≤ s.size) (hs : s.size ≤ 268435456) : Calls Tryz.prog 43 #[.string s, .int .i64 (f : Int)] w (RefOut (remarkT s.data.toList f) true w) := by
  have HX := Lib.hid (ResW.start w)
  have HE := Lib.hid (from_list s f)
  cases h1 : [62].isPrefixOf (s.data.toList.drop f)
  · have HB1 := fun W => Lib.hid (rbeg_any (s.extract f s.size) ⟨#[62]⟩ false W (by rw [from_list]; exact h1))
    cases h2 : [45, 62].isPrefixOf (s.data.toList.drop f)
    · have HB2 := fun W => Lib.hid (rbeg_any (s.extract f s.size) ⟨#[45, 62]⟩ false W (by rw [from_list]; exact h2))
      have HN : Hid (remarkT s.data.toList f = noteTo [[45, 45, 62], [45, 45, 33, 62]] s.data.toList f) := Lib.hid (by unfold remarkT; rw [if_neg (by rw [h2]; decide), if_neg (by rw [h1]; decide)])
      clear h1 h2
      have hup := up_two [45, 45, 62] [45, 45, 33, 62] s.data.toList f (by rw [len_of]; exact hf)
      have HU1 := fun W => Lib.hid (rupTo_any s ⟨#[45, 45, 62]⟩ f W hf (by decide) hs (by decide))
      have HU2 := fun W => Lib.hid (rupTo_any s ⟨#[45, 45, 33, 62]⟩ f W hf (by decide) hs (by decide))
      rw [show (⟨#[45, 45, 62]⟩ : ByteArray).data.toList = [45, 45, 62] from rfl] at HU1
      rw [show (⟨#[45, 45, 33, 62]⟩ : ByteArray).data.toList = [45, 45, 33, 62] from rfl] at HU2
      have l1 := up_le [[45, 45, 62]] s.data.toList f (by rw [len_of]; exact hf)
      have l2 := up_le [[45, 45, 33, 62]] s.data.toList f (by rw [len_of]; exact hf)
      have HNT : Hid (noteTo [[45, 45, 62], [45, 45, 33, 62]] s.data.toList f = (noteT (Plain.clear (mid s.data.toList f (upL [[45, 45, 62], [45, 45, 33, 62]] s.data.toList f).1)), (upL [[45, 45, 62], [45, 45, 33, 62]] s.data.toList f).2)) := Lib.hid rfl
      rw [hup] at HNT
      clear hup
      unfold upV at HU1 HU2
      generalize upL [[45, 45, 62]] s.data.toList f = U at *
      generalize upL [[45, 45, 33, 62]] s.data.toList f = V at *
      obtain ⟨a, b⟩ := U
      obtain ⟨c, d⟩ := V
      simp only at l1 l2 HU1 HU2
      have m1 := mid_len s.data.toList f a (by omega)
      have m2 := mid_len s.data.toList f c (by omega)
      rw [len_of] at l1 l2
      obtain ⟨M, hM, hMl⟩ : ∃ M : ByteArray, (⟨(mid s.data.toList f a).toArray⟩ : ByteArray) = M ∧ M.data.toList = mid s.data.toList f a := ⟨_, rfl, rfl⟩
      obtain ⟨P, hP, hPl⟩ : ∃ P : ByteArray, (⟨(mid s.data.toList f c).toArray⟩ : ByteArray) = P ∧ P.data.toList = mid s.data.toList f c := ⟨_, rfl, rfl⟩
      rw [← hMl, len_of] at m1
      rw [← hPl, len_of] at m2
      rw [hM] at HU1
      rw [hP] at HU2
      have HML := Lib.hid hMl
      have HPL := Lib.hid hPl
      clear hM hMl hP hPl
      by_cases hlt : c < a
      · have q1 : (P.size : Int) < (M.size : Int) := by omega
        rw [if_pos hlt] at HNT
        have HC := fun W => Lib.hid (rclear_any P W (by omega))
        go_enter Tryz.func43, Tryz.ntmps43
        go_wp2_with fail
        refine (HB1 _).out.mono ?_
        rintro e w1 ⟨rfl, rfl⟩
        go_wp2_with fail
        refine (HB2 _).out.mono ?_
        rintro e w1 ⟨rfl, rfl⟩
        go_wp2_with fail
        refine (HU1 _).out.mono ?_
        rintro e w1 ⟨rfl, rfl⟩
        go_wp2_with fail
        refine (HU2 _).out.mono ?_
        rintro e w1 ⟨rfl, rfl⟩
        go_wp2_with fail
        refine (HC _).out.mono ?_
        rintro e w1 ⟨rfl, rfl⟩
        go_wp2_with fail
        refine bodyPost_ret (v := .tuple #[.agg #[.int .i64 4, .string ⟨#[]⟩, .slice none 0 0, .bool false, .string ⟨(Plain.clear P.data.toList).toArray⟩], .int .i64 (d : Int), .bool true]) (by simp [results, Tryz.results43, go_sem, *]) rfl ?_
        rw [HN.out, HNT.out, ← HPL.out]
        exact ⟨.slice none 0 0, rfl, AttrsAt.nil _, ((Below.refl _ w).alloc (Nat.le_refl _) _).alloc (by simp) _⟩
      · have q1 : ¬ (P.size : Int) < (M.size : Int) := by omega
        rw [if_neg hlt] at HNT
        have HC := fun W => Lib.hid (rclear_any M W (by omega))
        go_enter Tryz.func43, Tryz.ntmps43
        go_wp2_with fail
        refine (HB1 _).out.mono ?_
        rintro e w1 ⟨rfl, rfl⟩
        go_wp2_with fail
        refine (HB2 _).out.mono ?_
        rintro e w1 ⟨rfl, rfl⟩
        go_wp2_with fail
        refine (HU1 _).out.mono ?_
        rintro e w1 ⟨rfl, rfl⟩
        go_wp2_with fail
        refine (HU2 _).out.mono ?_
        rintro e w1 ⟨rfl, rfl⟩
        go_wp2_with fail
        refine (HC _).out.mono ?_
        rintro e w1 ⟨rfl, rfl⟩
        go_wp2_with fail
        refine bodyPost_ret (v := .tuple #[.agg #[.int .i64 4, .string ⟨#[]⟩, .slice none 0 0, .bool false, .string ⟨(Plain.clear M.data.toList).toArray⟩], .int .i64 (b : Int), .bool true]) (by simp [results, Tryz.results43, go_sem, *]) rfl ?_
        rw [HN.out, HNT.out, ← HML.out]
        exact ⟨.slice none 0 0, rfl, AttrsAt.nil _, ((Below.refl _ w).alloc (Nat.le_refl _) _).alloc (by simp) _⟩
    · have HB2 := fun W => Lib.hid (rbeg_any (s.extract f s.size) ⟨#[45, 62]⟩ true W (by rw [from_list]; exact h2))
      have HN : Hid (remarkT s.data.toList f = (noteT [], f + 2)) := Lib.hid (by unfold remarkT; rw [if_pos h2])
      clear h1 h2
      go_enter Tryz.func43, Tryz.ntmps43
      go_wp2_with fail
      refine (HB1 _).out.mono ?_
      rintro e w1 ⟨rfl, rfl⟩
      go_wp2_with fail
      refine (HB2 _).out.mono ?_
      rintro e w1 ⟨rfl, rfl⟩
      go_wp2_with fail
      refine bodyPost_ret (v := .tuple #[.agg #[.int .i64 4, .string ⟨#[]⟩, .slice none 0 0, .bool false, .string ⟨#[]⟩], .int .i64 ((f : Int) + 2), .bool true]) (by simp [results, Tryz.results43, go_sem, *]) rfl ?_
      rw [HN.out]
      exact ⟨.slice none 0 0, by simp only [Int.natCast_add]; rfl, AttrsAt.nil _, ((Below.refl _ w).alloc (Nat.le_refl _) _).alloc (by simp) _⟩
  · have HB1 := fun W => Lib.hid (rbeg_any (s.extract f s.size) ⟨#[62]⟩ true W (by rw [from_list]; exact h1))
    have h2 : [45, 62].isPrefixOf (s.data.toList.drop f) = false := by
      obtain ⟨r, hr⟩ := prefix_split _ _ h1
      rw [hr]
      rfl
    have HN : Hid (remarkT s.data.toList f = (noteT [], f + 1)) := Lib.hid (by unfold remarkT; rw [if_neg (by rw [h2]; decide), if_pos h1])
    clear h1 h2
    go_enter Tryz.func43, Tryz.ntmps43
    go_wp2_with fail
    refine (HB1 _).out.mono ?_
    rintro e w1 ⟨rfl, rfl⟩
    go_wp2_with fail
    refine bodyPost_ret (v := .tuple #[.agg #[.int .i64 4, .string ⟨#[]⟩, .slice none 0 0, .bool false, .string ⟨#[]⟩], .int .i64 ((f : Int) + 1), .bool true]) (by simp [results, Tryz.results43, go_sem, *]) rfl ?_
    rw [HN.out]
    exact ⟨.slice none 0 0, by simp only [Int.natCast_add]; rfl, AttrsAt.nil _, ((Below.refl _ w).alloc (Nat.le_refl _) _).alloc (by simp) _⟩
end Go.Proofs.YtgelgfgcdfnacaaGreatDoor
