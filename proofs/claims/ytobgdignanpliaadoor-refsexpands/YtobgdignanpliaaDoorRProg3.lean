/-
  The walks of the program's Ref and Expand. Any text of at most 2^30 bytes; the program's table holds what its text lays.
-/
import Derived.Test.YtobgdignanpliaaDoorRProg2
import Derived.Test.YtobgdignanpliaaDoorRExp
import Derived.Lib.IndexLaws
namespace Go.Proofs.YtobgdignanpliaaDoor
open Go.RowKit
namespace Plain
theorem byte_is (a c : UInt8) (n : Nat) (hn : a.toNat = n) : a = c ↔ c.toNat = n := by
  constructor
  · intro h
    rw [← h, hn]
  · intro h
    exact UInt8.toNat_inj.1 (by rw [hn, h])
theorem getD_nil (j : Nat) : (([] : List UInt8).getD j 0).toNat = 0 := by simp
theorem pre1 (l : List UInt8) (a : UInt8) (n : Nat) (hn : a.toNat = n) (h0 : n ≠ 0) : Lib.hasPrefix l [a] = true ↔ (l.getD 0 0).toNat = n := by
  unfold Lib.hasPrefix
  cases l with
  | nil =>
    rw [getD_nil]
    exact ⟨fun h => (by cases h), fun h => absurd h.symm h0⟩
  | cons c r =>
    rw [List.isPrefixOf_cons_cons, Bool.and_eq_true, beq_iff_eq, byte_is a c n hn]
    exact ⟨fun h => h.1, fun h => ⟨h, rfl⟩⟩
theorem pre2 (l : List UInt8) (a b : UInt8) (n m : Nat) (hn : a.toNat = n) (h0 : n ≠ 0) (hm : b.toNat = m) (h1 : m ≠ 0) : Lib.hasPrefix l [a, b] = true ↔ (l.getD 0 0).toNat = n ∧ (l.getD 1 0).toNat = m := by
  cases l with
  | nil =>
    rw [getD_nil]
    exact ⟨fun h => (by cases h), fun h => absurd h.1.symm h0⟩
  | cons c r =>
    have := pre1 r b m hm h1
    unfold Lib.hasPrefix at *
    rw [List.isPrefixOf_cons_cons, Bool.and_eq_true, this, beq_iff_eq, byte_is a c n hn]
    exact Iff.rfl
theorem pre3 (l : List UInt8) (a b d : UInt8) (n m k : Nat) (hn : a.toNat = n) (h0 : n ≠ 0) (hm : b.toNat = m) (h1 : m ≠ 0) (hk : d.toNat = k) (h2 : k ≠ 0) : Lib.hasPrefix l [a, b, d] = true ↔ (l.getD 0 0).toNat = n ∧ (l.getD 1 0).toNat = m ∧ (l.getD 2 0).toNat = k := by
  cases l with
  | nil =>
    rw [getD_nil]
    exact ⟨fun h => (by cases h), fun h => absurd h.1.symm h0⟩
  | cons c r =>
    have := pre2 r b d m k hm h1 hk h2
    unfold Lib.hasPrefix at *
    rw [List.isPrefixOf_cons_cons, Bool.and_eq_true, this, beq_iff_eq, byte_is a c n hn]
    exact Iff.rfl
theorem pre_len (l p : List UInt8) (h : Lib.hasPrefix l p = true) : p.length ≤ l.length := by
  unfold Lib.hasPrefix at h
  rw [List.isPrefixOf_iff_prefix] at h
  exact h.length_le
/-- Which way Ref goes. -/
theorem ref_x (l : List UInt8) (attr : Bool) (h : Lib.hasPrefix l [38, 35, 120] = true ∨ Lib.hasPrefix l [38, 35, 88] = true) : ref l attr = numbered l 3 16 := by
  unfold ref
  rcases h with h | h
  · obtain ⟨a, b, c⟩ := (pre3 l 38 35 120 38 35 120 rfl (by decide) rfl (by decide) rfl (by decide)).1 h
    rw [if_pos a, if_pos b, if_pos (Or.inl c)]
  · obtain ⟨a, b, c⟩ := (pre3 l 38 35 88 38 35 88 rfl (by decide) rfl (by decide) rfl (by decide)).1 h
    rw [if_pos a, if_pos b, if_pos (Or.inr c)]
theorem ref_ten (l : List UInt8) (attr : Bool) (h1 : Lib.hasPrefix l [38, 35, 120] = false) (h2 : Lib.hasPrefix l [38, 35, 88] = false) (h : Lib.hasPrefix l [38, 35] = true) : ref l attr = numbered l 2 10 := by
  unfold ref
  obtain ⟨a, b⟩ := (pre2 l 38 35 38 35 rfl (by decide) rfl (by decide)).1 h
  rw [if_pos a, if_pos b, if_neg]
  intro hc
  rcases hc with hc | hc
  · rw [(pre3 l 38 35 120 38 35 120 rfl (by decide) rfl (by decide) rfl (by decide)).2 ⟨a, b, hc⟩] at h1
    cases h1
  · rw [(pre3 l 38 35 88 38 35 88 rfl (by decide) rfl (by decide) rfl (by decide)).2 ⟨a, b, hc⟩] at h2
    cases h2
theorem ref_name (l : List UInt8) (attr : Bool) (h1 : Lib.hasPrefix l [38, 35] = false) (h : Lib.hasPrefix l [38] = true) : ref l attr = named l attr := by
  unfold ref
  have a := (pre1 l 38 38 rfl (by decide)).1 h
  rw [if_pos a, if_neg]
  intro hc
  rw [(pre2 l 38 35 38 35 rfl (by decide) rfl (by decide)).2 ⟨a, hc⟩] at h1
  cases h1
theorem ref_bare (l : List UInt8) (attr : Bool) (h : Lib.hasPrefix l [38] = false) : ref l attr = ([], 0) := by
  refine ref_plain l attr fun a => ?_
  rw [(pre1 l 38 38 rfl (by decide)).2 a] at h
  cases h
end Plain

theorem has_at (s p : ByteArray) (b : Bool) (hb : Lib.hasPrefix s.data.toList p.data.toList = b) (w : World) : Calls Tryd.prog 26 #[.string s, .string p] w (Gives (.bool b) w) :=
  (Tryd.strings_HasPrefix s p w).mono fun _ _ h => ⟨by rw [h.1, hb], h.2.symm⟩
theorem long_of (s : ByteArray) (p : List UInt8) (h : Lib.hasPrefix s.data.toList p = true) : p.length ≤ s.size := by
  have := Plain.pre_len _ _ h
  simpa using this

set_option maxHeartbeats 2000000 in
set_option maxRecDepth 100000 in
theorem ref_any (s : ByteArray) (attr : Bool) (w : World) (hs : s.size ≤ 4294967296) (hE : HasEarly w) : Calls Tryd.prog 16 #[.string s, .bool attr] w (Tells2 (Plain.ref s.data.toList attr) w) := by
  have HE := Lib.hid hE
  clear hE
  cases h1 : Lib.hasPrefix s.data.toList [38, 35, 120]
  · have A1 := fun W => Lib.hid (has_at s ⟨#[38, 35, 120]⟩ false h1 W)
    cases h2 : Lib.hasPrefix s.data.toList [38, 35, 88]
    · have A2 := fun W => Lib.hid (has_at s ⟨#[38, 35, 88]⟩ false h2 W)
      cases h3 : Lib.hasPrefix s.data.toList [38, 35]
      · have A3 := fun W => Lib.hid (has_at s ⟨#[38, 35]⟩ false h3 W)
        cases h4 : Lib.hasPrefix s.data.toList [38]
        · have A4 := fun W => Lib.hid (has_at s ⟨#[38]⟩ false h4 W)
          rw [Plain.ref_bare _ attr h4]
          clear h1 h2 h3 h4
          go_enter Tryd.func16, Tryd.ntmps16
          go_wp2_with fail
          refine (A1 _).out.mono ?_
          rintro e w1 ⟨rfl, rfl⟩
          go_wp2_with fail
          refine (A2 _).out.mono ?_
          rintro e w1 ⟨rfl, rfl⟩
          go_wp2_with fail
          refine (A3 _).out.mono ?_
          rintro e w1 ⟨rfl, rfl⟩
          go_wp2_with fail
          refine (A4 _).out.mono ?_
          rintro e w1 ⟨rfl, rfl⟩
          go_wp2
          go_ret2
          exact ⟨rfl, Below.refl _ _⟩
        · have A4 := fun W => Lib.hid (has_at s ⟨#[38]⟩ true h4 W)
          have A5 := fun W => Lib.hid (named_any s attr W (long_of s _ h4) hs)
          rw [Plain.ref_name _ attr h3 h4]
          clear h1 h2 h3 h4
          go_enter Tryd.func16, Tryd.ntmps16
          go_wp2_with fail
          refine (A1 _).out.mono ?_
          rintro e w1 ⟨rfl, rfl⟩
          go_wp2_with fail
          refine (A2 _).out.mono ?_
          rintro e w1 ⟨rfl, rfl⟩
          go_wp2_with fail
          refine (A3 _).out.mono ?_
          rintro e w1 ⟨rfl, rfl⟩
          go_wp2_with fail
          refine (A4 _).out.mono ?_
          rintro e w1 ⟨rfl, rfl⟩
          go_wp2_with fail
          refine (A5 _).out.mono ?_
          rintro e w1 ⟨rfl, b1⟩
          go_wp2
          go_ret2
          exact ⟨rfl, b1⟩
      · have A3 := fun W => Lib.hid (has_at s ⟨#[38, 35]⟩ true h3 W)
        have A5 := fun W hW => Lib.hid (numbered_any s 2 10 W (Or.inl rfl) (long_of s _ h3) hs hW)
        rw [Plain.ref_ten _ attr h1 h2 h3]
        clear h1 h2 h3
        go_enter Tryd.func16, Tryd.ntmps16
        go_wp2_with fail
        refine (A1 _).out.mono ?_
        rintro e w1 ⟨rfl, rfl⟩
        go_wp2_with fail
        refine (A2 _).out.mono ?_
        rintro e w1 ⟨rfl, rfl⟩
        go_wp2_with fail
        refine (A3 _).out.mono ?_
        rintro e w1 ⟨rfl, rfl⟩
        go_wp2_with fail
        refine (A5 _ HE.out).out.mono ?_
        rintro e w1 ⟨rfl, b1⟩
        go_wp2
        go_ret2
        exact ⟨rfl, b1⟩
    · have A2 := fun W => Lib.hid (has_at s ⟨#[38, 35, 88]⟩ true h2 W)
      have A5 := fun W hW => Lib.hid (numbered_any s 3 16 W (Or.inr rfl) (long_of s _ h2) hs hW)
      rw [Plain.ref_x _ attr (Or.inr h2)]
      clear h1 h2
      go_enter Tryd.func16, Tryd.ntmps16
      go_wp2_with fail
      refine (A1 _).out.mono ?_
      rintro e w1 ⟨rfl, rfl⟩
      go_wp2_with fail
      refine (A2 _).out.mono ?_
      rintro e w1 ⟨rfl, rfl⟩
      go_wp2_with fail
      refine (A5 _ HE.out).out.mono ?_
      rintro e w1 ⟨rfl, b1⟩
      go_wp2
      go_ret2
      exact ⟨rfl, b1⟩
  · have A1 := fun W => Lib.hid (has_at s ⟨#[38, 35, 120]⟩ true h1 W)
    have A5 := fun W hW => Lib.hid (numbered_any s 3 16 W (Or.inr rfl) (long_of s _ h1) hs hW)
    rw [Plain.ref_x _ attr (Or.inl h1)]
    clear h1
    go_enter Tryd.func16, Tryd.ntmps16
    go_wp2_with fail
    refine (A1 _).out.mono ?_
    rintro e w1 ⟨rfl, rfl⟩
    go_wp2_with fail
    refine (A5 _ HE.out).out.mono ?_
    rintro e w1 ⟨rfl, b1⟩
    go_wp2
    go_ret2
    exact ⟨rfl, b1⟩
end Go.Proofs.YtobgdignanpliaaDoor
