/-
  The walks of the reference's Ref. Any text of at most 2^32 bytes.
-/
import Derived.Test.YtgelgfgcdfnacaaGreatDoorRRef
import Derived.Deep.QuietTactic
import Derived.BigQuiet
namespace Go.Proofs.YtgelgfgcdfnacaaGreatDoor
open Go.RowKit

theorem tail_of (s : ByteArray) (k : Nat) : (s.extract k s.size).data.toList = s.data.toList.drop k := by
  rw [Lib.extract_data, List.take_of_length_le (by simp)]
theorem pre_is (t p : List UInt8) (b : Bool) (h : (p <+: t) ↔ b = true) : Lib.hasPrefix t p = b := by
  unfold Lib.hasPrefix
  rw [Bool.eq_iff_iff, List.isPrefixOf_iff_prefix]
  exact h

theorem quiet_gives {f : FuncId} {args : Array Value} {v : Value} (h : ∀ W, Hid (Calls Tryz.prog f args W (Gives v W))) (w : World) (a n : Nat) : Calls Tryz.prog f args (w.drewN (a + n)) fun e w'' => e = .returned v ∧ ∃ m, w'' = w.drewN (a + m) :=
  (h (w.drewN (a + n))).out.mono fun _ _ hh => ⟨hh.1, n, hh.2.symm⟩

theorem bar_semi (s : ByteArray) (L : Nat) (h : L < s.size) (h59 : s[L].toNat = 59) : (true && Plain.barred s.data.toList L) = false := by
  unfold Plain.barred
  rw [Plain.getD_get s L h, h59]
  rfl
theorem bar_end (s : ByteArray) (L : Nat) (h : ¬ L + 1 < s.size) : (true && Plain.barred s.data.toList L) = false := by
  unfold Plain.barred
  rw [Plain.getD_end s (L + 1) h]
  have : Plain.goesOn 0 = false := by decide
  rw [this]
  simp
theorem bar_at (s : ByteArray) (L : Nat) (h : L < s.size) (h59 : s[L].toNat ≠ 59) (h1 : 1 + L < s.size) : (true && Plain.barred s.data.toList L) = Plain.goesOn s[1 + L] := by
  unfold Plain.barred
  rw [Plain.getD_get s L h, show L + 1 = 1 + L by omega, Plain.getD_get s (1 + L) h1, decide_eq_true h59]
  rfl
theorem goes_yes (c : UInt8) (h : c.toNat = 61 ∨ letB c.toNat = true ∨ Plain.digV c < 10) : Plain.goesOn c = true := by
  unfold Plain.goesOn
  rw [decide_eq_true_eq]
  rcases h with h | h | h
  · omega
  · unfold letB at h
    rw [decide_eq_true_eq] at h
    omega
  · unfold Plain.digV at h
    (repeat' split at h) <;> omega
theorem goes_no (c : UInt8) (h1 : c.toNat ≠ 61) (h2 : letB c.toNat = false) (h3 : ¬ Plain.digV c < 10) : Plain.goesOn c = false := by
  unfold Plain.goesOn
  rw [decide_eq_false_iff_not]
  unfold letB at h2
  rw [decide_eq_false_iff_not] at h2
  unfold Plain.digV at h3
  (repeat' split at h3) <;> omega

theorem ref_none (s : ByteArray) (attr : Bool) (h : s.size < 2) : Plain.ref s.data.toList attr = ([], 0) := by
  unfold Plain.ref
  split
  · rw [Plain.getD_end s 1 (by omega), if_neg (by decide)]
    refine Plain.named_none _ _ ?_
    rw [List.drop_eq_nil_of_le (by simp; omega)]
    rfl
  · rfl
theorem ref_first (s : ByteArray) (attr : Bool) (h : 0 < s.size) (h0 : s[0].toNat ≠ 38) : Plain.ref s.data.toList attr = ([], 0) := by
  refine Plain.ref_plain _ _ ?_
  rw [Plain.getD_get s 0 h]
  exact h0
theorem ref_number (s : ByteArray) (attr : Bool) (h : 1 < s.size) (h0 : s[0].toNat = 38) (h1 : s[1].toNat = 35) : Plain.ref s.data.toList attr = rnumbered s.data.toList := by
  unfold Plain.ref rnumbered
  rw [Plain.getD_get s 0 (by omega), if_pos h0, Plain.getD_get s 1 h, if_pos h1]
theorem ref_named (s : ByteArray) (attr : Bool) (h : 1 < s.size) (h0 : s[0].toNat = 38) (h1 : s[1].toNat ≠ 35) : Plain.ref s.data.toList attr = Plain.named s.data.toList attr := by
  unfold Plain.ref
  rw [Plain.getD_get s 0 (by omega), if_pos h0, Plain.getD_get s 1 h, if_neg h1]

theorem slice_from (s : ByteArray) (k : Nat) (W : World) (h : k ≤ s.size) : (Instr.slice 9 (.string s) (some (.int .i64 (k : Int))) none none).run Tryz.prog W = .ok (.string (s.extract k s.size)) W := by
  rw [run_slice_string_from_if W 9 s .i64 (k : Int) Tryz.underlying9, if_pos (by omega)]
  simp
/-- What the loop over the names keeps, as a value. -/
def BestV (t : List UInt8) (k : Nat) (v : Value) : Prop := ∃ b : Int, v = .int .i64 b ∧ Plain.BestAt t k b

set_option maxHeartbeats 4000000 in
set_option maxRecDepth 100000 in
theorem rref_any (s : ByteArray) (attr : Bool) (w : World) (hs : s.size ≤ 4294967296) : Calls Tryz.prog 64 #[.string s, .bool attr] w (Tells2 (Plain.ref s.data.toList attr) w) := by
  by_cases h2 : s.size < 2
  · rw [ref_none s attr h2]
    go_enter Tryz.func64, Tryz.ntmps64
    go_wp2
    go_ret2
    exact ⟨rfl, Below.refl _ _⟩
  · have l1 : 1 < s.size := by omega
    have l0 : 0 < s.size := by omega
    by_cases h0 : s[0].toNat = 38
    · by_cases h1 : s[1].toNat = 35
      · rw [ref_number s attr l1 h0 h1]
        have HN := fun W => Lib.hid (rnumbered_any s W (by omega) hs)
        have q0 : ((s[0].toNat : Int) != 38) = false := by simp [h0]
        have q1 : ((s[1].toNat : Int) == 35) = true := by simp [h1]
        clear h0 h1
        go_enter Tryz.func64, Tryz.ntmps64
        go_wp2_with (go_at_call 79; refine (HN _).out.mono ?_; rintro e w1 ⟨rfl, b1⟩)
        go_ret2
        exact ⟨rfl, b1⟩
      · rw [ref_named s attr l1 h0 h1]
        have q0 : ((s[0].toNat : Int) != 38) = false := by simp [h0]
        have q1 : ((s[1].toNat : Int) == 35) = false := beq_eq_false_iff_ne.2 (by omega)
        clear h0 h1
        have HT := Lib.hid (tail_of s 1)
        have hsl : ∀ W, (Instr.slice 9 (.string s) (some (.int .i64 1)) none none).run Tryz.prog W = .ok (.string (s.extract 1 s.size)) W := fun W => slice_from s 1 W (by omega)
        go_enter Tryz.func64, Tryz.ntmps64
        go_wp2_with fail
        refine (all_by w).mono ?_
        rintro e w1 ⟨l, v, rfl, ⟨gl, cl, rfl, hgl, hcl⟩, ⟨gv, cv, rfl, hgv, hcv⟩, hb⟩
        have HCL := Lib.hid hcl
        have HCV := Lib.hid hcv
        clear hcl hcv
        go_wp2
        go_loopw [8, 9] (fun b i wr => ∃ (k q : Nat), k ≤ 46 ∧ i = .int .i64 (k : Int) ∧ BestV (s.data.toList.drop 1) k b ∧ wr = w1.drewN q) (fun _ i _ => 46 - (intOf i).toNat)
        case atStart => exact ⟨0, 0, by omega, rfl, ⟨-1, rfl, Plain.BestAt.start _⟩, rfl⟩
        case round =>
          obtain ⟨k, q, hk, rfl, ⟨b, rfl, hB⟩, rfl⟩ := hrel
          by_cases hlt : k < 46
          · have hck := HCL.out k hlt
            have HB := Lib.hid hB
            have k0 : (0 : Int) ≤ (k : Int) := by omega
            have k1 : (k : Int) < 46 := by omega
            by_cases hp : Plain.nm k <+: s.data.toList.drop 1
            · have HBG := fun W => Lib.hid (begins_any (s.extract 1 s.size) ⟨(Plain.nm k).toArray⟩ W true (by rw [HT.out]; exact pre_is _ (Plain.nm k) _ ⟨fun _ => rfl, fun _ => hp⟩))
              rcases (show b = -1 ∨ ∃ j : Nat, b = (j : Int) ∧ j < k from by rcases hB with ⟨h1, _⟩ | ⟨j, h1, h3, _⟩; exact Or.inl h1; exact Or.inr ⟨j, h1, h3⟩) with rfl | ⟨j, rfl, hj⟩
              · have HN := Lib.hid (HB.out.first hp)
                clear hB hp HB
                go_wp2
                go_quiet ((go_at_call 42; exact quiet_gives HBG _ _ _))
                go_wp2
                exact ⟨⟨k + 1, _, by omega, by go_num, ⟨k, rfl, HN.out⟩, rfl⟩, by simp [intOf]; omega⟩
              · have hcj := HCL.out j (by omega)
                have hlk := (Plain.nm_len k hlt).2
                have hlj := (Plain.nm_len j (by omega)).2
                have hj0 : ¬ (j : Int) < 0 := by omega
                have hj1 : (0 : Int) ≤ (j : Int) := by omega
                have hj2 : (j : Int) < 46 := by omega
                have hszk : (⟨(Plain.nm k).toArray⟩ : ByteArray).size = (Plain.nm k).length := by show (Plain.nm k).toArray.size = _; simp
                have hszj : (⟨(Plain.nm j).toArray⟩ : ByteArray).size = (Plain.nm j).length := by show (Plain.nm j).toArray.size = _; simp
                by_cases hll : (Plain.nm j).length < (Plain.nm k).length
                · have HN := Lib.hid (HB.out.more hp hll)
                  clear hB hp HB
                  generalize (⟨(Plain.nm k).toArray⟩ : ByteArray) = SK at *
                  generalize (⟨(Plain.nm j).toArray⟩ : ByteArray) = SJ at *
                  have hll' : SJ.size < SK.size := by omega
                  have hll2 : decide ((SJ.size : Int) < (SK.size : Int)) = true := by simp; omega
                  clear hszk hszj hll
                  go_wp2
                  go_quiet ((go_at_call 42; exact quiet_gives HBG _ _ _))
                  go_wp2
                  exact ⟨⟨k + 1, _, by omega, by go_num, ⟨k, rfl, HN.out⟩, rfl⟩, by simp [intOf]; omega⟩
                · have HN := Lib.hid (HB.out.less hll)
                  clear hB hp HB
                  generalize (⟨(Plain.nm k).toArray⟩ : ByteArray) = SK at *
                  generalize (⟨(Plain.nm j).toArray⟩ : ByteArray) = SJ at *
                  have hll' : ¬ SJ.size < SK.size := by omega
                  have hll2 : decide ((SJ.size : Int) < (SK.size : Int)) = false := by simp; omega
                  clear hszk hszj hll
                  go_wp2
                  go_quiet ((go_at_call 42; exact quiet_gives HBG _ _ _))
                  go_wp2
                  exact ⟨⟨k + 1, _, by omega, by go_num, ⟨j, rfl, HN.out⟩, rfl⟩, by simp [intOf]; omega⟩
            · have HBG := fun W => Lib.hid (begins_any (s.extract 1 s.size) ⟨(Plain.nm k).toArray⟩ W false (by rw [HT.out]; exact pre_is _ (Plain.nm k) _ ⟨fun h => absurd h hp, fun h => by cases h⟩))
              have HN := Lib.hid (HB.out.no hp)
              clear hB hp HB
              go_wp2
              go_quiet ((go_at_call 42; exact quiet_gives HBG _ _ _))
              go_wp2
              exact ⟨⟨k + 1, _, by omega, by go_num, ⟨b, rfl, HN.out⟩, rfl⟩, by simp [intOf]; omega⟩
          · have e46 : k = 46 := by omega
            rw [e46] at hB
            clear e46
            rcases (show b = -1 ∨ ∃ j : Nat, b = (j : Int) from by rcases hB with ⟨h1, _⟩ | ⟨j, h1, h3, _⟩; exact Or.inl h1; exact Or.inr ⟨j, h1⟩) with rfl | ⟨j, rfl⟩
            · have HR := Lib.hid (Plain.named_none s.data.toList attr hB.none)
              clear hB
              go_wp2
              go_ret2
              exact tells2_of HR.out rfl (below_drewN hb _)
            · obtain ⟨hj, hpre, hbest⟩ := hB.some
              have hlen := hpre.length_le
              have hlen8 := Plain.nm_len j hj
              have hcj := HCL.out j hj
              have hvj := HCV.out j hj
              have hsz : (⟨(Plain.nm j).toArray⟩ : ByteArray).size = (Plain.nm j).length := by show (Plain.nm j).toArray.size = _; simp
              have HBAR := fun h => Lib.hid (Plain.named_bar s.data.toList attr _ _ hbest h)
              have HSOME := fun h => Lib.hid (Plain.named_some s.data.toList attr _ _ hbest h)
              rw [← hsz] at HBAR HSOME hlen8 hlen
              have hl' : (⟨(Plain.nm j).toArray⟩ : ByteArray).size + 1 ≤ s.size := by simp at hlen; omega
              clear hB hbest hpre hlen hsz
              generalize (⟨(Plain.nm j).toArray⟩ : ByteArray) = SJ at *
              have hj0 : ¬ (j : Int) < 0 := by omega
              have hj1 : (0 : Int) ≤ (j : Int) := by omega
              have hj2 : (j : Int) < 46 := by omega
              have e1 : (1 : Int) + (SJ.size : Int) - 1 = (SJ.size : Int) := by omega
              cases attr
              · have HR := Lib.hid (HSOME (by simp)).out
                clear HSOME HBAR
                go_wp2
                go_ret2
                exact tells2_of HR.out (by omega) (below_drewN hb _)
              · by_cases h59 : s[SJ.size].toNat = 59
                · have HR := Lib.hid (HSOME (bar_semi s SJ.size (by omega) h59)).out
                  have q5 : ((s[SJ.size].toNat : Int) != 59) = false := by simp [h59]
                  clear HSOME HBAR h59
                  go_wp2
                  go_ret2
                  exact tells2_of HR.out (by omega) (below_drewN hb _)
                · have q5 : ((s[SJ.size].toNat : Int) != 59) = true := by simp; omega
                  by_cases hn : 1 + SJ.size < s.size
                  · have hbar := bar_at s SJ.size (by omega) h59 hn
                    have hn' : (1 : Int) + (SJ.size : Int) < (s.size : Int) := by omega
                    have hc8 : s[1 + SJ.size].toNat < 256 := s[1 + SJ.size].toNat_lt
                    have HLET := fun (x : Bool) (hx : letB s[1 + SJ.size].toNat = x) W => Lib.hid (letter_at s[1 + SJ.size].toNat x W hc8 hx)
                    have HDY := fun (h : Plain.digV s[1 + SJ.size] < 10) W => Lib.hid (rdig_yes s[1 + SJ.size] false 10 rfl h W)
                    have HDN := fun (h : ¬ Plain.digV s[1 + SJ.size] < 10) W => Lib.hid (rdig_no s[1 + SJ.size] false 10 rfl h W)
                    clear h59
                    by_cases h61 : s[1 + SJ.size].toNat = 61
                    · have HR := Lib.hid (HBAR (by rw [hbar]; exact goes_yes _ (Or.inl h61))).out
                      have q6 : ((s[1 + SJ.size].toNat : Int) == 61) = true := by simp [h61]
                      clear HSOME HBAR h61 HLET HDY HDN hbar
                      go_wp2
                      go_ret2
                      exact tells2_of HR.out rfl (below_drewN hb _)
                    · have q6 : ((s[1 + SJ.size].toNat : Int) == 61) = false := beq_eq_false_iff_ne.2 (by omega)
                      cases hlt2 : letB s[1 + SJ.size].toNat
                      · have HL2 := fun W => HLET _ hlt2 W
                        by_cases hdd : Plain.digV s[1 + SJ.size] < 10
                        · have HR := Lib.hid (HBAR (by rw [hbar]; exact goes_yes _ (Or.inr (Or.inr hdd)))).out
                          have HD2 := fun W => HDY hdd W
                          generalize Plain.digV s[1 + SJ.size] = dd at *
                          clear HSOME HBAR h61 HLET HDY HDN hbar hlt2 hdd
                          go_wp2_with (first
                            | (go_at_call 59; refine (HL2 _).out.mono ?_; rintro e w3 ⟨rfl, rfl⟩)
                            | (go_at_call 81; refine (HD2 _).out.mono ?_; rintro e w3 ⟨rfl, rfl⟩))
                          go_ret2
                          exact tells2_of HR.out rfl (below_drewN hb _)
                        · have HR := Lib.hid (HSOME (by rw [hbar]; exact goes_no _ h61 hlt2 hdd)).out
                          have HD2 := fun W => HDN hdd W
                          clear HSOME HBAR h61 HLET HDY HDN hbar hlt2 hdd
                          go_wp2_with (first
                            | (go_at_call 59; refine (HL2 _).out.mono ?_; rintro e w3 ⟨rfl, rfl⟩)
                            | (go_at_call 81; refine (HD2 _).out.mono ?_; rintro e w3 ⟨rfl, rfl⟩))
                          go_ret2
                          exact tells2_of HR.out (by omega) (below_drewN hb _)
                      · have HL2 := fun W => HLET _ hlt2 W
                        have HR := Lib.hid (HBAR (by rw [hbar]; exact goes_yes _ (Or.inr (Or.inl hlt2)))).out
                        clear HSOME HBAR h61 HLET HDY HDN hbar hlt2
                        go_wp2_with (go_at_call 59; refine (HL2 _).out.mono ?_; rintro e w3 ⟨rfl, rfl⟩)
                        go_ret2
                        exact tells2_of HR.out rfl (below_drewN hb _)
                  · have HR := Lib.hid (HSOME (bar_end s SJ.size (by omega))).out
                    have hn' : ¬ (1 : Int) + (SJ.size : Int) < (s.size : Int) := by omega
                    clear HSOME HBAR h59
                    go_wp2
                    go_ret2
                    exact tells2_of HR.out (by omega) (below_drewN hb _)
    · have q0 : ((s[0].toNat : Int) != 38) = true := by simp; omega
      rw [ref_first s attr l0 h0]
      clear h0
      go_enter Tryz.func64, Tryz.ntmps64
      go_wp2
      go_ret2
      exact ⟨rfl, Below.refl _ _⟩
end Go.Proofs.YtgelgfgcdfnacaaGreatDoor
