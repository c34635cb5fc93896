/-
  The walks of the program's named and Ref. Any text of at most 2^32 bytes; the program's table holds what its text lays.
-/
import Derived.Test.YtobgdignanpliaaDoorRProg
import Derived.Test.YtobgdignanpliaaDoorShelf2
namespace Go.Proofs.YtobgdignanpliaaDoor
open Go.RowKit

theorem take_of (s : ByteArray) (L : Nat) : (s.extract 1 (L + 1)).data.toList = (s.data.toList.drop 1).take L := by
  rw [Lib.extract_data, Nat.add_sub_cancel]
theorem slice_name (s : ByteArray) (M : Nat) (W : World) (h : M + 1 + 1 ≤ s.size) : (Instr.slice 9 (.string s) (some (.int .i64 1)) (some (.int .i64 ((M : Int) + 1 + 1))) none).run Tryd.prog W = .ok (.string (s.extract 1 (M + 1 + 1))) W := by
  rw [run_slice_string W 9 s .i64 .i64 1 ((M : Int) + 1 + 1) Tryd.underlying9 (by omega) (by omega) (by omega)]
  rfl
theorem Plain.codes_ne : ∀ j, j < 46 → Plain.c1 j ≠ 0 := by decide
theorem best_step (t : List UInt8) (L : Nat) (h : Plain.bestN (L + 1) t = Plain.best t) (hl : Plain.look (t.take (L + 1)) = none) : Plain.bestN L t = Plain.best t := by
  rw [Plain.bestN, hl] at h
  exact h
theorem best_found (t : List UInt8) (L : Nat) (h : Plain.bestN (L + 1) t = Plain.best t) (v : List UInt8) (hl : Plain.look (t.take (L + 1)) = some v) : Plain.best t = some (v, L + 1) := by
  rw [Plain.bestN, hl] at h
  exact h.symm
theorem bar_next (s : ByteArray) (L : Nat) (h : L < s.size) (h59 : s[L].toNat ≠ 59) (h1 : L + 1 < s.size) : (true && Plain.barred s.data.toList L) = Plain.goesOn s[L + 1] := by
  unfold Plain.barred
  rw [Plain.getD_get s L h, Plain.getD_get s (L + 1) h1, decide_eq_true h59]
  rfl

theorem bel {w wr w1 w2 : World} {o : Obj} (h : Below w.heap.size w wr) (h1 : Below wr.heap.size wr w1) (h2 : Below (w1.alloc o).heap.size (w1.alloc o) w2) : Below w.heap.size w w2 := by
  have c1 := h.trans (h1.mono h.size)
  exact (c1.alloc c1.size o).trans (h2.mono (by have := c1.size; simp; omega))
theorem bel1 {w wr w1 : World} {o : Obj} (h : Below w.heap.size w wr) (h1 : Below wr.heap.size wr w1) : Below w.heap.size w (w1.alloc o) := by
  have c1 := h.trans (h1.mono h.size)
  exact c1.alloc c1.size o
set_option maxHeartbeats 4000000 in
set_option maxRecDepth 100000 in
theorem named_any (s : ByteArray) (attr : Bool) (w : World) (h1 : 1 ≤ s.size) (hs : s.size ≤ 4294967296) : Calls Tryd.prog 28 #[.string s, .bool attr] w (Tells2 (Plain.named s.data.toList attr) w) := by
  have hl : (s.data.toList.drop 1).length = s.size - 1 := by simp
  have HL := Lib.hid hl
  clear hl
  go_enter Tryd.func28, Tryd.ntmps28
  go_wp2
  go_loopw [6] (fun v wr => ∃ L : Nat, L ≤ 8 ∧ L + 1 ≤ s.size ∧ v = .int .i64 ((L : Int) + 1) ∧ Plain.bestN L (s.data.toList.drop 1) = Plain.best (s.data.toList.drop 1) ∧ Below w.heap.size w wr) (fun v _ => (intOf v).toNat)
  case atStart =>
    refine ⟨min 8 (s.size - 1), by omega, by omega, int_is (by omega), ?_, Below.refl _ _⟩
    unfold Plain.best
    rw [HL.out]
  case round =>
    obtain ⟨L, hL8, hLs, rfl, hbest, hb⟩ := hrel
    have HB := Lib.hid hbest
    clear hbest
    by_cases h0 : L = 0
    · subst h0
      have HN := Lib.hid (Plain.named_none s.data.toList attr HB.out.symm)
      clear HB
      go_wp2
      go_ret2
      exact tells2_of HN.out rfl hb
    · obtain ⟨M, rfl⟩ : ∃ M, L = M + 1 := ⟨L - 1, by omega⟩
      have ht := take_of s (M + 1)
      have hsl := fun W => slice_name s M W hLs
      cases hlk : Plain.look ((s.data.toList.drop 1).take (M + 1)) with
      | none =>
        have HN := Lib.hid (best_step _ M HB.out hlk)
        have HST := fun W => Lib.hid (stands_no (s.extract 1 (M + 1 + 1)) W (by rw [ht]; exact hlk))
        clear HB hlk ht h0
        go_wp2_with (go_at_call 42; refine (HST _).out.mono ?_; rintro e w1 ⟨rfl, b1⟩)
        have c1 := hb.trans (b1.mono hb.size)
        have z1 := c1.size
        refine ⟨⟨M, by omega, by omega, int_is (by omega), HN.out, ?_⟩, by simp [intOf]; omega⟩
        repeat (first | exact c1 | refine Below.setCell ?_ (by first | omega | (simp; omega)) _ | refine Below.alloc ?_ (by first | omega | (simp; omega)) _)
      | some v =>
        have hbs := best_found _ M HB.out v hlk
        obtain ⟨j, hj, hjv⟩ := Plain.mem_nm _ (Plain.look_mem _ _ hlk)
        obtain ⟨hj1, rfl⟩ := Prod.mk.inj hjv
        have hse : s.extract 1 (M + 1 + 1) = ⟨(Plain.nm j).toArray⟩ := by
          apply ByteArray.ext
          apply Array.toList_inj.1
          rw [ht, hj1]
        have HST := fun W => Lib.hid (stands_yes j hj W)
        rw [← hse] at HST
        have HTX := fun W => Lib.hid (text_of j hj W)
        have HBAR := fun h => Lib.hid (Plain.named_bar s.data.toList attr _ _ hbs h)
        have HSOME := fun h => Lib.hid (Plain.named_some s.data.toList attr _ _ hbs h)
        clear HB hlk ht h0 hbs hj1 hjv hse
        have q0 : ((Plain.c1 j : Int) == 0) = false := by
          have := Plain.codes_ne j hj
          simp; omega
        clear hj
        generalize Plain.c1 j = c1 at *
        generalize Plain.c2 j = c2 at *
        generalize Plain.vl j = V at *
        have e1 : (M : Int) + 1 + 1 - 1 = (M : Int) + 1 := by omega
        cases attr
        · have HR := Lib.hid (HSOME (by simp)).out
          clear HSOME HBAR
          go_wp2_with (first
            | (go_at_call 42; refine (HST _).out.mono ?_; rintro e w1 ⟨rfl, b1⟩)
            | (go_at_call 44; refine (HTX _).out.mono ?_; rintro e w2 ⟨rfl, b2⟩))
          go_ret2
          exact tells2_of HR.out (by omega) (bel hb b1 b2)
        · by_cases h59 : s[M + 1].toNat = 59
          · have HR := Lib.hid (HSOME (bar_semi s (M + 1) (by omega) h59)).out
            have q5 : ((s[M + 1].toNat : Int) != 59) = false := by simp [h59]
            clear HSOME HBAR h59
            go_wp2_with (first
              | (go_at_call 42; refine (HST _).out.mono ?_; rintro e w1 ⟨rfl, b1⟩)
              | (go_at_call 44; refine (HTX _).out.mono ?_; rintro e w2 ⟨rfl, b2⟩))
            go_ret2
            exact tells2_of HR.out (by omega) (bel hb b1 b2)
          · have q5 : ((s[M + 1].toNat : Int) != 59) = true := by simp; omega
            by_cases hn : M + 1 + 1 < s.size
            · have hbar := bar_next s (M + 1) (by omega) h59 hn
              have HG := fun W => Lib.hid (goesOn_any s[M + 1 + 1] W)
              have hn' : (M : Int) + 1 + 1 < (s.size : Int) := by omega
              clear h59
              cases hgo : Plain.goesOn s[M + 1 + 1]
              · have HR := Lib.hid (HSOME (by rw [hbar]; exact hgo)).out
                rw [hgo] at HG
                clear HSOME HBAR hbar hgo
                go_wp2_with (first
                  | (go_at_call 42; refine (HST _).out.mono ?_; rintro e w1 ⟨rfl, b1⟩)
                  | (go_at_call 44; refine (HTX _).out.mono ?_; rintro e w2 ⟨rfl, b2⟩)
                  | (go_at_call 43; refine (HG _).out.mono ?_; rintro e w3 ⟨rfl, rfl⟩))
                go_ret2
                exact tells2_of HR.out (by omega) (bel hb b1 b2)
              · have HR := Lib.hid (HBAR (by rw [hbar]; exact hgo)).out
                rw [hgo] at HG
                clear HSOME HBAR hbar hgo
                go_wp2_with (first
                  | (go_at_call 42; refine (HST _).out.mono ?_; rintro e w1 ⟨rfl, b1⟩)
                  | (go_at_call 44; refine (HTX _).out.mono ?_; rintro e w2 ⟨rfl, b2⟩)
                  | (go_at_call 43; refine (HG _).out.mono ?_; rintro e w3 ⟨rfl, rfl⟩))
                go_ret2
                exact tells2_of HR.out rfl (bel1 hb b1)
            · have HR := Lib.hid (HSOME (bar_end s (M + 1) hn)).out
              have hn' : ¬ (M : Int) + 1 + 1 < (s.size : Int) := by omega
              clear HSOME HBAR h59
              go_wp2_with (first
                | (go_at_call 42; refine (HST _).out.mono ?_; rintro e w1 ⟨rfl, b1⟩)
                | (go_at_call 44; refine (HTX _).out.mono ?_; rintro e w2 ⟨rfl, b2⟩))
              go_ret2
              exact tells2_of HR.out (by omega) (bel hb b1 b2)
end Go.Proofs.YtobgdignanpliaaDoor
