/-
  The walk of the reference's step. Any text of at most 2^28 bytes.
-/
import Derived.Test.YtgelgfgcdfnacaaGreatDoorXRef3
namespace Go.Proofs.YtgelgfgcdfnacaaGreatDoor
open Go.RowKit

theorem rat_lex (s : ByteArray) (k : Nat) (b : Bool) (hk : k < s.size) (hs : s.size ≤ 268435456) (h : Plain.atTag (s.data.toList.drop k) = b) (W : World) : Calls Tryz.prog 40 #[.string s, .int .i64 (k : Int)] W (Gives (.bool b) W) := by
  have HA := rat_any s (k : Int) W (by omega) (by omega) (by omega)
  have hat : atPlace s.data.toList (k : Int) = Plain.atTag (s.data.toList.drop k) := by
    unfold atPlace
    rw [len_of, decide_eq_true (by omega), decide_eq_true (by omega), Bool.true_and, Bool.true_and, Int.toNat_natCast]
  rwa [hat, h] at HA

set_option maxHeartbeats 4000000 in
set_option maxRecDepth 100000 in
theorem rstep_plain (s A : ByteArray) (k : Nat) (w : World) (hk : k < s.size) (hs : s.size ≤ 268435456) : Calls Tryz.prog 25 #[.string s, .int .i64 (k : Int), .int .i64 3, .string A] w (StepOut s.data.toList k 3 A.data.toList w) := by
  have HX := Lib.hid (ResW.start w)
  have HNX : Hid (nextT s.data.toList k 3 A.data.toList = (textT (Plain.clear (s.data.toList.drop k)), s.size)) := Lib.hid (by
    unfold nextT
    rw [if_neg (by rw [len_of]; omega), if_pos rfl, len_of])
  have HC := fun W => Lib.hid (rclear_any (s.extract k s.size) W (by simp; omega))
  rw [from_list] at HC
  generalize Plain.clear (s.data.toList.drop k) = C at *
  go_enter Tryz.func25, Tryz.ntmps25
  go_wp2_with fail
  generalize w.alloc (.cells #[.int .i64 0, .string ⟨#[]⟩, .slice none 0 0, .bool false, .string ⟨#[]⟩] 33) = W0 at *
  refine (HC W0).out.mono ?_
  rintro e w9 ⟨rfl, rfl⟩
  have hlt := HX.out.lt
  have r0 := HX.out.r 0
  have r1 := HX.out.r 1
  have r2 := HX.out.r 2
  have r3 := HX.out.r 3
  have r4 := HX.out.r 4
  have fr := HX.out.fr
  go_wp2_with fail
  obtain ⟨d1, d2⟩ := HX.out.done (AttrsAt.nil _) (.int .i64 3) (.string ⟨#[]⟩) (.slice none 0 0) (.bool false) (.string ⟨C.toArray⟩)
  refine bodyPost_ret (v := .tuple #[.agg #[.int .i64 3, .string ⟨#[]⟩, .slice none 0 0, .bool false, .string ⟨C.toArray⟩], .int .i64 (s.size : Int), .bool true]) (by simp [results, Tryz.results25, go_sem, *]) rfl ?_
  refine Or.inl ?_
  rw [HNX.out]
  exact ⟨_, rfl, d2, d1⟩
set_option maxHeartbeats 4000000 in
set_option maxRecDepth 100000 in
theorem rstep_closed (s A : ByteArray) (k st : Nat) (w : World) (hk : k < s.size) (hst : st = 1 ∨ st = 2) (hs : s.size ≤ 268435456) (hA : A.size ≤ 1000) : Calls Tryz.prog 25 #[.string s, .int .i64 (k : Int), .int .i64 (st : Int), .string A] w (StepOut s.data.toList k st A.data.toList w) := by
  have HX := Lib.hid (ResW.start w)
  have HCL := fun W => Lib.hid (rclosed_any s A k st W hk hst hs hA)
  have q3 : ((st : Int) == 3) = false := beq_eq_false_iff_ne.2 (by omega)
  have q12 : (((st : Int) == 1) = true) ∨ (((st : Int) == 1) = false ∧ ((st : Int) == 2) = true) := by
    rcases hst with h | h
    · left; simp [h]
    · right; simp [h]
  have HGO : Hid (∀ (W0 : World), ResW w W0 → Calls Tryz.prog 39 #[.string s, .int .i64 (k : Int), .int .i64 (st : Int), .string A] W0 fun e w2 => (∃ (K : Int) (N : ByteArray) (p : Option Addr) (n c : Nat) (b : Bool) (T : ByteArray) (q : Nat) (is : Bool), e = .returned (.tuple #[.agg #[.int .i64 K, .string N, .slice p n c, .bool b, .string T], .int .i64 (q : Int), .bool is]) ∧ ResW w w2 ∧ (∀ W', (∀ g j, g ≠ w.heap.size → W'.cell? ⟨g, j, none⟩ = w2.cell? ⟨g, j, none⟩) → w2.heap.size ≤ W'.heap.size → Below w.heap.size w W' → StepOut s.data.toList k st A.data.toList w (.returned (.tuple #[.agg #[.int .i64 K, .string N, .slice p n c, .bool b, .string T], .int .i64 (q : Int), .bool is])) W'))) := by
    refine Lib.hid fun W0 hX => (HCL W0).out.mono fun e w2 h => ?_
    rcases h with ⟨v, rfl, ha, b2⟩ | ⟨K, N, p, n, c, b, T, q, rfl, h1, h2, h3, b2⟩
    · obtain ⟨p, c, hv⟩ := ha.form
      subst hv
      refine ⟨_, _, p, _, c, _, _, _, true, rfl, hX.on b2, fun W' hc hz hB => Or.inl ⟨_, rfl, ha.off (b := w.heap.size) ((hX.on b2).r 0) hz (fun g j hg => hc g j hg), hB⟩⟩
    · exact ⟨K, N, p, n, c, b, T, q, false, rfl, hX.on b2, fun W' _ _ hB => Or.inr ⟨K, N, p, n, c, b, T, q, rfl, h1, h2, h3, hB⟩⟩
  clear HCL
  rcases q12 with q1 | ⟨q1, q2⟩
  · go_enter Tryz.func25, Tryz.ntmps25
    go_wp2_with fail
    generalize w.alloc (.cells #[.int .i64 0, .string ⟨#[]⟩, .slice none 0 0, .bool false, .string ⟨#[]⟩] 33) = W0 at *
    refine (HGO.out W0 HX.out).mono ?_
    rintro e w2 ⟨K, N, p, n, c, b, T, q, is, rfl, hX2, hfin⟩
    have HX2 := Lib.hid hX2
    have HF := Lib.hid hfin
    clear hX2 hfin HX HGO
    have hlt := HX2.out.lt
    have r0 := HX2.out.r 0
    have r1 := HX2.out.r 1
    have r2 := HX2.out.r 2
    have r3 := HX2.out.r 3
    have r4 := HX2.out.r 4
    have fr := HX2.out.fr
    go_wp2_with fail
    refine bodyPost_ret (v := .tuple #[.agg #[.int .i64 K, .string N, .slice p n c, .bool b, .string T], .int .i64 (q : Int), .bool is]) (by simp [results, Tryz.results25, go_sem, *]) rfl ?_
    refine HF.out _ (fun g j hg => ?_) (by simp) ?_
    · iterate 5 rw [World.cell?_setCell_other _ _ _ _ (fun q => hg (by injection q with q1; exact q1.symm))]
    · iterate 5 refine Below.setCell ?_ (by simp) _
      exact HX2.out.below
  · go_enter Tryz.func25, Tryz.ntmps25
    go_wp2_with fail
    generalize w.alloc (.cells #[.int .i64 0, .string ⟨#[]⟩, .slice none 0 0, .bool false, .string ⟨#[]⟩] 33) = W0 at *
    refine (HGO.out W0 HX.out).mono ?_
    rintro e w2 ⟨K, N, p, n, c, b, T, q, is, rfl, hX2, hfin⟩
    have HX2 := Lib.hid hX2
    have HF := Lib.hid hfin
    clear hX2 hfin HX HGO
    have hlt := HX2.out.lt
    have r0 := HX2.out.r 0
    have r1 := HX2.out.r 1
    have r2 := HX2.out.r 2
    have r3 := HX2.out.r 3
    have r4 := HX2.out.r 4
    have fr := HX2.out.fr
    go_wp2_with fail
    refine bodyPost_ret (v := .tuple #[.agg #[.int .i64 K, .string N, .slice p n c, .bool b, .string T], .int .i64 (q : Int), .bool is]) (by simp [results, Tryz.results25, go_sem, *]) rfl ?_
    refine HF.out _ (fun g j hg => ?_) (by simp) ?_
    · iterate 5 rw [World.cell?_setCell_other _ _ _ _ (fun q => hg (by injection q with q1; exact q1.symm))]
    · iterate 5 refine Below.setCell ?_ (by simp) _
      exact HX2.out.below
end Go.Proofs.YtgelgfgcdfnacaaGreatDoor
