/-
  The program's Site, the reference's and a tape, side by side: the steps of the law SiteScopes.
-/
import Derived.Test.YtbadckkcjjfnoaaSRS8
namespace Go.Proofs.Ytbadckkcjjfnoaa
open Go.RowKit

/-- The program's Site has the elements ks open, the reference's js; a tape beside both. -/
structure SC (w w0 W : World) (v : Value) (n A B Z : Nat) (ks js : List Nat) : Prop where
  ex : ∃ (M M1 P1 R1 : Nat → Prop) (D : Nat) (S : List PN) (T : Nat) (S1 : List Cl), SiteK w0 W M B S [] (elsR ks) false T ∧ TapeK8 w W M v n A ∧ RSite M1 P1 R1 W Z D S1 (List.range (js.length + 1)) ∧
    (∀ b, (M1 b ∨ P1 b ∨ R1 b ∨ b = Z) → ¬ M b ∧ b ≠ A ∧ w0.heap.size ≤ b ∧ b < W.heap.size) ∧ LastOk S ∧ S.length = ks.length + 1 ∧ T ≤ 1 + ks.length ∧ RefOk S1 js
  sz : w.heap.size ≤ w0.heap.size
  szA : w0.heap.size ≤ A
  ks17 : ∀ k ∈ ks, k < 17
  kl : ks.length ≤ 20
  jl : js.length ≤ 20
variable {w w0 W w' : World} {v : Value} {n A B Z : Nat} {ks js : List Nat}
theorem SC.on (h : SC w w0 W v n A B Z ks js) (hb : Below W.heap.size W w') : SC w w0 w' v n A B Z ks js := by
  obtain ⟨⟨M, M1, P1, R1, D, S, T, S1, h1, h2, h3, h4, h5, h6, h7, h8⟩, z1, z2, z3, z4, z5⟩ := h
  exact ⟨⟨M, M1, P1, R1, D, S, T, S1, h1.on hb, h2.on hb, h3.on hb, fun b k => ⟨(h4 b k).1, (h4 b k).2.1, (h4 b k).2.2.1, Nat.lt_of_lt_of_le (h4 b k).2.2.2 hb.size⟩, h5, h6, h7, h8⟩, z1, z2, z3, z4, z5⟩
theorem SC.below (h : SC w w0 W v n A B Z ks js) : Below w0.heap.size w0 W := by
  obtain ⟨⟨M, M1, P1, R1, D, S, T, S1, h1, _⟩, _⟩ := h
  exact h1.below
theorem cNext (h : SC w w0 W v n A B Z ks js) (m : Nat) (hm1 : 1 ≤ m) (hm2 : m ≤ 2147483647) :
    Calls Try.prog 47 #[.pointer (some ⟨A, 0, none⟩), .int .i64 (m : Int)] W (fun e w' => ∃ r : Nat, r < m ∧ e = .returned (.int .i64 (r : Int)) ∧ SC w w0 w' v n A B Z ks js) := by
  obtain ⟨⟨M, M1, P1, R1, D, S, T, S1, k, t, h3, h4, h5, h6, h7, h8⟩, z1, z2, z3, z4, z5⟩ := h
  refine (tape_next w v n A m W t.tape hm1 hm2).mono ?_
  rintro e w' ⟨r, hr, he, hs, ht⟩
  have htt := hs.turns8
  exact ⟨r, hr, he, ⟨M, M1, P1, R1, D, S, T, S1, ⟨k.site.on htt (fun b _ kk e => t.off (by rw [← e]; exact kk)), fun b kk => ⟨(k.inn b kk).1, by rw [hs.size]; exact (k.inn b kk).2⟩, k.below.trans (htt.below k.below.size fun b hb e => by omega)⟩, ⟨ht, t.off, by rw [hs.size]; exact t.lt⟩, h3.turn htt (fun b q e => (h4 b q).2.1 e), fun b q => ⟨(h4 b q).1, (h4 b q).2.1, (h4 b q).2.2.1, by rw [hs.size]; exact (h4 b q).2.2.2⟩, h5, h6, h7, h8⟩, z1, z2, z3, z4, z5⟩
theorem cMore (h : SC w w0 W v n A B Z ks js) :
    Calls Try.prog 46 #[.pointer (some ⟨A, 0, none⟩)] W (fun e w' => ∃ b, e = .returned (.bool b) ∧ SC w w0 w' v n A B Z ks js) := by
  have h0 := h
  obtain ⟨⟨M, M1, P1, R1, D, S, T, S1, k, t, _⟩, _⟩ := h0
  refine (tape_more w v n A W t.tape).mono ?_
  rintro e w' ⟨b, q, he, rfl⟩
  exact ⟨b, he, h.on (below_drewN (Below.refl _ _) q)⟩
theorem nm8_len (k : Nat) : (nm8 k).length ≤ 10 := by
  have h : ∀ k < 17, (nm8 k).length ≤ 10 := by decide
  by_cases hk : k < 17
  · exact h k hk
  · unfold nm8
    rw [List.getD_eq_getElem?_getD, List.getElem?_eq_none (by simp [names8]; omega)]
    exact Nat.zero_le _
theorem cAddP (h : SC w w0 W v n A B Z ks js) (k : Nat) (hk : k < 17) (hl : ks.length < 20) :
    Calls Try.prog 48 #[.pointer (some ⟨B, 0, none⟩), .int .i64 1, .string ⟨(nm8 k).toArray⟩, .slice none 0 0] W (fun e w' => ∃ z : Int, e = .returned (.int .i64 z) ∧ SC w w0 w' v n A B Z (ks ++ [k]) js) := by
  obtain ⟨⟨M, M1, P1, R1, D, S, T, S1, kk, t, h3, h4, h5, h6, h7, h8⟩, z1, z2, z3, z4, z5⟩ := h
  have ht : pHas S (lastE (elsR ks)).n = true := by rw [elsR_last, pHas_iff]; omega
  have hnm := nm8_len k
  refine (kAdd kk (fun _ => True) 1 (nm8 k) [] (.slice none 0 0) (AttrsP.nil _ _ _ _) (by simp) (by omega) (by rw [elsR_len]; omega) (by rw [elsR_len]; omega) (by omega) (by omega) 1 (okAdd_off h5 ht 1 (nm8 k) [])).mono ?_
  rintro e w' ⟨he, M', k', hs, htt⟩
  have hadd := add_kp h5 ht 1 (nm8 k) []
  refine ⟨_, he, ⟨M', M1, P1, R1, D, addS false S (elsR ks) 1 (nm8 k) [], T + 1, S1, ?_, t.turns (w1 := w0) hs htt (fun b hb => (kk.inn b hb).1) z1, h3.turn htt (fun b q e => (h4 b q).1 e), fun b q => ⟨fun e => (h4 b q).1 (hs b (h4 b q).2.2.2 e), (h4 b q).2.1, (h4 b q).2.2.1, Nat.lt_of_lt_of_le (h4 b q).2.2.2 htt.size⟩, add_last h5 ht 1 (nm8 k) [] (by simp), by have := hadd.len; simp at this ⊢; omega, by simp; omega, h8⟩, z1, z2, ?_, by simp; omega, z5⟩
  · rw [elsR_snoc]
    rw [h6] at k'
    exact k'
  · intro x hx
    rcases List.mem_append.1 hx with hx | hx
    · exact z3 x hx
    · rw [List.mem_singleton.1 hx]; exact hk
theorem cAddR (h : SC w w0 W v n A B Z ks js) (k : Nat) (hl : js.length < 20) :
    Calls Try.prog 50 #[.pointer (some ⟨Z, 0, none⟩), .int .i64 1, .string ⟨(nm8 k).toArray⟩, .slice none 0 0] W (fun e w' => ∃ z : Int, e = .returned (.int .i64 z) ∧ SC w w0 w' v n A B Z ks (js ++ [k])) := by
  obtain ⟨⟨M, M1, P1, R1, D, S, T, S1, kk, t, h3, h4, h5, h6, h7, h8⟩, z1, z2, z3, z4, z5⟩ := h
  have hlen := h8.len
  rw [List.range_succ] at h3
  refine (raddP8 1 (nm8 k) h3 h8.inv (fun c hc => by have := h8.rows c hc; omega) (by omega) (by simp; omega) (fun x hx => by
    rcases List.mem_append.1 hx with hx | hx
    · have := List.mem_range.1 hx; omega
    · rw [List.mem_singleton.1 hx]; omega) (fun ht => h8.kind _ ht)).mono ?_
  rintro e w' ⟨he, M', P', R', hr, hm, hp, hrr, htt⟩
  have hz := htt.size
  have hin : ∀ b, (M' b ∨ P' b ∨ R' b ∨ b = Z) → b < w'.heap.size := by
    obtain ⟨_, f1, f2, _, _, _⟩ := hr.doc.facts
    rintro b (q | q | q | q)
    · exact f1 b q
    · exact f2 b q
    · exact hr.rin b q
    · rw [q]; exact hr.zlt
  have hold : ∀ b, b < W.heap.size → (M' b ∨ P' b ∨ R' b ∨ b = Z) → (M1 b ∨ P1 b ∨ R1 b ∨ b = Z) := by
    rintro b hb (q | q | q | q)
    · exact .inl (hm b hb q)
    · exact .inr (.inl (hp b hb q))
    · exact .inr (.inr (.inl (hrr b hb q)))
    · exact .inr (.inr (.inr q))
  have hT : ∀ b, (M1 b ∨ b = Z) → ¬ M b ∧ b ≠ A ∧ w0.heap.size ≤ b := fun b q => by
    have := h4 b (q.elim .inl fun q => .inr (.inr (.inr q)))
    exact ⟨this.1, this.2.1, this.2.2.1⟩
  have hw0 := kk.below.size
  refine ⟨_, he, ⟨M, M', P', R', D, S, T, addD S1 js.length (elemNd 1 (nm8 k) []), ⟨kk.site.on htt (fun b _ q e => (hT b e).1 q), fun b q => ⟨(kk.inn b q).1, Nat.lt_of_lt_of_le (kk.inn b q).2 hz⟩, kk.below.trans (htt.below hw0 fun b hb e => by have := (hT b e).2.2; omega)⟩, ⟨t.tape.turns8 htt t.lt (fun e => (hT A e).2.1 rfl) (fun b e => by have := (hT b e).2.2; omega), t.off, Nat.lt_of_lt_of_le t.lt hz⟩, ?_, fun b q => ?_, h5, h6, h7, h8.add k⟩, z1, z2, z3, z4, by simp; omega⟩
  · rw [List.length_append, List.length_singleton, List.range_succ, List.range_succ, ← hlen]
    exact hr
  · by_cases hb : b < W.heap.size
    · have := h4 b (hold b hb q)
      exact ⟨this.1, this.2.1, this.2.2.1, hin b q⟩
    · exact ⟨fun e => by have := (kk.inn b e).2; omega, fun e => by have := t.lt; omega, by omega, hin b q⟩
theorem cHasP (h : SC w w0 W v n A B Z ks js) (c : Nat) (vl : Value) (l : List (List UInt8)) (hv : StrsAt W vl l) (hs : l.length ≤ 100) (hl : ∀ s ∈ l, s.length ≤ 100) :
    Calls Try.prog 52 #[.pointer (some ⟨B, 0, none⟩), .int .i64 (c : Int), vl] W (Brings (.bool (hasE (elsR ks) (c : Int) l)) W) := by
  obtain ⟨⟨M, M1, P1, R1, D, S, T, S1, kk, t, h3, h4, h5, h6, h7, h8⟩, z1, z2, z3, z4, z5⟩ := h
  exact (bHas kk.b (c : Int) vl l hv (by rw [elsR_len]; omega) (by rw [elsR_len]; omega) (by omega) (fun s hs => by have := hl s hs; omega)).mono fun _ _ q => ⟨q.1, q.2.2⟩
theorem cHasR (h : SC w w0 W v n A B Z ks ks) (c : Nat) (hc : c < 5) (vl : Value) (l : List (List UInt8)) (hv : TextsAt W vl l) (hs : l.length ≤ 100) :
    Calls Try.prog 53 #[.pointer (some ⟨Z, 0, none⟩), .int .i64 (c : Int), vl] W (Brings (.bool (hasE (elsR ks) (c : Int) l)) W) := by
  obtain ⟨⟨M, M1, P1, R1, D, S, T, S1, kk, t, h3, h4, h5, h6, h7, h8⟩, z1, z2, z3, z4, z5⟩ := h
  have := rhasP8 (c : Int) vl l h3 h8.row hv (by omega)
  rwa [← has_same h8 z3 c hc l] at this
end Go.Proofs.Ytbadckkcjjfnoaa
