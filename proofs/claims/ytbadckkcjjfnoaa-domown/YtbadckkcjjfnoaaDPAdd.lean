/-
  The walks of the program's copied, add, Elem, Note, New. Any nodes, not too many.
-/
import Derived.Test.YtbadckkcjjfnoaaDPLink
import Derived.Deep.RegionLaw
import Derived.Deep.AppendLies
namespace Go.Proofs.Ytbadckkcjjfnoaa
open Go.RowKit

def fresh (n : PN) : PN := { n with up := -1, before := -1, behind := -1, first := -1, last := -1 }
def nodeOf (n : PN) (va vt : Value) : Value := .agg #[.int .i64 n.kind, .int .i64 n.space, .string ⟨n.name.toArray⟩, va, vt, .int .i64 n.up, .int .i64 n.before, .int .i64 n.behind, .int .i64 n.first, .int .i64 n.last]
theorem info_pn : ∃ i, Try.prog.info? 93 = some i ∧ i.zero = some (.agg #[.int .i64 0, .int .i64 0, .string ByteArray.empty, .slice none 0 0, .slice none 0 0, .int .i64 0, .int .i64 0, .int .i64 0, .int .i64 0, .int .i64 0]) ∧ i.size = 10 ∧ i.bytes = 120 := by
  have hi9 : (Try.prog.info? 93).map (fun i => (i.zero, i.size, i.bytes)) = some (some (.agg #[.int .i64 0, .int .i64 0, .string ByteArray.empty, .slice none 0 0, .slice none 0 0, .int .i64 0, .int .i64 0, .int .i64 0, .int .i64 0, .int .i64 0]), 10, 120) := by kernel_rfl
  obtain ⟨i0, hi, hx⟩ := Option.map_eq_some_iff.1 hi9
  simp only [Prod.mk.injEq] at hx
  exact ⟨i0, hi, hx.1, hx.2.1, hx.2.2⟩
set_option maxHeartbeats 1000000 in
set_option maxRecDepth 100000 in
theorem daddP (S : List PN) (B : Nat) (M L : Nat → Prop) (w : World) (n : PN) (pa pt : Option Addr) (la ca lt ct : Nat) (h : DocM M w B S) (hs : S.length ≤ 4294967296) (hL : ∀ b, L b → ¬ M b)
    (ha : AttrsP (fun b => L b ∧ some b ≠ (Value.slice pt lt ct).ownBlock) w (.slice pa la ca) n.attrs) (ht : OwnsB w (.slice pt lt ct) n.text) (htL : ∀ g, (Value.slice pt lt ct).ownBlock = some g → L g) :
    Calls Try.prog 72 #[.pointer (some ⟨B, 0, none⟩), nodeOf n (.slice pa la ca) (.slice pt lt ct)] w (fun e w' => e = .returned (.int .i64 (S.length : Int)) ∧ DocM (fun b => M b ∨ L b ∨ w.heap.size ≤ b) w' B (S ++ [fresh n]) ∧ Turns M w w') := by
  obtain ⟨v, qs, rfl, hq⟩ := h
  obtain ⟨p, cap, rfl, hrd⟩ := hq.reads
  have h0 := hq.cell
  have hB := hq.lt
  have hf := hq.free
  have HQ := Lib.hid hq
  have HA := Lib.hid ha
  have HTX := Lib.hid ht
  have HLL := Lib.hid hL
  have HTL := Lib.hid htL
  rw [List.length_map] at hs
  obtain ⟨i0, hi0, hz0, hz1, hz2⟩ := info_pn
  have HI := Lib.hid (And.intro hi0 (And.intro hz0 (And.intro hz1 hz2)))
  have HLen : Hid ((qs.map (·.1)).length = qs.length) := Lib.hid (by simp)
  have fb : some B ≠ (Value.slice p qs.length cap).ownBlock := fun e => (hq.rowM B e.symm).2 rfl
  clear hi0 hz0 hz1 hz2 hrd hq ha ht hL htL
  rw [HLen.out]
  unfold nodeOf
  have HW : Hid (∀ W, Below (w.alloc (.cells #[.int .i64 n.kind, .int .i64 n.space, .string ⟨n.name.toArray⟩, .slice pa la ca, .slice pt lt ct, .int .i64 (-1), .int .i64 (-1), .int .i64 (-1), .int .i64 (-1), .int .i64 (-1)] 93)).heap.size (w.alloc (.cells #[.int .i64 n.kind, .int .i64 n.space, .string ⟨n.name.toArray⟩, .slice pa la ca, .slice pt lt ct, .int .i64 (-1), .int .i64 (-1), .int .i64 (-1), .int .i64 (-1), .int .i64 (-1)] 93)) W → Below w.heap.size w W) := Lib.hid fun W b => ((Below.refl _ w).alloc (Nat.le_refl _) _).trans (b.mono (by simp))
  go_enter Try.func72, Try.ntmps72
  go_wp2_with fail
  have k0 : ∀ i, (w.alloc (.cells #[.int .i64 n.kind, .int .i64 n.space, .string ⟨n.name.toArray⟩, .slice pa la ca, .slice pt lt ct, .int .i64 (-1), .int .i64 (-1), .int .i64 (-1), .int .i64 (-1), .int .i64 (-1)] 93)).cell? ⟨w.heap.size, i, none⟩ = #[.int .i64 n.kind, .int .i64 n.space, .string ⟨n.name.toArray⟩, .slice pa la ca, .slice pt lt ct, .int .i64 (-1), .int .i64 (-1), .int .i64 (-1), .int .i64 (-1), .int .i64 (-1)][i]? := fun i => World.cell?_alloc_mark w _ _ (0, 0) i
  have k1 : (w.alloc (.cells #[.int .i64 n.kind, .int .i64 n.space, .string ⟨n.name.toArray⟩, .slice pa la ca, .slice pt lt ct, .int .i64 (-1), .int .i64 (-1), .int .i64 (-1), .int .i64 (-1), .int .i64 (-1)] 93)).cell? ⟨B, 0, none⟩ = some (.slice p qs.length cap) := (World.cell?_alloc_lt _ _ _ (by simpa using hB)).trans h0
  have hsz : w.heap.size < (w.alloc (.cells #[.int .i64 n.kind, .int .i64 n.space, .string ⟨n.name.toArray⟩, .slice pa la ca, .slice pt lt ct, .int .i64 (-1), .int .i64 (-1), .int .i64 (-1), .int .i64 (-1), .int .i64 (-1)] 93)).heap.size := by simp
  have kf : (w.alloc (.cells #[.int .i64 n.kind, .int .i64 n.space, .string ⟨n.name.toArray⟩, .slice pa la ca, .slice pt lt ct, .int .i64 (-1), .int .i64 (-1), .int .i64 (-1), .int .i64 (-1), .int .i64 (-1)] 93)).frozen? ⟨B, 0, none⟩ = false := by
    rw [((Below.refl _ w).alloc (Nat.le_refl _) (.cells #[.int .i64 n.kind, .int .i64 n.space, .string ⟨n.name.toArray⟩, .slice pa la ca, .slice pt lt ct, .int .i64 (-1), .int .i64 (-1), .int .i64 (-1), .int .i64 (-1), .int .i64 (-1)] 93)).frozen (p := ⟨B, 0, none⟩) hB]; exact hf
  generalize w.alloc (.cells #[.int .i64 n.kind, .int .i64 n.space, .string ⟨n.name.toArray⟩, .slice pa la ca, .slice pt lt ct, .int .i64 (-1), .int .i64 (-1), .int .i64 (-1), .int .i64 (-1), .int .i64 (-1)] 93) = w1 at *
  have x0 := k0 0
  have x1 := k0 1
  have x2 := k0 2
  have x3 := k0 3
  have x4 := k0 4
  have x5 := k0 5
  have x6 := k0 6
  have x7 := k0 7
  have x8 := k0 8
  have x9 := k0 9
  simp at x0 x1 x2 x3 x4 x5 x6 x7 x8 x9
  clear k0 h0 hf
  have HROW : Hid (∀ W, Below w1.heap.size w1 W → DocQ M W B (.slice p qs.length cap) qs) := Lib.hid fun W b => HQ.out.below (HW.out W b)
  have hlt1 : B < w1.heap.size := by omega
  go_region_law (refine step_append_lies _ (by rfl) _ _ 81 (by rfl) 0 93 i0 (.agg #[.int .i64 0, .int .i64 0, .string ByteArray.empty, .slice none 0 0, .slice none 0 0, .int .i64 0, .int .i64 0, .int .i64 0, .int .i64 0, .int .i64 0]) 10 120 Try.underlying81 HI.out.1 HI.out.2.1 HI.out.2.2.1 HI.out.2.2.2 rfl (by omega) (.slice p qs.length cap) qs.length (pnCells qs) (by rfl) (by first | exact (((HROW.out w1 (Below.refl _ _)).row).alloc _).drew | exact ((HROW.out w1 (Below.refl _ _)).row).drew.alloc _ | exact ((HROW.out w1 (Below.refl _ _)).row).alloc _) ⟨w1.heap.size, 0, none⟩ 1 1 [.int .i64 n.kind, .int .i64 n.space, .string ⟨n.name.toArray⟩, .slice pa la ca, .slice pt lt ct, .int .i64 (-1), .int .i64 (-1), .int .i64 (-1), .int .i64 (-1), .int .i64 (-1)] (by rfl) (by rfl) (World.news_of_block (cs := #[.int .i64 n.kind, .int .i64 n.space, .string ⟨n.name.toArray⟩, .slice pa la ca, .slice pt lt ct, .int .i64 (-1), .int .i64 (-1), .int .i64 (-1), .int .i64 (-1), .int .i64 (-1)]) (t := 93) (fr := (0, 0)) (heap_alloc_new w1 _)) (by simp [Value.oneCell']) (by omega) (by unfold maxLen; omega) (by omega) (by omega) (w1.heap.size + 1) (by simp) ?_; intro ga capa W5 hr5 hg5 hor5 hlt5; have k5 : W5.cell? ⟨B, 0, none⟩ = some (.slice p qs.length cap) := (hg5.cell_far ⟨B, 0, none⟩ (by simp; omega) fb).trans ((World.cell?_alloc_lt w1 _ _ (by simp; omega)).trans k1); have f5 : W5.frozen? ⟨B, 0, none⟩ = false := (hg5.frozen_far ⟨B, 0, none⟩ (by simp; omega) fb).trans ((((Below.refl _ w1).alloc (Nat.le_refl _) (.cells #[.int .i64 n.kind, .int .i64 n.space, .string ⟨n.name.toArray⟩, .slice pa la ca, .slice pt lt ct, .int .i64 (-1), .int .i64 (-1), .int .i64 (-1), .int .i64 (-1), .int .i64 (-1)] 93)).frozen (p := ⟨B, 0, none⟩) (by simp; omega)).trans kf); have HD5 := Lib.hid (DocQ.add (L := L) (q := (fresh n, .slice pa la ca, .slice pt lt ct)) (HROW.out _ (((Below.refl _ w1).alloc (Nat.le_refl _) (.cells #[.int .i64 n.kind, .int .i64 n.space, .string ⟨n.name.toArray⟩, .slice pa la ca, .slice pt lt ct, .int .i64 (-1), .int .i64 (-1), .int .i64 (-1), .int .i64 (-1), .int .i64 (-1)] 93)).drew)) HLL.out (HA.out.kept (.of_below (HW.out _ (((Below.refl _ w1).alloc (Nat.le_refl _) (.cells #[.int .i64 n.kind, .int .i64 n.space, .string ⟨n.name.toArray⟩, .slice pa la ca, .slice pt lt ct, .int .i64 (-1), .int .i64 (-1), .int .i64 (-1), .int .i64 (-1), .int .i64 (-1)] 93)).drew)))) (OwnsB.kept (M := fun _ => False) HTX.out (.of_below (HW.out _ (((Below.refl _ w1).alloc (Nat.le_refl _) (.cells #[.int .i64 n.kind, .int .i64 n.space, .string ⟨n.name.toArray⟩, .slice pa la ca, .slice pt lt ct, .int .i64 (-1), .int .i64 (-1), .int .i64 (-1), .int .i64 (-1), .int .i64 (-1)] 93)).drew))) (fun _ _ k => k)) HTL.out hg5 hr5 (fun g e => by injection e with e; subst e; exact hor5.elim Or.inl (fun k => Or.inr (by rw [k]; simp)))); clear hr5 hg5 hor5 hlt5)
  all_goals
    have HC5 := Lib.hid HD5.out.1.cell
    have c5 := HC5.out
    have j0 : (0 : Int) ≤ (qs.length : Int) := by omega
    go_wp2
    go_ret
    refine ⟨?_, ?_, ?_⟩
    · simp
    · refine ⟨_, _, ?_, HD5.out.1.mono ?_⟩
      · rw [List.map_append]; rfl
      · rintro b _ (k | k | k)
        · exact .inl k
        · exact .inr (.inl k)
        · exact .inr (.inr (by simp at k; omega))
    · exact (Turns.of_below (HW.out _ (((Below.refl _ w1).alloc (Nat.le_refl _) (.cells #[.int .i64 n.kind, .int .i64 n.space, .string ⟨n.name.toArray⟩, .slice pa la ca, .slice pt lt ct, .int .i64 (-1), .int .i64 (-1), .int .i64 (-1), .int .i64 (-1), .int .i64 (-1)] 93)).drew))).trans (HD5.out.2.mono fun b _ k => .inl k)
end Go.Proofs.Ytbadckkcjjfnoaa
