/-
  The walk of the program's Number. Any nodes, not too many.
-/
import Derived.Test.YtbadckkcjjfnoaaDPNum3
namespace Go.Proofs.Ytbadckkcjjfnoaa
open Go.RowKit

set_option maxHeartbeats 1000000 in
set_option maxRecDepth 100000 in
theorem dnumberP (f : Fo) (P : Nat → Prop) (v : Value) (w : World) (hs : f.wt ≤ 4294967296) (h : NodesP P w v f) : Calls Try.prog 19 #[v] w (NodesOut (fun _ => False) (f.number 1).1 w) := by
  obtain ⟨p, l, c, rfl⟩ := h.slice
  have HT := Lib.hid (dcopyT_all (f.wt + 1) f P _ w (by omega) hs h)
  have HE : Hid (∀ (w1 : World) (v1 : Value), OwnT w1 v1 f w.heap.size w1.heap.size → Below w.heap.size w w1 → Calls Try.prog 83 #[v1, .func (.func 84) #[.pointer (some ⟨w1.heap.size, 0, none⟩)] #[]] (w1.alloc (.cells #[.int .i64 0] 99)) (fun e W' => e = .returned (.tuple #[]) ∧ NodesP (fun b => False ∨ w.heap.size ≤ b) W' v1 (f.number 1).1 ∧ Below w.heap.size w W')) := by
    refine Lib.hid fun w1 v1 hO hb => ?_
    have hb1 : Below w1.heap.size w1 (w1.alloc (.cells #[.int .i64 0] 99)) := (Below.refl _ w1).alloc (Nat.le_refl _) _
    have hO1 : OwnT (w1.alloc (.cells #[.int .i64 0] 99)) v1 f w.heap.size w1.heap.size := hO.kept hb1.size (fun b _ _ q => hb1.block b q)
    refine (deachN_all (f.wt + 1) f v1 _ w1.heap.size w.heap.size w1.heap.size 1 (by omega) hs (by omega) (by omega) hO1 (World.cell?_alloc_mark w1 _ _ (0, 0) 0) (by rw [World.frozen?_alloc_mark]; rfl) (by omega)).mono ?_
    rintro e W2 ⟨rfl, hN⟩
    refine ⟨rfl, ?_, ?_⟩
    · obtain ⟨hl, p2, c2, hv, hk⟩ := hN.tree
      refine ⟨p2, c2, hv, fun h0 => ?_⟩
      obtain ⟨g, e, q1, q2, q3, _, q5⟩ := hk h0
      exact ⟨g, 0, e, .inr q1, q3, OwnF.nodes _ 0 (g + 1) _ q5 (fun b k1 _ => .inr (by omega))⟩
    · have hbs := hb.size
      exact (hb.trans (hb1.mono hbs)).trans (hN.turns.below (by have := hb1.size; omega) (fun b k q => by omega))
  clear h
  go_enter Try.func19, Try.ntmps19
  go_wp2_with fail
  refine HT.out.mono ?_
  rintro e w1 ⟨v1, rfl, hO, hb⟩
  have HE1 := Lib.hid (HE.out w1 v1 hO hb)
  obtain ⟨p1, l1, c1, rfl⟩ : ∃ p l c, v1 = .slice p l c := by obtain ⟨_, p, c, e, _⟩ := hO; exact ⟨p, _, c, e⟩
  clear hO hb
  go_wp2_with fail
  refine HE1.out.mono ?_
  rintro e w2 ⟨rfl, hN, hb⟩
  have HN := Lib.hid hN
  have HB := Lib.hid hb
  clear hN hb
  go_wp2_with fail
  go_ret
  exact ⟨_, rfl, HN.out, HB.out⟩
end Go.Proofs.Ytbadckkcjjfnoaa
