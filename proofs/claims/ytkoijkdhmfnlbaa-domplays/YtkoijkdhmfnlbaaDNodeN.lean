/-
  Node of a number that no node has, in the program and in the reference: the empty node.
-/
import Derived.Test.YtkoijkdhmfnlbaaDRefK
import Derived.Test.YtkoijkdhmfnlbaaDCll
namespace Go.Proofs.Ytkoijkdhmfnlbaa
open Go.RowKit

/-- The empty node, told. -/
def noNode : Value := .agg #[.int .i64 0, .int .i64 0, .string ⟨#[]⟩, .slice none 0 0, .string ⟨#[]⟩, .int .i64 0, .slice none 0 0]
set_option maxHeartbeats 1000000 in
set_option maxRecDepth 100000 in
theorem rnodeNo (S : List Cl) (B : Nat) (w : World) (n : Int) (h : RDoc S B w) (hn : isN S n = false) : Calls Try.prog 33 #[.pointer (some ⟨B, 0, none⟩), .int .i64 n] w (fun e w' => e = .returned noNode ∧ Below w.heap.size w w') := by
  have HI : Hid (∀ W, Below w.heap.size w W → Calls Try.prog 45 #[.pointer (some ⟨B, 0, none⟩), .int .i64 n] W (Gives (.bool false) W)) := Lib.hid fun W hb => by
    have := ris_any S B W n (h.on hb)
    rwa [hn] at this
  unfold noNode
  clear h hn
  go_enter Try.func33, Try.ntmps33
  go_upto_region 1 with fail
  have hb1 : Below w.heap.size w (w.alloc (.cells #[.int .i64 0, .int .i64 0, .string ⟨#[]⟩, .slice none 0 0, .string ⟨#[]⟩, .int .i64 0, .slice none 0 0] 43)) := (Below.refl _ _).alloc (Nat.le_refl _) _
  have x1 : (w.alloc (.cells #[.int .i64 0, .int .i64 0, .string ⟨#[]⟩, .slice none 0 0, .string ⟨#[]⟩, .int .i64 0, .slice none 0 0] 43)).heap[w.heap.size]? = some (.cells #[.int .i64 0, .int .i64 0, .string ⟨#[]⟩, .slice none 0 0, .string ⟨#[]⟩, .int .i64 0, .slice none 0 0] 43 (0, 0)) := heap_alloc_new w _
  generalize w.alloc (.cells #[.int .i64 0, .int .i64 0, .string ⟨#[]⟩, .slice none 0 0, .string ⟨#[]⟩, .int .i64 0, .slice none 0 0] 43) = w1 at *
  have HI1 := Lib.hid (HI.out w1 hb1)
  clear HI
  go_wp2_with fail
  refine HI1.out.mono ?_
  rintro e w2 ⟨rfl, rfl⟩
  have k0 : ∀ i, w1.cell? ⟨w.heap.size, i, none⟩ = #[Value.int .i64 0, .int .i64 0, .string ⟨#[]⟩, .slice none 0 0, .string ⟨#[]⟩, .int .i64 0, .slice none 0 0][i]? := fun i => by simp [World.cell?, x1]
  have k1 : ∀ i, w1.frozen? ⟨w.heap.size, i, none⟩ = false := fun i => by simp [World.frozen?, x1]
  obtain ⟨w4, hw4, hb4, hB4, hK4⟩ := set7 w w1 _ _ _ _ _ _ _ _ (.int .i64 0) (.int .i64 0) (.string ⟨#[]⟩) (.slice none 0 0) (.string ⟨#[]⟩) (.int .i64 0) (.slice none 0 0) x1 hb1
  have HB4 := Lib.hid hB4
  go_wp2_with fail
  exact bodyPost_ret (results_cell_row rfl _ _ _ _ _ _ _ rfl hb4 Try.underlying43 rfl (by kernel_rfl)) rfl ⟨rfl, HB4.out⟩
set_option maxHeartbeats 1000000 in
set_option maxRecDepth 100000 in
theorem dnodeNo (S : List PN) (B : Nat) (M : Nat → Prop) (w : World) (n : Int) (h : DocM M w B S) (_hM : ∀ b, M b → b < w.heap.size) (hn : pHas S n = false) : Calls Try.prog 32 #[.pointer (some ⟨B, 0, none⟩), .int .i64 n] w (fun e w' => e = .returned noNode ∧ Below w.heap.size w w') := by
  have HI : Hid (∀ W, Below w.heap.size w W → Calls Try.prog 40 #[.pointer (some ⟨B, 0, none⟩), .int .i64 n] W (Gives (.bool false) W)) := Lib.hid fun W hb => by
    obtain ⟨p, cap, hr⟩ := (h.below hb).reads
    have := dhasP S B W p cap n hr
    rwa [hn] at this
  unfold noNode
  clear h hn
  go_enter Try.func32, Try.ntmps32
  go_upto_region 1 with fail
  have hb1 : Below w.heap.size w (w.alloc (.cells #[.int .i64 0, .int .i64 0, .string ⟨#[]⟩, .slice none 0 0, .string ⟨#[]⟩, .int .i64 0, .slice none 0 0] 43)) := (Below.refl _ _).alloc (Nat.le_refl _) _
  have x1 : (w.alloc (.cells #[.int .i64 0, .int .i64 0, .string ⟨#[]⟩, .slice none 0 0, .string ⟨#[]⟩, .int .i64 0, .slice none 0 0] 43)).heap[w.heap.size]? = some (.cells #[.int .i64 0, .int .i64 0, .string ⟨#[]⟩, .slice none 0 0, .string ⟨#[]⟩, .int .i64 0, .slice none 0 0] 43 (0, 0)) := heap_alloc_new w _
  generalize w.alloc (.cells #[.int .i64 0, .int .i64 0, .string ⟨#[]⟩, .slice none 0 0, .string ⟨#[]⟩, .int .i64 0, .slice none 0 0] 43) = w1 at *
  have HI1 := Lib.hid (HI.out w1 hb1)
  clear HI
  go_wp2_with fail
  refine HI1.out.mono ?_
  rintro e w2 ⟨rfl, rfl⟩
  have k0 : ∀ i, w1.cell? ⟨w.heap.size, i, none⟩ = #[Value.int .i64 0, .int .i64 0, .string ⟨#[]⟩, .slice none 0 0, .string ⟨#[]⟩, .int .i64 0, .slice none 0 0][i]? := fun i => by simp [World.cell?, x1]
  have k1 : ∀ i, w1.frozen? ⟨w.heap.size, i, none⟩ = false := fun i => by simp [World.frozen?, x1]
  obtain ⟨w4, hw4, hb4, hB4, hK4⟩ := set7 w w1 _ _ _ _ _ _ _ _ (.int .i64 0) (.int .i64 0) (.string ⟨#[]⟩) (.slice none 0 0) (.string ⟨#[]⟩) (.int .i64 0) (.slice none 0 0) x1 hb1
  have HB4 := Lib.hid hB4
  go_wp2_with fail
  exact bodyPost_ret (results_cell_row rfl _ _ _ _ _ _ _ rfl hb4 Try.underlying43 rfl (by kernel_rfl)) rfl ⟨rfl, HB4.out⟩
end Go.Proofs.Ytkoijkdhmfnlbaa
