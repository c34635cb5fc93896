/-
  The reference's New for open elements; the laws' own Name (chapter 8).
-/
import Derived.Test.YtbadckkcjjfnoaaSIAll
import Derived.Test.YtbadckkcjjfnoaaSWG
namespace Go.Proofs.Ytbadckkcjjfnoaa
open Go.RowKit

set_option maxHeartbeats 1000000 in
set_option maxRecDepth 100000 in
theorem rnew7P (w : World) : Calls Try.prog 23 #[] w (fun e w' => ∃ a : Nat, e = .returned (.pointer (some ⟨a, 0, none⟩)) ∧ Below w.heap.size w w') := by
  have HB : Hid (∀ o, Below w.heap.size w (w.alloc o)) := Lib.hid fun o => (Below.refl _ _).alloc (Nat.le_refl _) _
  go_enter Try.func23, Try.ntmps23
  go_wp2_with fail
  go_ret
  exact ⟨_, rfl, HB.out _⟩
set_option maxHeartbeats 1000000 in
set_option maxRecDepth 100000 in
theorem rnew8P (w : World) : Calls Try.prog 45 #[] w (fun e w' => ∃ Z B M R, e = .returned (.pointer (some ⟨Z, 0, none⟩)) ∧ RSite M (fun _ => False) R w' Z B [rootCl] [0] ∧ (∀ b, M b ∨ R b ∨ b = Z → w.heap.size ≤ b) ∧ Below w.heap.size w w') := by
  go_enter Try.func45, Try.ntmps45
  go_wp2_with fail
  refine (rnewP6 w).mono ?_
  rintro e w1 ⟨B, rfl, hd, b1⟩
  have HD := Lib.hid hd
  have HB1 := Lib.hid b1
  clear hd b1
  go_wp2_with fail
  refine (rnew7P w1).mono ?_
  rintro e w2 ⟨K, rfl, b2⟩
  have HB2 := Lib.hid (HB1.out.trans (b2.mono HB1.out.size))
  have HD2 := Lib.hid (HD.out.on b2)
  have HZ2 := Lib.hid b2.size
  clear b2 HD
  go_wp2_with fail
  go_ret
  obtain ⟨w3, e3⟩ : ∃ w3, w3 = w2.alloc (.cells #[.int .i64 0] 3) := ⟨_, rfl⟩
  obtain ⟨w4, e4⟩ : ∃ w4, w4 = w3.alloc (.cells #[.pointer (some ⟨B, 0, none⟩), .pointer (some ⟨K, 0, none⟩), .slice (some ⟨w2.heap.size, 0, none⟩) 1 1, .bool false] 127) := ⟨_, rfl⟩
  have z3 : w3.heap.size = w2.heap.size + 1 := by rw [e3]; simp
  have b3 : Below w2.heap.size w2 w3 := by rw [e3]; exact (Below.refl _ _).alloc (Nat.le_refl _) _
  have b4 : Below w3.heap.size w3 w4 := by rw [e4]; exact (Below.refl _ _).alloc (Nat.le_refl _) _
  have x3 : w3.heap[w2.heap.size]? = some (.cells #[.int .i64 0] 3 (0, 0)) := by rw [e3]; exact heap_alloc_new w2 _
  have x4 : w4.heap[w2.heap.size + 1]? = some (.cells #[.pointer (some ⟨B, 0, none⟩), .pointer (some ⟨K, 0, none⟩), .slice (some ⟨w2.heap.size, 0, none⟩) 1 1, .bool false] 127 (0, 0)) := by rw [e4, ← z3]; exact heap_alloc_new w3 _
  have y3 := (b4.block _ (heap_lt x3)).trans x3
  have z4 := b4.size
  have z1 := HB1.out.size
  have z2 := HZ2.out
  have hD := HD2.out.on (b3.trans (b4.mono b3.size))
  have key : RSite (fun b => w.heap.size ≤ b ∧ b < w1.heap.size) (fun _ => False) (fun b => b = w2.heap.size) w4 (w2.heap.size + 1) B [rootCl] [0] ∧ (∀ b, (w.heap.size ≤ b ∧ b < w1.heap.size) ∨ b = w2.heap.size ∨ b = w2.heap.size + 1 → w.heap.size ≤ b) ∧ Below w.heap.size w w4 := by
    refine ⟨⟨⟨_, _, x4, ⟨_, 1, rfl, Nat.le_refl _, (fun e => by cases e), fun g o s e => ?_⟩⟩, hD, by omega, by omega, fun k => k, fun b k q => by omega, fun b k => by omega, by decide, by decide⟩, fun b k => by omega, HB2.out.trans ((b3.trans (b4.mono b3.size)).mono HB2.out.size)⟩
    injection e with e
    injection e with q1 q2 q3
    subst q1 q2 q3
    refine ⟨rfl, rfl, by omega, fun j hj => ?_⟩
    have hj2 : j < 1 := hj
    obtain rfl : j = 0 := by omega
    have := (block_cell6 y3 0).1
    simpa using this
  rw [← e3, ← e4] at *
  exact ⟨_, B, _, _, rfl, key⟩
def names8 : List (List UInt8) := [[112], [98], [105], [116, 97, 98, 108, 101], [116, 98, 111, 100, 121], [116, 114], [116, 100], [116, 101, 109, 112, 108, 97, 116, 101], [108, 105], [117, 108], [100, 100], [111, 112, 116, 105, 111, 110], [100, 105, 118], [104, 49], [98, 117, 116, 116, 111, 110], [99, 97, 112, 116, 105, 111, 110], [114, 112]]
def nm8 (k : Nat) : List UInt8 := names8.getD k []
theorem TextsAt.cast {w : World} {v : Value} {l l' : List (List UInt8)} (h : TextsAt w v l) (e : l = l') : TextsAt w v l' := e ▸ h
set_option maxHeartbeats 1000000 in
set_option maxRecDepth 100000 in
theorem rname8 (k : Nat) (hk : k < 17) (w : World) : Calls Try.prog 49 #[.int .i64 (k : Int)] w (Brings (.string ⟨(nm8 k).toArray⟩) w) := by
  have HW : Hid (∀ W, Calls Try.prog 51 #[.int .i64 (k : Int), .int .i64 17] W (Gives (.int .i64 (k : Int)) W)) := Lib.hid fun W => by
    have := within8 (k : Int) 17 W (by omega) (by omega) (by omega) (by omega)
    rwa [show Within (k : Int) 17 = k by unfold Within; omega] at this
  have k0 : (0 : Int) ≤ (k : Int) := by omega
  have k1 : (k : Int) < 17 := by omega
  go_enter Try.func49, Try.ntmps49
  go_wp2_with fail
  refine (rwords_told _ _ (by decide)).mono ?_
  rintro e w1 ⟨v, rfl, ht, b⟩
  have ht2 := ht.cast (l' := names8) (by decide +kernel)
  obtain ⟨p, cap, rfl, _, hc⟩ := ht2.slice
  obtain ⟨g, rfl, hg, hck⟩ := hc k hk
  have HB := Lib.hid b
  have hl : names8.length = 17 := rfl
  rw [hl]
  obtain ⟨NM, hNM⟩ : ∃ NM : ByteArray, NM = ⟨(nm8 k).toArray⟩ := ⟨_, rfl⟩
  have hck2 : w1.cell? ⟨g, k, none⟩ = some (.string NM) := by
    rw [hck, hNM]
    have : names8[k] = nm8 k := by unfold nm8; rw [List.getD_eq_getElem?_getD, List.getElem?_eq_getElem hk]; rfl
    rw [this]
  have HNM := Lib.hid hNM
  clear ht ht2 hc hck hNM b hl
  go_wp2_with fail
  refine (HW.out w1).mono ?_
  rintro e w2 ⟨rfl, rfl⟩
  go_wp2_with fail
  go_ret
  exact ⟨by rw [← HNM.out]; rfl, HB.out⟩
end Go.Proofs.Ytbadckkcjjfnoaa
