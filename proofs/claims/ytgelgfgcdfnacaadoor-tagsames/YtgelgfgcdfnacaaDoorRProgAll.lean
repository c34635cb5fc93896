/-
  The walks of the program's references: stands, text, named, Ref. Any text of at most 2^32 bytes; the program's table holds what its text lays.
  The walks of the program's named and Ref. Any text of at most 2^32 bytes; the program's table holds what its text lays.
  The walks of the program's Ref and Expand. Any text of at most 2^30 bytes; the program's table holds what its text lays.
  The walk of the program's Expand. Any text of at most 2^30 bytes; the program's table holds what its text lays.
-/
import Derived.Test.YtgelgfgcdfnacaaDoorRRef2
import Derived.Test.YtgelgfgcdfnacaaDoorShelfAll
import Derived.Test.YtgelgfgcdfnacaaDoorRExp
import Derived.Lib.IndexLaws
import Derived.Shelf.Strings.MapGrows
namespace Go.Proofs.YtgelgfgcdfnacaaDoor
open Go.RowKit
namespace Plain
/-- The numbers of the signs that each name stands for; 0: there is no second one. -/
def codes : List (Nat × Nat) := [(61, 8421), (60, 8402), (38, 0), (38, 0), (169, 0), (169, 0), (62, 0), (62, 0), (60, 0), (60, 0), (160, 0), (160, 0), (172, 0), (172, 0), (182, 0), (182, 0), (34, 0), (34, 0), (174, 0), (174, 0), (173, 0), (173, 0), (185, 0), (185, 0), (178, 0), (178, 0), (215, 0), (215, 0), (9, 0), (10, 0), (39, 0), (40, 0), (58, 0), (8706, 0), (8713, 0), (8834, 0), (8835, 0), (8864, 0), (8230, 0), (8212, 0), (8211, 0), (8216, 0), (8217, 0), (8220, 0), (8221, 0), (8364, 0)]
def c1 (j : Nat) : Nat := (codes.getD j (0, 0)).1
def c2 (j : Nat) : Nat := (codes.getD j (0, 0)).2
theorem codes_ok : ∀ j, j < 46 → c1 j ≤ 9000 ∧ c2 j ≤ 9000 ∧ vl j = enc (c1 j) ++ (if c2 j = 0 then [] else enc (c2 j)) := by decide
end Plain

/-- What the lookup tells of a name. -/
def StandsOut (a b : Nat) (w : World) (e : Ending) (w' : World) : Prop := e = .returned (.agg #[.int .i32 (a : Int), .int .i32 (b : Int)]) ∧ Below w.heap.size w w'
set_option maxHeartbeats 4000000 in
set_option maxRecDepth 100000 in
theorem open_2 (w : World) : Calls Tryd.prog 91 #[.string ⟨#[97, 109, 112]⟩] w (StandsOut 38 0 w) := by
  go_enter Tryd.func91, Tryd.ntmps91
  go_wp2
  refine bodyPost_ret (v := .agg #[.int .i32 38, .int .i32 0]) (by simp [results, Tryd.results91, go_sem]) rfl ⟨rfl, ?_⟩
  repeat (first | exact Below.refl _ _ | refine Below.setCell ?_ (by simp) _ | refine Below.alloc ?_ (by simp) _)
set_option maxHeartbeats 4000000 in
set_option maxRecDepth 100000 in
theorem open_3 (w : World) : Calls Tryd.prog 91 #[.string ⟨#[97, 109, 112, 59]⟩] w (StandsOut 38 0 w) := by
  go_enter Tryd.func91, Tryd.ntmps91
  go_wp2
  refine bodyPost_ret (v := .agg #[.int .i32 38, .int .i32 0]) (by simp [results, Tryd.results91, go_sem]) rfl ⟨rfl, ?_⟩
  repeat (first | exact Below.refl _ _ | refine Below.setCell ?_ (by simp) _ | refine Below.alloc ?_ (by simp) _)
set_option maxHeartbeats 4000000 in
set_option maxRecDepth 100000 in
theorem open_4 (w : World) : Calls Tryd.prog 91 #[.string ⟨#[99, 111, 112, 121]⟩] w (StandsOut 169 0 w) := by
  go_enter Tryd.func91, Tryd.ntmps91
  go_wp2
  refine bodyPost_ret (v := .agg #[.int .i32 169, .int .i32 0]) (by simp [results, Tryd.results91, go_sem]) rfl ⟨rfl, ?_⟩
  repeat (first | exact Below.refl _ _ | refine Below.setCell ?_ (by simp) _ | refine Below.alloc ?_ (by simp) _)
set_option maxHeartbeats 4000000 in
set_option maxRecDepth 100000 in
theorem open_5 (w : World) : Calls Tryd.prog 91 #[.string ⟨#[99, 111, 112, 121, 59]⟩] w (StandsOut 169 0 w) := by
  go_enter Tryd.func91, Tryd.ntmps91
  go_wp2
  refine bodyPost_ret (v := .agg #[.int .i32 169, .int .i32 0]) (by simp [results, Tryd.results91, go_sem]) rfl ⟨rfl, ?_⟩
  repeat (first | exact Below.refl _ _ | refine Below.setCell ?_ (by simp) _ | refine Below.alloc ?_ (by simp) _)
set_option maxHeartbeats 4000000 in
set_option maxRecDepth 100000 in
theorem open_6 (w : World) : Calls Tryd.prog 91 #[.string ⟨#[103, 116]⟩] w (StandsOut 62 0 w) := by
  go_enter Tryd.func91, Tryd.ntmps91
  go_wp2
  refine bodyPost_ret (v := .agg #[.int .i32 62, .int .i32 0]) (by simp [results, Tryd.results91, go_sem]) rfl ⟨rfl, ?_⟩
  repeat (first | exact Below.refl _ _ | refine Below.setCell ?_ (by simp) _ | refine Below.alloc ?_ (by simp) _)
set_option maxHeartbeats 4000000 in
set_option maxRecDepth 100000 in
theorem open_7 (w : World) : Calls Tryd.prog 91 #[.string ⟨#[103, 116, 59]⟩] w (StandsOut 62 0 w) := by
  go_enter Tryd.func91, Tryd.ntmps91
  go_wp2
  refine bodyPost_ret (v := .agg #[.int .i32 62, .int .i32 0]) (by simp [results, Tryd.results91, go_sem]) rfl ⟨rfl, ?_⟩
  repeat (first | exact Below.refl _ _ | refine Below.setCell ?_ (by simp) _ | refine Below.alloc ?_ (by simp) _)
set_option maxHeartbeats 4000000 in
set_option maxRecDepth 100000 in
theorem open_8 (w : World) : Calls Tryd.prog 91 #[.string ⟨#[108, 116]⟩] w (StandsOut 60 0 w) := by
  go_enter Tryd.func91, Tryd.ntmps91
  go_wp2
  refine bodyPost_ret (v := .agg #[.int .i32 60, .int .i32 0]) (by simp [results, Tryd.results91, go_sem]) rfl ⟨rfl, ?_⟩
  repeat (first | exact Below.refl _ _ | refine Below.setCell ?_ (by simp) _ | refine Below.alloc ?_ (by simp) _)
set_option maxHeartbeats 4000000 in
set_option maxRecDepth 100000 in
theorem open_9 (w : World) : Calls Tryd.prog 91 #[.string ⟨#[108, 116, 59]⟩] w (StandsOut 60 0 w) := by
  go_enter Tryd.func91, Tryd.ntmps91
  go_wp2
  refine bodyPost_ret (v := .agg #[.int .i32 60, .int .i32 0]) (by simp [results, Tryd.results91, go_sem]) rfl ⟨rfl, ?_⟩
  repeat (first | exact Below.refl _ _ | refine Below.setCell ?_ (by simp) _ | refine Below.alloc ?_ (by simp) _)
set_option maxHeartbeats 4000000 in
set_option maxRecDepth 100000 in
theorem open_10 (w : World) : Calls Tryd.prog 91 #[.string ⟨#[110, 98, 115, 112]⟩] w (StandsOut 160 0 w) := by
  go_enter Tryd.func91, Tryd.ntmps91
  go_wp2
  refine bodyPost_ret (v := .agg #[.int .i32 160, .int .i32 0]) (by simp [results, Tryd.results91, go_sem]) rfl ⟨rfl, ?_⟩
  repeat (first | exact Below.refl _ _ | refine Below.setCell ?_ (by simp) _ | refine Below.alloc ?_ (by simp) _)
set_option maxHeartbeats 4000000 in
set_option maxRecDepth 100000 in
theorem open_11 (w : World) : Calls Tryd.prog 91 #[.string ⟨#[110, 98, 115, 112, 59]⟩] w (StandsOut 160 0 w) := by
  go_enter Tryd.func91, Tryd.ntmps91
  go_wp2
  refine bodyPost_ret (v := .agg #[.int .i32 160, .int .i32 0]) (by simp [results, Tryd.results91, go_sem]) rfl ⟨rfl, ?_⟩
  repeat (first | exact Below.refl _ _ | refine Below.setCell ?_ (by simp) _ | refine Below.alloc ?_ (by simp) _)
set_option maxHeartbeats 4000000 in
set_option maxRecDepth 100000 in
theorem open_12 (w : World) : Calls Tryd.prog 91 #[.string ⟨#[110, 111, 116]⟩] w (StandsOut 172 0 w) := by
  go_enter Tryd.func91, Tryd.ntmps91
  go_wp2
  refine bodyPost_ret (v := .agg #[.int .i32 172, .int .i32 0]) (by simp [results, Tryd.results91, go_sem]) rfl ⟨rfl, ?_⟩
  repeat (first | exact Below.refl _ _ | refine Below.setCell ?_ (by simp) _ | refine Below.alloc ?_ (by simp) _)
set_option maxHeartbeats 4000000 in
set_option maxRecDepth 100000 in
theorem open_13 (w : World) : Calls Tryd.prog 91 #[.string ⟨#[110, 111, 116, 59]⟩] w (StandsOut 172 0 w) := by
  go_enter Tryd.func91, Tryd.ntmps91
  go_wp2
  refine bodyPost_ret (v := .agg #[.int .i32 172, .int .i32 0]) (by simp [results, Tryd.results91, go_sem]) rfl ⟨rfl, ?_⟩
  repeat (first | exact Below.refl _ _ | refine Below.setCell ?_ (by simp) _ | refine Below.alloc ?_ (by simp) _)
set_option maxHeartbeats 4000000 in
set_option maxRecDepth 100000 in
theorem open_14 (w : World) : Calls Tryd.prog 91 #[.string ⟨#[112, 97, 114, 97]⟩] w (StandsOut 182 0 w) := by
  go_enter Tryd.func91, Tryd.ntmps91
  go_wp2
  refine bodyPost_ret (v := .agg #[.int .i32 182, .int .i32 0]) (by simp [results, Tryd.results91, go_sem]) rfl ⟨rfl, ?_⟩
  repeat (first | exact Below.refl _ _ | refine Below.setCell ?_ (by simp) _ | refine Below.alloc ?_ (by simp) _)
set_option maxHeartbeats 4000000 in
set_option maxRecDepth 100000 in
theorem open_15 (w : World) : Calls Tryd.prog 91 #[.string ⟨#[112, 97, 114, 97, 59]⟩] w (StandsOut 182 0 w) := by
  go_enter Tryd.func91, Tryd.ntmps91
  go_wp2
  refine bodyPost_ret (v := .agg #[.int .i32 182, .int .i32 0]) (by simp [results, Tryd.results91, go_sem]) rfl ⟨rfl, ?_⟩
  repeat (first | exact Below.refl _ _ | refine Below.setCell ?_ (by simp) _ | refine Below.alloc ?_ (by simp) _)
set_option maxHeartbeats 4000000 in
set_option maxRecDepth 100000 in
theorem open_16 (w : World) : Calls Tryd.prog 91 #[.string ⟨#[113, 117, 111, 116]⟩] w (StandsOut 34 0 w) := by
  go_enter Tryd.func91, Tryd.ntmps91
  go_wp2
  refine bodyPost_ret (v := .agg #[.int .i32 34, .int .i32 0]) (by simp [results, Tryd.results91, go_sem]) rfl ⟨rfl, ?_⟩
  repeat (first | exact Below.refl _ _ | refine Below.setCell ?_ (by simp) _ | refine Below.alloc ?_ (by simp) _)
set_option maxHeartbeats 4000000 in
set_option maxRecDepth 100000 in
theorem open_17 (w : World) : Calls Tryd.prog 91 #[.string ⟨#[113, 117, 111, 116, 59]⟩] w (StandsOut 34 0 w) := by
  go_enter Tryd.func91, Tryd.ntmps91
  go_wp2
  refine bodyPost_ret (v := .agg #[.int .i32 34, .int .i32 0]) (by simp [results, Tryd.results91, go_sem]) rfl ⟨rfl, ?_⟩
  repeat (first | exact Below.refl _ _ | refine Below.setCell ?_ (by simp) _ | refine Below.alloc ?_ (by simp) _)
set_option maxHeartbeats 4000000 in
set_option maxRecDepth 100000 in
theorem open_18 (w : World) : Calls Tryd.prog 91 #[.string ⟨#[114, 101, 103]⟩] w (StandsOut 174 0 w) := by
  go_enter Tryd.func91, Tryd.ntmps91
  go_wp2
  refine bodyPost_ret (v := .agg #[.int .i32 174, .int .i32 0]) (by simp [results, Tryd.results91, go_sem]) rfl ⟨rfl, ?_⟩
  repeat (first | exact Below.refl _ _ | refine Below.setCell ?_ (by simp) _ | refine Below.alloc ?_ (by simp) _)
set_option maxHeartbeats 4000000 in
set_option maxRecDepth 100000 in
theorem open_19 (w : World) : Calls Tryd.prog 91 #[.string ⟨#[114, 101, 103, 59]⟩] w (StandsOut 174 0 w) := by
  go_enter Tryd.func91, Tryd.ntmps91
  go_wp2
  refine bodyPost_ret (v := .agg #[.int .i32 174, .int .i32 0]) (by simp [results, Tryd.results91, go_sem]) rfl ⟨rfl, ?_⟩
  repeat (first | exact Below.refl _ _ | refine Below.setCell ?_ (by simp) _ | refine Below.alloc ?_ (by simp) _)
set_option maxHeartbeats 4000000 in
set_option maxRecDepth 100000 in
theorem open_20 (w : World) : Calls Tryd.prog 91 #[.string ⟨#[115, 104, 121]⟩] w (StandsOut 173 0 w) := by
  go_enter Tryd.func91, Tryd.ntmps91
  go_wp2
  refine bodyPost_ret (v := .agg #[.int .i32 173, .int .i32 0]) (by simp [results, Tryd.results91, go_sem]) rfl ⟨rfl, ?_⟩
  repeat (first | exact Below.refl _ _ | refine Below.setCell ?_ (by simp) _ | refine Below.alloc ?_ (by simp) _)
set_option maxHeartbeats 4000000 in
set_option maxRecDepth 100000 in
theorem open_21 (w : World) : Calls Tryd.prog 91 #[.string ⟨#[115, 104, 121, 59]⟩] w (StandsOut 173 0 w) := by
  go_enter Tryd.func91, Tryd.ntmps91
  go_wp2
  refine bodyPost_ret (v := .agg #[.int .i32 173, .int .i32 0]) (by simp [results, Tryd.results91, go_sem]) rfl ⟨rfl, ?_⟩
  repeat (first | exact Below.refl _ _ | refine Below.setCell ?_ (by simp) _ | refine Below.alloc ?_ (by simp) _)
set_option maxHeartbeats 4000000 in
set_option maxRecDepth 100000 in
theorem open_22 (w : World) : Calls Tryd.prog 91 #[.string ⟨#[115, 117, 112, 49]⟩] w (StandsOut 185 0 w) := by
  go_enter Tryd.func91, Tryd.ntmps91
  go_wp2
  refine bodyPost_ret (v := .agg #[.int .i32 185, .int .i32 0]) (by simp [results, Tryd.results91, go_sem]) rfl ⟨rfl, ?_⟩
  repeat (first | exact Below.refl _ _ | refine Below.setCell ?_ (by simp) _ | refine Below.alloc ?_ (by simp) _)
set_option maxHeartbeats 4000000 in
set_option maxRecDepth 100000 in
theorem open_23 (w : World) : Calls Tryd.prog 91 #[.string ⟨#[115, 117, 112, 49, 59]⟩] w (StandsOut 185 0 w) := by
  go_enter Tryd.func91, Tryd.ntmps91
  go_wp2
  refine bodyPost_ret (v := .agg #[.int .i32 185, .int .i32 0]) (by simp [results, Tryd.results91, go_sem]) rfl ⟨rfl, ?_⟩
  repeat (first | exact Below.refl _ _ | refine Below.setCell ?_ (by simp) _ | refine Below.alloc ?_ (by simp) _)
set_option maxHeartbeats 4000000 in
set_option maxRecDepth 100000 in
theorem open_24 (w : World) : Calls Tryd.prog 91 #[.string ⟨#[115, 117, 112, 50]⟩] w (StandsOut 178 0 w) := by
  go_enter Tryd.func91, Tryd.ntmps91
  go_wp2
  refine bodyPost_ret (v := .agg #[.int .i32 178, .int .i32 0]) (by simp [results, Tryd.results91, go_sem]) rfl ⟨rfl, ?_⟩
  repeat (first | exact Below.refl _ _ | refine Below.setCell ?_ (by simp) _ | refine Below.alloc ?_ (by simp) _)
set_option maxHeartbeats 4000000 in
set_option maxRecDepth 100000 in
theorem open_25 (w : World) : Calls Tryd.prog 91 #[.string ⟨#[115, 117, 112, 50, 59]⟩] w (StandsOut 178 0 w) := by
  go_enter Tryd.func91, Tryd.ntmps91
  go_wp2
  refine bodyPost_ret (v := .agg #[.int .i32 178, .int .i32 0]) (by simp [results, Tryd.results91, go_sem]) rfl ⟨rfl, ?_⟩
  repeat (first | exact Below.refl _ _ | refine Below.setCell ?_ (by simp) _ | refine Below.alloc ?_ (by simp) _)
set_option maxHeartbeats 4000000 in
set_option maxRecDepth 100000 in
theorem open_26 (w : World) : Calls Tryd.prog 91 #[.string ⟨#[116, 105, 109, 101, 115]⟩] w (StandsOut 215 0 w) := by
  go_enter Tryd.func91, Tryd.ntmps91
  go_wp2
  refine bodyPost_ret (v := .agg #[.int .i32 215, .int .i32 0]) (by simp [results, Tryd.results91, go_sem]) rfl ⟨rfl, ?_⟩
  repeat (first | exact Below.refl _ _ | refine Below.setCell ?_ (by simp) _ | refine Below.alloc ?_ (by simp) _)
set_option maxHeartbeats 4000000 in
set_option maxRecDepth 100000 in
theorem open_27 (w : World) : Calls Tryd.prog 91 #[.string ⟨#[116, 105, 109, 101, 115, 59]⟩] w (StandsOut 215 0 w) := by
  go_enter Tryd.func91, Tryd.ntmps91
  go_wp2
  refine bodyPost_ret (v := .agg #[.int .i32 215, .int .i32 0]) (by simp [results, Tryd.results91, go_sem]) rfl ⟨rfl, ?_⟩
  repeat (first | exact Below.refl _ _ | refine Below.setCell ?_ (by simp) _ | refine Below.alloc ?_ (by simp) _)
set_option maxHeartbeats 4000000 in
set_option maxRecDepth 100000 in
theorem open_no (s : ByteArray) (w : World) (h : ∀ j, 2 ≤ j → j < 28 → (s.toList == Plain.nm j) = false) : Calls Tryd.prog 91 #[.string s] w (StandsOut 0 0 w) := by
  have h2 : (s.toList == [97, 109, 112]) = false := h 2 (by omega) (by omega)
  have h3 : (s.toList == [97, 109, 112, 59]) = false := h 3 (by omega) (by omega)
  have h4 : (s.toList == [99, 111, 112, 121]) = false := h 4 (by omega) (by omega)
  have h5 : (s.toList == [99, 111, 112, 121, 59]) = false := h 5 (by omega) (by omega)
  have h6 : (s.toList == [103, 116]) = false := h 6 (by omega) (by omega)
  have h7 : (s.toList == [103, 116, 59]) = false := h 7 (by omega) (by omega)
  have h8 : (s.toList == [108, 116]) = false := h 8 (by omega) (by omega)
  have h9 : (s.toList == [108, 116, 59]) = false := h 9 (by omega) (by omega)
  have h10 : (s.toList == [110, 98, 115, 112]) = false := h 10 (by omega) (by omega)
  have h11 : (s.toList == [110, 98, 115, 112, 59]) = false := h 11 (by omega) (by omega)
  have h12 : (s.toList == [110, 111, 116]) = false := h 12 (by omega) (by omega)
  have h13 : (s.toList == [110, 111, 116, 59]) = false := h 13 (by omega) (by omega)
  have h14 : (s.toList == [112, 97, 114, 97]) = false := h 14 (by omega) (by omega)
  have h15 : (s.toList == [112, 97, 114, 97, 59]) = false := h 15 (by omega) (by omega)
  have h16 : (s.toList == [113, 117, 111, 116]) = false := h 16 (by omega) (by omega)
  have h17 : (s.toList == [113, 117, 111, 116, 59]) = false := h 17 (by omega) (by omega)
  have h18 : (s.toList == [114, 101, 103]) = false := h 18 (by omega) (by omega)
  have h19 : (s.toList == [114, 101, 103, 59]) = false := h 19 (by omega) (by omega)
  have h20 : (s.toList == [115, 104, 121]) = false := h 20 (by omega) (by omega)
  have h21 : (s.toList == [115, 104, 121, 59]) = false := h 21 (by omega) (by omega)
  have h22 : (s.toList == [115, 117, 112, 49]) = false := h 22 (by omega) (by omega)
  have h23 : (s.toList == [115, 117, 112, 49, 59]) = false := h 23 (by omega) (by omega)
  have h24 : (s.toList == [115, 117, 112, 50]) = false := h 24 (by omega) (by omega)
  have h25 : (s.toList == [115, 117, 112, 50, 59]) = false := h 25 (by omega) (by omega)
  have h26 : (s.toList == [116, 105, 109, 101, 115]) = false := h 26 (by omega) (by omega)
  have h27 : (s.toList == [116, 105, 109, 101, 115, 59]) = false := h 27 (by omega) (by omega)
  clear h
  go_enter Tryd.func91, Tryd.ntmps91
  go_wp2
  refine bodyPost_ret (v := .agg #[.int .i32 0, .int .i32 0]) (by simp [results, Tryd.results91, go_sem]) rfl ⟨rfl, ?_⟩
  repeat (first | exact Below.refl _ _ | refine Below.setCell ?_ (by simp) _ | refine Below.alloc ?_ (by simp) _)
set_option maxHeartbeats 4000000 in
set_option maxRecDepth 100000 in
theorem closed_0 (w : World) : Calls Tryd.prog 92 #[.string ⟨#[98, 110, 101, 59]⟩] w (StandsOut 61 8421 w) := by
  go_enter Tryd.func92, Tryd.ntmps92
  go_wp2
  refine bodyPost_ret (v := .agg #[.int .i32 61, .int .i32 8421]) (by simp [results, Tryd.results92, go_sem]) rfl ⟨rfl, ?_⟩
  repeat (first | exact Below.refl _ _ | refine Below.setCell ?_ (by simp) _ | refine Below.alloc ?_ (by simp) _)
set_option maxHeartbeats 4000000 in
set_option maxRecDepth 100000 in
theorem closed_1 (w : World) : Calls Tryd.prog 92 #[.string ⟨#[110, 118, 108, 116, 59]⟩] w (StandsOut 60 8402 w) := by
  go_enter Tryd.func92, Tryd.ntmps92
  go_wp2
  refine bodyPost_ret (v := .agg #[.int .i32 60, .int .i32 8402]) (by simp [results, Tryd.results92, go_sem]) rfl ⟨rfl, ?_⟩
  repeat (first | exact Below.refl _ _ | refine Below.setCell ?_ (by simp) _ | refine Below.alloc ?_ (by simp) _)
set_option maxHeartbeats 4000000 in
set_option maxRecDepth 100000 in
theorem closed_28 (w : World) : Calls Tryd.prog 92 #[.string ⟨#[84, 97, 98, 59]⟩] w (StandsOut 9 0 w) := by
  go_enter Tryd.func92, Tryd.ntmps92
  go_wp2
  refine bodyPost_ret (v := .agg #[.int .i32 9, .int .i32 0]) (by simp [results, Tryd.results92, go_sem]) rfl ⟨rfl, ?_⟩
  repeat (first | exact Below.refl _ _ | refine Below.setCell ?_ (by simp) _ | refine Below.alloc ?_ (by simp) _)
set_option maxHeartbeats 4000000 in
set_option maxRecDepth 100000 in
theorem closed_29 (w : World) : Calls Tryd.prog 92 #[.string ⟨#[78, 101, 119, 76, 105, 110, 101, 59]⟩] w (StandsOut 10 0 w) := by
  go_enter Tryd.func92, Tryd.ntmps92
  go_wp2
  refine bodyPost_ret (v := .agg #[.int .i32 10, .int .i32 0]) (by simp [results, Tryd.results92, go_sem]) rfl ⟨rfl, ?_⟩
  repeat (first | exact Below.refl _ _ | refine Below.setCell ?_ (by simp) _ | refine Below.alloc ?_ (by simp) _)
set_option maxHeartbeats 4000000 in
set_option maxRecDepth 100000 in
theorem closed_30 (w : World) : Calls Tryd.prog 92 #[.string ⟨#[97, 112, 111, 115, 59]⟩] w (StandsOut 39 0 w) := by
  go_enter Tryd.func92, Tryd.ntmps92
  go_wp2
  refine bodyPost_ret (v := .agg #[.int .i32 39, .int .i32 0]) (by simp [results, Tryd.results92, go_sem]) rfl ⟨rfl, ?_⟩
  repeat (first | exact Below.refl _ _ | refine Below.setCell ?_ (by simp) _ | refine Below.alloc ?_ (by simp) _)
set_option maxHeartbeats 4000000 in
set_option maxRecDepth 100000 in
theorem closed_31 (w : World) : Calls Tryd.prog 92 #[.string ⟨#[108, 112, 97, 114, 59]⟩] w (StandsOut 40 0 w) := by
  go_enter Tryd.func92, Tryd.ntmps92
  go_wp2
  refine bodyPost_ret (v := .agg #[.int .i32 40, .int .i32 0]) (by simp [results, Tryd.results92, go_sem]) rfl ⟨rfl, ?_⟩
  repeat (first | exact Below.refl _ _ | refine Below.setCell ?_ (by simp) _ | refine Below.alloc ?_ (by simp) _)
set_option maxHeartbeats 4000000 in
set_option maxRecDepth 100000 in
theorem closed_32 (w : World) : Calls Tryd.prog 92 #[.string ⟨#[99, 111, 108, 111, 110, 59]⟩] w (StandsOut 58 0 w) := by
  go_enter Tryd.func92, Tryd.ntmps92
  go_wp2
  refine bodyPost_ret (v := .agg #[.int .i32 58, .int .i32 0]) (by simp [results, Tryd.results92, go_sem]) rfl ⟨rfl, ?_⟩
  repeat (first | exact Below.refl _ _ | refine Below.setCell ?_ (by simp) _ | refine Below.alloc ?_ (by simp) _)
set_option maxHeartbeats 4000000 in
set_option maxRecDepth 100000 in
theorem closed_33 (w : World) : Calls Tryd.prog 92 #[.string ⟨#[112, 97, 114, 116, 59]⟩] w (StandsOut 8706 0 w) := by
  go_enter Tryd.func92, Tryd.ntmps92
  go_wp2
  refine bodyPost_ret (v := .agg #[.int .i32 8706, .int .i32 0]) (by simp [results, Tryd.results92, go_sem]) rfl ⟨rfl, ?_⟩
  repeat (first | exact Below.refl _ _ | refine Below.setCell ?_ (by simp) _ | refine Below.alloc ?_ (by simp) _)
set_option maxHeartbeats 4000000 in
set_option maxRecDepth 100000 in
theorem closed_34 (w : World) : Calls Tryd.prog 92 #[.string ⟨#[110, 111, 116, 105, 110, 59]⟩] w (StandsOut 8713 0 w) := by
  go_enter Tryd.func92, Tryd.ntmps92
  go_wp2
  refine bodyPost_ret (v := .agg #[.int .i32 8713, .int .i32 0]) (by simp [results, Tryd.results92, go_sem]) rfl ⟨rfl, ?_⟩
  repeat (first | exact Below.refl _ _ | refine Below.setCell ?_ (by simp) _ | refine Below.alloc ?_ (by simp) _)
set_option maxHeartbeats 4000000 in
set_option maxRecDepth 100000 in
theorem closed_35 (w : World) : Calls Tryd.prog 92 #[.string ⟨#[115, 117, 98, 59]⟩] w (StandsOut 8834 0 w) := by
  go_enter Tryd.func92, Tryd.ntmps92
  go_wp2
  refine bodyPost_ret (v := .agg #[.int .i32 8834, .int .i32 0]) (by simp [results, Tryd.results92, go_sem]) rfl ⟨rfl, ?_⟩
  repeat (first | exact Below.refl _ _ | refine Below.setCell ?_ (by simp) _ | refine Below.alloc ?_ (by simp) _)
set_option maxHeartbeats 4000000 in
set_option maxRecDepth 100000 in
theorem closed_36 (w : World) : Calls Tryd.prog 92 #[.string ⟨#[115, 117, 112, 59]⟩] w (StandsOut 8835 0 w) := by
  go_enter Tryd.func92, Tryd.ntmps92
  go_wp2
  refine bodyPost_ret (v := .agg #[.int .i32 8835, .int .i32 0]) (by simp [results, Tryd.results92, go_sem]) rfl ⟨rfl, ?_⟩
  repeat (first | exact Below.refl _ _ | refine Below.setCell ?_ (by simp) _ | refine Below.alloc ?_ (by simp) _)
set_option maxHeartbeats 4000000 in
set_option maxRecDepth 100000 in
theorem closed_37 (w : World) : Calls Tryd.prog 92 #[.string ⟨#[116, 105, 109, 101, 115, 98, 59]⟩] w (StandsOut 8864 0 w) := by
  go_enter Tryd.func92, Tryd.ntmps92
  go_wp2
  refine bodyPost_ret (v := .agg #[.int .i32 8864, .int .i32 0]) (by simp [results, Tryd.results92, go_sem]) rfl ⟨rfl, ?_⟩
  repeat (first | exact Below.refl _ _ | refine Below.setCell ?_ (by simp) _ | refine Below.alloc ?_ (by simp) _)
set_option maxHeartbeats 4000000 in
set_option maxRecDepth 100000 in
theorem closed_38 (w : World) : Calls Tryd.prog 92 #[.string ⟨#[104, 101, 108, 108, 105, 112, 59]⟩] w (StandsOut 8230 0 w) := by
  go_enter Tryd.func92, Tryd.ntmps92
  go_wp2
  refine bodyPost_ret (v := .agg #[.int .i32 8230, .int .i32 0]) (by simp [results, Tryd.results92, go_sem]) rfl ⟨rfl, ?_⟩
  repeat (first | exact Below.refl _ _ | refine Below.setCell ?_ (by simp) _ | refine Below.alloc ?_ (by simp) _)
set_option maxHeartbeats 4000000 in
set_option maxRecDepth 100000 in
theorem closed_39 (w : World) : Calls Tryd.prog 92 #[.string ⟨#[109, 100, 97, 115, 104, 59]⟩] w (StandsOut 8212 0 w) := by
  go_enter Tryd.func92, Tryd.ntmps92
  go_wp2
  refine bodyPost_ret (v := .agg #[.int .i32 8212, .int .i32 0]) (by simp [results, Tryd.results92, go_sem]) rfl ⟨rfl, ?_⟩
  repeat (first | exact Below.refl _ _ | refine Below.setCell ?_ (by simp) _ | refine Below.alloc ?_ (by simp) _)
set_option maxHeartbeats 4000000 in
set_option maxRecDepth 100000 in
theorem closed_40 (w : World) : Calls Tryd.prog 92 #[.string ⟨#[110, 100, 97, 115, 104, 59]⟩] w (StandsOut 8211 0 w) := by
  go_enter Tryd.func92, Tryd.ntmps92
  go_wp2
  refine bodyPost_ret (v := .agg #[.int .i32 8211, .int .i32 0]) (by simp [results, Tryd.results92, go_sem]) rfl ⟨rfl, ?_⟩
  repeat (first | exact Below.refl _ _ | refine Below.setCell ?_ (by simp) _ | refine Below.alloc ?_ (by simp) _)
set_option maxHeartbeats 4000000 in
set_option maxRecDepth 100000 in
theorem closed_41 (w : World) : Calls Tryd.prog 92 #[.string ⟨#[108, 115, 113, 117, 111, 59]⟩] w (StandsOut 8216 0 w) := by
  go_enter Tryd.func92, Tryd.ntmps92
  go_wp2
  refine bodyPost_ret (v := .agg #[.int .i32 8216, .int .i32 0]) (by simp [results, Tryd.results92, go_sem]) rfl ⟨rfl, ?_⟩
  repeat (first | exact Below.refl _ _ | refine Below.setCell ?_ (by simp) _ | refine Below.alloc ?_ (by simp) _)
set_option maxHeartbeats 4000000 in
set_option maxRecDepth 100000 in
theorem closed_42 (w : World) : Calls Tryd.prog 92 #[.string ⟨#[114, 115, 113, 117, 111, 59]⟩] w (StandsOut 8217 0 w) := by
  go_enter Tryd.func92, Tryd.ntmps92
  go_wp2
  refine bodyPost_ret (v := .agg #[.int .i32 8217, .int .i32 0]) (by simp [results, Tryd.results92, go_sem]) rfl ⟨rfl, ?_⟩
  repeat (first | exact Below.refl _ _ | refine Below.setCell ?_ (by simp) _ | refine Below.alloc ?_ (by simp) _)
set_option maxHeartbeats 4000000 in
set_option maxRecDepth 100000 in
theorem closed_43 (w : World) : Calls Tryd.prog 92 #[.string ⟨#[108, 100, 113, 117, 111, 59]⟩] w (StandsOut 8220 0 w) := by
  go_enter Tryd.func92, Tryd.ntmps92
  go_wp2
  refine bodyPost_ret (v := .agg #[.int .i32 8220, .int .i32 0]) (by simp [results, Tryd.results92, go_sem]) rfl ⟨rfl, ?_⟩
  repeat (first | exact Below.refl _ _ | refine Below.setCell ?_ (by simp) _ | refine Below.alloc ?_ (by simp) _)
set_option maxHeartbeats 4000000 in
set_option maxRecDepth 100000 in
theorem closed_44 (w : World) : Calls Tryd.prog 92 #[.string ⟨#[114, 100, 113, 117, 111, 59]⟩] w (StandsOut 8221 0 w) := by
  go_enter Tryd.func92, Tryd.ntmps92
  go_wp2
  refine bodyPost_ret (v := .agg #[.int .i32 8221, .int .i32 0]) (by simp [results, Tryd.results92, go_sem]) rfl ⟨rfl, ?_⟩
  repeat (first | exact Below.refl _ _ | refine Below.setCell ?_ (by simp) _ | refine Below.alloc ?_ (by simp) _)
set_option maxHeartbeats 4000000 in
set_option maxRecDepth 100000 in
theorem closed_45 (w : World) : Calls Tryd.prog 92 #[.string ⟨#[101, 117, 114, 111, 59]⟩] w (StandsOut 8364 0 w) := by
  go_enter Tryd.func92, Tryd.ntmps92
  go_wp2
  refine bodyPost_ret (v := .agg #[.int .i32 8364, .int .i32 0]) (by simp [results, Tryd.results92, go_sem]) rfl ⟨rfl, ?_⟩
  repeat (first | exact Below.refl _ _ | refine Below.setCell ?_ (by simp) _ | refine Below.alloc ?_ (by simp) _)
set_option maxHeartbeats 4000000 in
set_option maxRecDepth 100000 in
theorem closed_no (s : ByteArray) (w : World) (h : ∀ j, j < 46 → (j < 2 ∨ 28 ≤ j) → (s.toList == Plain.nm j) = false) : Calls Tryd.prog 92 #[.string s] w (StandsOut 0 0 w) := by
  have h0 : (s.toList == [98, 110, 101, 59]) = false := h 0 (by omega) (by omega)
  have h1 : (s.toList == [110, 118, 108, 116, 59]) = false := h 1 (by omega) (by omega)
  have h28 : (s.toList == [84, 97, 98, 59]) = false := h 28 (by omega) (by omega)
  have h29 : (s.toList == [78, 101, 119, 76, 105, 110, 101, 59]) = false := h 29 (by omega) (by omega)
  have h30 : (s.toList == [97, 112, 111, 115, 59]) = false := h 30 (by omega) (by omega)
  have h31 : (s.toList == [108, 112, 97, 114, 59]) = false := h 31 (by omega) (by omega)
  have h32 : (s.toList == [99, 111, 108, 111, 110, 59]) = false := h 32 (by omega) (by omega)
  have h33 : (s.toList == [112, 97, 114, 116, 59]) = false := h 33 (by omega) (by omega)
  have h34 : (s.toList == [110, 111, 116, 105, 110, 59]) = false := h 34 (by omega) (by omega)
  have h35 : (s.toList == [115, 117, 98, 59]) = false := h 35 (by omega) (by omega)
  have h36 : (s.toList == [115, 117, 112, 59]) = false := h 36 (by omega) (by omega)
  have h37 : (s.toList == [116, 105, 109, 101, 115, 98, 59]) = false := h 37 (by omega) (by omega)
  have h38 : (s.toList == [104, 101, 108, 108, 105, 112, 59]) = false := h 38 (by omega) (by omega)
  have h39 : (s.toList == [109, 100, 97, 115, 104, 59]) = false := h 39 (by omega) (by omega)
  have h40 : (s.toList == [110, 100, 97, 115, 104, 59]) = false := h 40 (by omega) (by omega)
  have h41 : (s.toList == [108, 115, 113, 117, 111, 59]) = false := h 41 (by omega) (by omega)
  have h42 : (s.toList == [114, 115, 113, 117, 111, 59]) = false := h 42 (by omega) (by omega)
  have h43 : (s.toList == [108, 100, 113, 117, 111, 59]) = false := h 43 (by omega) (by omega)
  have h44 : (s.toList == [114, 100, 113, 117, 111, 59]) = false := h 44 (by omega) (by omega)
  have h45 : (s.toList == [101, 117, 114, 111, 59]) = false := h 45 (by omega) (by omega)
  clear h
  go_enter Tryd.func92, Tryd.ntmps92
  go_wp2
  refine bodyPost_ret (v := .agg #[.int .i32 0, .int .i32 0]) (by simp [results, Tryd.results92, go_sem]) rfl ⟨rfl, ?_⟩
  repeat (first | exact Below.refl _ _ | refine Below.setCell ?_ (by simp) _ | refine Below.alloc ?_ (by simp) _)
theorem no_at (s : ByteArray) (h : Plain.look s.data.toList = none) (j : Nat) (hj : j < 46) : (s.toList == Plain.nm j) = false := by
  rw [Lib.toList_data, beq_eq_false_iff_ne]
  intro e
  have := Plain.names_once _ (Plain.nm_mem j hj)
  rw [← e, h] at this
  cases this
theorem nm_other : ∀ i, i < 46 → ∀ j, j < 46 → i ≠ j → (Plain.nm i == Plain.nm j) = false := by decide +kernel
theorem nm_at (i j : Nat) (hi : i < 46) (hj : j < 46) (h : i ≠ j) : ((⟨(Plain.nm i).toArray⟩ : ByteArray).toList == Plain.nm j) = false := by
  rw [Lib.toList_data]
  exact nm_other i hi j hj h
theorem two_set {n : Nat} {w W : World} (h : Below n w W) (b : Nat) (hb : n ≤ b) (i j : Nat) (u v : Value) : Below n w ((W.setCell ⟨b, i, none⟩ u).setCell ⟨b, j, none⟩ v) := (h.setCell hb u).setCell hb v
theorem blk (w : World) (vs : Array Value) (t : TypeId) (w1 : World) (b1 : Below (w.alloc (.cells vs t)).heap.size (w.alloc (.cells vs t)) w1) : (∀ j, w1.cell? ⟨w.heap.size, j, none⟩ = vs[j]?) ∧ (∀ j, w1.frozen? ⟨w.heap.size, j, none⟩ = false) ∧ w.heap.size < w1.heap.size ∧ Below w.heap.size w w1 := by
  have k0 : ∀ j, (w.alloc (.cells vs t)).cell? ⟨w.heap.size, j, none⟩ = vs[j]? := fun j => World.cell?_alloc_mark w _ t (0, 0) j
  have m0 : ∀ j, (w.alloc (.cells vs t)).frozen? ⟨w.heap.size, j, none⟩ = false := fun j => by rw [World.frozen?_alloc_mark]; simp
  have hz : (w.alloc (.cells vs t)).heap.size = w.heap.size + 1 := by simp
  have b0 : Below w.heap.size w (w.alloc (.cells vs t)) := (Below.refl _ w).alloc (Nat.le_refl _) _
  have h1 := b1.size
  exact ⟨fun j => (b1.cell (p := ⟨w.heap.size, j, none⟩) (by rw [hz]; exact Nat.lt_succ_self _)).trans (k0 j), fun j => (b1.frozen (p := ⟨w.heap.size, j, none⟩) (by rw [hz]; exact Nat.lt_succ_self _)).trans (m0 j), by omega, b0.trans (b1.mono (by omega))⟩
set_option maxHeartbeats 1000000 in
set_option maxRecDepth 100000 in
theorem meant_open (s : ByteArray) (a b : Nat) (w : World) (ha : a ≠ 0) (h : ∀ W, Calls Tryd.prog 91 #[.string s] W (StandsOut a b W)) : Calls Tryd.prog 84 #[.string s] w (StandsOut a b w) := by
  have H := fun W => Lib.hid (h W)
  have q : ((a : Int) != 0) = true := by simp; omega
  clear h ha
  go_enter Tryd.func84, Tryd.ntmps84
  go_wp2_with fail
  refine (H _).out.mono ?_
  rintro e w1 ⟨rfl, b1⟩
  obtain ⟨c, f, lt, bl⟩ := blk _ _ _ _ b1
  have c0 := c 0
  have c1 := c 1
  clear c b1 H
  go_wp2
  refine bodyPost_ret (v := .agg #[.int .i32 (a : Int), .int .i32 (b : Int)]) (by simp [results, Tryd.results84, go_sem, *]) rfl ⟨rfl, ?_⟩
  have z1 := bl.size
  exact (two_set bl _ (Nat.le_refl _) 0 1 _ _).alloc (by simpa using z1) _
set_option maxHeartbeats 1000000 in
set_option maxRecDepth 100000 in
theorem meant_closed (s : ByteArray) (a b : Nat) (w : World) (ho : ∀ W, Calls Tryd.prog 91 #[.string s] W (StandsOut 0 0 W)) (h : ∀ W, Calls Tryd.prog 92 #[.string s] W (StandsOut a b W)) : Calls Tryd.prog 84 #[.string s] w (StandsOut a b w) := by
  have HO := fun W => Lib.hid (ho W)
  have H := fun W => Lib.hid (h W)
  clear h ho
  go_enter Tryd.func84, Tryd.ntmps84
  go_wp2_with fail
  refine (HO _).out.mono ?_
  rintro e w1 ⟨rfl, b1⟩
  obtain ⟨c, f, lt, bl⟩ := blk _ _ _ _ b1
  clear b1 HO
  go_wp2_with fail
  refine (H _).out.mono ?_
  rintro e w2 ⟨rfl, b2⟩
  have b3 := ((Below.refl _ w1).alloc (Nat.le_refl _) _).trans (b2.mono (by simp))
  have c0 := (b3.cell (p := ⟨w.heap.size, 0, none⟩) lt).trans (c 0)
  have c1 := (b3.cell (p := ⟨w.heap.size, 1, none⟩) lt).trans (c 1)
  have f0 := fun j => (b3.frozen (p := ⟨w.heap.size, j, none⟩) lt).trans (f j)
  have lt2 := Nat.lt_of_lt_of_le lt b3.size
  have bl2 := bl.trans (b3.mono bl.size)
  clear c f b2 b3 H bl lt
  go_wp2
  refine bodyPost_ret (v := .agg #[.int .i32 (a : Int), .int .i32 (b : Int)]) (by simp [results, Tryd.results84, go_sem, *]) rfl ⟨rfl, ?_⟩
  exact two_set bl2 _ (Nat.le_refl _) 0 1 _ _
theorem stands_0 (w : World) : Calls Tryd.prog 84 #[.string ⟨#[98, 110, 101, 59]⟩] w (StandsOut 61 8421 w) := meant_closed _ _ _ w (fun W => open_no _ W (fun i h1 h2 => nm_at 0 i (by omega) (by omega) (by omega))) closed_0
theorem stands_1 (w : World) : Calls Tryd.prog 84 #[.string ⟨#[110, 118, 108, 116, 59]⟩] w (StandsOut 60 8402 w) := meant_closed _ _ _ w (fun W => open_no _ W (fun i h1 h2 => nm_at 1 i (by omega) (by omega) (by omega))) closed_1
theorem stands_2 (w : World) : Calls Tryd.prog 84 #[.string ⟨#[97, 109, 112]⟩] w (StandsOut 38 0 w) := meant_open _ _ _ w (by omega) open_2
theorem stands_3 (w : World) : Calls Tryd.prog 84 #[.string ⟨#[97, 109, 112, 59]⟩] w (StandsOut 38 0 w) := meant_open _ _ _ w (by omega) open_3
theorem stands_4 (w : World) : Calls Tryd.prog 84 #[.string ⟨#[99, 111, 112, 121]⟩] w (StandsOut 169 0 w) := meant_open _ _ _ w (by omega) open_4
theorem stands_5 (w : World) : Calls Tryd.prog 84 #[.string ⟨#[99, 111, 112, 121, 59]⟩] w (StandsOut 169 0 w) := meant_open _ _ _ w (by omega) open_5
theorem stands_6 (w : World) : Calls Tryd.prog 84 #[.string ⟨#[103, 116]⟩] w (StandsOut 62 0 w) := meant_open _ _ _ w (by omega) open_6
theorem stands_7 (w : World) : Calls Tryd.prog 84 #[.string ⟨#[103, 116, 59]⟩] w (StandsOut 62 0 w) := meant_open _ _ _ w (by omega) open_7
theorem stands_8 (w : World) : Calls Tryd.prog 84 #[.string ⟨#[108, 116]⟩] w (StandsOut 60 0 w) := meant_open _ _ _ w (by omega) open_8
theorem stands_9 (w : World) : Calls Tryd.prog 84 #[.string ⟨#[108, 116, 59]⟩] w (StandsOut 60 0 w) := meant_open _ _ _ w (by omega) open_9
theorem stands_10 (w : World) : Calls Tryd.prog 84 #[.string ⟨#[110, 98, 115, 112]⟩] w (StandsOut 160 0 w) := meant_open _ _ _ w (by omega) open_10
theorem stands_11 (w : World) : Calls Tryd.prog 84 #[.string ⟨#[110, 98, 115, 112, 59]⟩] w (StandsOut 160 0 w) := meant_open _ _ _ w (by omega) open_11
theorem stands_12 (w : World) : Calls Tryd.prog 84 #[.string ⟨#[110, 111, 116]⟩] w (StandsOut 172 0 w) := meant_open _ _ _ w (by omega) open_12
theorem stands_13 (w : World) : Calls Tryd.prog 84 #[.string ⟨#[110, 111, 116, 59]⟩] w (StandsOut 172 0 w) := meant_open _ _ _ w (by omega) open_13
theorem stands_14 (w : World) : Calls Tryd.prog 84 #[.string ⟨#[112, 97, 114, 97]⟩] w (StandsOut 182 0 w) := meant_open _ _ _ w (by omega) open_14
theorem stands_15 (w : World) : Calls Tryd.prog 84 #[.string ⟨#[112, 97, 114, 97, 59]⟩] w (StandsOut 182 0 w) := meant_open _ _ _ w (by omega) open_15
theorem stands_16 (w : World) : Calls Tryd.prog 84 #[.string ⟨#[113, 117, 111, 116]⟩] w (StandsOut 34 0 w) := meant_open _ _ _ w (by omega) open_16
theorem stands_17 (w : World) : Calls Tryd.prog 84 #[.string ⟨#[113, 117, 111, 116, 59]⟩] w (StandsOut 34 0 w) := meant_open _ _ _ w (by omega) open_17
theorem stands_18 (w : World) : Calls Tryd.prog 84 #[.string ⟨#[114, 101, 103]⟩] w (StandsOut 174 0 w) := meant_open _ _ _ w (by omega) open_18
theorem stands_19 (w : World) : Calls Tryd.prog 84 #[.string ⟨#[114, 101, 103, 59]⟩] w (StandsOut 174 0 w) := meant_open _ _ _ w (by omega) open_19
theorem stands_20 (w : World) : Calls Tryd.prog 84 #[.string ⟨#[115, 104, 121]⟩] w (StandsOut 173 0 w) := meant_open _ _ _ w (by omega) open_20
theorem stands_21 (w : World) : Calls Tryd.prog 84 #[.string ⟨#[115, 104, 121, 59]⟩] w (StandsOut 173 0 w) := meant_open _ _ _ w (by omega) open_21
theorem stands_22 (w : World) : Calls Tryd.prog 84 #[.string ⟨#[115, 117, 112, 49]⟩] w (StandsOut 185 0 w) := meant_open _ _ _ w (by omega) open_22
theorem stands_23 (w : World) : Calls Tryd.prog 84 #[.string ⟨#[115, 117, 112, 49, 59]⟩] w (StandsOut 185 0 w) := meant_open _ _ _ w (by omega) open_23
theorem stands_24 (w : World) : Calls Tryd.prog 84 #[.string ⟨#[115, 117, 112, 50]⟩] w (StandsOut 178 0 w) := meant_open _ _ _ w (by omega) open_24
theorem stands_25 (w : World) : Calls Tryd.prog 84 #[.string ⟨#[115, 117, 112, 50, 59]⟩] w (StandsOut 178 0 w) := meant_open _ _ _ w (by omega) open_25
theorem stands_26 (w : World) : Calls Tryd.prog 84 #[.string ⟨#[116, 105, 109, 101, 115]⟩] w (StandsOut 215 0 w) := meant_open _ _ _ w (by omega) open_26
theorem stands_27 (w : World) : Calls Tryd.prog 84 #[.string ⟨#[116, 105, 109, 101, 115, 59]⟩] w (StandsOut 215 0 w) := meant_open _ _ _ w (by omega) open_27
theorem stands_28 (w : World) : Calls Tryd.prog 84 #[.string ⟨#[84, 97, 98, 59]⟩] w (StandsOut 9 0 w) := meant_closed _ _ _ w (fun W => open_no _ W (fun i h1 h2 => nm_at 28 i (by omega) (by omega) (by omega))) closed_28
theorem stands_29 (w : World) : Calls Tryd.prog 84 #[.string ⟨#[78, 101, 119, 76, 105, 110, 101, 59]⟩] w (StandsOut 10 0 w) := meant_closed _ _ _ w (fun W => open_no _ W (fun i h1 h2 => nm_at 29 i (by omega) (by omega) (by omega))) closed_29
theorem stands_30 (w : World) : Calls Tryd.prog 84 #[.string ⟨#[97, 112, 111, 115, 59]⟩] w (StandsOut 39 0 w) := meant_closed _ _ _ w (fun W => open_no _ W (fun i h1 h2 => nm_at 30 i (by omega) (by omega) (by omega))) closed_30
theorem stands_31 (w : World) : Calls Tryd.prog 84 #[.string ⟨#[108, 112, 97, 114, 59]⟩] w (StandsOut 40 0 w) := meant_closed _ _ _ w (fun W => open_no _ W (fun i h1 h2 => nm_at 31 i (by omega) (by omega) (by omega))) closed_31
theorem stands_32 (w : World) : Calls Tryd.prog 84 #[.string ⟨#[99, 111, 108, 111, 110, 59]⟩] w (StandsOut 58 0 w) := meant_closed _ _ _ w (fun W => open_no _ W (fun i h1 h2 => nm_at 32 i (by omega) (by omega) (by omega))) closed_32
theorem stands_33 (w : World) : Calls Tryd.prog 84 #[.string ⟨#[112, 97, 114, 116, 59]⟩] w (StandsOut 8706 0 w) := meant_closed _ _ _ w (fun W => open_no _ W (fun i h1 h2 => nm_at 33 i (by omega) (by omega) (by omega))) closed_33
theorem stands_34 (w : World) : Calls Tryd.prog 84 #[.string ⟨#[110, 111, 116, 105, 110, 59]⟩] w (StandsOut 8713 0 w) := meant_closed _ _ _ w (fun W => open_no _ W (fun i h1 h2 => nm_at 34 i (by omega) (by omega) (by omega))) closed_34
theorem stands_35 (w : World) : Calls Tryd.prog 84 #[.string ⟨#[115, 117, 98, 59]⟩] w (StandsOut 8834 0 w) := meant_closed _ _ _ w (fun W => open_no _ W (fun i h1 h2 => nm_at 35 i (by omega) (by omega) (by omega))) closed_35
theorem stands_36 (w : World) : Calls Tryd.prog 84 #[.string ⟨#[115, 117, 112, 59]⟩] w (StandsOut 8835 0 w) := meant_closed _ _ _ w (fun W => open_no _ W (fun i h1 h2 => nm_at 36 i (by omega) (by omega) (by omega))) closed_36
theorem stands_37 (w : World) : Calls Tryd.prog 84 #[.string ⟨#[116, 105, 109, 101, 115, 98, 59]⟩] w (StandsOut 8864 0 w) := meant_closed _ _ _ w (fun W => open_no _ W (fun i h1 h2 => nm_at 37 i (by omega) (by omega) (by omega))) closed_37
theorem stands_38 (w : World) : Calls Tryd.prog 84 #[.string ⟨#[104, 101, 108, 108, 105, 112, 59]⟩] w (StandsOut 8230 0 w) := meant_closed _ _ _ w (fun W => open_no _ W (fun i h1 h2 => nm_at 38 i (by omega) (by omega) (by omega))) closed_38
theorem stands_39 (w : World) : Calls Tryd.prog 84 #[.string ⟨#[109, 100, 97, 115, 104, 59]⟩] w (StandsOut 8212 0 w) := meant_closed _ _ _ w (fun W => open_no _ W (fun i h1 h2 => nm_at 39 i (by omega) (by omega) (by omega))) closed_39
theorem stands_40 (w : World) : Calls Tryd.prog 84 #[.string ⟨#[110, 100, 97, 115, 104, 59]⟩] w (StandsOut 8211 0 w) := meant_closed _ _ _ w (fun W => open_no _ W (fun i h1 h2 => nm_at 40 i (by omega) (by omega) (by omega))) closed_40
theorem stands_41 (w : World) : Calls Tryd.prog 84 #[.string ⟨#[108, 115, 113, 117, 111, 59]⟩] w (StandsOut 8216 0 w) := meant_closed _ _ _ w (fun W => open_no _ W (fun i h1 h2 => nm_at 41 i (by omega) (by omega) (by omega))) closed_41
theorem stands_42 (w : World) : Calls Tryd.prog 84 #[.string ⟨#[114, 115, 113, 117, 111, 59]⟩] w (StandsOut 8217 0 w) := meant_closed _ _ _ w (fun W => open_no _ W (fun i h1 h2 => nm_at 42 i (by omega) (by omega) (by omega))) closed_42
theorem stands_43 (w : World) : Calls Tryd.prog 84 #[.string ⟨#[108, 100, 113, 117, 111, 59]⟩] w (StandsOut 8220 0 w) := meant_closed _ _ _ w (fun W => open_no _ W (fun i h1 h2 => nm_at 43 i (by omega) (by omega) (by omega))) closed_43
theorem stands_44 (w : World) : Calls Tryd.prog 84 #[.string ⟨#[114, 100, 113, 117, 111, 59]⟩] w (StandsOut 8221 0 w) := meant_closed _ _ _ w (fun W => open_no _ W (fun i h1 h2 => nm_at 44 i (by omega) (by omega) (by omega))) closed_44
theorem stands_45 (w : World) : Calls Tryd.prog 84 #[.string ⟨#[101, 117, 114, 111, 59]⟩] w (StandsOut 8364 0 w) := meant_closed _ _ _ w (fun W => open_no _ W (fun i h1 h2 => nm_at 45 i (by omega) (by omega) (by omega))) closed_45
theorem stands_yes (j : Nat) (h : j < 46) (w : World) : Calls Tryd.prog 84 #[.string ⟨(Plain.nm j).toArray⟩] w (StandsOut (Plain.c1 j) (Plain.c2 j) w) := by
  rcases (show j = 0 ∨ j = 1 ∨ j = 2 ∨ j = 3 ∨ j = 4 ∨ j = 5 ∨ j = 6 ∨ j = 7 ∨ j = 8 ∨ j = 9 ∨ j = 10 ∨ j = 11 ∨ j = 12 ∨ j = 13 ∨ j = 14 ∨ j = 15 ∨ j = 16 ∨ j = 17 ∨ j = 18 ∨ j = 19 ∨ j = 20 ∨ j = 21 ∨ j = 22 ∨ j = 23 ∨ j = 24 ∨ j = 25 ∨ j = 26 ∨ j = 27 ∨ j = 28 ∨ j = 29 ∨ j = 30 ∨ j = 31 ∨ j = 32 ∨ j = 33 ∨ j = 34 ∨ j = 35 ∨ j = 36 ∨ j = 37 ∨ j = 38 ∨ j = 39 ∨ j = 40 ∨ j = 41 ∨ j = 42 ∨ j = 43 ∨ j = 44 ∨ j = 45 by omega) with rfl | rfl | rfl | rfl | rfl | rfl | rfl | rfl | rfl | rfl | rfl | rfl | rfl | rfl | rfl | rfl | rfl | rfl | rfl | rfl | rfl | rfl | rfl | rfl | rfl | rfl | rfl | rfl | rfl | rfl | rfl | rfl | rfl | rfl | rfl | rfl | rfl | rfl | rfl | rfl | rfl | rfl | rfl | rfl | rfl | rfl
  · exact stands_0 w
  · exact stands_1 w
  · exact stands_2 w
  · exact stands_3 w
  · exact stands_4 w
  · exact stands_5 w
  · exact stands_6 w
  · exact stands_7 w
  · exact stands_8 w
  · exact stands_9 w
  · exact stands_10 w
  · exact stands_11 w
  · exact stands_12 w
  · exact stands_13 w
  · exact stands_14 w
  · exact stands_15 w
  · exact stands_16 w
  · exact stands_17 w
  · exact stands_18 w
  · exact stands_19 w
  · exact stands_20 w
  · exact stands_21 w
  · exact stands_22 w
  · exact stands_23 w
  · exact stands_24 w
  · exact stands_25 w
  · exact stands_26 w
  · exact stands_27 w
  · exact stands_28 w
  · exact stands_29 w
  · exact stands_30 w
  · exact stands_31 w
  · exact stands_32 w
  · exact stands_33 w
  · exact stands_34 w
  · exact stands_35 w
  · exact stands_36 w
  · exact stands_37 w
  · exact stands_38 w
  · exact stands_39 w
  · exact stands_40 w
  · exact stands_41 w
  · exact stands_42 w
  · exact stands_43 w
  · exact stands_44 w
  · exact stands_45 w
theorem stands_no (s : ByteArray) (w : World) (h : Plain.look s.data.toList = none) : Calls Tryd.prog 84 #[.string s] w (StandsOut 0 0 w) :=
  meant_closed s 0 0 w (fun W => open_no s W (fun j _ h2 => no_at s h j (by omega))) (fun W => closed_no s W (fun j h1 _ => no_at s h j h1))

set_option maxHeartbeats 1000000 in
set_option maxRecDepth 100000 in
theorem text_one (a : Nat) (w : World) (ha : a ≤ 9000) : Calls Tryd.prog 86 #[.agg #[.int .i32 (a : Int), .int .i32 0]] w (Tells (Plain.enc a) w) := by
  go_enter Tryd.func86, Tryd.ntmps86
  go_wp2
  go_ret
  exact tells_enc a ⟨by omega, by omega⟩ ((Below.refl _ w).alloc (Nat.le_refl _) _)
theorem size4 (E : ByteArray) (l : List UInt8) (h : E.data.toList = l) (h4 : l.length ≤ 4) : E.size ≤ 4 := by
  subst h
  simpa using h4
theorem enc_size (k : Nat) (h : Plain.Valid k) : (Utf8.encode (k : Int)).size ≤ 4 := size4 _ _ (Plain.enc_is k h) (Plain.enc_len k).2
theorem two_of (E F : ByteArray) (a b : List UInt8) (h1 : E.data.toList = a) (h2 : F.data.toList = b) {w w' : World} (hb : Below w.heap.size w w') : Tells (a ++ b) w (.returned (.string (E ++ F))) w' := by
  refine tells_of (E ++ F) (a ++ b) ?_ hb
  rw [ByteArray.data_append, Array.toList_append, h1, h2]
set_option maxHeartbeats 1000000 in
set_option maxRecDepth 100000 in
theorem text_two (a b : Nat) (w : World) (ha : a ≤ 9000) (hb : b ≤ 9000) (h0 : b ≠ 0) : Calls Tryd.prog 86 #[.agg #[.int .i32 (a : Int), .int .i32 (b : Int)]] w (Tells (Plain.enc a ++ Plain.enc b) w) := by
  have hq : ((b : Int) == 0) = false := beq_eq_false_iff_ne.2 (by omega)
  have va : Plain.Valid a := ⟨by omega, by omega⟩
  have vb : Plain.Valid b := ⟨by omega, by omega⟩
  have VA := Lib.hid va
  have VB := Lib.hid vb
  have hadd : ∀ W, (Op.stringOp .add (Utf8.encode (a : Int)) (Utf8.encode (b : Int))).run Tryd.prog W = .ok (.string (Utf8.encode (a : Int) ++ Utf8.encode (b : Int))) W := fun W => run_string_add_sum W _ _ (by have := enc_size a va; have := enc_size b vb; omega)
  clear va vb h0
  go_enter Tryd.func86, Tryd.ntmps86
  go_wp2
  go_ret
  exact two_of _ _ _ _ (Plain.enc_is a VA.out) (Plain.enc_is b VB.out) ((Below.refl _ w).alloc (Nat.le_refl _) _)
theorem text_of (j : Nat) (h : j < 46) (w : World) : Calls Tryd.prog 86 #[.agg #[.int .i32 (Plain.c1 j : Int), .int .i32 (Plain.c2 j : Int)]] w (Tells (Plain.vl j) w) := by
  obtain ⟨h1, h2, h3⟩ := Plain.codes_ok j h
  rw [h3]
  by_cases h0 : Plain.c2 j = 0
  · rw [if_pos h0, h0, List.append_nil]
    exact text_one _ w h1
  · rw [if_neg h0]
    exact text_two _ _ w h1 h2 h0
end Go.Proofs.YtgelgfgcdfnacaaDoor
namespace Go.Proofs.YtgelgfgcdfnacaaDoor
open Go.RowKit

theorem take_of (s : ByteArray) (L : Nat) : (s.extract 1 (L + 1)).data.toList = (s.data.toList.drop 1).take L := by
  rw [Lib.extract_data, Nat.add_sub_cancel]
theorem slice_name (s : ByteArray) (M : Nat) (W : World) (h : M + 1 + 1 ≤ s.size) : (Instr.slice 9 (.string s) (some (.int .i64 1)) (some (.int .i64 ((M : Int) + 1 + 1))) none).run Tryd.prog W = .ok (.string (s.extract 1 (M + 1 + 1))) W := by
  rw [run_slice_string W 9 s .i64 .i64 1 ((M : Int) + 1 + 1) Tryd.underlying9 (by omega) (by omega) (by omega)]
  rfl
theorem Plain.codes_ne : ∀ j, j < 46 → Plain.c1 j ≠ 0 := by decide
theorem best_step (t : List UInt8) (L : Nat) (h : Plain.bestN (L + 1) t = Plain.best t) (hl : Plain.look (t.take (L + 1)) = none) : Plain.bestN L t = Plain.best t := by
  rw [Plain.bestN, hl] at h
  exact h
theorem best_found (t : List UInt8) (L : Nat) (h : Plain.bestN (L + 1) t = Plain.best t) (v : List UInt8) (hl : Plain.look (t.take (L + 1)) = some v) : Plain.best t = some (v, L + 1) := by
  rw [Plain.bestN, hl] at h
  exact h.symm
theorem bar_next (s : ByteArray) (L : Nat) (h : L < s.size) (h59 : s[L].toNat ≠ 59) (h1 : L + 1 < s.size) : (true && Plain.barred s.data.toList L) = Plain.goesOn s[L + 1] := by
  unfold Plain.barred
  rw [Plain.getD_get s L h, Plain.getD_get s (L + 1) h1, decide_eq_true h59]
  rfl

theorem bel {w wr w1 w2 : World} {o : Obj} (h : Below w.heap.size w wr) (h1 : Below wr.heap.size wr w1) (h2 : Below (w1.alloc o).heap.size (w1.alloc o) w2) : Below w.heap.size w w2 := by
  have c1 := h.trans (h1.mono h.size)
  exact (c1.alloc c1.size o).trans (h2.mono (by have := c1.size; simp; omega))
theorem bel1 {w wr w1 : World} {o : Obj} (h : Below w.heap.size w wr) (h1 : Below wr.heap.size wr w1) : Below w.heap.size w (w1.alloc o) := by
  have c1 := h.trans (h1.mono h.size)
  exact c1.alloc c1.size o
set_option maxHeartbeats 4000000 in
set_option maxRecDepth 100000 in
theorem named_any (s : ByteArray) (attr : Bool) (w : World) (h1 : 1 ≤ s.size) (hs : s.size ≤ 4294967296) : Calls Tryd.prog 76 #[.string s, .bool attr] w (Tells2 (Plain.named s.data.toList attr) w) := by
  have hl : (s.data.toList.drop 1).length = s.size - 1 := by simp
  have HL := Lib.hid hl
  clear hl
  go_enter Tryd.func76, Tryd.ntmps76
  go_wp2
  go_loopw [6] (fun v wr => ∃ L : Nat, L ≤ 8 ∧ L + 1 ≤ s.size ∧ v = .int .i64 ((L : Int) + 1) ∧ Plain.bestN L (s.data.toList.drop 1) = Plain.best (s.data.toList.drop 1) ∧ Below w.heap.size w wr) (fun v _ => (intOf v).toNat)
  case atStart =>
    refine ⟨min 8 (s.size - 1), by omega, by omega, int_is (by omega), ?_, Below.refl _ _⟩
    unfold Plain.best
    rw [HL.out]
  case round =>
    obtain ⟨L, hL8, hLs, rfl, hbest, hb⟩ := hrel
    have HB := Lib.hid hbest
    clear hbest
    by_cases h0 : L = 0
    · subst h0
      have HN := Lib.hid (Plain.named_none s.data.toList attr HB.out.symm)
      clear HB
      go_wp2
      go_ret2
      exact tells2_of HN.out rfl hb
    · obtain ⟨M, rfl⟩ : ∃ M, L = M + 1 := ⟨L - 1, by omega⟩
      have ht := take_of s (M + 1)
      have hsl := fun W => slice_name s M W hLs
      cases hlk : Plain.look ((s.data.toList.drop 1).take (M + 1)) with
      | none =>
        have HN := Lib.hid (best_step _ M HB.out hlk)
        have HST := fun W => Lib.hid (stands_no (s.extract 1 (M + 1 + 1)) W (by rw [ht]; exact hlk))
        clear HB hlk ht h0
        go_wp2_with (go_at_call 84; refine (HST _).out.mono ?_; rintro e w1 ⟨rfl, b1⟩)
        have c1 := hb.trans (b1.mono hb.size)
        have z1 := c1.size
        refine ⟨⟨M, by omega, by omega, int_is (by omega), HN.out, ?_⟩, by simp [intOf]; omega⟩
        repeat (first | exact c1 | refine Below.setCell ?_ (by first | omega | (simp; omega)) _ | refine Below.alloc ?_ (by first | omega | (simp; omega)) _)
      | some v =>
        have hbs := best_found _ M HB.out v hlk
        obtain ⟨j, hj, hjv⟩ := Plain.mem_nm _ (Plain.look_mem _ _ hlk)
        obtain ⟨hj1, rfl⟩ := Prod.mk.inj hjv
        have hse : s.extract 1 (M + 1 + 1) = ⟨(Plain.nm j).toArray⟩ := by
          apply ByteArray.ext
          apply Array.toList_inj.1
          rw [ht, hj1]
        have HST := fun W => Lib.hid (stands_yes j hj W)
        rw [← hse] at HST
        have HTX := fun W => Lib.hid (text_of j hj W)
        have HBAR := fun h => Lib.hid (Plain.named_bar s.data.toList attr _ _ hbs h)
        have HSOME := fun h => Lib.hid (Plain.named_some s.data.toList attr _ _ hbs h)
        clear HB hlk ht h0 hbs hj1 hjv hse
        have q0 : ((Plain.c1 j : Int) == 0) = false := by
          have := Plain.codes_ne j hj
          simp; omega
        clear hj
        generalize Plain.c1 j = c1 at *
        generalize Plain.c2 j = c2 at *
        generalize Plain.vl j = V at *
        have e1 : (M : Int) + 1 + 1 - 1 = (M : Int) + 1 := by omega
        cases attr
        · have HR := Lib.hid (HSOME (by simp)).out
          clear HSOME HBAR
          go_wp2_with (first
            | (go_at_call 84; refine (HST _).out.mono ?_; rintro e w1 ⟨rfl, b1⟩)
            | (go_at_call 86; refine (HTX _).out.mono ?_; rintro e w2 ⟨rfl, b2⟩))
          go_ret2
          exact tells2_of HR.out (by omega) (bel hb b1 b2)
        · by_cases h59 : s[M + 1].toNat = 59
          · have HR := Lib.hid (HSOME (bar_semi s (M + 1) (by omega) h59)).out
            have q5 : ((s[M + 1].toNat : Int) != 59) = false := by simp [h59]
            clear HSOME HBAR h59
            go_wp2_with (first
              | (go_at_call 84; refine (HST _).out.mono ?_; rintro e w1 ⟨rfl, b1⟩)
              | (go_at_call 86; refine (HTX _).out.mono ?_; rintro e w2 ⟨rfl, b2⟩))
            go_ret2
            exact tells2_of HR.out (by omega) (bel hb b1 b2)
          · have q5 : ((s[M + 1].toNat : Int) != 59) = true := by simp; omega
            by_cases hn : M + 1 + 1 < s.size
            · have hbar := bar_next s (M + 1) (by omega) h59 hn
              have HG := fun W => Lib.hid (goesOn_any s[M + 1 + 1] W)
              have hn' : (M : Int) + 1 + 1 < (s.size : Int) := by omega
              clear h59
              cases hgo : Plain.goesOn s[M + 1 + 1]
              · have HR := Lib.hid (HSOME (by rw [hbar]; exact hgo)).out
                rw [hgo] at HG
                clear HSOME HBAR hbar hgo
                go_wp2_with (first
                  | (go_at_call 84; refine (HST _).out.mono ?_; rintro e w1 ⟨rfl, b1⟩)
                  | (go_at_call 86; refine (HTX _).out.mono ?_; rintro e w2 ⟨rfl, b2⟩)
                  | (go_at_call 85; refine (HG _).out.mono ?_; rintro e w3 ⟨rfl, rfl⟩))
                go_ret2
                exact tells2_of HR.out (by omega) (bel hb b1 b2)
              · have HR := Lib.hid (HBAR (by rw [hbar]; exact hgo)).out
                rw [hgo] at HG
                clear HSOME HBAR hbar hgo
                go_wp2_with (first
                  | (go_at_call 84; refine (HST _).out.mono ?_; rintro e w1 ⟨rfl, b1⟩)
                  | (go_at_call 86; refine (HTX _).out.mono ?_; rintro e w2 ⟨rfl, b2⟩)
                  | (go_at_call 85; refine (HG _).out.mono ?_; rintro e w3 ⟨rfl, rfl⟩))
                go_ret2
                exact tells2_of HR.out rfl (bel1 hb b1)
            · have HR := Lib.hid (HSOME (bar_end s (M + 1) hn)).out
              have hn' : ¬ (M : Int) + 1 + 1 < (s.size : Int) := by omega
              clear HSOME HBAR h59
              go_wp2_with (first
                | (go_at_call 84; refine (HST _).out.mono ?_; rintro e w1 ⟨rfl, b1⟩)
                | (go_at_call 86; refine (HTX _).out.mono ?_; rintro e w2 ⟨rfl, b2⟩))
              go_ret2
              exact tells2_of HR.out (by omega) (bel hb b1 b2)
end Go.Proofs.YtgelgfgcdfnacaaDoor
namespace Go.Proofs.YtgelgfgcdfnacaaDoor
open Go.RowKit
namespace Plain
theorem byte_is (a c : UInt8) (n : Nat) (hn : a.toNat = n) : a = c ↔ c.toNat = n := by
  constructor
  · intro h
    rw [← h, hn]
  · intro h
    exact UInt8.toNat_inj.1 (by rw [hn, h])
theorem getD_nil (j : Nat) : (([] : List UInt8).getD j 0).toNat = 0 := by simp
theorem pre1 (l : List UInt8) (a : UInt8) (n : Nat) (hn : a.toNat = n) (h0 : n ≠ 0) : Lib.hasPrefix l [a] = true ↔ (l.getD 0 0).toNat = n := by
  unfold Lib.hasPrefix
  cases l with
  | nil =>
    rw [getD_nil]
    exact ⟨fun h => (by cases h), fun h => absurd h.symm h0⟩
  | cons c r =>
    rw [List.isPrefixOf_cons_cons, Bool.and_eq_true, beq_iff_eq, byte_is a c n hn]
    exact ⟨fun h => h.1, fun h => ⟨h, rfl⟩⟩
theorem pre2 (l : List UInt8) (a b : UInt8) (n m : Nat) (hn : a.toNat = n) (h0 : n ≠ 0) (hm : b.toNat = m) (h1 : m ≠ 0) : Lib.hasPrefix l [a, b] = true ↔ (l.getD 0 0).toNat = n ∧ (l.getD 1 0).toNat = m := by
  cases l with
  | nil =>
    rw [getD_nil]
    exact ⟨fun h => (by cases h), fun h => absurd h.1.symm h0⟩
  | cons c r =>
    have := pre1 r b m hm h1
    unfold Lib.hasPrefix at *
    rw [List.isPrefixOf_cons_cons, Bool.and_eq_true, this, beq_iff_eq, byte_is a c n hn]
    exact Iff.rfl
theorem pre3 (l : List UInt8) (a b d : UInt8) (n m k : Nat) (hn : a.toNat = n) (h0 : n ≠ 0) (hm : b.toNat = m) (h1 : m ≠ 0) (hk : d.toNat = k) (h2 : k ≠ 0) : Lib.hasPrefix l [a, b, d] = true ↔ (l.getD 0 0).toNat = n ∧ (l.getD 1 0).toNat = m ∧ (l.getD 2 0).toNat = k := by
  cases l with
  | nil =>
    rw [getD_nil]
    exact ⟨fun h => (by cases h), fun h => absurd h.1.symm h0⟩
  | cons c r =>
    have := pre2 r b d m k hm h1 hk h2
    unfold Lib.hasPrefix at *
    rw [List.isPrefixOf_cons_cons, Bool.and_eq_true, this, beq_iff_eq, byte_is a c n hn]
    exact Iff.rfl
theorem pre_len (l p : List UInt8) (h : Lib.hasPrefix l p = true) : p.length ≤ l.length := by
  unfold Lib.hasPrefix at h
  rw [List.isPrefixOf_iff_prefix] at h
  exact h.length_le
/-- Which way Ref goes. -/
theorem ref_x (l : List UInt8) (attr : Bool) (h : Lib.hasPrefix l [38, 35, 120] = true ∨ Lib.hasPrefix l [38, 35, 88] = true) : ref l attr = numbered l 3 16 := by
  unfold ref
  rcases h with h | h
  · obtain ⟨a, b, c⟩ := (pre3 l 38 35 120 38 35 120 rfl (by decide) rfl (by decide) rfl (by decide)).1 h
    rw [if_pos a, if_pos b, if_pos (Or.inl c)]
  · obtain ⟨a, b, c⟩ := (pre3 l 38 35 88 38 35 88 rfl (by decide) rfl (by decide) rfl (by decide)).1 h
    rw [if_pos a, if_pos b, if_pos (Or.inr c)]
theorem ref_ten (l : List UInt8) (attr : Bool) (h1 : Lib.hasPrefix l [38, 35, 120] = false) (h2 : Lib.hasPrefix l [38, 35, 88] = false) (h : Lib.hasPrefix l [38, 35] = true) : ref l attr = numbered l 2 10 := by
  unfold ref
  obtain ⟨a, b⟩ := (pre2 l 38 35 38 35 rfl (by decide) rfl (by decide)).1 h
  rw [if_pos a, if_pos b, if_neg]
  intro hc
  rcases hc with hc | hc
  · rw [(pre3 l 38 35 120 38 35 120 rfl (by decide) rfl (by decide) rfl (by decide)).2 ⟨a, b, hc⟩] at h1
    cases h1
  · rw [(pre3 l 38 35 88 38 35 88 rfl (by decide) rfl (by decide) rfl (by decide)).2 ⟨a, b, hc⟩] at h2
    cases h2
theorem ref_name (l : List UInt8) (attr : Bool) (h1 : Lib.hasPrefix l [38, 35] = false) (h : Lib.hasPrefix l [38] = true) : ref l attr = named l attr := by
  unfold ref
  have a := (pre1 l 38 38 rfl (by decide)).1 h
  rw [if_pos a, if_neg]
  intro hc
  rw [(pre2 l 38 35 38 35 rfl (by decide) rfl (by decide)).2 ⟨a, hc⟩] at h1
  cases h1
theorem ref_bare (l : List UInt8) (attr : Bool) (h : Lib.hasPrefix l [38] = false) : ref l attr = ([], 0) := by
  refine ref_plain l attr fun a => ?_
  rw [(pre1 l 38 38 rfl (by decide)).2 a] at h
  cases h
end Plain

theorem has_at (s p : ByteArray) (b : Bool) (hb : Lib.hasPrefix s.data.toList p.data.toList = b) (w : World) : Calls Tryd.prog 35 #[.string s, .string p] w (Gives (.bool b) w) :=
  (Tryd.strings_HasPrefix s p w).mono fun _ _ h => ⟨by rw [h.1, hb], h.2.symm⟩
theorem long_of (s : ByteArray) (p : List UInt8) (h : Lib.hasPrefix s.data.toList p = true) : p.length ≤ s.size := by
  have := Plain.pre_len _ _ h
  simpa using this

set_option maxHeartbeats 2000000 in
set_option maxRecDepth 100000 in
theorem ref_any (s : ByteArray) (attr : Bool) (w : World) (hs : s.size ≤ 4294967296) (hE : HasEarly w) : Calls Tryd.prog 67 #[.string s, .bool attr] w (Tells2 (Plain.ref s.data.toList attr) w) := by
  have HE := Lib.hid hE
  clear hE
  cases h1 : Lib.hasPrefix s.data.toList [38, 35, 120]
  · have A1 := fun W => Lib.hid (has_at s ⟨#[38, 35, 120]⟩ false h1 W)
    cases h2 : Lib.hasPrefix s.data.toList [38, 35, 88]
    · have A2 := fun W => Lib.hid (has_at s ⟨#[38, 35, 88]⟩ false h2 W)
      cases h3 : Lib.hasPrefix s.data.toList [38, 35]
      · have A3 := fun W => Lib.hid (has_at s ⟨#[38, 35]⟩ false h3 W)
        cases h4 : Lib.hasPrefix s.data.toList [38]
        · have A4 := fun W => Lib.hid (has_at s ⟨#[38]⟩ false h4 W)
          rw [Plain.ref_bare _ attr h4]
          clear h1 h2 h3 h4
          go_enter Tryd.func67, Tryd.ntmps67
          go_wp2_with fail
          refine (A1 _).out.mono ?_
          rintro e w1 ⟨rfl, rfl⟩
          go_wp2_with fail
          refine (A2 _).out.mono ?_
          rintro e w1 ⟨rfl, rfl⟩
          go_wp2_with fail
          refine (A3 _).out.mono ?_
          rintro e w1 ⟨rfl, rfl⟩
          go_wp2_with fail
          refine (A4 _).out.mono ?_
          rintro e w1 ⟨rfl, rfl⟩
          go_wp2
          go_ret2
          exact ⟨rfl, Below.refl _ _⟩
        · have A4 := fun W => Lib.hid (has_at s ⟨#[38]⟩ true h4 W)
          have A5 := fun W => Lib.hid (named_any s attr W (long_of s _ h4) hs)
          rw [Plain.ref_name _ attr h3 h4]
          clear h1 h2 h3 h4
          go_enter Tryd.func67, Tryd.ntmps67
          go_wp2_with fail
          refine (A1 _).out.mono ?_
          rintro e w1 ⟨rfl, rfl⟩
          go_wp2_with fail
          refine (A2 _).out.mono ?_
          rintro e w1 ⟨rfl, rfl⟩
          go_wp2_with fail
          refine (A3 _).out.mono ?_
          rintro e w1 ⟨rfl, rfl⟩
          go_wp2_with fail
          refine (A4 _).out.mono ?_
          rintro e w1 ⟨rfl, rfl⟩
          go_wp2_with fail
          refine (A5 _).out.mono ?_
          rintro e w1 ⟨rfl, b1⟩
          go_wp2
          go_ret2
          exact ⟨rfl, b1⟩
      · have A3 := fun W => Lib.hid (has_at s ⟨#[38, 35]⟩ true h3 W)
        have A5 := fun W hW => Lib.hid (numbered_any s 2 10 W (Or.inl rfl) (long_of s _ h3) hs hW)
        rw [Plain.ref_ten _ attr h1 h2 h3]
        clear h1 h2 h3
        go_enter Tryd.func67, Tryd.ntmps67
        go_wp2_with fail
        refine (A1 _).out.mono ?_
        rintro e w1 ⟨rfl, rfl⟩
        go_wp2_with fail
        refine (A2 _).out.mono ?_
        rintro e w1 ⟨rfl, rfl⟩
        go_wp2_with fail
        refine (A3 _).out.mono ?_
        rintro e w1 ⟨rfl, rfl⟩
        go_wp2_with fail
        refine (A5 _ HE.out).out.mono ?_
        rintro e w1 ⟨rfl, b1⟩
        go_wp2
        go_ret2
        exact ⟨rfl, b1⟩
    · have A2 := fun W => Lib.hid (has_at s ⟨#[38, 35, 88]⟩ true h2 W)
      have A5 := fun W hW => Lib.hid (numbered_any s 3 16 W (Or.inr rfl) (long_of s _ h2) hs hW)
      rw [Plain.ref_x _ attr (Or.inr h2)]
      clear h1 h2
      go_enter Tryd.func67, Tryd.ntmps67
      go_wp2_with fail
      refine (A1 _).out.mono ?_
      rintro e w1 ⟨rfl, rfl⟩
      go_wp2_with fail
      refine (A2 _).out.mono ?_
      rintro e w1 ⟨rfl, rfl⟩
      go_wp2_with fail
      refine (A5 _ HE.out).out.mono ?_
      rintro e w1 ⟨rfl, b1⟩
      go_wp2
      go_ret2
      exact ⟨rfl, b1⟩
  · have A1 := fun W => Lib.hid (has_at s ⟨#[38, 35, 120]⟩ true h1 W)
    have A5 := fun W hW => Lib.hid (numbered_any s 3 16 W (Or.inr rfl) (long_of s _ h1) hs hW)
    rw [Plain.ref_x _ attr (Or.inl h1)]
    clear h1
    go_enter Tryd.func67, Tryd.ntmps67
    go_wp2_with fail
    refine (A1 _).out.mono ?_
    rintro e w1 ⟨rfl, rfl⟩
    go_wp2_with fail
    refine (A5 _ HE.out).out.mono ?_
    rintro e w1 ⟨rfl, b1⟩
    go_wp2
    go_ret2
    exact ⟨rfl, b1⟩
end Go.Proofs.YtgelgfgcdfnacaaDoor
namespace Go.Proofs.YtgelgfgcdfnacaaDoor
open Go.RowKit

theorem IsB.below {B b : Nat} {bs : List Value} {W W' : World} (h : Lib.IsBuilderF 78 5 B b bs W) (hb : Below W.heap.size W W') : Lib.IsBuilderF 78 5 B b bs W' := h.below hb

theorem idx_no (l : List UInt8) (h : Lib.indexByte l 38 = -1) : ∀ c ∈ l, c.toNat ≠ 38 := by
  intro c hc e
  obtain ⟨k, hk, rfl⟩ := List.getElem_of_mem hc
  have := Lib.indexByte_none h k
  rw [List.getElem?_eq_getElem hk] at this
  exact this (congrArg some (UInt8.toNat_inj.1 e))
theorem idx_yes (l : List UInt8) (h : Lib.indexByte l 38 ≠ -1) : ∃ o : Nat, Lib.indexByte l 38 = (o : Int) ∧ o < l.length ∧ (l.drop o = 38 :: l.drop (o + 1)) ∧ ∀ c ∈ l.take o, c.toNat ≠ 38 := by
  have hg := Lib.indexByte_ge l 38
  obtain ⟨o, ho⟩ : ∃ o : Nat, Lib.indexByte l 38 = (o : Int) := ⟨(Lib.indexByte l 38).toNat, by omega⟩
  obtain ⟨h1, h2⟩ := Lib.indexByte_some ho
  obtain ⟨hlt, he⟩ := List.getElem?_eq_some_iff.1 h1
  refine ⟨o, ho, hlt, by rw [List.drop_eq_getElem_cons hlt, he], ?_⟩
  intro c hc e
  obtain ⟨k, hk, rfl⟩ := List.getElem_of_mem hc
  rw [List.length_take] at hk
  refine h2 k (by omega) ?_
  rw [List.getElem_take] at e
  rw [List.getElem?_eq_getElem (by omega)]
  exact congrArg some (UInt8.toNat_inj.1 e)
theorem index_at (s : ByteArray) (r : Int) (hr : Lib.indexByte s.data.toList 38 = r) (w : World) : Calls Tryd.prog 64 #[.string s, .int .u8 38] w (Gives (.int .i64 r) w) :=
  (Tryd.strings_IndexByte s 38 w).mono fun _ _ h => ⟨by rw [h.1]; exact congrArg _ (int_is hr), h.2.symm⟩
theorem slice_to (s : ByteArray) (o : Nat) (W : World) (h : o ≤ s.size) : (Instr.slice 9 (.string s) none (some (.int .i64 (o : Int))) none).run Tryd.prog W = .ok (.string (s.extract 0 o)) W := by
  rw [run_slice_string_h W 9 s Tryd.underlying9 .i64 (o : Int) (by omega) (by omega)]
  rfl
theorem slice_on (s : ByteArray) (o n : Nat) (W : World) (h : o + n ≤ s.size) : (Instr.slice 9 (.string s) (some (.int .i64 ((o : Int) + (n : Int)))) none none).run Tryd.prog W = .ok (.string (s.extract (o + n) s.size)) W := by
  rw [run_slice_string_from_if W 9 s .i64 ((o : Int) + (n : Int)) Tryd.underlying9, if_pos (by omega)]
  rfl
theorem head_of (s : ByteArray) (o : Nat) : (s.extract 0 o).data.toList = s.data.toList.take o := by
  rw [Lib.extract_data]
  simp

/-- What the loop of Expand keeps. -/
def ExpAt (s : ByteArray) (attr : Bool) (t : ByteArray) (acc : List UInt8) : Prop := t.size ≤ s.size ∧ acc.length + 4 * t.size ≤ 4 * s.size ∧ acc ++ Plain.expand t.data.toList attr = Plain.expand s.data.toList attr
theorem ExpAt.done {s t : ByteArray} {attr : Bool} {acc : List UInt8} (h : ExpAt s attr t acc) (hn : Lib.indexByte t.data.toList 38 = -1) : acc ++ t.data.toList = Plain.expand s.data.toList attr := by
  rw [← h.2.2, Plain.expand_none _ _ (idx_no _ hn)]
theorem ExpAt.split {s t : ByteArray} {attr : Bool} {acc : List UInt8} (h : ExpAt s attr t acc) (o : Nat) (hp : ∀ c ∈ t.data.toList.take o, c.toNat ≠ 38) : acc ++ (t.data.toList.take o ++ Plain.expand (t.data.toList.drop o) attr) = Plain.expand s.data.toList attr := by
  rw [← Plain.expand_plain _ _ attr hp, List.take_append_drop]
  exact h.2.2
theorem ExpAt.byte {s t : ByteArray} {attr : Bool} {acc : List UInt8} (h : ExpAt s attr t acc) (o : Nat) (ho : o < t.size) (hd : t.data.toList.drop o = 38 :: t.data.toList.drop (o + 1)) (hp : ∀ c ∈ t.data.toList.take o, c.toNat ≠ 38) (h0 : (Plain.ref (t.data.toList.drop o) attr).2 = 0) :
    ExpAt s attr (t.extract (o + 1) t.size) (acc ++ t.data.toList.take o ++ [38]) := by
  have h1 := h.1
  have h2 := h.2.1
  have hz : (t.extract (o + 1) t.size).size = t.size - (o + 1) := by rw [ByteArray.size_extract]; omega
  refine ⟨by omega, ?_, ?_⟩
  · rw [hz]; simp; omega
  · rw [tail_of, ← h.split o hp, hd]
    rw [hd] at h0
    rw [Plain.expand_byte _ _ _ h0]
    simp
theorem ExpAt.ref {s t : ByteArray} {attr : Bool} {acc : List UInt8} (h : ExpAt s attr t acc) (o : Nat) (ho : o < t.size) (hd : t.data.toList.drop o = 38 :: t.data.toList.drop (o + 1)) (hp : ∀ c ∈ t.data.toList.take o, c.toNat ≠ 38) (h0 : (Plain.ref (t.data.toList.drop o) attr).2 ≠ 0) :
    o + (Plain.ref (t.data.toList.drop o) attr).2 ≤ t.size ∧ ExpAt s attr (t.extract (o + (Plain.ref (t.data.toList.drop o) attr).2) t.size) (acc ++ t.data.toList.take o ++ (Plain.ref (t.data.toList.drop o) attr).1) := by
  have h1 := h.1
  have h2 := h.2.1
  obtain ⟨_, f2, f3, _, _, f6⟩ := Plain.ref_facts (t.data.toList.drop o) attr
  have f6 := f6 h0
  rw [List.length_drop] at f3
  simp at f3
  have he := Plain.expand_ref 38 (t.data.toList.drop (o + 1)) attr (by rw [← hd]; exact h0)
  rw [← hd, List.drop_drop] at he
  have hsp := h.split o hp
  rw [he] at hsp
  generalize Plain.ref (t.data.toList.drop o) attr = R at *
  have hz : (t.extract (o + R.2) t.size).size = t.size - (o + R.2) := by rw [ByteArray.size_extract]; omega
  refine ⟨by omega, by omega, ?_, ?_⟩
  · rw [hz]; simp; omega
  · rw [tail_of, ← hsp]
    simp

set_option maxHeartbeats 4000000 in
set_option maxRecDepth 100000 in
theorem expand_any (s : ByteArray) (attr : Bool) (w : World) (hs : s.size ≤ 1073741824) (hE : HasEarly w) : Calls Tryd.prog 51 #[.string s, .bool attr] w (Tells (Plain.expand s.data.toList attr) w) := by
  have hw1 := hE.size
  have HE := Lib.hid hE
  clear hE
  go_enter Tryd.func51, Tryd.ntmps51
  go_wp2_with fail
  refine (Tryd.Builder_Grow_fresh w.heap.size w.heap.size s.size _ (Nat.le_refl _) (heap_alloc_new w _) (by simp) (by omega)).mono ?_
  rintro e w2 ⟨rfl, hbd, hb2⟩
  have hb3 : Below w.heap.size w w2 := ((Below.refl _ w).alloc (Nat.le_refl _) _).trans hb2
  have HBD : Hid (Lib.IsBuilderF 78 5 w.heap.size w.heap.size (Lib.byteCells []) w2) := Lib.IsBuilderF.of (Or.inr hbd)
  clear hbd hb2
  go_wp2
  go_loopw [0] (fun v wr => ∃ (t : ByteArray) (acc : List UInt8), v = .string t ∧ ExpAt s attr t acc ∧ Lib.IsBuilderF 78 5 w.heap.size w.heap.size (Lib.byteCells acc) wr ∧ Below w.heap.size w wr) (fun v _ => match v with | .string t => t.size | _ => 0)
  case atStart => exact ⟨s, [], rfl, ⟨Nat.le_refl _, by simp, rfl⟩, HBD.out, hb3⟩
  case round =>
    clear HBD hb3
    obtain ⟨t, acc, rfl, hX, hI, hb⟩ := hrel
    have ht := hX.1
    have hal := hX.2.1
    have HX := Lib.hid hX
    have HI := Lib.hid hI
    have hbs := hb.size
    clear hX hI
    by_cases hi : Lib.indexByte t.data.toList 38 = -1
    · have HIX := fun W => Lib.hid (index_at t (-1) hi W)
      have HD := Lib.hid (HX.out.done hi)
      clear hi
      go_wp2_with fail
      refine (HIX _).out.mono ?_
      rintro e w3 ⟨rfl, rfl⟩
      go_wp2_with fail
      refine (Tryd.Builder_WriteString_k w.heap.size w.heap.size _ t wr HI.out (by rw [Lib.byteCells_length]; omega) hbs).mono ?_
      rintro e w4 ⟨rfl, h4, b4, k4⟩
      have HI4 : Hid (Lib.IsBuilderF 78 5 w.heap.size w.heap.size (Lib.byteCells (acc ++ t.data.toList)) w4) := by
        refine Lib.hid ?_
        rw [Lib.byteCells_append]
        exact Or.inr h4
      have c4 := hb.trans b4
      have z4 := c4.size
      clear h4 k4
      go_wp2_with fail
      refine (Tryd.Builder_String_any_k w.heap.size w.heap.size _ _ HI4.out (by omega)).mono ?_
      rintro e w5 ⟨rfl, _, b5, _⟩
      go_wp2
      go_ret
      refine ⟨?_, c4.trans b5⟩
      rw [← HD.out]
      rfl
    · obtain ⟨o, ho, hol, hd, hp⟩ := idx_yes _ hi
      have hol' : o < t.size := by simpa using hol
      have HIX := fun W => Lib.hid (index_at t (o : Int) ho W)
      have hst := fun W => slice_to t o W (by omega)
      have hsf := fun W => slice_from t o W (by omega)
      have HB0 := Lib.hid (HX.out.byte o hol' hd hp)
      have HB1 := Lib.hid (HX.out.ref o hol' hd hp)
      have HR := fun W hW => Lib.hid (ref_any (t.extract o t.size) attr W (by rw [ByteArray.size_extract]; omega) hW)
      rw [tail_of t o] at HR
      obtain ⟨_, f2, _, _, _, _⟩ := Plain.ref_facts (t.data.toList.drop o) attr
      generalize Plain.ref (t.data.toList.drop o) attr = R at *
      obtain ⟨rv, rn⟩ := R
      simp only at f2 HB0 HB1
      have hh := head_of t o
      have hhs : (t.extract 0 o).size = o := by rw [ByteArray.size_extract]; omega
      have HH := Lib.hid hh
      have hhs' : (t.extract 0 o).size ≤ o := by omega
      have hrs : (⟨rv.toArray⟩ : ByteArray).size ≤ 4 := by show rv.toArray.size ≤ 4; simpa using f2
      clear hi ho hol hd hp hh hhs
      go_wp2_with fail
      refine (HIX _).out.mono ?_
      rintro e w3 ⟨rfl, rfl⟩
      go_wp2_with fail
      refine (Tryd.Builder_WriteString_k w.heap.size w.heap.size _ (t.extract 0 o) wr HI.out (by rw [Lib.byteCells_length]; omega) hbs).mono ?_
      rintro e w4 ⟨rfl, h4, b4, k4⟩
      have HI4 : Hid (Lib.IsBuilderF 78 5 w.heap.size w.heap.size (Lib.byteCells (acc ++ t.data.toList.take o)) w4) := by
        refine Lib.hid ?_
        rw [Lib.byteCells_append, ← HH.out]
        exact Or.inr h4
      have c4 := hb.trans b4
      have z4 := c4.size
      clear h4 k4
      go_wp2_with fail
      refine (HR _ (HE.out.below c4 hw1)).out.mono ?_
      rintro e w5 ⟨rfl, b5⟩
      have HI5 := Lib.hid (IsB.below HI4.out b5)
      have c5 := c4.trans (b5.mono c4.size)
      have z5 := c5.size
      by_cases h0 : rn = 0
      · subst h0
        have hso : ∀ W, (Instr.slice 9 (.string t) (some (.int .i64 ((o : Int) + 1))) none none).run Tryd.prog W = .ok (.string (t.extract (o + 1) t.size)) W := fun W => slice_on t o 1 W (by omega)
        have HX' := Lib.hid (HB0.out rfl)
        have htk : (t.data.toList.take o).length ≤ o := List.length_take_le _ _
        go_wp2_with fail
        refine (Tryd.Builder_WriteString_k w.heap.size w.heap.size _ ⟨#[38]⟩ w5 HI5.out (by rw [Lib.byteCells_length, List.length_append]; show _ + 1 ≤ _; omega) z5).mono ?_
        rintro e w6 ⟨rfl, h6, b6, k6⟩
        have HI6 : Hid (Lib.IsBuilderF 78 5 w.heap.size w.heap.size (Lib.byteCells (acc ++ t.data.toList.take o ++ [38])) w6) := by
          refine Lib.hid ?_
          rw [Lib.byteCells_append (acc ++ t.data.toList.take o)]
          exact Or.inr h6
        clear h6 k6
        go_wp2
        refine ⟨⟨_, _, rfl, HX'.out, HI6.out, c5.trans b6⟩, ?_⟩
        show (t.extract (o + 1) t.size).size < t.size
        rw [ByteArray.size_extract]; omega
      · have hq : ((rn : Int) == 0) = false := beq_eq_false_iff_ne.2 (by omega)
        obtain ⟨hrl, hX2⟩ := HB1.out h0
        have hso := fun W => slice_on t o rn W hrl
        have HX' := Lib.hid hX2
        have htk : (t.data.toList.take o).length ≤ o := List.length_take_le _ _
        clear hX2 HB0 HB1
        go_wp2_with fail
        refine (Tryd.Builder_WriteString_k w.heap.size w.heap.size _ ⟨rv.toArray⟩ w5 HI5.out (by rw [Lib.byteCells_length, List.length_append]; omega) z5).mono ?_
        rintro e w6 ⟨rfl, h6, b6, k6⟩
        have HI6 : Hid (Lib.IsBuilderF 78 5 w.heap.size w.heap.size (Lib.byteCells (acc ++ t.data.toList.take o ++ rv)) w6) := by
          refine Lib.hid ?_
          rw [Lib.byteCells_append (acc ++ t.data.toList.take o)]
          exact Or.inr h6
        clear h6 k6
        go_wp2
        refine ⟨⟨_, _, rfl, HX'.out, HI6.out, c5.trans b6⟩, ?_⟩
        show (t.extract (o + rn) t.size).size < t.size
        rw [ByteArray.size_extract]; omega
end Go.Proofs.YtgelgfgcdfnacaaDoor
