/-
  The walks of the program's references: stands, text, named, Ref. Any text of at most 2^32 bytes; the program's table holds what its text lays.
-/
import Derived.Test.YtobgdignanpliaaDoorRRef2
namespace Go.Proofs.YtobgdignanpliaaDoor
open Go.RowKit
namespace Plain
/-- The numbers of the signs that each name stands for; 0: there is no second one. -/
def codes : List (Nat × Nat) := [(61, 8421), (60, 8402), (38, 0), (38, 0), (169, 0), (169, 0), (62, 0), (62, 0), (60, 0), (60, 0), (160, 0), (160, 0), (172, 0), (172, 0), (182, 0), (182, 0), (34, 0), (34, 0), (174, 0), (174, 0), (173, 0), (173, 0), (185, 0), (185, 0), (178, 0), (178, 0), (215, 0), (215, 0), (9, 0), (10, 0), (39, 0), (40, 0), (58, 0), (8706, 0), (8713, 0), (8834, 0), (8835, 0), (8864, 0), (8230, 0), (8212, 0), (8211, 0), (8216, 0), (8217, 0), (8220, 0), (8221, 0), (8364, 0)]
def c1 (j : Nat) : Nat := (codes.getD j (0, 0)).1
def c2 (j : Nat) : Nat := (codes.getD j (0, 0)).2
theorem codes_ok : ∀ j, j < 46 → c1 j ≤ 9000 ∧ c2 j ≤ 9000 ∧ vl j = enc (c1 j) ++ (if c2 j = 0 then [] else enc (c2 j)) := by decide
end Plain

/-- What the lookup tells of a name. -/
def StandsOut (a b : Nat) (w : World) (e : Ending) (w' : World) : Prop := e = .returned (.agg #[.int .i32 (a : Int), .int .i32 (b : Int)]) ∧ Below w.heap.size w w'
set_option maxHeartbeats 4000000 in
set_option maxRecDepth 100000 in
theorem open_2 (w : World) : Calls Tryd.prog 50 #[.string ⟨#[97, 109, 112]⟩] w (StandsOut 38 0 w) := by
  go_enter Tryd.func50, Tryd.ntmps50
  go_wp2
  refine bodyPost_ret (v := .agg #[.int .i32 38, .int .i32 0]) (by simp [results, Tryd.results50, go_sem]) rfl ⟨rfl, ?_⟩
  repeat (first | exact Below.refl _ _ | refine Below.setCell ?_ (by simp) _ | refine Below.alloc ?_ (by simp) _)
set_option maxHeartbeats 4000000 in
set_option maxRecDepth 100000 in
theorem open_3 (w : World) : Calls Tryd.prog 50 #[.string ⟨#[97, 109, 112, 59]⟩] w (StandsOut 38 0 w) := by
  go_enter Tryd.func50, Tryd.ntmps50
  go_wp2
  refine bodyPost_ret (v := .agg #[.int .i32 38, .int .i32 0]) (by simp [results, Tryd.results50, go_sem]) rfl ⟨rfl, ?_⟩
  repeat (first | exact Below.refl _ _ | refine Below.setCell ?_ (by simp) _ | refine Below.alloc ?_ (by simp) _)
set_option maxHeartbeats 4000000 in
set_option maxRecDepth 100000 in
theorem open_4 (w : World) : Calls Tryd.prog 50 #[.string ⟨#[99, 111, 112, 121]⟩] w (StandsOut 169 0 w) := by
  go_enter Tryd.func50, Tryd.ntmps50
  go_wp2
  refine bodyPost_ret (v := .agg #[.int .i32 169, .int .i32 0]) (by simp [results, Tryd.results50, go_sem]) rfl ⟨rfl, ?_⟩
  repeat (first | exact Below.refl _ _ | refine Below.setCell ?_ (by simp) _ | refine Below.alloc ?_ (by simp) _)
set_option maxHeartbeats 4000000 in
set_option maxRecDepth 100000 in
theorem open_5 (w : World) : Calls Tryd.prog 50 #[.string ⟨#[99, 111, 112, 121, 59]⟩] w (StandsOut 169 0 w) := by
  go_enter Tryd.func50, Tryd.ntmps50
  go_wp2
  refine bodyPost_ret (v := .agg #[.int .i32 169, .int .i32 0]) (by simp [results, Tryd.results50, go_sem]) rfl ⟨rfl, ?_⟩
  repeat (first | exact Below.refl _ _ | refine Below.setCell ?_ (by simp) _ | refine Below.alloc ?_ (by simp) _)
set_option maxHeartbeats 4000000 in
set_option maxRecDepth 100000 in
theorem open_6 (w : World) : Calls Tryd.prog 50 #[.string ⟨#[103, 116]⟩] w (StandsOut 62 0 w) := by
  go_enter Tryd.func50, Tryd.ntmps50
  go_wp2
  refine bodyPost_ret (v := .agg #[.int .i32 62, .int .i32 0]) (by simp [results, Tryd.results50, go_sem]) rfl ⟨rfl, ?_⟩
  repeat (first | exact Below.refl _ _ | refine Below.setCell ?_ (by simp) _ | refine Below.alloc ?_ (by simp) _)
set_option maxHeartbeats 4000000 in
set_option maxRecDepth 100000 in
theorem open_7 (w : World) : Calls Tryd.prog 50 #[.string ⟨#[103, 116, 59]⟩] w (StandsOut 62 0 w) := by
  go_enter Tryd.func50, Tryd.ntmps50
  go_wp2
  refine bodyPost_ret (v := .agg #[.int .i32 62, .int .i32 0]) (by simp [results, Tryd.results50, go_sem]) rfl ⟨rfl, ?_⟩
  repeat (first | exact Below.refl _ _ | refine Below.setCell ?_ (by simp) _ | refine Below.alloc ?_ (by simp) _)
set_option maxHeartbeats 4000000 in
set_option maxRecDepth 100000 in
theorem open_8 (w : World) : Calls Tryd.prog 50 #[.string ⟨#[108, 116]⟩] w (StandsOut 60 0 w) := by
  go_enter Tryd.func50, Tryd.ntmps50
  go_wp2
  refine bodyPost_ret (v := .agg #[.int .i32 60, .int .i32 0]) (by simp [results, Tryd.results50, go_sem]) rfl ⟨rfl, ?_⟩
  repeat (first | exact Below.refl _ _ | refine Below.setCell ?_ (by simp) _ | refine Below.alloc ?_ (by simp) _)
set_option maxHeartbeats 4000000 in
set_option maxRecDepth 100000 in
theorem open_9 (w : World) : Calls Tryd.prog 50 #[.string ⟨#[108, 116, 59]⟩] w (StandsOut 60 0 w) := by
  go_enter Tryd.func50, Tryd.ntmps50
  go_wp2
  refine bodyPost_ret (v := .agg #[.int .i32 60, .int .i32 0]) (by simp [results, Tryd.results50, go_sem]) rfl ⟨rfl, ?_⟩
  repeat (first | exact Below.refl _ _ | refine Below.setCell ?_ (by simp) _ | refine Below.alloc ?_ (by simp) _)
set_option maxHeartbeats 4000000 in
set_option maxRecDepth 100000 in
theorem open_10 (w : World) : Calls Tryd.prog 50 #[.string ⟨#[110, 98, 115, 112]⟩] w (StandsOut 160 0 w) := by
  go_enter Tryd.func50, Tryd.ntmps50
  go_wp2
  refine bodyPost_ret (v := .agg #[.int .i32 160, .int .i32 0]) (by simp [results, Tryd.results50, go_sem]) rfl ⟨rfl, ?_⟩
  repeat (first | exact Below.refl _ _ | refine Below.setCell ?_ (by simp) _ | refine Below.alloc ?_ (by simp) _)
set_option maxHeartbeats 4000000 in
set_option maxRecDepth 100000 in
theorem open_11 (w : World) : Calls Tryd.prog 50 #[.string ⟨#[110, 98, 115, 112, 59]⟩] w (StandsOut 160 0 w) := by
  go_enter Tryd.func50, Tryd.ntmps50
  go_wp2
  refine bodyPost_ret (v := .agg #[.int .i32 160, .int .i32 0]) (by simp [results, Tryd.results50, go_sem]) rfl ⟨rfl, ?_⟩
  repeat (first | exact Below.refl _ _ | refine Below.setCell ?_ (by simp) _ | refine Below.alloc ?_ (by simp) _)
set_option maxHeartbeats 4000000 in
set_option maxRecDepth 100000 in
theorem open_12 (w : World) : Calls Tryd.prog 50 #[.string ⟨#[110, 111, 116]⟩] w (StandsOut 172 0 w) := by
  go_enter Tryd.func50, Tryd.ntmps50
  go_wp2
  refine bodyPost_ret (v := .agg #[.int .i32 172, .int .i32 0]) (by simp [results, Tryd.results50, go_sem]) rfl ⟨rfl, ?_⟩
  repeat (first | exact Below.refl _ _ | refine Below.setCell ?_ (by simp) _ | refine Below.alloc ?_ (by simp) _)
set_option maxHeartbeats 4000000 in
set_option maxRecDepth 100000 in
theorem open_13 (w : World) : Calls Tryd.prog 50 #[.string ⟨#[110, 111, 116, 59]⟩] w (StandsOut 172 0 w) := by
  go_enter Tryd.func50, Tryd.ntmps50
  go_wp2
  refine bodyPost_ret (v := .agg #[.int .i32 172, .int .i32 0]) (by simp [results, Tryd.results50, go_sem]) rfl ⟨rfl, ?_⟩
  repeat (first | exact Below.refl _ _ | refine Below.setCell ?_ (by simp) _ | refine Below.alloc ?_ (by simp) _)
set_option maxHeartbeats 4000000 in
set_option maxRecDepth 100000 in
theorem open_14 (w : World) : Calls Tryd.prog 50 #[.string ⟨#[112, 97, 114, 97]⟩] w (StandsOut 182 0 w) := by
  go_enter Tryd.func50, Tryd.ntmps50
  go_wp2
  refine bodyPost_ret (v := .agg #[.int .i32 182, .int .i32 0]) (by simp [results, Tryd.results50, go_sem]) rfl ⟨rfl, ?_⟩
  repeat (first | exact Below.refl _ _ | refine Below.setCell ?_ (by simp) _ | refine Below.alloc ?_ (by simp) _)
set_option maxHeartbeats 4000000 in
set_option maxRecDepth 100000 in
theorem open_15 (w : World) : Calls Tryd.prog 50 #[.string ⟨#[112, 97, 114, 97, 59]⟩] w (StandsOut 182 0 w) := by
  go_enter Tryd.func50, Tryd.ntmps50
  go_wp2
  refine bodyPost_ret (v := .agg #[.int .i32 182, .int .i32 0]) (by simp [results, Tryd.results50, go_sem]) rfl ⟨rfl, ?_⟩
  repeat (first | exact Below.refl _ _ | refine Below.setCell ?_ (by simp) _ | refine Below.alloc ?_ (by simp) _)
set_option maxHeartbeats 4000000 in
set_option maxRecDepth 100000 in
theorem open_16 (w : World) : Calls Tryd.prog 50 #[.string ⟨#[113, 117, 111, 116]⟩] w (StandsOut 34 0 w) := by
  go_enter Tryd.func50, Tryd.ntmps50
  go_wp2
  refine bodyPost_ret (v := .agg #[.int .i32 34, .int .i32 0]) (by simp [results, Tryd.results50, go_sem]) rfl ⟨rfl, ?_⟩
  repeat (first | exact Below.refl _ _ | refine Below.setCell ?_ (by simp) _ | refine Below.alloc ?_ (by simp) _)
set_option maxHeartbeats 4000000 in
set_option maxRecDepth 100000 in
theorem open_17 (w : World) : Calls Tryd.prog 50 #[.string ⟨#[113, 117, 111, 116, 59]⟩] w (StandsOut 34 0 w) := by
  go_enter Tryd.func50, Tryd.ntmps50
  go_wp2
  refine bodyPost_ret (v := .agg #[.int .i32 34, .int .i32 0]) (by simp [results, Tryd.results50, go_sem]) rfl ⟨rfl, ?_⟩
  repeat (first | exact Below.refl _ _ | refine Below.setCell ?_ (by simp) _ | refine Below.alloc ?_ (by simp) _)
set_option maxHeartbeats 4000000 in
set_option maxRecDepth 100000 in
theorem open_18 (w : World) : Calls Tryd.prog 50 #[.string ⟨#[114, 101, 103]⟩] w (StandsOut 174 0 w) := by
  go_enter Tryd.func50, Tryd.ntmps50
  go_wp2
  refine bodyPost_ret (v := .agg #[.int .i32 174, .int .i32 0]) (by simp [results, Tryd.results50, go_sem]) rfl ⟨rfl, ?_⟩
  repeat (first | exact Below.refl _ _ | refine Below.setCell ?_ (by simp) _ | refine Below.alloc ?_ (by simp) _)
set_option maxHeartbeats 4000000 in
set_option maxRecDepth 100000 in
theorem open_19 (w : World) : Calls Tryd.prog 50 #[.string ⟨#[114, 101, 103, 59]⟩] w (StandsOut 174 0 w) := by
  go_enter Tryd.func50, Tryd.ntmps50
  go_wp2
  refine bodyPost_ret (v := .agg #[.int .i32 174, .int .i32 0]) (by simp [results, Tryd.results50, go_sem]) rfl ⟨rfl, ?_⟩
  repeat (first | exact Below.refl _ _ | refine Below.setCell ?_ (by simp) _ | refine Below.alloc ?_ (by simp) _)
set_option maxHeartbeats 4000000 in
set_option maxRecDepth 100000 in
theorem open_20 (w : World) : Calls Tryd.prog 50 #[.string ⟨#[115, 104, 121]⟩] w (StandsOut 173 0 w) := by
  go_enter Tryd.func50, Tryd.ntmps50
  go_wp2
  refine bodyPost_ret (v := .agg #[.int .i32 173, .int .i32 0]) (by simp [results, Tryd.results50, go_sem]) rfl ⟨rfl, ?_⟩
  repeat (first | exact Below.refl _ _ | refine Below.setCell ?_ (by simp) _ | refine Below.alloc ?_ (by simp) _)
set_option maxHeartbeats 4000000 in
set_option maxRecDepth 100000 in
theorem open_21 (w : World) : Calls Tryd.prog 50 #[.string ⟨#[115, 104, 121, 59]⟩] w (StandsOut 173 0 w) := by
  go_enter Tryd.func50, Tryd.ntmps50
  go_wp2
  refine bodyPost_ret (v := .agg #[.int .i32 173, .int .i32 0]) (by simp [results, Tryd.results50, go_sem]) rfl ⟨rfl, ?_⟩
  repeat (first | exact Below.refl _ _ | refine Below.setCell ?_ (by simp) _ | refine Below.alloc ?_ (by simp) _)
set_option maxHeartbeats 4000000 in
set_option maxRecDepth 100000 in
theorem open_22 (w : World) : Calls Tryd.prog 50 #[.string ⟨#[115, 117, 112, 49]⟩] w (StandsOut 185 0 w) := by
  go_enter Tryd.func50, Tryd.ntmps50
  go_wp2
  refine bodyPost_ret (v := .agg #[.int .i32 185, .int .i32 0]) (by simp [results, Tryd.results50, go_sem]) rfl ⟨rfl, ?_⟩
  repeat (first | exact Below.refl _ _ | refine Below.setCell ?_ (by simp) _ | refine Below.alloc ?_ (by simp) _)
set_option maxHeartbeats 4000000 in
set_option maxRecDepth 100000 in
theorem open_23 (w : World) : Calls Tryd.prog 50 #[.string ⟨#[115, 117, 112, 49, 59]⟩] w (StandsOut 185 0 w) := by
  go_enter Tryd.func50, Tryd.ntmps50
  go_wp2
  refine bodyPost_ret (v := .agg #[.int .i32 185, .int .i32 0]) (by simp [results, Tryd.results50, go_sem]) rfl ⟨rfl, ?_⟩
  repeat (first | exact Below.refl _ _ | refine Below.setCell ?_ (by simp) _ | refine Below.alloc ?_ (by simp) _)
set_option maxHeartbeats 4000000 in
set_option maxRecDepth 100000 in
theorem open_24 (w : World) : Calls Tryd.prog 50 #[.string ⟨#[115, 117, 112, 50]⟩] w (StandsOut 178 0 w) := by
  go_enter Tryd.func50, Tryd.ntmps50
  go_wp2
  refine bodyPost_ret (v := .agg #[.int .i32 178, .int .i32 0]) (by simp [results, Tryd.results50, go_sem]) rfl ⟨rfl, ?_⟩
  repeat (first | exact Below.refl _ _ | refine Below.setCell ?_ (by simp) _ | refine Below.alloc ?_ (by simp) _)
set_option maxHeartbeats 4000000 in
set_option maxRecDepth 100000 in
theorem open_25 (w : World) : Calls Tryd.prog 50 #[.string ⟨#[115, 117, 112, 50, 59]⟩] w (StandsOut 178 0 w) := by
  go_enter Tryd.func50, Tryd.ntmps50
  go_wp2
  refine bodyPost_ret (v := .agg #[.int .i32 178, .int .i32 0]) (by simp [results, Tryd.results50, go_sem]) rfl ⟨rfl, ?_⟩
  repeat (first | exact Below.refl _ _ | refine Below.setCell ?_ (by simp) _ | refine Below.alloc ?_ (by simp) _)
set_option maxHeartbeats 4000000 in
set_option maxRecDepth 100000 in
theorem open_26 (w : World) : Calls Tryd.prog 50 #[.string ⟨#[116, 105, 109, 101, 115]⟩] w (StandsOut 215 0 w) := by
  go_enter Tryd.func50, Tryd.ntmps50
  go_wp2
  refine bodyPost_ret (v := .agg #[.int .i32 215, .int .i32 0]) (by simp [results, Tryd.results50, go_sem]) rfl ⟨rfl, ?_⟩
  repeat (first | exact Below.refl _ _ | refine Below.setCell ?_ (by simp) _ | refine Below.alloc ?_ (by simp) _)
set_option maxHeartbeats 4000000 in
set_option maxRecDepth 100000 in
theorem open_27 (w : World) : Calls Tryd.prog 50 #[.string ⟨#[116, 105, 109, 101, 115, 59]⟩] w (StandsOut 215 0 w) := by
  go_enter Tryd.func50, Tryd.ntmps50
  go_wp2
  refine bodyPost_ret (v := .agg #[.int .i32 215, .int .i32 0]) (by simp [results, Tryd.results50, go_sem]) rfl ⟨rfl, ?_⟩
  repeat (first | exact Below.refl _ _ | refine Below.setCell ?_ (by simp) _ | refine Below.alloc ?_ (by simp) _)
set_option maxHeartbeats 4000000 in
set_option maxRecDepth 100000 in
theorem open_no (s : ByteArray) (w : World) (h : ∀ j, 2 ≤ j → j < 28 → (s.toList == Plain.nm j) = false) : Calls Tryd.prog 50 #[.string s] w (StandsOut 0 0 w) := by
  have h2 : (s.toList == [97, 109, 112]) = false := h 2 (by omega) (by omega)
  have h3 : (s.toList == [97, 109, 112, 59]) = false := h 3 (by omega) (by omega)
  have h4 : (s.toList == [99, 111, 112, 121]) = false := h 4 (by omega) (by omega)
  have h5 : (s.toList == [99, 111, 112, 121, 59]) = false := h 5 (by omega) (by omega)
  have h6 : (s.toList == [103, 116]) = false := h 6 (by omega) (by omega)
  have h7 : (s.toList == [103, 116, 59]) = false := h 7 (by omega) (by omega)
  have h8 : (s.toList == [108, 116]) = false := h 8 (by omega) (by omega)
  have h9 : (s.toList == [108, 116, 59]) = false := h 9 (by omega) (by omega)
  have h10 : (s.toList == [110, 98, 115, 112]) = false := h 10 (by omega) (by omega)
  have h11 : (s.toList == [110, 98, 115, 112, 59]) = false := h 11 (by omega) (by omega)
  have h12 : (s.toList == [110, 111, 116]) = false := h 12 (by omega) (by omega)
  have h13 : (s.toList == [110, 111, 116, 59]) = false := h 13 (by omega) (by omega)
  have h14 : (s.toList == [112, 97, 114, 97]) = false := h 14 (by omega) (by omega)
  have h15 : (s.toList == [112, 97, 114, 97, 59]) = false := h 15 (by omega) (by omega)
  have h16 : (s.toList == [113, 117, 111, 116]) = false := h 16 (by omega) (by omega)
  have h17 : (s.toList == [113, 117, 111, 116, 59]) = false := h 17 (by omega) (by omega)
  have h18 : (s.toList == [114, 101, 103]) = false := h 18 (by omega) (by omega)
  have h19 : (s.toList == [114, 101, 103, 59]) = false := h 19 (by omega) (by omega)
  have h20 : (s.toList == [115, 104, 121]) = false := h 20 (by omega) (by omega)
  have h21 : (s.toList == [115, 104, 121, 59]) = false := h 21 (by omega) (by omega)
  have h22 : (s.toList == [115, 117, 112, 49]) = false := h 22 (by omega) (by omega)
  have h23 : (s.toList == [115, 117, 112, 49, 59]) = false := h 23 (by omega) (by omega)
  have h24 : (s.toList == [115, 117, 112, 50]) = false := h 24 (by omega) (by omega)
  have h25 : (s.toList == [115, 117, 112, 50, 59]) = false := h 25 (by omega) (by omega)
  have h26 : (s.toList == [116, 105, 109, 101, 115]) = false := h 26 (by omega) (by omega)
  have h27 : (s.toList == [116, 105, 109, 101, 115, 59]) = false := h 27 (by omega) (by omega)
  clear h
  go_enter Tryd.func50, Tryd.ntmps50
  go_wp2
  refine bodyPost_ret (v := .agg #[.int .i32 0, .int .i32 0]) (by simp [results, Tryd.results50, go_sem]) rfl ⟨rfl, ?_⟩
  repeat (first | exact Below.refl _ _ | refine Below.setCell ?_ (by simp) _ | refine Below.alloc ?_ (by simp) _)
set_option maxHeartbeats 4000000 in
set_option maxRecDepth 100000 in
theorem closed_0 (w : World) : Calls Tryd.prog 51 #[.string ⟨#[98, 110, 101, 59]⟩] w (StandsOut 61 8421 w) := by
  go_enter Tryd.func51, Tryd.ntmps51
  go_wp2
  refine bodyPost_ret (v := .agg #[.int .i32 61, .int .i32 8421]) (by simp [results, Tryd.results51, go_sem]) rfl ⟨rfl, ?_⟩
  repeat (first | exact Below.refl _ _ | refine Below.setCell ?_ (by simp) _ | refine Below.alloc ?_ (by simp) _)
set_option maxHeartbeats 4000000 in
set_option maxRecDepth 100000 in
theorem closed_1 (w : World) : Calls Tryd.prog 51 #[.string ⟨#[110, 118, 108, 116, 59]⟩] w (StandsOut 60 8402 w) := by
  go_enter Tryd.func51, Tryd.ntmps51
  go_wp2
  refine bodyPost_ret (v := .agg #[.int .i32 60, .int .i32 8402]) (by simp [results, Tryd.results51, go_sem]) rfl ⟨rfl, ?_⟩
  repeat (first | exact Below.refl _ _ | refine Below.setCell ?_ (by simp) _ | refine Below.alloc ?_ (by simp) _)
set_option maxHeartbeats 4000000 in
set_option maxRecDepth 100000 in
theorem closed_28 (w : World) : Calls Tryd.prog 51 #[.string ⟨#[84, 97, 98, 59]⟩] w (StandsOut 9 0 w) := by
  go_enter Tryd.func51, Tryd.ntmps51
  go_wp2
  refine bodyPost_ret (v := .agg #[.int .i32 9, .int .i32 0]) (by simp [results, Tryd.results51, go_sem]) rfl ⟨rfl, ?_⟩
  repeat (first | exact Below.refl _ _ | refine Below.setCell ?_ (by simp) _ | refine Below.alloc ?_ (by simp) _)
set_option maxHeartbeats 4000000 in
set_option maxRecDepth 100000 in
theorem closed_29 (w : World) : Calls Tryd.prog 51 #[.string ⟨#[78, 101, 119, 76, 105, 110, 101, 59]⟩] w (StandsOut 10 0 w) := by
  go_enter Tryd.func51, Tryd.ntmps51
  go_wp2
  refine bodyPost_ret (v := .agg #[.int .i32 10, .int .i32 0]) (by simp [results, Tryd.results51, go_sem]) rfl ⟨rfl, ?_⟩
  repeat (first | exact Below.refl _ _ | refine Below.setCell ?_ (by simp) _ | refine Below.alloc ?_ (by simp) _)
set_option maxHeartbeats 4000000 in
set_option maxRecDepth 100000 in
theorem closed_30 (w : World) : Calls Tryd.prog 51 #[.string ⟨#[97, 112, 111, 115, 59]⟩] w (StandsOut 39 0 w) := by
  go_enter Tryd.func51, Tryd.ntmps51
  go_wp2
  refine bodyPost_ret (v := .agg #[.int .i32 39, .int .i32 0]) (by simp [results, Tryd.results51, go_sem]) rfl ⟨rfl, ?_⟩
  repeat (first | exact Below.refl _ _ | refine Below.setCell ?_ (by simp) _ | refine Below.alloc ?_ (by simp) _)
set_option maxHeartbeats 4000000 in
set_option maxRecDepth 100000 in
theorem closed_31 (w : World) : Calls Tryd.prog 51 #[.string ⟨#[108, 112, 97, 114, 59]⟩] w (StandsOut 40 0 w) := by
  go_enter Tryd.func51, Tryd.ntmps51
  go_wp2
  refine bodyPost_ret (v := .agg #[.int .i32 40, .int .i32 0]) (by simp [results, Tryd.results51, go_sem]) rfl ⟨rfl, ?_⟩
  repeat (first | exact Below.refl _ _ | refine Below.setCell ?_ (by simp) _ | refine Below.alloc ?_ (by simp) _)
set_option maxHeartbeats 4000000 in
set_option maxRecDepth 100000 in
theorem closed_32 (w : World) : Calls Tryd.prog 51 #[.string ⟨#[99, 111, 108, 111, 110, 59]⟩] w (StandsOut 58 0 w) := by
  go_enter Tryd.func51, Tryd.ntmps51
  go_wp2
  refine bodyPost_ret (v := .agg #[.int .i32 58, .int .i32 0]) (by simp [results, Tryd.results51, go_sem]) rfl ⟨rfl, ?_⟩
  repeat (first | exact Below.refl _ _ | refine Below.setCell ?_ (by simp) _ | refine Below.alloc ?_ (by simp) _)
set_option maxHeartbeats 4000000 in
set_option maxRecDepth 100000 in
theorem closed_33 (w : World) : Calls Tryd.prog 51 #[.string ⟨#[112, 97, 114, 116, 59]⟩] w (StandsOut 8706 0 w) := by
  go_enter Tryd.func51, Tryd.ntmps51
  go_wp2
  refine bodyPost_ret (v := .agg #[.int .i32 8706, .int .i32 0]) (by simp [results, Tryd.results51, go_sem]) rfl ⟨rfl, ?_⟩
  repeat (first | exact Below.refl _ _ | refine Below.setCell ?_ (by simp) _ | refine Below.alloc ?_ (by simp) _)
set_option maxHeartbeats 4000000 in
set_option maxRecDepth 100000 in
theorem closed_34 (w : World) : Calls Tryd.prog 51 #[.string ⟨#[110, 111, 116, 105, 110, 59]⟩] w (StandsOut 8713 0 w) := by
  go_enter Tryd.func51, Tryd.ntmps51
  go_wp2
  refine bodyPost_ret (v := .agg #[.int .i32 8713, .int .i32 0]) (by simp [results, Tryd.results51, go_sem]) rfl ⟨rfl, ?_⟩
  repeat (first | exact Below.refl _ _ | refine Below.setCell ?_ (by simp) _ | refine Below.alloc ?_ (by simp) _)
set_option maxHeartbeats 4000000 in
set_option maxRecDepth 100000 in
theorem closed_35 (w : World) : Calls Tryd.prog 51 #[.string ⟨#[115, 117, 98, 59]⟩] w (StandsOut 8834 0 w) := by
  go_enter Tryd.func51, Tryd.ntmps51
  go_wp2
  refine bodyPost_ret (v := .agg #[.int .i32 8834, .int .i32 0]) (by simp [results, Tryd.results51, go_sem]) rfl ⟨rfl, ?_⟩
  repeat (first | exact Below.refl _ _ | refine Below.setCell ?_ (by simp) _ | refine Below.alloc ?_ (by simp) _)
set_option maxHeartbeats 4000000 in
set_option maxRecDepth 100000 in
theorem closed_36 (w : World) : Calls Tryd.prog 51 #[.string ⟨#[115, 117, 112, 59]⟩] w (StandsOut 8835 0 w) := by
  go_enter Tryd.func51, Tryd.ntmps51
  go_wp2
  refine bodyPost_ret (v := .agg #[.int .i32 8835, .int .i32 0]) (by simp [results, Tryd.results51, go_sem]) rfl ⟨rfl, ?_⟩
  repeat (first | exact Below.refl _ _ | refine Below.setCell ?_ (by simp) _ | refine Below.alloc ?_ (by simp) _)
set_option maxHeartbeats 4000000 in
set_option maxRecDepth 100000 in
theorem closed_37 (w : World) : Calls Tryd.prog 51 #[.string ⟨#[116, 105, 109, 101, 115, 98, 59]⟩] w (StandsOut 8864 0 w) := by
  go_enter Tryd.func51, Tryd.ntmps51
  go_wp2
  refine bodyPost_ret (v := .agg #[.int .i32 8864, .int .i32 0]) (by simp [results, Tryd.results51, go_sem]) rfl ⟨rfl, ?_⟩
  repeat (first | exact Below.refl _ _ | refine Below.setCell ?_ (by simp) _ | refine Below.alloc ?_ (by simp) _)
set_option maxHeartbeats 4000000 in
set_option maxRecDepth 100000 in
theorem closed_38 (w : World) : Calls Tryd.prog 51 #[.string ⟨#[104, 101, 108, 108, 105, 112, 59]⟩] w (StandsOut 8230 0 w) := by
  go_enter Tryd.func51, Tryd.ntmps51
  go_wp2
  refine bodyPost_ret (v := .agg #[.int .i32 8230, .int .i32 0]) (by simp [results, Tryd.results51, go_sem]) rfl ⟨rfl, ?_⟩
  repeat (first | exact Below.refl _ _ | refine Below.setCell ?_ (by simp) _ | refine Below.alloc ?_ (by simp) _)
set_option maxHeartbeats 4000000 in
set_option maxRecDepth 100000 in
theorem closed_39 (w : World) : Calls Tryd.prog 51 #[.string ⟨#[109, 100, 97, 115, 104, 59]⟩] w (StandsOut 8212 0 w) := by
  go_enter Tryd.func51, Tryd.ntmps51
  go_wp2
  refine bodyPost_ret (v := .agg #[.int .i32 8212, .int .i32 0]) (by simp [results, Tryd.results51, go_sem]) rfl ⟨rfl, ?_⟩
  repeat (first | exact Below.refl _ _ | refine Below.setCell ?_ (by simp) _ | refine Below.alloc ?_ (by simp) _)
set_option maxHeartbeats 4000000 in
set_option maxRecDepth 100000 in
theorem closed_40 (w : World) : Calls Tryd.prog 51 #[.string ⟨#[110, 100, 97, 115, 104, 59]⟩] w (StandsOut 8211 0 w) := by
  go_enter Tryd.func51, Tryd.ntmps51
  go_wp2
  refine bodyPost_ret (v := .agg #[.int .i32 8211, .int .i32 0]) (by simp [results, Tryd.results51, go_sem]) rfl ⟨rfl, ?_⟩
  repeat (first | exact Below.refl _ _ | refine Below.setCell ?_ (by simp) _ | refine Below.alloc ?_ (by simp) _)
set_option maxHeartbeats 4000000 in
set_option maxRecDepth 100000 in
theorem closed_41 (w : World) : Calls Tryd.prog 51 #[.string ⟨#[108, 115, 113, 117, 111, 59]⟩] w (StandsOut 8216 0 w) := by
  go_enter Tryd.func51, Tryd.ntmps51
  go_wp2
  refine bodyPost_ret (v := .agg #[.int .i32 8216, .int .i32 0]) (by simp [results, Tryd.results51, go_sem]) rfl ⟨rfl, ?_⟩
  repeat (first | exact Below.refl _ _ | refine Below.setCell ?_ (by simp) _ | refine Below.alloc ?_ (by simp) _)
set_option maxHeartbeats 4000000 in
set_option maxRecDepth 100000 in
theorem closed_42 (w : World) : Calls Tryd.prog 51 #[.string ⟨#[114, 115, 113, 117, 111, 59]⟩] w (StandsOut 8217 0 w) := by
  go_enter Tryd.func51, Tryd.ntmps51
  go_wp2
  refine bodyPost_ret (v := .agg #[.int .i32 8217, .int .i32 0]) (by simp [results, Tryd.results51, go_sem]) rfl ⟨rfl, ?_⟩
  repeat (first | exact Below.refl _ _ | refine Below.setCell ?_ (by simp) _ | refine Below.alloc ?_ (by simp) _)
set_option maxHeartbeats 4000000 in
set_option maxRecDepth 100000 in
theorem closed_43 (w : World) : Calls Tryd.prog 51 #[.string ⟨#[108, 100, 113, 117, 111, 59]⟩] w (StandsOut 8220 0 w) := by
  go_enter Tryd.func51, Tryd.ntmps51
  go_wp2
  refine bodyPost_ret (v := .agg #[.int .i32 8220, .int .i32 0]) (by simp [results, Tryd.results51, go_sem]) rfl ⟨rfl, ?_⟩
  repeat (first | exact Below.refl _ _ | refine Below.setCell ?_ (by simp) _ | refine Below.alloc ?_ (by simp) _)
set_option maxHeartbeats 4000000 in
set_option maxRecDepth 100000 in
theorem closed_44 (w : World) : Calls Tryd.prog 51 #[.string ⟨#[114, 100, 113, 117, 111, 59]⟩] w (StandsOut 8221 0 w) := by
  go_enter Tryd.func51, Tryd.ntmps51
  go_wp2
  refine bodyPost_ret (v := .agg #[.int .i32 8221, .int .i32 0]) (by simp [results, Tryd.results51, go_sem]) rfl ⟨rfl, ?_⟩
  repeat (first | exact Below.refl _ _ | refine Below.setCell ?_ (by simp) _ | refine Below.alloc ?_ (by simp) _)
set_option maxHeartbeats 4000000 in
set_option maxRecDepth 100000 in
theorem closed_45 (w : World) : Calls Tryd.prog 51 #[.string ⟨#[101, 117, 114, 111, 59]⟩] w (StandsOut 8364 0 w) := by
  go_enter Tryd.func51, Tryd.ntmps51
  go_wp2
  refine bodyPost_ret (v := .agg #[.int .i32 8364, .int .i32 0]) (by simp [results, Tryd.results51, go_sem]) rfl ⟨rfl, ?_⟩
  repeat (first | exact Below.refl _ _ | refine Below.setCell ?_ (by simp) _ | refine Below.alloc ?_ (by simp) _)
set_option maxHeartbeats 4000000 in
set_option maxRecDepth 100000 in
theorem closed_no (s : ByteArray) (w : World) (h : ∀ j, j < 46 → (j < 2 ∨ 28 ≤ j) → (s.toList == Plain.nm j) = false) : Calls Tryd.prog 51 #[.string s] w (StandsOut 0 0 w) := by
  have h0 : (s.toList == [98, 110, 101, 59]) = false := h 0 (by omega) (by omega)
  have h1 : (s.toList == [110, 118, 108, 116, 59]) = false := h 1 (by omega) (by omega)
  have h28 : (s.toList == [84, 97, 98, 59]) = false := h 28 (by omega) (by omega)
  have h29 : (s.toList == [78, 101, 119, 76, 105, 110, 101, 59]) = false := h 29 (by omega) (by omega)
  have h30 : (s.toList == [97, 112, 111, 115, 59]) = false := h 30 (by omega) (by omega)
  have h31 : (s.toList == [108, 112, 97, 114, 59]) = false := h 31 (by omega) (by omega)
  have h32 : (s.toList == [99, 111, 108, 111, 110, 59]) = false := h 32 (by omega) (by omega)
  have h33 : (s.toList == [112, 97, 114, 116, 59]) = false := h 33 (by omega) (by omega)
  have h34 : (s.toList == [110, 111, 116, 105, 110, 59]) = false := h 34 (by omega) (by omega)
  have h35 : (s.toList == [115, 117, 98, 59]) = false := h 35 (by omega) (by omega)
  have h36 : (s.toList == [115, 117, 112, 59]) = false := h 36 (by omega) (by omega)
  have h37 : (s.toList == [116, 105, 109, 101, 115, 98, 59]) = false := h 37 (by omega) (by omega)
  have h38 : (s.toList == [104, 101, 108, 108, 105, 112, 59]) = false := h 38 (by omega) (by omega)
  have h39 : (s.toList == [109, 100, 97, 115, 104, 59]) = false := h 39 (by omega) (by omega)
  have h40 : (s.toList == [110, 100, 97, 115, 104, 59]) = false := h 40 (by omega) (by omega)
  have h41 : (s.toList == [108, 115, 113, 117, 111, 59]) = false := h 41 (by omega) (by omega)
  have h42 : (s.toList == [114, 115, 113, 117, 111, 59]) = false := h 42 (by omega) (by omega)
  have h43 : (s.toList == [108, 100, 113, 117, 111, 59]) = false := h 43 (by omega) (by omega)
  have h44 : (s.toList == [114, 100, 113, 117, 111, 59]) = false := h 44 (by omega) (by omega)
  have h45 : (s.toList == [101, 117, 114, 111, 59]) = false := h 45 (by omega) (by omega)
  clear h
  go_enter Tryd.func51, Tryd.ntmps51
  go_wp2
  refine bodyPost_ret (v := .agg #[.int .i32 0, .int .i32 0]) (by simp [results, Tryd.results51, go_sem]) rfl ⟨rfl, ?_⟩
  repeat (first | exact Below.refl _ _ | refine Below.setCell ?_ (by simp) _ | refine Below.alloc ?_ (by simp) _)
theorem no_at (s : ByteArray) (h : Plain.look s.data.toList = none) (j : Nat) (hj : j < 46) : (s.toList == Plain.nm j) = false := by
  rw [Lib.toList_data, beq_eq_false_iff_ne]
  intro e
  have := Plain.names_once _ (Plain.nm_mem j hj)
  rw [← e, h] at this
  cases this
theorem nm_other : ∀ i, i < 46 → ∀ j, j < 46 → i ≠ j → (Plain.nm i == Plain.nm j) = false := by decide +kernel
theorem nm_at (i j : Nat) (hi : i < 46) (hj : j < 46) (h : i ≠ j) : ((⟨(Plain.nm i).toArray⟩ : ByteArray).toList == Plain.nm j) = false := by
  rw [Lib.toList_data]
  exact nm_other i hi j hj h
theorem two_set {n : Nat} {w W : World} (h : Below n w W) (b : Nat) (hb : n ≤ b) (i j : Nat) (u v : Value) : Below n w ((W.setCell ⟨b, i, none⟩ u).setCell ⟨b, j, none⟩ v) := (h.setCell hb u).setCell hb v
theorem blk (w : World) (vs : Array Value) (t : TypeId) (w1 : World) (b1 : Below (w.alloc (.cells vs t)).heap.size (w.alloc (.cells vs t)) w1) : (∀ j, w1.cell? ⟨w.heap.size, j, none⟩ = vs[j]?) ∧ (∀ j, w1.frozen? ⟨w.heap.size, j, none⟩ = false) ∧ w.heap.size < w1.heap.size ∧ Below w.heap.size w w1 := by
  have k0 : ∀ j, (w.alloc (.cells vs t)).cell? ⟨w.heap.size, j, none⟩ = vs[j]? := fun j => World.cell?_alloc_mark w _ t (0, 0) j
  have m0 : ∀ j, (w.alloc (.cells vs t)).frozen? ⟨w.heap.size, j, none⟩ = false := fun j => by rw [World.frozen?_alloc_mark]; simp
  have hz : (w.alloc (.cells vs t)).heap.size = w.heap.size + 1 := by simp
  have b0 : Below w.heap.size w (w.alloc (.cells vs t)) := (Below.refl _ w).alloc (Nat.le_refl _) _
  have h1 := b1.size
  exact ⟨fun j => (b1.cell (p := ⟨w.heap.size, j, none⟩) (by rw [hz]; exact Nat.lt_succ_self _)).trans (k0 j), fun j => (b1.frozen (p := ⟨w.heap.size, j, none⟩) (by rw [hz]; exact Nat.lt_succ_self _)).trans (m0 j), by omega, b0.trans (b1.mono (by omega))⟩
set_option maxHeartbeats 1000000 in
set_option maxRecDepth 100000 in
theorem meant_open (s : ByteArray) (a b : Nat) (w : World) (ha : a ≠ 0) (h : ∀ W, Calls Tryd.prog 50 #[.string s] W (StandsOut a b W)) : Calls Tryd.prog 42 #[.string s] w (StandsOut a b w) := by
  have H := fun W => Lib.hid (h W)
  have q : ((a : Int) != 0) = true := by simp; omega
  clear h ha
  go_enter Tryd.func42, Tryd.ntmps42
  go_wp2_with fail
  refine (H _).out.mono ?_
  rintro e w1 ⟨rfl, b1⟩
  obtain ⟨c, f, lt, bl⟩ := blk _ _ _ _ b1
  have c0 := c 0
  have c1 := c 1
  clear c b1 H
  go_wp2
  refine bodyPost_ret (v := .agg #[.int .i32 (a : Int), .int .i32 (b : Int)]) (by simp [results, Tryd.results42, go_sem, *]) rfl ⟨rfl, ?_⟩
  have z1 := bl.size
  exact (two_set bl _ (Nat.le_refl _) 0 1 _ _).alloc (by simpa using z1) _
set_option maxHeartbeats 1000000 in
set_option maxRecDepth 100000 in
theorem meant_closed (s : ByteArray) (a b : Nat) (w : World) (ho : ∀ W, Calls Tryd.prog 50 #[.string s] W (StandsOut 0 0 W)) (h : ∀ W, Calls Tryd.prog 51 #[.string s] W (StandsOut a b W)) : Calls Tryd.prog 42 #[.string s] w (StandsOut a b w) := by
  have HO := fun W => Lib.hid (ho W)
  have H := fun W => Lib.hid (h W)
  clear h ho
  go_enter Tryd.func42, Tryd.ntmps42
  go_wp2_with fail
  refine (HO _).out.mono ?_
  rintro e w1 ⟨rfl, b1⟩
  obtain ⟨c, f, lt, bl⟩ := blk _ _ _ _ b1
  clear b1 HO
  go_wp2_with fail
  refine (H _).out.mono ?_
  rintro e w2 ⟨rfl, b2⟩
  have b3 := ((Below.refl _ w1).alloc (Nat.le_refl _) _).trans (b2.mono (by simp))
  have c0 := (b3.cell (p := ⟨w.heap.size, 0, none⟩) lt).trans (c 0)
  have c1 := (b3.cell (p := ⟨w.heap.size, 1, none⟩) lt).trans (c 1)
  have f0 := fun j => (b3.frozen (p := ⟨w.heap.size, j, none⟩) lt).trans (f j)
  have lt2 := Nat.lt_of_lt_of_le lt b3.size
  have bl2 := bl.trans (b3.mono bl.size)
  clear c f b2 b3 H bl lt
  go_wp2
  refine bodyPost_ret (v := .agg #[.int .i32 (a : Int), .int .i32 (b : Int)]) (by simp [results, Tryd.results42, go_sem, *]) rfl ⟨rfl, ?_⟩
  exact two_set bl2 _ (Nat.le_refl _) 0 1 _ _
theorem stands_0 (w : World) : Calls Tryd.prog 42 #[.string ⟨#[98, 110, 101, 59]⟩] w (StandsOut 61 8421 w) := meant_closed _ _ _ w (fun W => open_no _ W (fun i h1 h2 => nm_at 0 i (by omega) (by omega) (by omega))) closed_0
theorem stands_1 (w : World) : Calls Tryd.prog 42 #[.string ⟨#[110, 118, 108, 116, 59]⟩] w (StandsOut 60 8402 w) := meant_closed _ _ _ w (fun W => open_no _ W (fun i h1 h2 => nm_at 1 i (by omega) (by omega) (by omega))) closed_1
theorem stands_2 (w : World) : Calls Tryd.prog 42 #[.string ⟨#[97, 109, 112]⟩] w (StandsOut 38 0 w) := meant_open _ _ _ w (by omega) open_2
theorem stands_3 (w : World) : Calls Tryd.prog 42 #[.string ⟨#[97, 109, 112, 59]⟩] w (StandsOut 38 0 w) := meant_open _ _ _ w (by omega) open_3
theorem stands_4 (w : World) : Calls Tryd.prog 42 #[.string ⟨#[99, 111, 112, 121]⟩] w (StandsOut 169 0 w) := meant_open _ _ _ w (by omega) open_4
theorem stands_5 (w : World) : Calls Tryd.prog 42 #[.string ⟨#[99, 111, 112, 121, 59]⟩] w (StandsOut 169 0 w) := meant_open _ _ _ w (by omega) open_5
theorem stands_6 (w : World) : Calls Tryd.prog 42 #[.string ⟨#[103, 116]⟩] w (StandsOut 62 0 w) := meant_open _ _ _ w (by omega) open_6
theorem stands_7 (w : World) : Calls Tryd.prog 42 #[.string ⟨#[103, 116, 59]⟩] w (StandsOut 62 0 w) := meant_open _ _ _ w (by omega) open_7
theorem stands_8 (w : World) : Calls Tryd.prog 42 #[.string ⟨#[108, 116]⟩] w (StandsOut 60 0 w) := meant_open _ _ _ w (by omega) open_8
theorem stands_9 (w : World) : Calls Tryd.prog 42 #[.string ⟨#[108, 116, 59]⟩] w (StandsOut 60 0 w) := meant_open _ _ _ w (by omega) open_9
theorem stands_10 (w : World) : Calls Tryd.prog 42 #[.string ⟨#[110, 98, 115, 112]⟩] w (StandsOut 160 0 w) := meant_open _ _ _ w (by omega) open_10
theorem stands_11 (w : World) : Calls Tryd.prog 42 #[.string ⟨#[110, 98, 115, 112, 59]⟩] w (StandsOut 160 0 w) := meant_open _ _ _ w (by omega) open_11
theorem stands_12 (w : World) : Calls Tryd.prog 42 #[.string ⟨#[110, 111, 116]⟩] w (StandsOut 172 0 w) := meant_open _ _ _ w (by omega) open_12
theorem stands_13 (w : World) : Calls Tryd.prog 42 #[.string ⟨#[110, 111, 116, 59]⟩] w (StandsOut 172 0 w) := meant_open _ _ _ w (by omega) open_13
theorem stands_14 (w : World) : Calls Tryd.prog 42 #[.string ⟨#[112, 97, 114, 97]⟩] w (StandsOut 182 0 w) := meant_open _ _ _ w (by omega) open_14
theorem stands_15 (w : World) : Calls Tryd.prog 42 #[.string ⟨#[112, 97, 114, 97, 59]⟩] w (StandsOut 182 0 w) := meant_open _ _ _ w (by omega) open_15
theorem stands_16 (w : World) : Calls Tryd.prog 42 #[.string ⟨#[113, 117, 111, 116]⟩] w (StandsOut 34 0 w) := meant_open _ _ _ w (by omega) open_16
theorem stands_17 (w : World) : Calls Tryd.prog 42 #[.string ⟨#[113, 117, 111, 116, 59]⟩] w (StandsOut 34 0 w) := meant_open _ _ _ w (by omega) open_17
theorem stands_18 (w : World) : Calls Tryd.prog 42 #[.string ⟨#[114, 101, 103]⟩] w (StandsOut 174 0 w) := meant_open _ _ _ w (by omega) open_18
theorem stands_19 (w : World) : Calls Tryd.prog 42 #[.string ⟨#[114, 101, 103, 59]⟩] w (StandsOut 174 0 w) := meant_open _ _ _ w (by omega) open_19
theorem stands_20 (w : World) : Calls Tryd.prog 42 #[.string ⟨#[115, 104, 121]⟩] w (StandsOut 173 0 w) := meant_open _ _ _ w (by omega) open_20
theorem stands_21 (w : World) : Calls Tryd.prog 42 #[.string ⟨#[115, 104, 121, 59]⟩] w (StandsOut 173 0 w) := meant_open _ _ _ w (by omega) open_21
theorem stands_22 (w : World) : Calls Tryd.prog 42 #[.string ⟨#[115, 117, 112, 49]⟩] w (StandsOut 185 0 w) := meant_open _ _ _ w (by omega) open_22
theorem stands_23 (w : World) : Calls Tryd.prog 42 #[.string ⟨#[115, 117, 112, 49, 59]⟩] w (StandsOut 185 0 w) := meant_open _ _ _ w (by omega) open_23
theorem stands_24 (w : World) : Calls Tryd.prog 42 #[.string ⟨#[115, 117, 112, 50]⟩] w (StandsOut 178 0 w) := meant_open _ _ _ w (by omega) open_24
theorem stands_25 (w : World) : Calls Tryd.prog 42 #[.string ⟨#[115, 117, 112, 50, 59]⟩] w (StandsOut 178 0 w) := meant_open _ _ _ w (by omega) open_25
theorem stands_26 (w : World) : Calls Tryd.prog 42 #[.string ⟨#[116, 105, 109, 101, 115]⟩] w (StandsOut 215 0 w) := meant_open _ _ _ w (by omega) open_26
theorem stands_27 (w : World) : Calls Tryd.prog 42 #[.string ⟨#[116, 105, 109, 101, 115, 59]⟩] w (StandsOut 215 0 w) := meant_open _ _ _ w (by omega) open_27
theorem stands_28 (w : World) : Calls Tryd.prog 42 #[.string ⟨#[84, 97, 98, 59]⟩] w (StandsOut 9 0 w) := meant_closed _ _ _ w (fun W => open_no _ W (fun i h1 h2 => nm_at 28 i (by omega) (by omega) (by omega))) closed_28
theorem stands_29 (w : World) : Calls Tryd.prog 42 #[.string ⟨#[78, 101, 119, 76, 105, 110, 101, 59]⟩] w (StandsOut 10 0 w) := meant_closed _ _ _ w (fun W => open_no _ W (fun i h1 h2 => nm_at 29 i (by omega) (by omega) (by omega))) closed_29
theorem stands_30 (w : World) : Calls Tryd.prog 42 #[.string ⟨#[97, 112, 111, 115, 59]⟩] w (StandsOut 39 0 w) := meant_closed _ _ _ w (fun W => open_no _ W (fun i h1 h2 => nm_at 30 i (by omega) (by omega) (by omega))) closed_30
theorem stands_31 (w : World) : Calls Tryd.prog 42 #[.string ⟨#[108, 112, 97, 114, 59]⟩] w (StandsOut 40 0 w) := meant_closed _ _ _ w (fun W => open_no _ W (fun i h1 h2 => nm_at 31 i (by omega) (by omega) (by omega))) closed_31
theorem stands_32 (w : World) : Calls Tryd.prog 42 #[.string ⟨#[99, 111, 108, 111, 110, 59]⟩] w (StandsOut 58 0 w) := meant_closed _ _ _ w (fun W => open_no _ W (fun i h1 h2 => nm_at 32 i (by omega) (by omega) (by omega))) closed_32
theorem stands_33 (w : World) : Calls Tryd.prog 42 #[.string ⟨#[112, 97, 114, 116, 59]⟩] w (StandsOut 8706 0 w) := meant_closed _ _ _ w (fun W => open_no _ W (fun i h1 h2 => nm_at 33 i (by omega) (by omega) (by omega))) closed_33
theorem stands_34 (w : World) : Calls Tryd.prog 42 #[.string ⟨#[110, 111, 116, 105, 110, 59]⟩] w (StandsOut 8713 0 w) := meant_closed _ _ _ w (fun W => open_no _ W (fun i h1 h2 => nm_at 34 i (by omega) (by omega) (by omega))) closed_34
theorem stands_35 (w : World) : Calls Tryd.prog 42 #[.string ⟨#[115, 117, 98, 59]⟩] w (StandsOut 8834 0 w) := meant_closed _ _ _ w (fun W => open_no _ W (fun i h1 h2 => nm_at 35 i (by omega) (by omega) (by omega))) closed_35
theorem stands_36 (w : World) : Calls Tryd.prog 42 #[.string ⟨#[115, 117, 112, 59]⟩] w (StandsOut 8835 0 w) := meant_closed _ _ _ w (fun W => open_no _ W (fun i h1 h2 => nm_at 36 i (by omega) (by omega) (by omega))) closed_36
theorem stands_37 (w : World) : Calls Tryd.prog 42 #[.string ⟨#[116, 105, 109, 101, 115, 98, 59]⟩] w (StandsOut 8864 0 w) := meant_closed _ _ _ w (fun W => open_no _ W (fun i h1 h2 => nm_at 37 i (by omega) (by omega) (by omega))) closed_37
theorem stands_38 (w : World) : Calls Tryd.prog 42 #[.string ⟨#[104, 101, 108, 108, 105, 112, 59]⟩] w (StandsOut 8230 0 w) := meant_closed _ _ _ w (fun W => open_no _ W (fun i h1 h2 => nm_at 38 i (by omega) (by omega) (by omega))) closed_38
theorem stands_39 (w : World) : Calls Tryd.prog 42 #[.string ⟨#[109, 100, 97, 115, 104, 59]⟩] w (StandsOut 8212 0 w) := meant_closed _ _ _ w (fun W => open_no _ W (fun i h1 h2 => nm_at 39 i (by omega) (by omega) (by omega))) closed_39
theorem stands_40 (w : World) : Calls Tryd.prog 42 #[.string ⟨#[110, 100, 97, 115, 104, 59]⟩] w (StandsOut 8211 0 w) := meant_closed _ _ _ w (fun W => open_no _ W (fun i h1 h2 => nm_at 40 i (by omega) (by omega) (by omega))) closed_40
theorem stands_41 (w : World) : Calls Tryd.prog 42 #[.string ⟨#[108, 115, 113, 117, 111, 59]⟩] w (StandsOut 8216 0 w) := meant_closed _ _ _ w (fun W => open_no _ W (fun i h1 h2 => nm_at 41 i (by omega) (by omega) (by omega))) closed_41
theorem stands_42 (w : World) : Calls Tryd.prog 42 #[.string ⟨#[114, 115, 113, 117, 111, 59]⟩] w (StandsOut 8217 0 w) := meant_closed _ _ _ w (fun W => open_no _ W (fun i h1 h2 => nm_at 42 i (by omega) (by omega) (by omega))) closed_42
theorem stands_43 (w : World) : Calls Tryd.prog 42 #[.string ⟨#[108, 100, 113, 117, 111, 59]⟩] w (StandsOut 8220 0 w) := meant_closed _ _ _ w (fun W => open_no _ W (fun i h1 h2 => nm_at 43 i (by omega) (by omega) (by omega))) closed_43
theorem stands_44 (w : World) : Calls Tryd.prog 42 #[.string ⟨#[114, 100, 113, 117, 111, 59]⟩] w (StandsOut 8221 0 w) := meant_closed _ _ _ w (fun W => open_no _ W (fun i h1 h2 => nm_at 44 i (by omega) (by omega) (by omega))) closed_44
theorem stands_45 (w : World) : Calls Tryd.prog 42 #[.string ⟨#[101, 117, 114, 111, 59]⟩] w (StandsOut 8364 0 w) := meant_closed _ _ _ w (fun W => open_no _ W (fun i h1 h2 => nm_at 45 i (by omega) (by omega) (by omega))) closed_45
theorem stands_yes (j : Nat) (h : j < 46) (w : World) : Calls Tryd.prog 42 #[.string ⟨(Plain.nm j).toArray⟩] w (StandsOut (Plain.c1 j) (Plain.c2 j) w) := by
  rcases (show j = 0 ∨ j = 1 ∨ j = 2 ∨ j = 3 ∨ j = 4 ∨ j = 5 ∨ j = 6 ∨ j = 7 ∨ j = 8 ∨ j = 9 ∨ j = 10 ∨ j = 11 ∨ j = 12 ∨ j = 13 ∨ j = 14 ∨ j = 15 ∨ j = 16 ∨ j = 17 ∨ j = 18 ∨ j = 19 ∨ j = 20 ∨ j = 21 ∨ j = 22 ∨ j = 23 ∨ j = 24 ∨ j = 25 ∨ j = 26 ∨ j = 27 ∨ j = 28 ∨ j = 29 ∨ j = 30 ∨ j = 31 ∨ j = 32 ∨ j = 33 ∨ j = 34 ∨ j = 35 ∨ j = 36 ∨ j = 37 ∨ j = 38 ∨ j = 39 ∨ j = 40 ∨ j = 41 ∨ j = 42 ∨ j = 43 ∨ j = 44 ∨ j = 45 by omega) with rfl | rfl | rfl | rfl | rfl | rfl | rfl | rfl | rfl | rfl | rfl | rfl | rfl | rfl | rfl | rfl | rfl | rfl | rfl | rfl | rfl | rfl | rfl | rfl | rfl | rfl | rfl | rfl | rfl | rfl | rfl | rfl | rfl | rfl | rfl | rfl | rfl | rfl | rfl | rfl | rfl | rfl | rfl | rfl | rfl | rfl
  · exact stands_0 w
  · exact stands_1 w
  · exact stands_2 w
  · exact stands_3 w
  · exact stands_4 w
  · exact stands_5 w
  · exact stands_6 w
  · exact stands_7 w
  · exact stands_8 w
  · exact stands_9 w
  · exact stands_10 w
  · exact stands_11 w
  · exact stands_12 w
  · exact stands_13 w
  · exact stands_14 w
  · exact stands_15 w
  · exact stands_16 w
  · exact stands_17 w
  · exact stands_18 w
  · exact stands_19 w
  · exact stands_20 w
  · exact stands_21 w
  · exact stands_22 w
  · exact stands_23 w
  · exact stands_24 w
  · exact stands_25 w
  · exact stands_26 w
  · exact stands_27 w
  · exact stands_28 w
  · exact stands_29 w
  · exact stands_30 w
  · exact stands_31 w
  · exact stands_32 w
  · exact stands_33 w
  · exact stands_34 w
  · exact stands_35 w
  · exact stands_36 w
  · exact stands_37 w
  · exact stands_38 w
  · exact stands_39 w
  · exact stands_40 w
  · exact stands_41 w
  · exact stands_42 w
  · exact stands_43 w
  · exact stands_44 w
  · exact stands_45 w
theorem stands_no (s : ByteArray) (w : World) (h : Plain.look s.data.toList = none) : Calls Tryd.prog 42 #[.string s] w (StandsOut 0 0 w) :=
  meant_closed s 0 0 w (fun W => open_no s W (fun j _ h2 => no_at s h j (by omega))) (fun W => closed_no s W (fun j h1 _ => no_at s h j h1))

set_option maxHeartbeats 1000000 in
set_option maxRecDepth 100000 in
theorem text_one (a : Nat) (w : World) (ha : a ≤ 9000) : Calls Tryd.prog 44 #[.agg #[.int .i32 (a : Int), .int .i32 0]] w (Tells (Plain.enc a) w) := by
  go_enter Tryd.func44, Tryd.ntmps44
  go_wp2
  go_ret
  exact tells_enc a ⟨by omega, by omega⟩ ((Below.refl _ w).alloc (Nat.le_refl _) _)
theorem size4 (E : ByteArray) (l : List UInt8) (h : E.data.toList = l) (h4 : l.length ≤ 4) : E.size ≤ 4 := by
  subst h
  simpa using h4
theorem enc_size (k : Nat) (h : Plain.Valid k) : (Utf8.encode (k : Int)).size ≤ 4 := size4 _ _ (Plain.enc_is k h) (Plain.enc_len k).2
theorem two_of (E F : ByteArray) (a b : List UInt8) (h1 : E.data.toList = a) (h2 : F.data.toList = b) {w w' : World} (hb : Below w.heap.size w w') : Tells (a ++ b) w (.returned (.string (E ++ F))) w' := by
  refine tells_of (E ++ F) (a ++ b) ?_ hb
  rw [ByteArray.data_append, Array.toList_append, h1, h2]
set_option maxHeartbeats 1000000 in
set_option maxRecDepth 100000 in
theorem text_two (a b : Nat) (w : World) (ha : a ≤ 9000) (hb : b ≤ 9000) (h0 : b ≠ 0) : Calls Tryd.prog 44 #[.agg #[.int .i32 (a : Int), .int .i32 (b : Int)]] w (Tells (Plain.enc a ++ Plain.enc b) w) := by
  have hq : ((b : Int) == 0) = false := beq_eq_false_iff_ne.2 (by omega)
  have va : Plain.Valid a := ⟨by omega, by omega⟩
  have vb : Plain.Valid b := ⟨by omega, by omega⟩
  have VA := Lib.hid va
  have VB := Lib.hid vb
  have hadd : ∀ W, (Op.stringOp .add (Utf8.encode (a : Int)) (Utf8.encode (b : Int))).run Tryd.prog W = .ok (.string (Utf8.encode (a : Int) ++ Utf8.encode (b : Int))) W := fun W => run_string_add_sum W _ _ (by have := enc_size a va; have := enc_size b vb; omega)
  clear va vb h0
  go_enter Tryd.func44, Tryd.ntmps44
  go_wp2
  go_ret
  exact two_of _ _ _ _ (Plain.enc_is a VA.out) (Plain.enc_is b VB.out) ((Below.refl _ w).alloc (Nat.le_refl _) _)
theorem text_of (j : Nat) (h : j < 46) (w : World) : Calls Tryd.prog 44 #[.agg #[.int .i32 (Plain.c1 j : Int), .int .i32 (Plain.c2 j : Int)]] w (Tells (Plain.vl j) w) := by
  obtain ⟨h1, h2, h3⟩ := Plain.codes_ok j h
  rw [h3]
  by_cases h0 : Plain.c2 j = 0
  · rw [if_pos h0, h0, List.append_nil]
    exact text_one _ w h1
  · rw [if_neg h0]
    exact text_two _ _ w h1 h2 h0
end Go.Proofs.YtobgdignanpliaaDoor
