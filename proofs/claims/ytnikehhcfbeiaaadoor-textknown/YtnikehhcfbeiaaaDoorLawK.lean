/-
  The walk of the law TextKnown: any number: true, and nothing old is changed.
-/
import Derived.Test.YtnikehhcfbeiaaaDoorLawS
import Derived.Deep.RegionWith
namespace Go.Proofs.YtnikehhcfbeiaaaDoor
open Go.RowKit

/-- The texts that the law asks, and what is to come of each. -/
def ins : List (List UInt8) := [[239, 187, 191, 97], [128], [240, 144, 128], [240, 128, 128], [237, 160, 128], [192, 175], [228, 184, 150], [244, 144], [239, 187], [224, 159, 97], [0], [97, 255]]
def outs : List (List UInt8) := [[97], [239, 191, 189], [239, 191, 189], [239, 191, 189, 239, 191, 189, 239, 191, 189], [239, 191, 189, 239, 191, 189, 239, 191, 189], [239, 191, 189, 239, 191, 189], [228, 184, 150], [239, 191, 189, 239, 191, 189], [239, 191, 189], [239, 191, 189, 239, 191, 189, 97], [0], [97, 239, 191, 189]]
theorem ins_outs : ∀ r, r < 12 → Plain.decode (ins.getD r []) = outs.getD r [] ∧ (ins.getD r []).length ≤ 4 := by decide

def inCells : Array Value := (ins.map strV).toArray
def outCells : Array Value := (outs.map strV).toArray

theorem rows_at (w : World) (r : Nat) (hr : r < 12) : ((w.alloc (.cells inCells 9)).alloc (.cells outCells 9)).cell? ⟨w.heap.size, r, none⟩ = some (strV (ins.getD r [])) ∧
    ((w.alloc (.cells inCells 9)).alloc (.cells outCells 9)).cell? ⟨w.heap.size + 1, r, none⟩ = some (strV (outs.getD r [])) := by
  have e1 : ((w.alloc (.cells inCells 9)).alloc (.cells outCells 9)).cell? ⟨w.heap.size, r, none⟩ = inCells[r]? := by
    rw [World.cell?_alloc_lt _ _ _ (by simp)]
    exact World.cell?_alloc_mark w inCells 9 (0, 0) r
  have e2 : ((w.alloc (.cells inCells 9)).alloc (.cells outCells 9)).cell? ⟨w.heap.size + 1, r, none⟩ = outCells[r]? := by
    have := World.cell?_alloc_mark (w.alloc (.cells inCells 9)) outCells 9 (0, 0) r
    rw [show (w.alloc (.cells inCells 9)).heap.size = w.heap.size + 1 by simp] at this
    exact this
  have hi : ins.length = 12 := rfl
  have ho : outs.length = 12 := rfl
  rw [e1, e2]
  unfold inCells outCells
  rw [List.getElem?_toArray, List.getElem?_toArray, List.getElem?_map, List.getElem?_map, List.getElem?_eq_getElem (by omega), List.getElem?_eq_getElem (by omega), List.getD_eq_getElem?_getD, List.getD_eq_getElem?_getD, List.getElem?_eq_getElem (by omega), List.getElem?_eq_getElem (by omega)]
  exact ⟨rfl, rfl⟩

theorem cell_on {w w' : World} {g r : Nat} {v : Value} (h : w.cell? ⟨g, r, none⟩ = some v) (hg : g < w.heap.size) (hb : Below w.heap.size w w') : w'.cell? ⟨g, r, none⟩ = some v := (hb.cell (p := ⟨g, r, none⟩) hg).trans h

set_option maxHeartbeats 2000000 in
set_option maxRecDepth 100000 in
theorem texts_walk (n : Int) (w : World) (h0 : -9223372036854775808 ≤ n) (h1 : n ≤ 9223372036854775807) (hm : HasMax w) : Calls Tryd.prog 11 #[.int .i64 n] w (Says true w) := by
  have HM := Lib.hid hm
  have HW := fun W => Lib.hid (within_any n 12 W h0 h1 (by omega) (by omega))
  clear hm
  go_enter Tryd.func11, Tryd.ntmps11
  go_wp2_with fail
  refine (HW _).out.mono ?_
  rintro e w2 ⟨r, hr, rfl, hw⟩
  have hw' : (w.alloc (.cells inCells 9)).alloc (.cells outCells 9) = w2 := hw
  have hI := (rows_at w r hr).1
  have hO := (rows_at w r hr).2
  rw [hw'] at hI hO
  have hsz : w.heap.size + 1 < w2.heap.size := by rw [← hw']; simp
  have b2 : Below w.heap.size w w2 := by rw [← hw']; exact ((Below.refl _ w).alloc (Nat.le_refl _) _).alloc (by simp) _
  clear hw hw' HW
  obtain ⟨hdec, hlen⟩ := ins_outs r hr
  have HD := fun W cap => Lib.hid (decode_new ⟨(ins.getD r []).toArray⟩ W cap (by
    show (ins.getD r []).toArray.size ≤ _
    rw [List.size_toArray]
    omega))
  have hd2 : (⟨(ins.getD r []).toArray⟩ : ByteArray).data.toList = ins.getD r [] := by simp
  rw [hd2, hdec] at HD
  unfold strV at hI hO
  generalize (⟨(ins.getD r []).toArray⟩ : ByteArray) = I at *
  generalize (⟨(outs.getD r []).toArray⟩ : ByteArray) = O at *
  clear hd2 hdec hlen
  have hconv := to_bytes I
  have hM2 := Lib.hid (HM.out.below b2)
  have HK : Hid (Calls Tryd.prog 13 #[] w2.drew fun e w3 => e = .returned (.bool true) ∧ Below w.heap.size w w3 ∧ w3.cell? ⟨w.heap.size, r, none⟩ = some (.string I) ∧ w3.cell? ⟨w.heap.size + 1, r, none⟩ = some (.string O) ∧ w.heap.size + 1 < w3.heap.size) := by
    refine (known_yes w2.drew hM2.out).mono fun e w3 ⟨he, b3⟩ => ?_
    have b3' : Below w2.heap.size w2 w3 := ((Below.refl w2.heap.size w2).drew).trans b3
    exact ⟨he, b2.trans (b3'.mono b2.size), cell_on hI (by omega) b3', cell_on hO hsz b3', Nat.lt_of_lt_of_le hsz b3'.size⟩
  have HD2 : Hid (∀ (W : World) (cap : Nat), w.heap.size + 1 < W.heap.size → W.cell? ⟨w.heap.size + 1, r, none⟩ = some (.string O) → Below w.heap.size w W →
      Calls Tryd.prog 14 #[.slice (some ⟨W.heap.size, 0, none⟩) I.size cap] (W.alloc (.cells (bytesRow I cap) 5 ((bytesRow I cap).size, (bytesRow I cap).size + 1))).drew fun e w4 => e = .returned (.string O) ∧ Below w.heap.size w w4 ∧ w4.cell? ⟨w.heap.size + 1, r, none⟩ = some (.string O)) := by
    intro W cap hz hc hb
    refine (HD W cap).out.mono fun e w4 ⟨he, b4⟩ => ?_
    exact ⟨he, hb.trans (b4.mono hb.size), cell_on hc hz b4⟩
  clear HD hI hO hsz hM2 b2
  go_wp2
  go_region_with (first
    | (go_at_call 13; refine HK.out.mono ?_; rintro e w3 ⟨rfl, b3, hI3, hO3, hz3⟩)
    | (go_at_call 14; refine (HD2.out _ _ ‹_› ‹_› ‹_›).mono ?_; rintro e w4 ⟨rfl, b4, hO4⟩))
  all_goals
    go_wp2
    go_ret
    exact ⟨by simp [go_sem], b4⟩
end Go.Proofs.YtnikehhcfbeiaaaDoor
