/-
  The walk of the law RefsKnown: true, and nothing old is changed. The program's table holds what its text lays.
-/
import Derived.Test.YtobgdignanpliaaDoorRLaw3
import Derived.Deep.RegionWith
namespace Go.Proofs.YtobgdignanpliaaDoor
open Go.RowKit

def kinCells : Array Value := (Plain.kins.map strV).toArray
def koutCells : Array Value := (Plain.kouts.map strV).toArray
theorem krows_at (w : World) (r : Nat) (hr : r < 12) : ((w.alloc (.cells kinCells 9)).alloc (.cells koutCells 9)).cell? ⟨w.heap.size, r, none⟩ = some (strV (Plain.kins.getD r [])) ∧
    ((w.alloc (.cells kinCells 9)).alloc (.cells koutCells 9)).cell? ⟨w.heap.size + 1, r, none⟩ = some (strV (Plain.kouts.getD r [])) := by
  have e1 : ((w.alloc (.cells kinCells 9)).alloc (.cells koutCells 9)).cell? ⟨w.heap.size, r, none⟩ = kinCells[r]? := by
    rw [World.cell?_alloc_lt _ _ _ (by simp)]
    exact World.cell?_alloc_mark w kinCells 9 (0, 0) r
  have e2 : ((w.alloc (.cells kinCells 9)).alloc (.cells koutCells 9)).cell? ⟨w.heap.size + 1, r, none⟩ = koutCells[r]? := by
    have := World.cell?_alloc_mark (w.alloc (.cells kinCells 9)) koutCells 9 (0, 0) r
    rw [show (w.alloc (.cells kinCells 9)).heap.size = w.heap.size + 1 by simp] at this
    exact this
  have hi : Plain.kins.length = 12 := rfl
  have ho : Plain.kouts.length = 12 := rfl
  rw [e1, e2]
  unfold kinCells koutCells
  rw [List.getElem?_toArray, List.getElem?_toArray, List.getElem?_map, List.getElem?_map, List.getElem?_eq_getElem (by omega), List.getElem?_eq_getElem (by omega), List.getD_eq_getElem?_getD, List.getD_eq_getElem?_getD, List.getElem?_eq_getElem (by omega), List.getElem?_eq_getElem (by omega)]
  exact ⟨rfl, rfl⟩
theorem cell_up {w w' : World} {g r : Nat} {v : Value} (h : w.cell? ⟨g, r, none⟩ = some v) (hg : g < w.heap.size) (hb : Below w.heap.size w w') : w'.cell? ⟨g, r, none⟩ = some v := (hb.cell (p := ⟨g, r, none⟩) hg).trans h

set_option maxHeartbeats 2000000 in
set_option maxRecDepth 100000 in
theorem rknown_walk (n : Int) (w : World) (h0 : -9223372036854775808 ≤ n) (h1 : n ≤ 9223372036854775807) (hE : HasEarly w) : Calls Tryd.prog 9 #[.int .i64 n] w (Yes w) := by
  have HE := Lib.hid hE
  have HW := fun W => Lib.hid (within2 n 12 W h0 h1 (by omega) (by omega))
  have hr := (within_lt n 12 (by omega)).1
  generalize Within n 12 = r at *
  clear hE
  go_enter Tryd.func9, Tryd.ntmps9
  go_wp2_with fail
  refine (HW _).out.mono ?_
  rintro e w2 ⟨rfl, hw⟩
  have hw' : (w.alloc (.cells kinCells 9)).alloc (.cells koutCells 9) = w2 := hw
  have hI := (krows_at w r hr).1
  have hO := (krows_at w r hr).2
  rw [hw'] at hI hO
  have hsz : w.heap.size + 1 < w2.heap.size := by rw [← hw']; simp
  have b2 : Below w.heap.size w w2 := by rw [← hw']; exact ((Below.refl _ w).alloc (Nat.le_refl _) _).alloc (by simp) _
  clear hw hw' HW
  obtain ⟨hexp, hlen⟩ := Plain.kins_ok r hr
  have HD := fun W hW => Lib.hid (expand_any ⟨(Plain.kins.getD r []).toArray⟩ false W (by
    show (Plain.kins.getD r []).toArray.size ≤ _
    rw [List.size_toArray]
    omega) hW)
  have hd2 : (⟨(Plain.kins.getD r []).toArray⟩ : ByteArray).data.toList = Plain.kins.getD r [] := rfl
  rw [hd2, hexp] at HD
  unfold Tells at HD
  unfold strV at hI hO
  generalize (⟨(Plain.kins.getD r []).toArray⟩ : ByteArray) = I at *
  generalize (⟨(Plain.kouts.getD r []).toArray⟩ : ByteArray) = O at *
  clear hd2 hexp hlen
  have HE2 := Lib.hid (Below.early HE.out b2)
  have HK : Hid (Calls Tryd.prog 10 #[] w2.drew fun e w3 => e = .returned (.bool true) ∧ Below w.heap.size w w3 ∧ w3.cell? ⟨w.heap.size, r, none⟩ = some (.string I) ∧ w3.cell? ⟨w.heap.size + 1, r, none⟩ = some (.string O) ∧ w.heap.size + 1 < w3.heap.size) := by
    refine (known2_yes w2.drew HE2.out.drew).mono fun e w3 ⟨he, b3⟩ => ?_
    have b3' : Below w2.heap.size w2 w3 := ((Below.refl w2.heap.size w2).drew).trans b3
    exact ⟨he, b2.trans (b3'.mono b2.size), cell_up hI (by omega) b3', cell_up hO hsz b3', Nat.lt_of_lt_of_le hsz b3'.size⟩
  have HD2 : Hid (∀ (W : World), w.heap.size + 1 < W.heap.size → W.cell? ⟨w.heap.size + 1, r, none⟩ = some (.string O) → Below w.heap.size w W →
      Calls Tryd.prog 18 #[.string I, .bool false] W fun e w4 => e = .returned (.string O) ∧ Below w.heap.size w w4 ∧ w4.cell? ⟨w.heap.size + 1, r, none⟩ = some (.string O)) := by
    intro W hz hc hb
    refine (HD W (Below.early HE.out hb)).out.mono fun e w4 ⟨he, b4⟩ => ?_
    exact ⟨he, hb.trans (b4.mono hb.size), cell_up hc hz b4⟩
  clear HD hI hO hsz b2 HE2
  go_wp2
  go_region_with (first
    | (go_at_call 10; refine HK.out.mono ?_; rintro e w3 ⟨rfl, b3, hI3, hO3, hz3⟩)
    | (go_at_call 18; refine (HD2.out _ ‹_› ‹_› ‹_›).mono ?_; rintro e w4 ⟨rfl, b4, hO4⟩))
  all_goals
    go_wp2
    go_ret
    exact ⟨by simp [go_sem], b4⟩
end Go.Proofs.YtobgdignanpliaaDoor
