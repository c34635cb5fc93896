/-
  The walk of the law TagFinds: true, and nothing old is changed. The library's number MaxLen and the table of package refs are there.
-/
import Derived.Test.YtklhllgdkmpnmaaDoorUIn
namespace Go.Proofs.YtklhllgdkmpnmaaDoor
open Go.RowKit

theorem findV_self (rs : List (List UInt8 × List UInt8)) (k : Nat) (h : k < rs.length) : (findV rs rs[k].1).isSome = true := by
  rw [findV_has]
  unfold Plain.hasName
  rw [List.any_eq_true]
  exact ⟨rs[k], List.getElem_mem h, beq_self_eq_true _⟩

set_option maxHeartbeats 2000000 in
set_option maxRecDepth 100000 in
theorem tagFinds_walk (v : Value) (n : Nat) (nm : ByteArray) (z : Int) (w : World) (hv : AttrsArg w v n) (hnm : nm.size ≤ maxLen) (h0 : -9223372036854775808 ≤ z) (h1 : z ≤ 9223372036854775807) (hmax : HasMax w) (hea : HasEarly w) :
    Calls Tryd.prog 6 #[v, .string nm, .int .i64 z] w (Yes w) := by
  have HK := Lib.hid (known3_yes w hmax hea)
  obtain ⟨rs, rfl, hA⟩ := hv
  have HA := Lib.hid hA
  obtain ⟨⟨p, cap, rfl, hc⟩, _⟩ := hA
  have HC := Lib.hid hc
  have _ := hnm
  clear hmax hea hc
  by_cases hb : 60 < rs.length
  · have hb' : (60 : Int) < (rs.length : Int) := by omega
    go_enter Tryd.func6, Tryd.ntmps6
    go_wp2_with fail
    refine HK.out.mono ?_
    rintro e w1 ⟨rfl, b1⟩
    go_wp2
    go_ret
    exact ⟨rfl, b1⟩
  · have hb' : ¬ (60 : Int) < (rs.length : Int) := by omega
    go_enter Tryd.func6, Tryd.ntmps6
    go_wp2_with fail
    refine HK.out.mono ?_
    rintro e w1 ⟨rfl, b1⟩
    go_wp2_with fail
    refine (find_in _ rs nm w1 (HA.out.below b1) (by omega)).mono ?_
    rintro e w2 ⟨rfl, b2⟩
    have B2 := Lib.hid (b1.trans (b2.mono b1.size))
    clear b1 b2
    go_wp2_with fail
    refine (rfind_in _ rs nm w2 (HA.out.below B2.out) (by omega)).mono ?_
    rintro e w3 ⟨rfl, rfl⟩
    have HNIL : Hid (rs.length = 0 → (findV rs nm.data.toList).isSome = false) := Lib.hid (fun h => by
      rw [List.eq_nil_of_length_eq_zero h]
      rfl)
    generalize (⟨((findV rs nm.data.toList).getD []).toArray⟩ : ByteArray) = FV at *
    generalize (findV rs nm.data.toList).isSome = fb at *
    have q1 : (FV.toList != FV.toList) = false := by simp
    have q2 : (fb != fb) = false := by simp
    by_cases hz : rs.length = 0
    · have q3 : ((rs.length : Int) == 0) = true := by rw [hz]; rfl
      obtain rfl := HNIL.out hz
      clear hz HNIL
      go_wp2
      go_ret
      exact ⟨rfl, B2.out⟩
    · have q3 : ((rs.length : Int) == 0) = false := beq_eq_false_iff_ne.2 (by omega)
      have HW := fun W => Lib.hid (within3 z rs.length W h0 h1 (by omega) (by omega))
      have hr := (within_lt z rs.length (by omega)).1
      generalize Within z rs.length = r at *
      obtain ⟨g, off, rfl, hg, c0, c1⟩ := HC.out r hr
      have d0 := (B2.out.cell (p := ⟨g, off + r * 2, none⟩) hg).trans c0
      have d1 := (B2.out.cell (p := ⟨g, off + r * 2 + 1, none⟩) hg).trans c1
      have hs2 := B2.out.size
      have hg2 : g < w2.heap.size := by omega
      have r0 : (0 : Int) ≤ (r : Int) := by omega
      have r1 : (r : Int) < (rs.length : Int) := by omega
      have HSELF := Lib.hid (findV_self rs r hr)
      clear c0 c1 hz HNIL HC
      go_wp2_with fail
      refine (HW _).out.mono ?_
      rintro e w3 ⟨rfl, rfl⟩
      have B3 := Lib.hid (B2.out.alloc B2.out.size (.cells #[.string ⟨rs[r].1.toArray⟩, .string ⟨rs[r].2.toArray⟩] 44))
      have HFI := Lib.hid (find_in _ rs ⟨rs[r].1.toArray⟩ _ (HA.out.below B3.out) (by omega))
      rw [show (⟨rs[r].1.toArray⟩ : ByteArray).data.toList = rs[r].1 from rfl] at HFI
      unfold FindB at HFI
      rw [HSELF.out] at HFI
      go_wp2_with fail
      refine HFI.out.mono ?_
      rintro e w5 ⟨rfl, b5⟩
      have B5 := Lib.hid (B3.out.trans (b5.mono B3.out.size))
      clear b5
      go_wp2
      go_ret
      exact ⟨rfl, B5.out⟩
end Go.Proofs.YtklhllgdkmpnmaaDoor
