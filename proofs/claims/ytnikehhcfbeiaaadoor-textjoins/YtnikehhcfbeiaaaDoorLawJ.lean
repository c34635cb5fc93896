/-
  The walk of the law TextJoins: any two texts of at most 2^47 bytes: true, and nothing old is changed.
-/
import Derived.Test.YtnikehhcfbeiaaaDoorLawB
namespace Go.Proofs.YtnikehhcfbeiaaaDoor
open Go.RowKit

theorem app_data (a b : ByteArray) : (a ++ b).data.toList = a.data.toList ++ b.data.toList := by simp [ByteArray.data_append]
theorem app_list (a : ByteArray) (l : List UInt8) : (⟨(a.data.toList ++ l).toArray⟩ : ByteArray) = a ++ ⟨l.toArray⟩ := by
  apply ByteArray.ext
  apply Array.toList_inj.1
  rw [app_data]

set_option maxHeartbeats 2000000 in
set_option maxRecDepth 100000 in
theorem joins_walk (a b : ByteArray) (w : World) (ha : a.size ≤ 140737488355328) (hb : b.size ≤ 140737488355328) (hm : HasMax w) : Calls Tryd.prog 9 #[.string a, .string b] w (Says true w) := by
  have HK := Lib.hid (known_yes w hm)
  clear hm
  by_cases h3 : 3000 < a.size + b.size
  · have h3' : (3000 : Int) < (a.size : Int) + (b.size : Int) := by omega
    go_enter Tryd.func9, Tryd.ntmps9
    go_wp2_with (go_at_call 13; refine HK.out.mono ?_; rintro e w1 ⟨rfl, b1⟩)
    go_ret
    exact ⟨rfl, b1⟩
  · have h3' : ¬ (3000 : Int) < (a.size : Int) + (b.size : Int) := by omega
    have H1 := fun W => Lib.hid (rwhole_any a W (by omega))
    have H2 := fun W => Lib.hid (begins_mark a W)
    have H3 := fun W => Lib.hid (begins_mark b W)
    cases hw : Plain.whole a.data.toList
    · rw [hw] at H1
      clear hw
      go_enter Tryd.func9, Tryd.ntmps9
      go_wp2_with fail
      refine HK.out.mono ?_
      rintro e w1 ⟨rfl, b1⟩
      go_wp2_with fail
      refine (H1 w1).out.mono ?_
      rintro e w2 ⟨rfl, rfl⟩
      go_wp2
      go_ret
      exact ⟨rfl, b1⟩
    · rw [hw] at H1
      cases hka : Lib.hasPrefix a.data.toList Plain.mark
      · rw [hka] at H2
        cases hkb : Lib.hasPrefix b.data.toList Plain.mark
        · rw [hkb] at H3
          have hkab := Plain.mark_front _ _ hw hka hkb
          have hs : (a ++ b).size ≤ 4294967296 := by rw [ByteArray.size_append]; omega
          obtain ⟨D, hD⟩ : ∃ D : ByteArray, (⟨(Plain.dec b.data.toList).toArray⟩ : ByteArray) = D := ⟨_, rfl⟩
          have hDs : D.size ≤ 9000 := by
            rw [← hD]
            show (Plain.dec b.data.toList).toArray.size ≤ _
            rw [List.size_toArray]
            have := Plain.dec_len b.data.toList.length b.data.toList (Nat.le_refl _)
            simp at this
            omega
          have H4 := fun W cap => Lib.hid (decode_new (a ++ b) W cap hs)
          rw [app_data, Plain.decode_plain _ hkab, Plain.dec_app _ _ hw, app_list, hD] at H4
          simp only [ByteArray.size_append] at H4
          have H5 := fun W cap => Lib.hid (decode_new a W cap (by omega))
          rw [Plain.decode_plain _ hka, Plain.dec_whole _ hw, mk_self] at H5
          have H6 := fun W cap => Lib.hid (decode_new b W cap (by omega))
          rw [Plain.decode_plain _ hkb, hD] at H6
          have H7 := fun W => Lib.hid (whole_any (a ++ b) W)
          rw [app_data, Plain.whole_app _ _ hw] at H7
          have H8 := fun W => Lib.hid (whole_any b W)
          generalize Plain.whole b.data.toList = B at H7 H8
          have hc1 := to_bytes (a ++ b)
          have hc2 := to_bytes a
          have hc3 := to_bytes b
          clear hw hka hkb hkab hD hs
          go_enter Tryd.func9, Tryd.ntmps9
          go_wp2_with fail
          refine HK.out.mono ?_
          rintro e w1 ⟨rfl, b1⟩
          go_wp2_with fail
          refine (H1 w1).out.mono ?_
          rintro e w2 ⟨rfl, rfl⟩
          go_wp2_with fail
          refine (H2 w1).out.mono ?_
          rintro e w2 ⟨rfl, rfl⟩
          go_wp2_with fail
          refine (H3 w1).out.mono ?_
          rintro e w2 ⟨rfl, rfl⟩
          go_wp2_with fail
          refine (H4 w1 _).out.mono ?_
          rintro e w2 ⟨rfl, b2⟩
          have c2 := b1.trans (b2.mono b1.size)
          go_wp2_with fail
          refine (H5 w2 _).out.mono ?_
          rintro e w3 ⟨rfl, b3⟩
          have c3 := c2.trans (b3.mono c2.size)
          go_wp2_with fail
          refine (H6 w3 _).out.mono ?_
          rintro e w4 ⟨rfl, b4⟩
          have c4 := c3.trans (b4.mono c3.size)
          clear hc1 hc2 hc3
          go_wp2_with fail
          refine (H7 w4).out.mono ?_
          rintro e w5 ⟨rfl, b5⟩
          have c5 := c4.trans (b5.mono c4.size)
          go_wp2_with fail
          refine (H8 w5).out.mono ?_
          rintro e w6 ⟨rfl, b6⟩
          have c6 := c5.trans (b6.mono c5.size)
          go_wp2
          go_ret
          exact ⟨by simp, c6⟩
        · rw [hkb] at H3
          clear hw hka hkb
          go_enter Tryd.func9, Tryd.ntmps9
          go_wp2_with fail
          refine HK.out.mono ?_
          rintro e w1 ⟨rfl, b1⟩
          go_wp2_with fail
          refine (H1 w1).out.mono ?_
          rintro e w2 ⟨rfl, rfl⟩
          go_wp2_with fail
          refine (H2 w1).out.mono ?_
          rintro e w2 ⟨rfl, rfl⟩
          go_wp2_with fail
          refine (H3 w1).out.mono ?_
          rintro e w2 ⟨rfl, rfl⟩
          go_wp2
          go_ret
          exact ⟨rfl, b1⟩
      · rw [hka] at H2
        clear hw hka
        go_enter Tryd.func9, Tryd.ntmps9
        go_wp2_with fail
        refine HK.out.mono ?_
        rintro e w1 ⟨rfl, b1⟩
        go_wp2_with fail
        refine (H1 w1).out.mono ?_
        rintro e w2 ⟨rfl, rfl⟩
        go_wp2_with fail
        refine (H2 w1).out.mono ?_
        rintro e w2 ⟨rfl, rfl⟩
        go_wp2
        go_ret
        exact ⟨rfl, b1⟩
end Go.Proofs.YtnikehhcfbeiaaaDoor
