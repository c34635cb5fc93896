/-
  The walks of Begins, Index, within of the reference, and of the laws TextDecodes, TextWholes, TextOwn, TextJoins: true, and nothing old is changed.
-/
import Derived.Test.YtnikehhcfbeiaaaDoorKnown
import Derived.Test.YtnikehhcfbeiaaaDoorPlainF
namespace Go.Proofs.YtnikehhcfbeiaaaDoor
open Go.RowKit

theorem begins_mark (s : ByteArray) (w : World) : Calls Tryd.prog 18 #[.string s, .string ⟨#[239, 187, 191]⟩] w fun e w' => e = .returned (.bool (Lib.hasPrefix s.data.toList Plain.mark)) ∧ w = w' := by
  by_cases h3 : 3 ≤ s.size
  · have hq := mark_at s
    cases hm : Lib.hasPrefix s.data.toList Plain.mark
    · rw [hm] at hq
      clear hm
      go_enter Tryd.func18, Tryd.ntmps18
      go_wp2
      go_ret
      exact ⟨rfl, rfl⟩
    · rw [hm] at hq
      clear hm
      go_enter Tryd.func18, Tryd.ntmps18
      go_wp2
      go_ret
      exact ⟨rfl, rfl⟩
  · have hm := mark_short s.data.toList (by simpa using h3)
    rw [hm]
    clear hm
    go_enter Tryd.func18, Tryd.ntmps18
    go_wp2
    go_ret
    exact ⟨rfl, rfl⟩

/-- A text as new bytes. -/
theorem bytes_new (w : World) (s : ByteArray) (cap : Nat) : BytesIn (w.alloc (.cells (bytesRow s cap) 5 ((bytesRow s cap).size, (bytesRow s cap).size + 1))) (.slice (some ⟨w.heap.size, 0, none⟩) s.size cap) s := by
  refine Or.inr ⟨w.heap.size, 0, cap, rfl, by simp, fun j hj => ?_⟩
  rw [Nat.zero_add, World.cell?_alloc_mark, bytesRow_at s cap j hj]
  rfl
theorem below_new (w : World) (o : Obj) : Below w.heap.size w (w.alloc o).drew := ((Below.refl _ w).alloc (Nat.le_refl _) _).drew
theorem BytesIn.drew {w : World} {v : Value} {s : ByteArray} (h : BytesIn w v s) : BytesIn w.drew v s := h

theorem toList_mk' (l : List UInt8) : (⟨l.toArray⟩ : ByteArray).toList = l := by rw [Lib.toList_data]

theorem BytesIn.len {w : World} {v : Value} {s : ByteArray} (h : BytesIn w v s) : ∃ p cap, v = .slice p s.size cap := by
  rcases h with ⟨p, cap, rfl, rfl⟩ | ⟨g, off, cap, rfl, _⟩
  · exact ⟨p, cap, rfl⟩
  · exact ⟨_, cap, rfl⟩

set_option maxHeartbeats 1000000 in
set_option maxRecDepth 100000 in
theorem decodes_walk (v : Value) (s : ByteArray) (w : World) (hv : BytesIn w v s) (hs : s.size ≤ maxLen) (hm : HasMax w) : Calls Tryd.prog 3 #[v] w (Says true w) := by
  unfold maxLen at hs
  have HK := Lib.hid (known_yes w hm)
  have HV := Lib.hid hv
  obtain ⟨p, cap, rfl⟩ := hv.len
  clear hm hv
  by_cases h3 : 3000 < s.size
  · go_enter Tryd.func3, Tryd.ntmps3
    go_wp2_with (go_at_call 13; refine HK.out.mono ?_; rintro e w1 ⟨rfl, b1⟩)
    go_ret
    exact ⟨rfl, b1⟩
  · have hd := Plain.whole_decode s.data.toList
    obtain ⟨f, hf⟩ : ∃ f : ByteArray, (⟨(Plain.decode s.data.toList).toArray⟩ : ByteArray) = f := ⟨_, rfl⟩
    have hfd : f.data.toList = Plain.decode s.data.toList := by rw [← hf]
    have H1 := fun W hW => Lib.hid (decode_any (.slice p s.size cap) s W hW (by omega))
    have H2 := fun W => Lib.hid (rdecode_any s W (by omega))
    rw [hf] at H1 H2
    have H3 := fun W => Lib.hid (whole_any f W)
    rw [hfd, hd] at H3
    clear hf hfd hd
    go_enter Tryd.func3, Tryd.ntmps3
    go_wp2_with fail
    refine HK.out.mono ?_
    rintro e w1 ⟨rfl, b1⟩
    have V1 := Lib.hid (HV.out.below b1)
    go_wp2_with fail
    refine (H1 w1 V1.out).out.mono ?_
    rintro e w2 ⟨rfl, b2⟩
    have c2 := b1.trans (b2.mono b1.size)
    have hconv := (V1.out.below b2).conv
    go_wp2_with fail
    refine (H2 w2).out.mono ?_
    rintro e w3 ⟨rfl, rfl⟩
    go_wp2_with fail
    refine (H3 _).out.mono ?_
    rintro e w4 ⟨rfl, b4⟩
    go_wp2
    go_ret
    exact ⟨rfl, c2.trans (b4.mono c2.size)⟩

theorem to_bytes (s : ByteArray) (W : World) : (convert 9 22 (.string s)).run Tryd.prog W = .ok (.slice (some ⟨W.heap.size, 0, none⟩) s.size (grownCap W s.size 0 5))
      (W.drew.alloc (.cells (bytesRow s (grownCap W s.size 0 5)) 5 ((bytesRow s (grownCap W s.size 0 5)).size, (bytesRow s (grownCap W s.size 0 5)).size + 1))) :=
  run_bytes_of_string W 9 22 5 s Tryd.underlying9 Tryd.underlying22 Tryd.underlying5

/-- Decode of a text's bytes, as the walk hands them on. -/
theorem decode_new (s : ByteArray) (W : World) (cap : Nat) (hs : s.size ≤ 4294967296) :
    Calls Tryd.prog 14 #[.slice (some ⟨W.heap.size, 0, none⟩) s.size cap] (W.alloc (.cells (bytesRow s cap) 5 ((bytesRow s cap).size, (bytesRow s cap).size + 1))).drew fun e w' => e = .returned (.string ⟨(Plain.decode s.data.toList).toArray⟩) ∧ Below W.heap.size W w' := by
  refine (decode_any _ s _ (bytes_new W s cap).drew hs).mono fun e w' ⟨he, hb⟩ => ⟨he, ?_⟩
  exact (below_new W _).trans (hb.mono (by simp))
theorem mk_self (s : ByteArray) : (⟨s.data.toList.toArray⟩ : ByteArray) = s := by
  apply ByteArray.ext
  simp

set_option maxHeartbeats 1000000 in
set_option maxRecDepth 100000 in
theorem wholes_walk (s : ByteArray) (w : World) (hs : s.size ≤ maxLen) (hm : HasMax w) : Calls Tryd.prog 4 #[.string s] w (Says true w) := by
  unfold maxLen at hs
  have HK := Lib.hid (known_yes w hm)
  clear hm
  by_cases h3 : 3000 < s.size
  · go_enter Tryd.func4, Tryd.ntmps4
    go_wp2_with (go_at_call 13; refine HK.out.mono ?_; rintro e w1 ⟨rfl, b1⟩)
    go_ret
    exact ⟨rfl, b1⟩
  · have H1 := fun W => Lib.hid (whole_any s W)
    have H2 := fun W => Lib.hid (rwhole_any s W (by omega))
    have H3 := fun W => Lib.hid (begins_mark s W)
    have H4 := fun W cap => Lib.hid (decode_new s W cap (by omega))
    have hdw := Plain.dec_whole s.data.toList
    have hdp := Plain.decode_plain s.data.toList
    cases hw : Plain.whole s.data.toList
    · rw [hw] at H1 H2
      clear hw hdw hdp H3 H4
      go_enter Tryd.func4, Tryd.ntmps4
      go_wp2_with fail
      refine HK.out.mono ?_
      rintro e w1 ⟨rfl, b1⟩
      go_wp2_with fail
      refine (H1 w1).out.mono ?_
      rintro e w2 ⟨rfl, b2⟩
      go_wp2_with fail
      refine (H2 w2).out.mono ?_
      rintro e w3 ⟨rfl, rfl⟩
      go_wp2
      go_ret
      exact ⟨rfl, b1.trans (b2.mono b1.size)⟩
    · rw [hw] at H1 H2
      cases hk : Lib.hasPrefix s.data.toList Plain.mark
      · rw [hk] at H3
        rw [hdp hk, hdw hw, mk_self] at H4
        clear hw hdw hdp hk
        have hconv := to_bytes s
        go_enter Tryd.func4, Tryd.ntmps4
        go_wp2_with fail
        refine HK.out.mono ?_
        rintro e w1 ⟨rfl, b1⟩
        go_wp2_with fail
        refine (H1 w1).out.mono ?_
        rintro e w2 ⟨rfl, b2⟩
        go_wp2_with fail
        refine (H2 w2).out.mono ?_
        rintro e w3 ⟨rfl, rfl⟩
        go_wp2_with fail
        refine (H3 w2).out.mono ?_
        rintro e w3 ⟨rfl, rfl⟩
        go_wp2_with fail
        refine (H4 w2 _).out.mono ?_
        rintro e w3 ⟨rfl, b3⟩
        clear hconv
        go_wp2
        go_ret
        have c2 := b1.trans (b2.mono b1.size)
        exact ⟨rfl, c2.trans (b3.mono c2.size)⟩
      · rw [hk] at H3
        clear hw hdw hdp hk H4
        go_enter Tryd.func4, Tryd.ntmps4
        go_wp2_with fail
        refine HK.out.mono ?_
        rintro e w1 ⟨rfl, b1⟩
        go_wp2_with fail
        refine (H1 w1).out.mono ?_
        rintro e w2 ⟨rfl, b2⟩
        go_wp2_with fail
        refine (H2 w2).out.mono ?_
        rintro e w3 ⟨rfl, rfl⟩
        go_wp2_with fail
        refine (H3 w2).out.mono ?_
        rintro e w3 ⟨rfl, rfl⟩
        go_wp2
        go_ret
        exact ⟨rfl, b1.trans (b2.mono b1.size)⟩

set_option maxHeartbeats 1000000 in
set_option maxRecDepth 100000 in
theorem own_walk (v : Value) (s : ByteArray) (w : World) (hv : BytesIn w v s) (hs : s.size ≤ maxLen) (hm : HasMax w) : Calls Tryd.prog 12 #[v] w (Says true w) := by
  unfold maxLen at hs
  have HK := Lib.hid (known_yes w hm)
  have HV := Lib.hid hv
  obtain ⟨p, cap, rfl⟩ := hv.len
  clear hm hv
  by_cases h3 : 3000 < s.size
  · go_enter Tryd.func12, Tryd.ntmps12
    go_wp2_with (go_at_call 13; refine HK.out.mono ?_; rintro e w1 ⟨rfl, b1⟩)
    go_ret
    exact ⟨rfl, b1⟩
  · obtain ⟨f, hf⟩ : ∃ f : ByteArray, (⟨(Plain.decode s.data.toList).toArray⟩ : ByteArray) = f := ⟨_, rfl⟩
    have H1 := fun W hW => Lib.hid (decode_any (.slice p s.size cap) s W hW (by omega))
    have H2 := fun W cap => Lib.hid (decode_new s W cap (by omega))
    rw [hf] at H1 H2
    clear hf
    go_enter Tryd.func12, Tryd.ntmps12
    go_wp2_with fail
    refine HK.out.mono ?_
    rintro e w1 ⟨rfl, b1⟩
    have V1 := Lib.hid (HV.out.below b1)
    have hconv1 := V1.out.conv
    go_wp2_with fail
    clear hconv1
    refine (H1 w1 V1.out).out.mono ?_
    rintro e w2 ⟨rfl, b2⟩
    have c2 := b1.trans (b2.mono b1.size)
    have hconv2 := (V1.out.below b2).conv
    have hconv := to_bytes s
    go_wp2_with fail
    clear hconv2 hconv
    refine (H2 w2 _).out.mono ?_
    rintro e w3 ⟨rfl, b3⟩
    go_wp2
    go_ret
    exact ⟨rfl, c2.trans (b3.mono c2.size)⟩
end Go.Proofs.YtnikehhcfbeiaaaDoor
