/-
  The walks of the program's top, Top, isOpen. Any Site.
-/
import Derived.Test.YtbadckkcjjfnoaaSW1
import Derived.StillTailTactics
namespace Go.Proofs.Ytbadckkcjjfnoaa
open Go.RowKit Go.Maps

variable {M : Nat → Prop} {w w' : World} {B : Nat} {a : SA} {S : List PN} {L : List MK} {R : List EL} {fO : Int → Bool} {fN : List UInt8 → Int} {fo : Bool}
theorem SiteQ.el {g cap n : Nat} (h : SiteQ M w B a S L R fO fN fo) (e : a.v = .slice (some ⟨g, 0, none⟩) n cap) (j : Nat) (hj : j < R.length) : ElAt w g (j * 3) R[j] :=
  ⟨(h.row.lt g (by rw [e]; rfl)).2, h.at e j 0 hj (by omega), h.at e j 1 hj (by omega), h.at e j 2 hj (by omega)⟩
theorem SiteQ.pos (h : SiteQ M w B a S L R fO fN fo) (h0 : 0 < R.length) : ∃ g cap, a.v = .slice (some ⟨g, 0, none⟩) R.length cap := by
  rcases h.form with ⟨_, e⟩ | h
  · rw [e] at h0; cases h0
  · exact h
theorem SiteQ.cap_le {g cap n : Nat} (h : SiteQ M w B a S L R fO fN fo) (e : a.v = .slice (some ⟨g, 0, none⟩) n cap) : R.length ≤ cap := by
  have hr := h.row
  rw [e] at hr
  rcases hr.2 with ⟨e, _⟩ | ⟨_, _, _, e, _, _, h1, _⟩
  · cases e
  · injection e with _ _ e
    omega
/-- What top tells. -/
def TopOut (w : World) (g k : Nat) (e : Ending) (w' : World) : Prop := e = .returned (.pointer (some ⟨g, k * 3, none⟩)) ∧ Below w.heap.size w w'
set_option maxHeartbeats 1000000 in
set_option maxRecDepth 100000 in
theorem stopP (h : SiteQ M w B a S L R fO fN fo) (k g cap : Nat) (hk : R.length = k + 1) (e : a.v = .slice (some ⟨g, 0, none⟩) R.length cap) (hs : R.length ≤ 4294967296) : Calls Try.prog 130 #[.pointer (some ⟨B, 0, none⟩)] w (TopOut w g k) := by
  have hB := h.lt
  have c2 := h.c2
  have hg := (h.row.lt g (by rw [e]; rfl)).2
  have hc := h.cap_le e
  rw [e, hk] at c2
  rw [hk] at hs hc
  clear h e hk
  have d2 : w.drew.cell? ⟨B, 2, none⟩ = some (.slice (some ⟨g, 0, none⟩) (k + 1) cap) := c2
  have hw2 : IntKind.i64.wrap (k : Int) = (k : Int) := IntWalk.i64_in _ (by omega)
  have j0 : (0 : Int) ≤ (k : Int) := by omega
  have j1 : (k : Int) < ((k + 1 : Nat) : Int) := by omega
  have j2 : (k : Int) < (k : Int) + 1 := by omega
  go_enter Try.func130, Try.ntmps130
  go_wp2_with fail
  go_still (by kernel_rfl)
  go_wp2_with fail
  go_ret
  exact ⟨rfl, (Below.refl _ _).drew⟩
set_option maxHeartbeats 1000000 in
set_option maxRecDepth 100000 in
theorem sTopP (h : SiteQ M w B a S L R fO fN fo) (k : Nat) (hk : R.length = k + 1) (hs : R.length ≤ 4294967296) : Calls Try.prog 104 #[.pointer (some ⟨B, 0, none⟩)] w (Brings (.int .i64 R[k].n) w) := by
  obtain ⟨g, cap, e⟩ := h.pos (by omega)
  have HT := Lib.hid (stopP h k g cap hk e hs)
  have HE := Lib.hid (h.el e k (by omega))
  generalize R[k] = x at *
  clear h e hs hk
  go_enter Try.func104, Try.ntmps104
  go_wp2_with fail
  refine HT.out.mono ?_
  rintro e w1 ⟨rfl, hb⟩
  obtain ⟨hg, c0, _, _⟩ := HE.out.below hb
  have HB := Lib.hid hb
  clear hb
  go_wp2_with fail
  go_ret
  exact ⟨rfl, HB.out⟩
theorem zero_unit (w : World) : (zeroValue 143).run Try.prog w = .ok (.agg #[]) w := by kernel_rfl
theorem zero_i (w : World) : (zeroValue 3).run Try.prog w = .ok (.int .i64 0) w := by kernel_rfl
theorem law_i : Keyed Try.prog 3 := int_keyed Try.underlying3
theorem law_s : Keyed Try.prog 9 := string_keyed Try.underlying9
theorem key_i {n : Int} (h0 : -9223372036854775808 ≤ n) (h1 : n ≤ 9223372036854775807) : keyOf Try.prog 3 (.int .i64 n) = some (.int .i64 n) := keyOf_int_mk Try.underlying3 (WalkArith.wf_i64 ⟨h0, h1⟩)
theorem key_s {s : List UInt8} (h : s.length ≤ 4294967296) : keyOf Try.prog 9 (.string ⟨s.toArray⟩) = some (.string s) := by
  have := WideMaps.keyOf_string_mk (P := Try.prog) (k := 9) Try.underlying9 (s := ⟨s.toArray⟩) (by show s.toArray.size ≤ _; rw [List.size_toArray]; unfold maxLen; omega)
  rw [this]
set_option maxHeartbeats 1000000 in
set_option maxRecDepth 100000 in
theorem sopenP (h : SiteQ M w B a S L R fO fN fo) (n : Int) (h0 : -9223372036854775808 ≤ n) (h1 : n ≤ 9223372036854775807) : Calls Try.prog 156 #[.pointer (some ⟨B, 0, none⟩), .int .i64 n] w (Brings (.bool (fO n)) w) := by
  have hB := h.lt
  have c3 := h.c3
  have HO := Lib.hid h.om
  have HF := Lib.hid (h.opens n)
  have HK := Lib.hid (key_i h0 h1)
  clear h
  go_enter Try.func156, Try.ntmps156
  go_wp2_with (first
    | (at_lookup; refine wpList_lookup_own_unit _ rfl _ _ 118 rfl 3 143 law_i Try.underlying118 (zero_unit _) a.mo a.no a.DO rfl HO.out _ _ rfl HK.out ?_)
    | fail)
  go_ret
  refine ⟨by rw [HF.out]; rfl, ?_⟩
  exact (Below.refl _ w).alloc (Nat.le_refl _) _
end Go.Proofs.Ytbadckkcjjfnoaa
