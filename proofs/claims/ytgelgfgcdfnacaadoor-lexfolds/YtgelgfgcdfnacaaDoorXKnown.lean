/-
  The walks of the laws' same and known: true. The library's number MaxLen and the table of package refs are there.
-/
import Derived.Test.YtgelgfgcdfnacaaDoorXAll
import Derived.Test.YtgelgfgcdfnacaaDoorXHtml
import Derived.Test.YtgelgfgcdfnacaaDoorUOne
import Derived.Test.YtgelgfgcdfnacaaDoorUKnown
import Derived.Deep.RegionWith
namespace Go.Proofs.YtgelgfgcdfnacaaDoor
open Go.RowKit

theorem readL_attrs (l : List UInt8) (k : Nat) : (readL l k).1.attrs.length ≤ l.length + 1 := by
  unfold readL
  split
  · simp [stopT]
  · exact tagT_len l k
theorem dataT_attrs (l : List UInt8) (k : Nat) : (dataT l k).1.attrs.length ≤ l.length + 1 := by
  unfold dataT
  split
  · simp [stopT]
  · split
    · exact readL_attrs l k
    · split
      · unfold remarkT
        split
        · simp [noteT]
        · split <;> simp [noteT, noteTo]
      · split
        · simp [noteTo, noteT]
        · split <;> simp [noteTo, noteT, textT]
theorem nextT_attrs (l : List UInt8) (k st : Nat) (last : List UInt8) : (nextT l k st last).1.attrs.length ≤ l.length + 1 := by
  unfold nextT
  split
  · simp [stopT]
  · split
    · simp [textT]
    · split
      · unfold closedT
        split
        · exact readL_attrs l k
        · simp [textT]
      · split
        · simp [textT]
        · exact dataT_attrs l _
theorem allN_attrs (l : List UInt8) (st : Nat) (last : List UInt8) : ∀ (f k : Nat) (t : Tok), t ∈ allN l st last f k → t.attrs.length ≤ l.length + 1
  | 0, _, _, h => by simp [allN] at h
  | f + 1, k, t, h => by
    have hn := nextT_attrs l k st last
    rw [allN] at h
    split at h
    · rw [List.mem_singleton] at h
      rw [h]
      exact hn
    · rw [List.mem_cons] at h
      rcases h with h | h
      · rw [h]; exact hn
      · exact allN_attrs l st last f _ t h

set_option maxHeartbeats 2000000 in
set_option maxRecDepth 100000 in
theorem same4 (a b : Value) (ts : List Tok) (w : World) (ha : TokensAt w a ts) (hb : TokensAt w b ts) (hN : ts.length ≤ 4294967296) (hA : ∀ t ∈ ts, t.attrs.length ≤ 4294967296) : Calls Tryd.prog 23 #[a, b] w (Yes w) := by
  obtain ⟨p, cap, rfl, hc⟩ := ha
  obtain ⟨p2, cap2, rfl, hc2⟩ := hb
  have HC := Lib.hid hc
  have HC2 := Lib.hid hc2
  have HAT := Lib.hid hA
  clear hc hc2 hA
  go_enter Tryd.func23, Tryd.ntmps23
  go_wp2_with fail
  go_loopw [5] (fun x wr => ∃ k : Nat, k ≤ ts.length ∧ x = .int .i64 (k : Int) ∧ Below w.heap.size w wr) (fun x _ => ts.length - (intOf x).toNat)
  case atStart => exact ⟨0, Nat.zero_le _, rfl, Below.refl _ _⟩
  case round =>
    obtain ⟨k, hk, rfl, hB⟩ := hrel
    have HB := Lib.hid hB
    clear hB
    by_cases hlt : k < ts.length
    · obtain ⟨g, x, rfl, hg, hx, h1⟩ := HC.out k hlt
      obtain ⟨g2, y, rfl, hg2, hy, h2⟩ := HC2.out k hlt
      have HAK := Lib.hid (HAT.out ts[k] (List.getElem_mem hlt))
      obtain ⟨T, hT⟩ : ∃ T, ts[k] = T := ⟨_, rfl⟩
      rw [hT] at hx hy h1 h2 HAK
      obtain ⟨tk, tn, ta, tf, tt⟩ := T
      have a0 := (HB.out.cell (p := ⟨g, k * 5 + 0, none⟩) hg).trans (h1 0 (by omega))
      have a1 := (HB.out.cell (p := ⟨g, k * 5 + 1, none⟩) hg).trans (h1 1 (by omega))
      have a2 := (HB.out.cell (p := ⟨g, k * 5 + 2, none⟩) hg).trans (h1 2 (by omega))
      have a3 := (HB.out.cell (p := ⟨g, k * 5 + 3, none⟩) hg).trans (h1 3 (by omega))
      have a4 := (HB.out.cell (p := ⟨g, k * 5 + 4, none⟩) hg).trans (h1 4 (by omega))
      have c0 := (HB.out.cell (p := ⟨g2, k * 5 + 0, none⟩) hg2).trans (h2 0 (by omega))
      have c1 := (HB.out.cell (p := ⟨g2, k * 5 + 1, none⟩) hg2).trans (h2 1 (by omega))
      have c2 := (HB.out.cell (p := ⟨g2, k * 5 + 2, none⟩) hg2).trans (h2 2 (by omega))
      have c3 := (HB.out.cell (p := ⟨g2, k * 5 + 3, none⟩) hg2).trans (h2 3 (by omega))
      have c4 := (HB.out.cell (p := ⟨g2, k * 5 + 4, none⟩) hg2).trans (h2 4 (by omega))
      simp only [tokCell, Nat.add_zero, List.getElem?_cons_zero, List.getElem?_cons_succ] at a0 a1 a2 a3 a4 c0 c1 c2 c3 c4
      have HO := fun W h3 h4 => Lib.hid (rone_any tk ⟨tn.toArray⟩ ⟨tt.toArray⟩ tf x y ta W h3 h4 HAK.out)
      have HBX := Lib.hid hx
      have HBY := Lib.hid hy
      have hgs := HB.out.size
      have hgr : g < wr.heap.size := by omega
      have hgr2 : g2 < wr.heap.size := by omega
      have k0 : (0 : Int) ≤ (k : Int) := by omega
      have k1 : (k : Int) < (ts.length : Int) := by omega
      obtain ⟨px, cx, hpx⟩ := hx.form
      obtain ⟨py, cy, hpy⟩ := hy.form
      subst hpx hpy
      clear hx hy h1 h2 hT HC HC2
      go_wp2_with fail
      go_region_with (go_at_call 39; refine (HO wr.drew (HBX.out.below HB.out.drew) (HBY.out.below HB.out.drew)).out.mono ?_; rintro e w3 ⟨rfl, b3⟩)
      all_goals
        go_wp2_with fail
        exact ⟨⟨k + 1, by omega, by go_num, HB.out.drew.trans (b3.mono HB.out.size)⟩, by simp [intOf]; omega⟩
    · go_wp2
      go_ret
      exact ⟨rfl, HB.out⟩

theorem all_is (s A : ByteArray) (st : Nat) (ts : List Tok) (hst : st ≤ 4) (hs : s.size ≤ 268435456) (hA : A.size ≤ 268435456) (h : allT s.data.toList st A.data.toList 0 = ts) (w : World) (hR : Ready w) : Calls Tryd.prog 19 #[.string s, .int .i64 (st : Int), .string A] w (ToksOut ts w) := by
  have := all_lex s A st w hR hst hs hA
  rwa [h] at this
theorem next_is (s A : ByteArray) (k st : Nat) (T : Tok × Nat) (hk : k ≤ s.size) (hst : st ≤ 4) (hs : s.size ≤ 268435456) (hA : A.size ≤ 268435456) (h : nextT s.data.toList k st A.data.toList = T) (w : World) (hR : Ready w) : Calls Tryd.prog 14 #[.string s, .int .i64 (k : Int), .int .i64 (st : Int), .string A] w (LexOut T w) := by
  have := next_lex s A k st w hR hk hst hs hA
  rwa [h] at this
/-- The cells of a row's token. -/
theorem TokensAt.cells {w : World} {p : Option Addr} {n cap : Nat} {ts : List Tok} (h : TokensAt w (.slice p n cap) ts) (j : Nat) (hj : j < ts.length) : ∃ g x, p = some ⟨g, 0, none⟩ ∧ g < w.heap.size ∧ w.cell? ⟨g, j * 5 + 0, none⟩ = some (.int .i64 ts[j].kind) ∧ w.cell? ⟨g, j * 5 + 1, none⟩ = some (.string ⟨ts[j].name.toArray⟩) ∧ w.cell? ⟨g, j * 5 + 2, none⟩ = some x ∧ w.cell? ⟨g, j * 5 + 3, none⟩ = some (.bool ts[j].self) ∧ w.cell? ⟨g, j * 5 + 4, none⟩ = some (.string ⟨ts[j].text.toArray⟩) := by
  obtain ⟨p', cap', hv, h⟩ := h
  obtain ⟨rfl, rfl, rfl⟩ := Value.slice.inj hv
  obtain ⟨g, x, hp, hg, _, hc⟩ := h j hj
  exact ⟨g, x, hp, hg, hc 0 (by omega), hc 1 (by omega), hc 2 (by omega), hc 3 (by omega), hc 4 (by omega)⟩
theorem TokensAt.form {w : World} {v : Value} {ts : List Tok} (h : TokensAt w v ts) : ∃ p cap, v = .slice p ts.length cap := by
  obtain ⟨p, cap, hv, _⟩ := h
  exact ⟨p, cap, hv⟩

theorem known_all : allT [60, 33, 45, 45, 45, 45, 62, 97] 0 [] 0 = [noteT [], textT [97], ⟨5, [], [], false, []⟩] := by rfl
theorem known_next : nextT [97, 60, 98] 0 0 [] = (textT [97], 1) := by rfl
set_option maxHeartbeats 4000000 in
set_option maxRecDepth 100000 in
theorem known4_yes (w : World) (hR : Ready w) : Calls Tryd.prog 12 #[] w (Yes w) := by
  have R1 := fun W h1 => Lib.hid (all_is ⟨#[60, 33, 45, 45, 45, 45, 62, 97]⟩ ⟨#[]⟩ 0 _ (by omega) (by decide) (by decide) known_all W h1)
  have R2 := fun W h1 => Lib.hid (next_is ⟨#[97, 60, 98]⟩ ⟨#[]⟩ 0 0 _ (by decide) (by omega) (by decide) (by decide) known_next W h1)
  have HR := Lib.hid hR
  clear hR
  go_enter Tryd.func12, Tryd.ntmps12
  go_wp2_with fail
  refine (R1 _ HR.out).out.mono ?_
  rintro e w1 ⟨v, rfl, ht, b1⟩
  obtain ⟨p, cap, hv⟩ := ht.form
  subst hv
  have HT := Lib.hid ht
  have HB1 := Lib.hid b1
  clear ht b1 R1
  go_wp2_with fail
  refine (R2 _ (HR.out.below HB1.out)).out.mono ?_
  rintro e w2 ⟨v2, rfl, ha2, b2⟩
  obtain ⟨p2, cap2, hv2⟩ := ha2.form
  subst hv2
  have HT2 := HT.out.below b2
  have HB2 := Lib.hid (HB1.out.trans (b2.mono HB1.out.size))
  clear ha2 b2 R2 HT HB1
  obtain ⟨g, x0, rfl, hg, a0, a1, a2, a3, a4⟩ := HT2.cells 0 (by simp)
  obtain ⟨g', x1, hgg, hg', d0, d1, d2, d3, d4⟩ := HT2.cells 1 (by simp)
  obtain ⟨g'', x2, hgg2, hg2, e0, e1, e2, e3, e4⟩ := HT2.cells 2 (by simp)
  injection hgg with hgg
  injection hgg with hgg
  injection hgg2 with hgg2
  injection hgg2 with hgg2
  subst hgg hgg2
  simp only [List.getElem_cons_zero, List.getElem_cons_succ, noteT, textT] at a0 a1 a2 a3 a4 d0 d1 d2 d3 d4 e0 e1 e2 e3 e4
  clear HT2
  go_wp2_with fail
  go_ret
  exact ⟨rfl, HB2.out.alloc HB2.out.size _⟩
end Go.Proofs.YtgelgfgcdfnacaaDoor
