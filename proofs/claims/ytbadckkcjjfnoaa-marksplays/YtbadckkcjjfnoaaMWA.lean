/-
  The walk of the program's All. Any marks, not too many.
-/
import Derived.Test.YtbadckkcjjfnoaaMW9
namespace Go.Proofs.Ytbadckkcjjfnoaa
open Go.RowKit

/-- A row of marks that a call makes. -/
structure OutRow (B0 : Nat) (w : World) (v : Value) (rs : List (MK × Value)) : Prop where
  row : w.ownsRow B0 63 3 v rs.length (mkCells rs)
  attrs : ∀ q ∈ rs, AttrsP (fun b => B0 ≤ b ∧ some b ≠ v.ownBlock) w q.2 q.1.attrs
theorem OutRow.nil (B0 : Nat) (w : World) : OutRow B0 w (.slice none 0 0) [] := ⟨World.ownsRow_nil _ _ _ _, fun q hq => absurd hq (by simp)⟩
theorem OutRow.below {B0 : Nat} {w w' : World} {v : Value} {rs : List (MK × Value)} (h : OutRow B0 w v rs) (hb : Below w.heap.size w w') : OutRow B0 w' v rs :=
  ⟨ownsRow_kept h.row (.of_below (M := fun _ => False) hb) (fun _ _ k => k), fun q hq => (h.attrs q hq).kept (.of_below hb)⟩
/-- One more behind. -/
theorem OutRow.more {B0 : Nat} {w w1 : World} {v : Value} {rs : List (MK × Value)} {g cp : Nat} {q : MK × Value} (h : OutRow B0 w v rs) (hg : w.grownBy w1 v.ownBlock) (hr : w1.ownsRow B0 63 3 (.slice (some ⟨g, 0, none⟩) (rs.length + 1) cp) (rs.length + 1) (mkCells rs ++ mkCell q)) (hor : v.ownBlock = some g ∨ g = w.heap.size)
    (ha : AttrsP (fun b => B0 ≤ b ∧ some b ≠ v.ownBlock) w q.2 q.1.attrs) : OutRow B0 w1 (.slice (some ⟨g, 0, none⟩) (rs.length + 1) cp) (rs ++ [q]) := by
  refine ⟨?_, ?_⟩
  · rw [List.length_append, List.length_singleton, mkCells_snoc]
    exact hr
  · intro x hx
    have hax : AttrsP (fun b => B0 ≤ b ∧ some b ≠ v.ownBlock) w x.2 x.1.attrs := by
      rcases List.mem_append.1 hx with hx | hx
      · exact h.attrs x hx
      · rw [List.mem_singleton] at hx; subst hx; exact ha
    refine ((hax.mono (Q := fun b => (B0 ≤ b ∧ some b ≠ v.ownBlock) ∧ b < w.heap.size) (fun b k hb => ⟨k, hb⟩)).kept (.of_grown hg fun b k => k.1.2)).mono ?_
    rintro b ⟨⟨k1, k2⟩, k3⟩ _
    refine ⟨k1, fun e => ?_⟩
    injection e with e
    rcases hor with h1 | h1
    · exact k2 (by rw [h1, e])
    · have e' : b = g := e
      omega
theorem allM_ready {B0 : Nat} {wr W6 : World} {v : Value} {rs : List (MK × Value)} {q : MK × Value} (h : OutRow B0 wr v rs) (hb : Below wr.heap.size wr W6) (ha : AttrsP (fun b => wr.heap.size ≤ b) W6 q.2 q.1.attrs) (hB : B0 ≤ wr.heap.size) :
    OutRow B0 (W6.alloc (.cells #[.int .i64 q.1.node, .string ⟨q.1.name.toArray⟩, q.2] 63)) v rs ∧ AttrsP (fun b => B0 ≤ b ∧ some b ≠ v.ownBlock) (W6.alloc (.cells #[.int .i64 q.1.node, .string ⟨q.1.name.toArray⟩, q.2] 63)) q.2 q.1.attrs ∧ B0 ≤ (W6.alloc (.cells #[.int .i64 q.1.node, .string ⟨q.1.name.toArray⟩, q.2] 63)).heap.size ∧ Below wr.heap.size wr (W6.alloc (.cells #[.int .i64 q.1.node, .string ⟨q.1.name.toArray⟩, q.2] 63)) := by
  have b2 : Below W6.heap.size W6 (W6.alloc (.cells #[.int .i64 q.1.node, .string ⟨q.1.name.toArray⟩, q.2] 63)) := (Below.refl _ _).alloc (Nat.le_refl _) _
  have hs := hb.size
  refine ⟨(h.below hb).below b2, (ha.kept (.of_below b2)).mono (fun b k _ => ⟨by omega, fun e => ?_⟩), by simp; omega, hb.trans (b2.mono hs)⟩
  have := (h.row.lt b e.symm).2
  omega
def AllM (S : List MK) (w : World) (e : Ending) (w' : World) : Prop := ∃ v rs, e = .returned v ∧ rs.map (·.1) = S ∧ OutRow w.heap.size w' v rs ∧ Below w.heap.size w w'
set_option maxHeartbeats 1000000 in
set_option maxRecDepth 100000 in
theorem mallP (S : List MK) (B : Nat) (M : Nat → Prop) (w : World) (h : MarksM M w B S) (hs : S.length ≤ 4294967296) (hx : ∀ x ∈ S, x.attrs.length ≤ 4294967296) :
    Calls Try.prog 97 #[.pointer (some ⟨B, 0, none⟩)] w (AllM S w) := by
  obtain ⟨v, qs, rfl, hq⟩ := h
  obtain ⟨p, cap, rfl, hr⟩ := hq.reads
  have h0 := hq.cell
  have hB := hq.lt
  rw [List.length_map] at hs
  have HQ := Lib.hid hq
  have HR := Lib.hid hr
  have HX := Lib.hid hx
  obtain ⟨i0, hi0, hz0, hz1, hz2⟩ := info_mark
  have HI := Lib.hid (And.intro hi0 (And.intro hz0 (And.intro hz1 hz2)))
  clear hq hr hi0 hz0 hz1 hz2 hx
  go_enter Try.func97, Try.ntmps97
  go_wp2_with fail
  go_loopw [3, 11] (fun o i wr => ∃ (k : Nat) (rs : List (MK × Value)), k ≤ qs.length ∧ i = .int .i64 (k : Int) ∧ rs.map (·.1) = (qs.take k).map (·.1) ∧ OutRow w.heap.size wr o rs ∧ Below w.heap.size w wr) (fun _ i _ => qs.length - (intOf i).toNat)
  case atStart => exact ⟨0, [], Nat.zero_le _, rfl, rfl, OutRow.nil _ _, Below.refl _ _⟩
  case round =>
    obtain ⟨k, rs, hk, rfl, hm, ho, hb⟩ := hrel
    have HM := Lib.hid hm
    have HO := Lib.hid ho
    have HB := Lib.hid hb
    have hlen : rs.length = k := by
      have := congrArg List.length hm
      rw [List.length_map, List.length_map, List.length_take] at this
      omega
    have HLN := Lib.hid hlen
    have hkl : rs.length ≤ 4294967296 := by omega
    clear hm ho hb hlen
    by_cases hlt : k < qs.length
    · obtain ⟨g, rfl, hg, n0, n1, n2⟩ := HR.out k hlt
      have hbs := HB.out.size
      have m0 := (HB.out.cell (p := ⟨g, k * 3, none⟩) hg).trans n0
      have m1 := (HB.out.cell (p := ⟨g, k * 3 + 1, none⟩) hg).trans n1
      have m2 := (HB.out.cell (p := ⟨g, k * 3 + 2, none⟩) hg).trans n2
      have hgr : g < wr.heap.size := by omega
      have hat := HQ.out.attrs qs[k] (List.getElem_mem hlt)
      have hxk := HX.out qs[k].1 (List.mem_map_of_mem (List.getElem_mem hlt))
      obtain ⟨x, hxx⟩ : ∃ x, x = qs[k].1 := ⟨_, rfl⟩
      obtain ⟨va, hva⟩ : ∃ va, va = qs[k].2 := ⟨_, rfl⟩
      rw [← hxx] at m0 m1 hat hxk
      rw [← hva] at m2 hat
      obtain ⟨pa, ca, rfl, hat2⟩ := id hat
      obtain ⟨NM, hNM⟩ : ∃ NM : ByteArray, NM = (⟨x.name.toArray⟩ : ByteArray) := ⟨_, rfl⟩
      rw [← hNM] at m1
      have HNM := Lib.hid hNM
      have HAT := Lib.hid hat
      have HXX := Lib.hid hxx
      have hxn : rs.length + 1 ≤ maxLen := by unfold maxLen; omega
      clear n0 n1 n2 hat hat2 hxx hva hNM
      have b1 : Below wr.heap.size wr (wr.alloc (.cells #[.int .i64 x.node, .string NM, .slice pa x.attrs.length ca] 63)) := (Below.refl _ wr).alloc (Nat.le_refl _) _
      have HC : Hid (Calls Try.prog 93 #[.agg #[.int .i64 x.node, .string NM, .slice pa x.attrs.length ca]] (wr.alloc (.cells #[.int .i64 x.node, .string NM, .slice pa x.attrs.length ca] 63)) (CopyN x NM (wr.alloc (.cells #[.int .i64 x.node, .string NM, .slice pa x.attrs.length ca] 63)))) := Lib.hid (mcopiedN x NM HNM.out _ pa ca _ ((HAT.out.kept (.of_below HB.out)).kept (.of_below b1)) hxk)
      have HB1 := Lib.hid b1
      clear b1
      go_wp2_with (first
        | (go_at_call 93; refine HC.out.mono ?_; rintro e W6 ⟨p6, c6, rfl, ha6, hb6⟩; have HA6 := Lib.hid ha6; have HB6 := Lib.hid (HB1.out.trans (hb6.mono HB1.out.size)); have HN7 := Lib.hid (allM_ready HO.out HB6.out (q := (x, .slice p6 x.attrs.length c6)) (ha6.mono (fun b k _ => Nat.le_trans HB1.out.size k)) HB.out.size); rw [← HNM.out] at HN7; clear ha6 hb6)
        | (at_builtin; refine wpList_append_lies _ rfl _ _ 102 rfl w.heap.size 63 i0 (.agg #[.int .i64 0, .string ByteArray.empty, .slice none 0 0]) 3 48 Try.underlying102 HI.out.1 HI.out.2.1 HI.out.2.2.1 HI.out.2.2.2 rfl (by omega) _ rs.length (mkCells rs) rfl HN7.out.1.row ⟨W6.heap.size, 0, none⟩ 1 1 [.int .i64 x.node, .string NM, .slice p6 x.attrs.length c6] rfl rfl (World.news_of_block (cs := #[.int .i64 x.node, .string NM, .slice p6 x.attrs.length c6]) (heap_alloc_new W6 _)) (by simp [Value.oneCell']) (by omega) (by omega) (by omega) HN7.out.2.2.1 (W6.heap.size + 1) (by simp) ?_; intro g8 c8 W8 hr8 hg8 hor8 hlt8; have HO8 := Lib.hid (HN7.out.1.more (q := (x, .slice p6 x.attrs.length c6)) hg8 (by unfold mkCell; rw [← HNM.out]; exact hr8) (hor8.imp id (fun k => by simpa using k)) HN7.out.2.1); have HB8 := Lib.hid ((HB.out.trans (HN7.out.2.2.2.mono HB.out.size)).grown hg8 HN7.out.2.2.1 (fun g' e => (HN7.out.1.row.lt g' e).1)); clear hr8 hg8 hor8 hlt8)
        | fail)
      refine ⟨⟨k + 1, rs ++ [(x, .slice p6 x.attrs.length c6)], by omega, by go_num, ?_, ?_, ?_⟩, by simp [intOf]; omega⟩
      · rw [List.map_append, HM.out, List.take_succ_eq_append_getElem hlt, List.map_append, HXX.out]
        rfl
      · exact HO8.out
      · exact HB8.out
    · go_wp2_with fail
      go_ret
      refine ⟨_, rs, rfl, ?_, HO.out, HB.out⟩
      rw [HM.out, List.take_of_length_le (by omega)]
end Go.Proofs.Ytbadckkcjjfnoaa
