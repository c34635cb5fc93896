/-
  The walks of the program's copied of nodes, copiedTree, Number. Any nodes, not too many.
-/
import Derived.Test.YtbadckkcjjfnoaaDPNum1
import Derived.Test.YtbadckkcjjfnoaaDNum
namespace Go.Proofs.Ytbadckkcjjfnoaa
open Go.RowKit

theorem NodesFrom.list {P : Nat → Prop} {w : World} : ∀ (f : Fo) (g o i : Nat), NodesFrom P w f g o i → ∃ qs : List (Nd × Value × Value), qs.length = f.len ∧ (∀ j (hj : j < qs.length), Cells7 w g (o + (i + j) * 7) qs[j].1 qs[j].2.1 qs[j].2.2) ∧ (∀ q ∈ qs, q.2.1.oneCell' = true ∧ q.2.2.oneCell' = true) ∧ ∀ (W : World) (g' : Nat), (∀ j (hj : j < qs.length), Cells7 W g' ((i + j) * 7) qs[j].1 qs[j].2.1 qs[j].2.2) → Kept P w W → NodesFrom P W f g' 0 i
  | .nil, _, _, _, _ => ⟨[], rfl, fun j hj => absurd hj (by simp), fun q hq => absurd hq (by simp), fun _ _ _ _ => trivial⟩
  | .cons d k r, g, o, i, ⟨⟨va, vk, h7, ha, p, cap, hv, hk⟩, hr⟩ => by
    obtain ⟨qs, hl, h1, h3, h2⟩ := NodesFrom.list r g o (i + 1) hr
    refine ⟨(d, va, vk) :: qs, by rw [List.length_cons, hl, Fo.len], fun j hj => ?_, fun q hq => ?_, fun W g' hc hK => ?_⟩
    · match j, hj with
      | 0, _ => exact h7
      | j + 1, hj =>
        have := h1 j (by simpa using hj)
        rw [show i + (j + 1) = i + 1 + j by omega]
        exact this
    · rcases List.mem_cons.1 hq with rfl | hq
      · obtain ⟨pa, ca, rfl, _⟩ := ha
        subst hv
        exact ⟨rfl, rfl⟩
      · exact h3 q hq
    · refine ⟨⟨va, vk, by rw [Nat.zero_add]; exact hc 0 (by simp), ha.kept hK, p, cap, hv, fun h0 => ?_⟩, h2 W g' (fun j hj => ?_) hK⟩
      · obtain ⟨g2, o2, e, q1, q2, q3⟩ := hk h0
        exact ⟨g2, o2, e, q1, Nat.lt_of_lt_of_le q2 hK.size, NodesFrom.kept hK k g2 o2 0 q1 q2 q3⟩
      · have := hc (j + 1) (by simpa using hj)
        rw [show i + 1 + j = i + (j + 1) by omega]
        exact this
theorem nodeCells_len (qs : List (Nd × Value × Value)) : (nodeCells qs).length = qs.length * 7 := by
  induction qs with
  | nil => rfl
  | cons q r ih => show (nodeCell q ++ nodeCells r).length = _; rw [List.length_append, ih, List.length_cons]; simp [nodeCell]; omega
theorem nodeCells_one (qs : List (Nd × Value × Value)) (h : ∀ q ∈ qs, q.2.1.oneCell' = true ∧ q.2.2.oneCell' = true) : ∀ u ∈ nodeCells qs, u.oneCell' = true := by
  intro u hu
  obtain ⟨q, hq, hu⟩ := List.mem_flatMap.1 hu
  simp only [nodeCell, List.mem_cons, List.not_mem_nil, or_false] at hu
  rcases hu with rfl | rfl | rfl | rfl | rfl | rfl | rfl <;> first | rfl | exact (h q hq).1 | exact (h q hq).2
/-- The row of a copy: as the row that was copied, in a block of its own. -/
def CopyN (f : Fo) (w : World) (e : Ending) (W : World) : Prop := ∃ p c, e = .returned (.slice p f.len c) ∧ Below w.heap.size w W ∧ (0 < f.len → ∃ g, p = some ⟨g, 0, none⟩ ∧ w.heap.size ≤ g ∧ g < W.heap.size ∧ (∃ xs, W.ownsRow w.heap.size 48 7 (.slice p f.len c) f.len xs) ∧ NodesFrom (fun b => b < w.heap.size) W f g 0 0)
set_option maxHeartbeats 1000000 in
set_option maxRecDepth 100000 in
theorem dcopyN (f : Fo) (P : Nat → Prop) (v : Value) (w : World) (hs : f.wt ≤ 4294967296) (h : NodesP P w v f) : Calls Try.prog 127 #[v] w (CopyN f w) := by
  obtain ⟨i0, hi0, hz0, hz1, hz2⟩ := info_node
  obtain ⟨p, cap, rfl, ht⟩ := h.mono (Q := fun b => b < w.heap.size) (fun _ _ hb => hb)
  have hl := Fo.len_le f
  rcases Nat.eq_zero_or_pos f.len with h0 | h0
  · have HI := Lib.hid hi0
    have HL := Lib.hid h0
    clear ht h hz0 hz1 hz2 hi0
    rw [h0]
    clear h0 hl
    go_enter Try.func127, Try.ntmps127
    go_wp2_with (first
      | (at_builtin; refine wpList_append_empty rfl _ _ 31 rfl 48 i0 Try.underlying31 HI.out p cap rfl rfl ?_)
      | fail)
    go_ret
    exact ⟨none, 0, by rw [HL.out]; rfl, Below.refl _ _, fun q => by have := HL.out; omega⟩
  · obtain ⟨g, o, rfl, _, hg, hN⟩ := ht h0
    obtain ⟨qs, hql, hqc, hone, hqn⟩ := NodesFrom.list f g o 0 hN
    have hread : ∀ j u, (nodeCells qs)[j]? = some u → w.cell? ((⟨g, o, none⟩ : Addr).add j) = some u := by
      intro j u hu
      have hj : j < qs.length * 7 := by rw [← nodeCells_len]; exact lt_of_some hu
      rw [show (⟨g, o, none⟩ : Addr).add j = ⟨g, o + j, none⟩ by simp [Addr.add]]
      have hk : j / 7 < qs.length := by omega
      have hr := nodeCells_at qs (j / 7) (j % 7) hk (by omega)
      rw [show j / 7 * 7 + j % 7 = j by omega, hu] at hr
      have h7 := hqc (j / 7) hk
      rw [Nat.zero_add] at h7
      have hm : j % 7 < 7 := by omega
      rw [show o + j = o + j / 7 * 7 + j % 7 by omega, hr]
      match j % 7, hm with
      | 0, _ => exact h7.c0
      | 1, _ => exact h7.c1
      | 2, _ => exact h7.c2
      | 3, _ => exact h7.c3
      | 4, _ => exact h7.c4
      | 5, _ => exact h7.c5
      | 6, _ => exact h7.c6
    have HN := Lib.hid hread
    have HO := Lib.hid (World.ownsRow_nil w w.heap.size 48 7)
    have HI := Lib.hid (And.intro hi0 (And.intro hz0 (And.intro hz1 hz2)))
    have HQ := Lib.hid (And.intro hql (And.intro (nodeCells_one qs hone) hqn))
    have hnl : (nodeCells qs).length = f.len * 7 := by rw [nodeCells_len, hql]
    have HNL := Lib.hid hnl
    clear ht h hz0 hz1 hz2 hi0 hread hqc hqn hone hN hnl hql
    go_enter Try.func127, Try.ntmps127
    go_wp2_with (first
      | (at_builtin; refine wpList_append_own _ rfl _ _ 31 rfl w.heap.size 48 i0 (.agg #[.int .i64 0, .int .i64 0, .string ByteArray.empty, .slice none 0 0, .string ByteArray.empty, .int .i64 0, .slice none 0 0]) 7 104 Try.underlying31 HI.out.1 HI.out.2.1 HI.out.2.2.1 HI.out.2.2.2 rfl (by omega) (.slice none 0 0) 0 [] rfl HO.out ⟨g, o, none⟩ f.len cap (nodeCells qs) rfl HNL.out HN.out HQ.out.2.1 (by unfold maxLen; omega) (by omega) (Nat.le_refl _) ?_; intro v1 w1 hr1 hg1 _)
      | fail)
    rw [Nat.zero_add, List.nil_append] at hr1
    have hb : Below w.heap.size w w1 := ⟨hg1.os, hg1.tape, hg1.output, hg1.size, fun k hk => hg1.block k hk (by simp [Value.ownBlock])⟩
    rcases Joins.ownsRow_forms hr1 with ⟨_, h1⟩ | ⟨g1, c1, rfl⟩
    · omega
    · go_ret
      refine ⟨_, _, rfl, hb, fun _ => ⟨g1, rfl, (hr1.lt g1 rfl).1, (hr1.lt g1 rfl).2, ⟨_, hr1⟩, HQ.out.2.2 w1 g1 (fun j hj => ?_) ⟨hb.size, fun b q _ => hb.block b q⟩⟩⟩
      have hql := HQ.out.1
      have key : ∀ i, i < 7 → w1.cell? ⟨g1, (0 + j) * 7 + i, none⟩ = (nodeCell qs[j])[i]? := by
        intro i hi
        rw [Nat.zero_add, hr1.cellAt (j * 7 + i) (by omega), nodeCells_at qs j i hj hi]
      exact ⟨key 0 (by omega), key 1 (by omega), key 2 (by omega), key 3 (by omega), key 4 (by omega), key 5 (by omega), key 6 (by omega)⟩
end Go.Proofs.Ytbadckkcjjfnoaa
