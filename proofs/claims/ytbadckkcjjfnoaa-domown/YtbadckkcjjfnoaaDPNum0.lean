/-
  A tree of nodes that is one's own: its rows lie in blocks apart, told by intervals. The walk of the program's copied, of nodes. Any nodes, not too many.
-/
import Derived.Test.YtbadckkcjjfnoaaDPMem
import Derived.Test.YtbadckkcjjfnoaaDPCopy
namespace Go.Proofs.Ytbadckkcjjfnoaa
open Go.RowKit

/-- The nodes of f stand in the row at block g from the i-th place on; what they lead to lies in blocks from lo to hi, each one's ahead of the next one's. -/
def OwnF (w : World) (g : Nat) : Fo → Nat → Nat → Nat → Prop
  | .nil, _, lo, hi => lo ≤ hi
  | .cons d k r, i, lo, hi => ∃ va vk ma m, Cells7 w g (i * 7) d va vk ∧ AttrsP (fun b => lo ≤ b ∧ b < ma) w va d.attrs ∧ lo ≤ ma ∧ ma ≤ m ∧
      (∃ p cap, vk = .slice p k.len cap ∧ (0 < k.len → ∃ gk, p = some ⟨gk, 0, none⟩ ∧ ma ≤ gk ∧ gk < m ∧ gk < w.heap.size ∧ (∀ o, w.frozen? ⟨gk, o, none⟩ = false) ∧ OwnF w gk k 0 (gk + 1) m)) ∧ OwnF w g r (i + 1) m hi
theorem OwnF.le {w : World} {g : Nat} : ∀ (f : Fo) (i lo hi : Nat), OwnF w g f i lo hi → lo ≤ hi
  | .nil, _, _, _, h => h
  | .cons _ _ r, i, _, hi, ⟨_, _, _, m, _, _, h1, h3, _, h2⟩ => Nat.le_trans (Nat.le_trans h1 h3) (OwnF.le r (i + 1) m hi h2)
/-- The slice v holds the tree f, of one's own, in blocks from lo to hi. -/
def OwnT (w : World) (v : Value) (f : Fo) (lo hi : Nat) : Prop := lo ≤ hi ∧ ∃ p cap, v = .slice p f.len cap ∧ (0 < f.len → ∃ g, p = some ⟨g, 0, none⟩ ∧ lo ≤ g ∧ g < hi ∧ g < w.heap.size ∧ (∀ o, w.frozen? ⟨g, o, none⟩ = false) ∧ OwnF w g f 0 (g + 1) hi)
/-- It stands where its cells and its blocks stand. -/
theorem OwnF.kept {w w' : World} {g : Nat} : ∀ (f : Fo) (i lo hi : Nat), OwnF w g f i lo hi → w.heap.size ≤ w'.heap.size → (∀ o, i * 7 ≤ o → o < (i + f.len) * 7 → w'.cell? ⟨g, o, none⟩ = w.cell? ⟨g, o, none⟩) → (∀ b, lo ≤ b → b < hi → b < w.heap.size → w'.heap[b]? = w.heap[b]?) → OwnF w' g f i lo hi
  | .nil, _, _, _, h, _, _, _ => h
  | .cons d k r, i, lo, hi, ⟨va, vk, ma, m, h7, ha, hm, hm2, ⟨p, cap, hv, hk⟩, hr⟩, hsz, hc, hb => by
    have hmh := OwnF.le r (i + 1) m hi hr
    simp only [Fo.len] at hc
    have c := fun j (hj : j < 7) => hc (i * 7 + j) (by omega) (by omega)
    refine ⟨va, vk, ma, m, ⟨(c 0 (by omega)).trans h7.c0, (c 1 (by omega)).trans h7.c1, (c 2 (by omega)).trans h7.c2, (c 3 (by omega)).trans h7.c3, (c 4 (by omega)).trans h7.c4, (c 5 (by omega)).trans h7.c5, (c 6 (by omega)).trans h7.c6⟩, ha.kept ⟨hsz, fun b hp hl => hb b hp.1 (by omega) hl⟩, hm, hm2, ⟨p, cap, hv, fun h0 => ?_⟩, OwnF.kept r (i + 1) m hi hr hsz (fun o h1 h2 => hc o (by omega) (by omega)) (fun b h1 h2 => hb b (by omega) h2)⟩
    obtain ⟨gk, e, h1, h2, h3, h4, h5⟩ := hk h0
    have hg := hb gk (by omega) (by omega) h3
    refine ⟨gk, e, h1, h2, Nat.lt_of_lt_of_le h3 hsz, fun o => ?_, OwnF.kept k 0 (gk + 1) m h5 hsz (fun o _ _ => World.cell?_of_block (w := w) hg) (fun b q1 q2 => hb b (by omega) (by omega))⟩
    rw [World.frozen?_of_block (w := w) hg]; exact h4 o
theorem OwnT.kept {w w' : World} {v : Value} {f : Fo} {lo hi : Nat} (h : OwnT w v f lo hi) (hsz : w.heap.size ≤ w'.heap.size) (hb : ∀ b, lo ≤ b → b < hi → b < w.heap.size → w'.heap[b]? = w.heap[b]?) : OwnT w' v f lo hi := by
  obtain ⟨hl, p, cap, hv, h⟩ := h
  refine ⟨hl, p, cap, hv, fun h0 => ?_⟩
  obtain ⟨g, e, h1, h2, h3, h4, h5⟩ := h h0
  have hg := hb g h1 h2 h3
  exact ⟨g, e, h1, h2, Nat.lt_of_lt_of_le h3 hsz, fun o => by rw [World.frozen?_of_block (w := w) hg]; exact h4 o, OwnF.kept f 0 (g + 1) hi h5 hsz (fun o _ _ => World.cell?_of_block (w := w) hg) (fun b q1 q2 => hb b (by omega) q2)⟩
/-- Two pieces of a row. -/
theorem OwnF.split {w : World} {g : Nat} : ∀ (a b : Fo) (i lo hi : Nat), OwnF w g (a.app b) i lo hi → ∃ m, OwnF w g a i lo m ∧ OwnF w g b (i + a.len) m hi
  | .nil, b, i, lo, hi, h => ⟨lo, Nat.le_refl _, h⟩
  | .cons d k r, b, i, lo, hi, ⟨va, vk, ma, m, h7, ha, hm, hm2, hk, hr⟩ => by
    obtain ⟨m2, h1, h2⟩ := OwnF.split r b (i + 1) m hi hr
    refine ⟨m2, ⟨va, vk, ma, m, h7, ha, hm, hm2, hk, h1⟩, ?_⟩
    rw [Fo.len, show i + (r.len + 1) = i + 1 + r.len by omega]
    exact h2
theorem OwnF.join {w : World} {g : Nat} : ∀ (a b : Fo) (i lo m hi : Nat), OwnF w g a i lo m → OwnF w g b (i + a.len) m hi → OwnF w g (a.app b) i lo hi
  | .nil, b, i, lo, m, hi, h1, h2 => by
    have h1' : lo ≤ m := h1
    revert h2
    cases b with
    | nil => exact fun h2 => Nat.le_trans h1' h2
    | cons d k r =>
      rintro ⟨va, vk, ma, m2, h7, ha, hm, hm2, hk, hr⟩
      exact ⟨va, vk, ma, m2, h7, ha.mono (fun x q _ => ⟨by omega, q.2⟩), by omega, hm2, hk, hr⟩
  | .cons d k r, b, i, lo, m, hi, ⟨va, vk, ma, m2, h7, ha, hm, hm2, hk, hr⟩, h2 => by
    refine ⟨va, vk, ma, m2, h7, ha, hm, hm2, hk, OwnF.join r b (i + 1) m2 m hi hr ?_⟩
    rw [Fo.len, show i + (r.len + 1) = i + 1 + r.len by omega] at h2
    exact h2
/-- As nodes that one may read. -/
theorem OwnF.nodes {w : World} {g : Nat} {P : Nat → Prop} : ∀ (f : Fo) (i lo hi : Nat), OwnF w g f i lo hi → (∀ b, lo ≤ b → b < hi → P b) → NodesFrom P w f g 0 i
  | .nil, _, _, _, _, _ => trivial
  | .cons d k r, i, lo, hi, ⟨va, vk, ma, m, h7, ha, hm, hm2, ⟨p, cap, hv, hk⟩, hr⟩, hP => by
    have hmh := OwnF.le r (i + 1) m hi hr
    refine ⟨⟨va, vk, by rw [Nat.zero_add]; exact h7, ha.mono (fun b q _ => hP b q.1 (by omega)), p, cap, hv, fun h0 => ?_⟩, OwnF.nodes r (i + 1) m hi hr (fun b q1 q2 => hP b (by omega) q2)⟩
    obtain ⟨gk, e, h1, h2, h3, _, h5⟩ := hk h0
    exact ⟨gk, 0, e, hP gk (by omega) (by omega), h3, OwnF.nodes k 0 (gk + 1) m h5 (fun b q1 q2 => hP b (by omega) (by omega))⟩
end Go.Proofs.Ytbadckkcjjfnoaa
