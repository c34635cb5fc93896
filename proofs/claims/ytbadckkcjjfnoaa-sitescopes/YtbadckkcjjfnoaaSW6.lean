/-
  The walk of slices.Insert at the end of a row of elements. Any row, not too long.
-/
import Derived.Test.YtbadckkcjjfnoaaSW5
namespace Go.Proofs.Ytbadckkcjjfnoaa
open Go.RowKit Go.Maps

variable {M : Nat → Prop} {w w' : World} {B : Nat} {a : SA} {S : List PN} {L : List MK} {R : List EL} {fO : Int → Bool} {fN : List UInt8 → Int} {fo : Bool}
theorem info_el : ∃ i, Try.prog.info? 125 = some i ∧ i.zero = some (.agg #[.int .i64 0, .int .i64 0, .string ByteArray.empty]) ∧ i.size = 3 ∧ i.bytes = 32 := by
  have hi9 : (Try.prog.info? 125).map (fun i => (i.zero, i.size, i.bytes)) = some (some (.agg #[.int .i64 0, .int .i64 0, .string ByteArray.empty]), 3, 32) := by kernel_rfl
  obtain ⟨i0, hi, hx⟩ := Option.map_eq_some_iff.1 hi9
  simp only [Prod.mk.injEq] at hx
  exact ⟨i0, hi, hx.1, hx.2.1, hx.2.2⟩
theorem own_loc {g n c H : Nat} {o : Option Nat} (h : o = some g ∨ g = H) : ∀ g', (Value.slice (some ⟨g, 0, none⟩) n c).ownBlock = some g' → o = some g' ∨ H ≤ g' := by
  intro g' e
  have e' : g = g' := by injection e
  subst e'
  exact h.imp id (fun k => by omega)
/-- A row with one more element. -/
def InsOut (v : Value) (R' : List EL) (w : World) (e : Ending) (w' : World) : Prop := ∃ v', e = .returned v' ∧ w'.ownsRow 0 125 3 v' R'.length (elCells R') ∧ w.grownBy w' v.ownBlock ∧ ∀ g, v'.ownBlock = some g → v.ownBlock = some g ∨ w.heap.size ≤ g
set_option maxHeartbeats 1000000 in
set_option maxRecDepth 100000 in
theorem sinsEndP (v : Value) (R : List EL) (x : EL) (w : World) (b : Nat) (h : w.ownsRow 0 125 3 v R.length (elCells R)) (hb : w.heap[b]? = some (.cells #[.int .i64 x.n, .int .i64 x.space, .string ⟨x.name.toArray⟩] 125 (0, 0))) (hr : R.length ≤ 4294967296) :
    Calls Try.prog 132 #[v, .int .i64 (R.length : Int), .slice (some ⟨b, 0, none⟩) 1 1] w (InsOut v (R ++ [x]) w) := by
  obtain ⟨i0, hi0, hz0, hz1, hz2⟩ := info_el
  have HI := Lib.hid (And.intro hi0 (And.intro hz0 (And.intro hz1 hz2)))
  have HH := Lib.hid h
  have HB := Lib.hid hb
  have HC : Hid (elCells (R ++ [x]) = elCells R ++ [.int .i64 x.n, .int .i64 x.space, .string ⟨x.name.toArray⟩]) := Lib.hid (elCells_snoc R x)
  have HL : Hid ((R ++ [x]).length = R.length + 1) := Lib.hid (by simp)
  have j0 : (0 : Int) ≤ (R.length : Int) := by omega
  have hf : ∃ p cap, v = .slice p R.length cap ∧ R.length ≤ cap := by
    rcases h.2 with ⟨e, h0⟩ | ⟨g, cap, _, e, _, _, h1, _⟩
    · exact ⟨none, 0, by rw [e, h0], by omega⟩
    · exact ⟨_, cap, e, h1⟩
  obtain ⟨p, cap, rfl, hcap⟩ := hf
  unfold InsOut
  rw [HC.out, HL.out]
  clear hi0 hz0 hz1 hz2 h hb HC HL
  generalize (⟨x.name.toArray⟩ : ByteArray) = NM at *
  rcases Nat.lt_or_ge R.length cap with hlc | hlc
  · have hne : cap ≠ R.length := by omega
    go_enter Try.func132, Try.ntmps132
    go_wp2_with (first
      | (at_builtin; refine wpList_append_lies _ rfl _ _ 120 rfl 0 125 i0 (.agg #[.int .i64 0, .int .i64 0, .string ByteArray.empty]) 3 32 Try.underlying120 HI.out.1 HI.out.2.1 HI.out.2.2.1 HI.out.2.2.2 rfl (by omega) _ R.length (elCells R) rfl HH.out ⟨b, 0, none⟩ 1 1 [.int .i64 x.n, .int .i64 x.space, .string NM] rfl rfl (World.news_of_block (cs := #[.int .i64 x.n, .int .i64 x.space, .string NM]) HB.out) (by simp [Value.oneCell']) (by omega) (by unfold maxLen; omega) (by omega) (by omega) w.heap.size rfl ?_; intro g cp W3 hr3 hg3 hor3 hlt3; have HR3 := Lib.hid hr3; have HG3 := Lib.hid hg3; have HO3 := Lib.hid hor3; clear hr3 hg3 hor3)
      | fail)
    go_ret
    exact ⟨_, rfl, HR3.out, HG3.out, own_loc HO3.out⟩
  · obtain rfl : cap = R.length := by omega
    go_enter Try.func132, Try.ntmps132
    go_wp2_with (first
      | (at_builtin; refine wpList_append_lies _ rfl _ _ 120 rfl 0 125 i0 (.agg #[.int .i64 0, .int .i64 0, .string ByteArray.empty]) 3 32 Try.underlying120 HI.out.1 HI.out.2.1 HI.out.2.2.1 HI.out.2.2.2 rfl (by omega) _ R.length (elCells R) rfl HH.out ⟨b, 0, none⟩ 1 1 [.int .i64 x.n, .int .i64 x.space, .string NM] rfl rfl (World.news_of_block (cs := #[.int .i64 x.n, .int .i64 x.space, .string NM]) HB.out) (by simp [Value.oneCell']) (by omega) (by unfold maxLen; omega) (by omega) (by omega) w.heap.size rfl ?_; intro g cp W3 hr3 hg3 hor3 hlt3; have HR3 := Lib.hid hr3; have HG3 := Lib.hid hg3; have HO3 := Lib.hid hor3; clear hr3 hg3 hor3)
      | fail)
    go_ret
    exact ⟨_, rfl, HR3.out, HG3.out, own_loc HO3.out⟩
end Go.Proofs.Ytbadckkcjjfnoaa
