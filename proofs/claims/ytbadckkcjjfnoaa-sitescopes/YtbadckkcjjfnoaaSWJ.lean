/-
  The walks of the Doc's Node of any number; of the program's newcomer. Any Site.
-/
import Derived.Test.YtbadckkcjjfnoaaSWE
import Derived.Test.YtbadckkcjjfnoaaSWI
import Derived.Laws.ResultCell
namespace Go.Proofs.Ytbadckkcjjfnoaa
open Go.RowKit Go.Maps

def pnZero : PN := ⟨0, 0, [], [], [], 0, 0, 0, 0, 0⟩
set_option maxHeartbeats 1000000 in
set_option maxRecDepth 100000 in
theorem dnodeNone (S : List PN) (B : Nat) (M : Nat → Prop) (w : World) (n : Int) (h : DocM M w B S) (hn : pHas S n = false) : Calls Try.prog 70 #[.pointer (some ⟨B, 0, none⟩), .int .i64 n] w (NodeOut pnZero w) := by
  have HH : Hid (∀ W, Below w.heap.size w W → Calls Try.prog 74 #[.pointer (some ⟨B, 0, none⟩), .int .i64 n] W (Gives (.bool false) W)) := by
    refine Lib.hid fun W b => ?_
    obtain ⟨p, cap, hr⟩ := (h.below b).reads
    have := dhasP S B W p cap n hr
    rwa [hn] at this
  have hb4 : (w.alloc (.cells #[.int .i64 0, .int .i64 0, .string ⟨#[]⟩, .slice none 0 0, .string ⟨#[]⟩, .int .i64 0, .slice none 0 0] 48)).heap[w.heap.size]? = some (.cells #[.int .i64 0, .int .i64 0, .string ⟨#[]⟩, .slice none 0 0, .string ⟨#[]⟩, .int .i64 0, .slice none 0 0] 48 (0, 0)) := heap_alloc_new w _
  have HB4 := Lib.hid hb4
  clear hb4 h hn
  go_enter Try.func70, Try.ntmps70
  go_wp2_with fail
  refine (HH.out _ ((Below.refl _ w).alloc (Nat.le_refl _) _)).mono ?_
  rintro e w1 ⟨rfl, rfl⟩
  go_wp2_with fail
  exact bodyPost_ret (results_cell_row rfl _ _ _ _ _ _ _ rfl HB4.out Try.underlying48 rfl (by kernel_rfl)) rfl ⟨none, 0, rfl, AttrsP.nil _ _ _ _, (Below.refl _ w).alloc (Nat.le_refl _) _⟩
/-- The node of a number, or none. -/
def pNode (S : List PN) (n : Int) : PN := if pHas S n then pget S n else pnZero
theorem dnodeAny (S : List PN) (B : Nat) (M : Nat → Prop) (w : World) (n : Int) (h : DocM M w B S) (ha : ∀ x ∈ S, x.attrs.length ≤ 4294967296) : Calls Try.prog 70 #[.pointer (some ⟨B, 0, none⟩), .int .i64 n] w (NodeOut (pNode S n) w) := by
  cases hn : pHas S n
  · have e : pNode S n = pnZero := by unfold pNode; rw [hn]; rfl
    rw [e]
    exact dnodeNone S B M w n h hn
  · obtain ⟨j, rfl, hj⟩ := pHas_nat hn
    have e : pNode S (j : Int) = S[j] := by unfold pNode; rw [if_pos hn, pget_nat hj]
    rw [e]
    exact dnodeP S B M w j h hj (ha _ (List.getElem_mem hj))
theorem cell_lt {W : World} {g o : Nat} {v : Value} (h : W.cell? ⟨g, o, none⟩ = some v) : g < W.heap.size := by
  rcases Nat.lt_or_ge g W.heap.size with h' | h'
  · exact h'
  · unfold World.cell? at h
    rw [Array.getElem?_eq_none h'] at h
    cases h
variable {M : Nat → Prop} {w w' : World} {B : Nat} {a : SA} {S : List PN} {L : List MK} {R : List EL} {fO : Int → Bool} {fN : List UInt8 → Int} {fo : Bool} {T : Nat}
theorem results_cr {fn : Func} {p u : Tmp} (h : fn.results = #[.cell p 125, .tmp u]) (tmps : Array Value) (w : World) (g : Nat) (t : TypeId) (x0 x1 x2 : Value) (fr : Nat × Nat)
    (hp : tmps.getD p undef = .pointer (some ⟨g, 0, none⟩)) (hg : w.heap[g]? = some (.cells #[x0, x1, x2] t fr)) :
    (results fn tmps).run Try.prog w = .ok (.tuple #[.agg #[x0, x1, x2], tmps.getD u undef]) w := by
  have hp' : tmps[p]?.getD undef = .pointer (some ⟨g, 0, none⟩) := by simpa using hp
  have hl := run_loadVar_row (P := Try.prog) w g t 125 #[x0, x1, x2] fr _ hg Try.underlying125 rfl (by kernel_rfl)
  rw [results_cell_tmp h]
  simp [hp', asAddr, hl, Result.andThen]
/-- The newcomer. -/
def newE (S : List PN) (n : Int) : EL := ⟨n, (pNode S n).space, (pNode S n).name⟩
def mayE (S : List PN) (fO : Int → Bool) (n : Int) : Bool := decide ((pNode S n).kind = 1) && !fO n
end Go.Proofs.Ytbadckkcjjfnoaa
