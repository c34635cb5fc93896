/-
  The walks of the program's Elem, Note, New. Any nodes, not too many.
-/
import Derived.Test.YtbadckkcjjfnoaaDPAdd
import Derived.Test.YtbadckkcjjfnoaaDPCopy
namespace Go.Proofs.Ytbadckkcjjfnoaa
open Go.RowKit

/-- What a call does that makes a node. -/
def Adds (M : Nat → Prop) (w : World) (B : Nat) (S : List PN) (v : Value) (e : Ending) (w' : World) : Prop := e = .returned v ∧ DocM (New M w) w' B S ∧ Turns M w w'
theorem DocM.mono {M L : Nat → Prop} {w : World} {B : Nat} {S : List PN} (h : DocM M w B S) (hm : ∀ b, b < w.heap.size → M b → L b) : DocM L w B S := by
  obtain ⟨v, qs, e, hq⟩ := h
  exact ⟨v, qs, e, hq.mono hm⟩
def elemPN (sp : Int) (nm : List UInt8) (l : List (List UInt8 × List UInt8)) : PN := ⟨1, sp, nm, l, [], -1, -1, -1, -1, -1⟩
def notePN (k : Int) (s : List UInt8) : PN := ⟨k, 0, [], [], s, -1, -1, -1, -1, -1⟩

set_option maxHeartbeats 1000000 in
set_option maxRecDepth 100000 in
theorem delemNewP (S : List PN) (B : Nat) (M P : Nat → Prop) (w : World) (sp : Int) (nm : List UInt8) (l : List (List UInt8 × List UInt8)) (v : Value) (h : DocM M w B S) (hM : ∀ b, M b → b < w.heap.size) (hs : S.length ≤ 4294967296) (ha : AttrsP P w v l) (hl : l.length ≤ 4294967296) :
    Calls Try.prog 13 #[.pointer (some ⟨B, 0, none⟩), .int .i64 sp, .string ⟨nm.toArray⟩, v] w (Adds M w B (S ++ [elemPN sp nm l]) (.int .i64 (S.length : Int))) := by
  have HC := Lib.hid (dcopyA l P v w ha hl)
  have HAD : Hid (∀ (w1 : World) (p : Option Addr) (c : Nat), AttrsP (fun b => w.heap.size ≤ b) w1 (.slice p l.length c) l → Below w.heap.size w w1 → Calls Try.prog 72 #[.pointer (some ⟨B, 0, none⟩), .agg #[.int .i64 1, .int .i64 sp, .string ⟨nm.toArray⟩, .slice p l.length c, .slice none 0 0, .int .i64 0, .int .i64 0, .int .i64 0, .int .i64 0, .int .i64 0]] w1 (Adds M w B (S ++ [elemPN sp nm l]) (.int .i64 (S.length : Int)))) := by
    refine Lib.hid fun w1 p c hA hb => ?_
    refine (daddP S B M (fun b => w.heap.size ≤ b) w1 ⟨1, sp, nm, l, [], 0, 0, 0, 0, 0⟩ p none l.length c 0 0 (h.below hb) hs (fun b k q => absurd (hM b q) (by omega)) (hA.mono (fun b k _ => ⟨k, by simp [Value.ownBlock]⟩)) (.nil _) (fun g e => by cases e)).mono ?_
    rintro e w2 ⟨rfl, d2, t2⟩
    refine ⟨rfl, d2.mono ?_, (Turns.of_below hb).trans (t2.mono fun b _ k => .inl k)⟩
    rintro b _ (k | k | k)
    · exact .inl k
    · exact .inr k
    · exact .inr (Nat.le_trans hb.size k)
  obtain ⟨p0, c0, rfl, _⟩ := ha
  generalize (⟨nm.toArray⟩ : ByteArray) = NM at *
  clear h hM
  go_enter Try.func13, Try.ntmps13
  go_wp2_with fail
  refine HC.out.mono ?_
  rintro e w1 ⟨p, c, rfl, hA, hb⟩
  have HAD2 := Lib.hid (HAD.out w1 p c hA hb)
  clear hA hb
  go_wp2_with fail
  refine HAD2.out.mono ?_
  rintro e w2 ⟨rfl, d2, t2⟩
  have HD := Lib.hid d2
  have HT := Lib.hid t2
  clear d2 t2
  go_wp2_with fail
  go_ret
  exact ⟨rfl, HD.out, HT.out⟩
set_option maxHeartbeats 1000000 in
set_option maxRecDepth 100000 in
theorem dnewP (w : World) : Calls Try.prog 8 #[] w (fun e w' => ∃ B, e = .returned (.pointer (some ⟨B, 0, none⟩)) ∧ DocM (fun b => w.heap.size ≤ b) w' B [elemPN 1 [] []] ∧ Below w.heap.size w w') := by
  have HE := Lib.hid (delemNewP [] w.heap.size (fun b => b = w.heap.size) (fun _ => True) (w.alloc (.cells #[.slice none 0 0] 83)) 1 [] [] (.slice none 0 0) ⟨.slice none 0 0, [], rfl, rfl, by simp, World.cell?_alloc_mark w _ _ (0, 0) 0, by rw [World.frozen?_alloc_mark]; rfl, ⟨rfl, .inl ⟨rfl, rfl⟩⟩, fun g e => (by cases e), fun q hq => absurd hq (by simp), fun q hq => absurd hq (by simp), fun q hq => absurd hq (by simp), fun i j hi => absurd hi (by simp)⟩ (fun b e => by simp [e]) (by simp) (AttrsP.nil _ _ _ _) (by simp))
  go_enter Try.func8, Try.ntmps8
  go_wp2_with fail
  refine HE.out.mono ?_
  rintro e w2 ⟨rfl, d2, t2⟩
  have HD := Lib.hid d2
  have HT := Lib.hid t2
  clear d2 t2
  go_wp2_with fail
  go_ret
  refine ⟨_, rfl, HD.out.mono ?_, ((Below.refl _ w).alloc (Nat.le_refl _) _).trans (HT.out.below (by simp) (fun b hb e => by omega))⟩
  rintro b _ (rfl | k)
  · exact Nat.le_refl _
  · simp at k; omega
end Go.Proofs.Ytbadckkcjjfnoaa
