/-
  The walk of the laws' known (chapter 6): true, and nothing old is changed. A Doc behind calls.
-/
import Derived.Test.YtbadckkcjjfnoaaDPWr
import Derived.Test.YtbadckkcjjfnoaaDPTree3
namespace Go.Proofs.Ytbadckkcjjfnoaa
open Go.RowKit

/-- A Doc that was made since w0. -/
structure DocB (w0 W : World) (B : Nat) (S : List PN) : Prop where
  doc : DocM (fun b => w0.heap.size ≤ b ∧ b < W.heap.size) W B S
  below : Below w0.heap.size w0 W
theorem DocB.adds {w0 W W' : World} {B : Nat} {S S' : List PN} {v : Value} {e : Ending} (h : DocB w0 W B S) (ha : Adds (fun b => w0.heap.size ≤ b ∧ b < W.heap.size) W B S' v e W') : e = .returned v ∧ DocB w0 W' B S' := by
  obtain ⟨he, d, t⟩ := ha
  refine ⟨he, d.mono ?_, h.below.trans (t.below h.below.size (fun b hb k => by omega))⟩
  rintro b hb (k | k)
  · exact ⟨k.1, hb⟩
  · exact ⟨by have := h.below.size; omega, hb⟩
theorem DocB.ties {w0 W W' : World} {B : Nat} {S S' : List PN} {v : Value} {e : Ending} (h : DocB w0 W B S) (ha : Ties (fun b => w0.heap.size ≤ b ∧ b < W.heap.size) W B S' v e W') : e = .returned v ∧ DocB w0 W' B S' := by
  obtain ⟨he, d, t⟩ := ha
  exact ⟨he, d.mono (fun _ hb k => ⟨k.1, hb⟩), h.below.trans (t.below h.below.size (fun b hb k => by omega))⟩
theorem DocB.on {w0 W W' : World} {B : Nat} {S : List PN} (h : DocB w0 W B S) (hb : Below W.heap.size W W') : DocB w0 W' B S :=
  ⟨(h.doc.below hb).mono (fun _ hl k => ⟨k.1, hl⟩), h.below.trans (hb.mono h.below.size)⟩
theorem bnew (w : World) : Calls Try.prog 8 #[] w (fun e w' => ∃ B, e = .returned (.pointer (some ⟨B, 0, none⟩)) ∧ DocB w w' B [elemPN 1 [] []]) := by
  refine (dnewP w).mono ?_
  rintro e w1 ⟨B, rfl, d, b⟩
  exact ⟨B, rfl, d.mono (fun _ hx k => ⟨k, hx⟩), b⟩
theorem bwrite {w0 W : World} {B : Nat} {S : List PN} (h : DocB w0 W B S) (s : List UInt8) (up ahead : Int) (hs : S.length ≤ 4294967296) (hl : s.length ≤ 4294967296) (ht : ∀ x ∈ S, x.text.length ≤ 4294967296) (h0 : 0 < S.length) (ho : okWrite S s up ahead = true) :
    Calls Try.prog 15 #[.pointer (some ⟨B, 0, none⟩), .string ⟨s.toArray⟩, .int .i64 up, .int .i64 ahead] W (fun e w' => e = .returned (.bool (pWrite S s up ahead).2) ∧ DocB w0 w' B (pWrite S s up ahead).1) :=
  (dwriteP S B _ W s up ahead h.doc (fun _ k => k.2) hs hl ht h0 ho).mono fun _ _ k => h.adds k
theorem belem {w0 W : World} {B : Nat} {S : List PN} (h : DocB w0 W B S) (P : Nat → Prop) (sp : Int) (nm : List UInt8) (l : List (List UInt8 × List UInt8)) (v : Value) (hs : S.length ≤ 4294967296) (ha : AttrsP P W v l) (hl : l.length ≤ 4294967296) :
    Calls Try.prog 13 #[.pointer (some ⟨B, 0, none⟩), .int .i64 sp, .string ⟨nm.toArray⟩, v] W (fun e w' => e = .returned (.int .i64 (S.length : Int)) ∧ DocB w0 w' B (S ++ [elemPN sp nm l])) :=
  (delemNewP S B _ P W sp nm l v h.doc (fun _ k => k.2) hs ha hl).mono fun _ _ k => h.adds k
theorem bnote {w0 W : World} {B : Nat} {S : List PN} (h : DocB w0 W B S) (s : List UInt8) (hs : S.length ≤ 4294967296) (hl : s.length ≤ 4294967296) :
    Calls Try.prog 57 #[.pointer (some ⟨B, 0, none⟩), .string ⟨s.toArray⟩] W (fun e w' => e = .returned (.int .i64 (S.length : Int)) ∧ DocB w0 w' B (S ++ [notePN 3 s])) :=
  (dnoteP S B _ W s h.doc (fun _ k => k.2) hs hl).mono fun _ _ k => h.adds k
theorem bput {w0 W : World} {B : Nat} {S : List PN} (h : DocB w0 W B S) (f : Nat) (n up ahead : Int) (b : Bool) (h0 : 0 < S.length) (ho : okPut S f n up ahead b = true) :
    Calls Try.prog 14 #[.pointer (some ⟨B, 0, none⟩), .int .i64 n, .int .i64 up, .int .i64 ahead] W (fun e w' => e = .returned (.bool (pPut S n up ahead b).2) ∧ DocB w0 w' B (pPut S n up ahead b).1) :=
  (dputP S B _ W f n up ahead b h.doc h0 ho).mono fun _ _ k => h.ties k
theorem btake {w0 W : World} {B : Nat} {S : List PN} (h : DocB w0 W B S) (n : Int) (h0 : 0 < S.length) (ho : pUp S n = -1 ∨ okUnlink S n = true) :
    Calls Try.prog 59 #[.pointer (some ⟨B, 0, none⟩), .int .i64 n] W (fun e w' => e = .returned (.bool (pTake S n).2) ∧ DocB w0 w' B (pTake S n).1) :=
  (dtakeP S B _ W n h.doc h0 ho).mono fun _ _ k => h.ties k
theorem bsize {w0 W : World} {B : Nat} {S : List PN} (h : DocB w0 W B S) : Calls Try.prog 54 #[.pointer (some ⟨B, 0, none⟩)] W (Gives (.int .i64 (S.length : Int)) W) := by
  obtain ⟨p, cap, hr⟩ := h.doc.reads
  exact dsizeP S B W p cap hr
theorem bup {w0 W : World} {B : Nat} {S : List PN} (h : DocB w0 W B S) (n : Int) : Calls Try.prog 67 #[.pointer (some ⟨B, 0, none⟩), .int .i64 n] W (Gives (.int .i64 (pUp S n)) W) := by
  obtain ⟨p, cap, hr⟩ := h.doc.reads
  exact dupP S B W p cap n hr
theorem btree {w0 W : World} {B : Nat} {S : List PN} (h : DocB w0 W B S) (kf f : Nat) (n : Int) (r0 row : List Int) (ends : List Nat) (hk : pKidsA S kf n = some r0) (hb : pBfs S kf f r0 [r0.length] 0 = some (row, ends)) (hs : row.length ≤ 4294967296) (ha : ∀ x ∈ S, x.attrs.length ≤ 4294967296) :
    Calls Try.prog 16 #[.pointer (some ⟨B, 0, none⟩), .int .i64 n] W (fun e w' => ∃ v, e = .returned v ∧ NodesP (fun b => W.heap.size ≤ b) w' v (foF S row ends (row.length + 1) 0 r0.length) ∧ Below W.heap.size W w') :=
  dtreeP S B _ W kf f n r0 row ends h.doc (fun _ k => k.2) hk hb hs ha

def kn0 : List PN := [elemPN 1 [] []]
def kn1 : List PN := (pWrite kn0 [97] 0 (-1)).1
def kn2 : List PN := (pWrite kn1 [98] 0 (-1)).1
set_option maxHeartbeats 1000000 in
set_option maxRecDepth 100000 in
theorem known6_yes (w : World) : Calls Try.prog 7 #[] w (Yes w) := by
  have HN := Lib.hid (bnew w)
  have HW1 : Hid (∀ W B, DocB w W B kn0 → Calls Try.prog 15 #[.pointer (some ⟨B, 0, none⟩), .string ⟨#[97]⟩, .int .i64 0, .int .i64 (-1)] W (fun e w' => e = .returned (.bool true) ∧ DocB w w' B kn1)) := Lib.hid fun W B h => (bwrite h [97] 0 (-1) (by decide) (by decide) (by decide) (by decide) (by decide)).mono fun _ _ k => k
  have HW2 : Hid (∀ W B, DocB w W B kn1 → Calls Try.prog 15 #[.pointer (some ⟨B, 0, none⟩), .string ⟨#[98]⟩, .int .i64 0, .int .i64 (-1)] W (fun e w' => e = .returned (.bool true) ∧ DocB w w' B kn2)) := Lib.hid fun W B h => (bwrite h [98] 0 (-1) (by decide) (by decide) (by decide) (by decide) (by decide)).mono fun _ _ k => k
  have HT : Hid (∀ W B, DocB w W B kn2 → Calls Try.prog 16 #[.pointer (some ⟨B, 0, none⟩), .int .i64 0] W (fun e w' => ∃ g o c, e = .returned (.slice (some ⟨g, o, none⟩) 1 c) ∧ w'.cell? ⟨g, o + 4, none⟩ = some (.string ⟨#[97, 98]⟩) ∧ W.heap.size ≤ g ∧ g < w'.heap.size ∧ DocB w w' B kn2)) := by
    refine Lib.hid fun W B h => (btree h 9 9 0 [1] [1] [1, 1] (by decide) (by decide) (by decide) (by decide)).mono ?_
    rintro e w' ⟨v, rfl, hn, hb⟩
    obtain ⟨p, cap, rfl, ht⟩ := hn
    obtain ⟨g, o, va, vk, rfl, hP, hg, h7, _⟩ := ht.head
    exact ⟨g, o, cap, rfl, h7.c4, hP, hg, h.on hb⟩
  have HP : Hid (∀ W B, DocB w W B kn2 → Calls Try.prog 14 #[.pointer (some ⟨B, 0, none⟩), .int .i64 0, .int .i64 0, .int .i64 (-1)] W (fun e w' => e = .returned (.bool false) ∧ DocB w w' B kn2)) := Lib.hid fun W B h => (bput h 9 0 0 (-1) false (by decide) (by decide)).mono fun _ _ k => k
  have HS : Hid (∀ W B, DocB w W B kn2 → Calls Try.prog 54 #[.pointer (some ⟨B, 0, none⟩)] W (Gives (.int .i64 2) W)) := Lib.hid fun W B h => bsize h
  go_enter Try.func7, Try.ntmps7
  go_wp2_with fail
  refine HN.out.mono ?_
  rintro e w1 ⟨B, rfl, h1⟩
  have H1 := Lib.hid h1
  clear h1
  go_wp2_with fail
  refine (HW1.out w1 B H1.out).mono ?_
  rintro e w2 ⟨rfl, h2⟩
  have H2 := Lib.hid h2
  clear h2
  go_wp2_with fail
  refine (HW2.out w2 B H2.out).mono ?_
  rintro e w3 ⟨rfl, h3⟩
  have H3 := Lib.hid h3
  clear h3
  go_wp2_with fail
  refine (HT.out w3 B H3.out).mono ?_
  rintro e w4 ⟨g, o, c, rfl, hc, hg, hg2, h4⟩
  have H4 := Lib.hid h4
  clear h4
  go_wp2_with fail
  refine (HP.out w4 B H4.out).mono ?_
  rintro e w5 ⟨rfl, h5⟩
  have H5 := Lib.hid h5
  clear h5
  go_wp2_with fail
  refine (HS.out w5 B H5.out).mono ?_
  rintro e w6 ⟨rfl, rfl⟩
  go_wp2_with fail
  go_ret
  exact ⟨rfl, H5.out.below⟩
end Go.Proofs.Ytbadckkcjjfnoaa
