/-
  Both Docs side by side: each kind of call answers alike, and leaves them alike.
-/
import Derived.Test.YtkoijkdhmfnlbaaDTwo
namespace Go.Proofs.Ytkoijkdhmfnlbaa
open Go.RowKit

theorem tie_bool (p : Prop) : ∃ b : Bool, (b = true ↔ p) := by
  by_cases h : p
  · exact ⟨true, by simp [h]⟩
  · exact ⟨false, by simp [h]⟩
theorem putD_tie {C : List Cl} {n up ahead : Int} {b c : Bool} (h : isN C n = true → isEl C up = true → b = c) : putD C n up ahead b = putD C n up ahead c := by
  unfold putD
  cases h1 : isN C n
  · rfl
  · cases h2 : isEl C up
    · rfl
    · rw [h h1 h2]
theorem moveD_tie {C : List Cl} {f t : Int} {b c : Bool} (h : isEl C f = true → isEl C t = true → b = c) : moveD C f t b = moveD C f t c := by
  unfold moveD
  cases h1 : isEl C f
  · rfl
  · cases h2 : isEl C t
    · rfl
    · rw [h h1 h2]
theorem two_put {w0 : World} {Bd Br k : Nat} {S : List PN} {C : List Cl} (F : Fine S C k) (hk : k ≤ 1000) (n up ahead : Int) : ∃ (v : Bool) (S' : List PN) (C' : List Cl), Fine S' C' (k + 1) ∧
    (∀ (X : Nat → Prop) (W : World), Two X w0 W Bd Br S C → Calls Try.prog 12 #[.pointer (some ⟨Bd, 0, none⟩), .int .i64 n, .int .i64 up, .int .i64 ahead] W (fun e w' => e = .returned (.bool v) ∧ Two X w0 w' Bd Br S' C ∧ Kept X W w')) ∧
    (∀ (X : Nat → Prop) (W : World), Two X w0 W Bd Br S' C → Calls Try.prog 24 #[.pointer (some ⟨Br, 0, none⟩), .int .i64 n, .int .i64 up, .int .i64 ahead] W (fun e w' => e = .returned (.bool v) ∧ Two X w0 w' Bd Br S' C' ∧ Kept X W w')) := by
  obtain ⟨b', hb'⟩ := tie_bool (Anc C up.toNat n.toNat)
  obtain ⟨f, b, ok, ans, hL⟩ := like_put F.like F.inv n up ahead b' (fun _ _ => hb')
  have hS : 0 < S.length := by rw [F.like.len]; exact F.pos
  obtain ⟨h1, h2⟩ := same_d (nodes_putD (C := C) (n := n) (up := up) (ahead := ahead) (b := b'))
  refine ⟨(pPut S n up ahead b).2, (pPut S n up ahead b).1, (putD C n up ahead b').1, F.next hL (putD_inv F.inv n up ahead b' hb') h1 h2, fun X W h => ?_, fun X W h => ?_⟩
  · exact h.callP fun M hd _ => (dputP S Bd M W f n up ahead b hd hS ok).mono fun _ _ q => q.adds
  · refine h.callR fun Mr Pr hr => (rputP6 C Br Mr Pr W n up ahead hr F.inv (F.rows hk)).mono ?_
    rintro e w' ⟨c, hc, he, hs⟩
    have e1 : putD C n up ahead c = putD C n up ahead b' := putD_tie fun x y => by rw [Bool.eq_iff_iff, hc x y, hb']
    rw [e1] at he hs
    rw [ans]
    exact ⟨he, hs⟩
theorem two_take {w0 : World} {Bd Br k : Nat} {S : List PN} {C : List Cl} (F : Fine S C k) (hk : k ≤ 1000) (n : Int) : ∃ (v : Bool) (S' : List PN) (C' : List Cl), Fine S' C' (k + 1) ∧
    (∀ (X : Nat → Prop) (W : World), Two X w0 W Bd Br S C → Calls Try.prog 19 #[.pointer (some ⟨Bd, 0, none⟩), .int .i64 n] W (fun e w' => e = .returned (.bool v) ∧ Two X w0 w' Bd Br S' C ∧ Kept X W w')) ∧
    (∀ (X : Nat → Prop) (W : World), Two X w0 W Bd Br S' C → Calls Try.prog 20 #[.pointer (some ⟨Br, 0, none⟩), .int .i64 n] W (fun e w' => e = .returned (.bool v) ∧ Two X w0 w' Bd Br S' C' ∧ Kept X W w')) := by
  obtain ⟨ok, ans, hL⟩ := like_take F.like F.inv n
  have hS : 0 < S.length := by rw [F.like.len]; exact F.pos
  obtain ⟨h1, h2⟩ := same_d (nodes_takeD (C := C) (n := n))
  refine ⟨(pTake S n).2, (pTake S n).1, (takeD C n).1, F.next hL (takeD_inv F.inv n) h1 h2, fun X W h => ?_, fun X W h => ?_⟩
  · exact h.callP fun M hd _ => (dtakeP S Bd M W n hd hS ok).mono fun _ _ q => q.adds
  · rw [ans]
    exact h.callR fun Mr Pr hr => (rtakeP6 C Br Mr Pr W n hr F.inv (F.rows hk)).mono fun _ _ q => q
theorem two_move {w0 : World} {Bd Br k : Nat} {S : List PN} {C : List Cl} (F : Fine S C k) (hk : k ≤ 1000) (x y : Int) : ∃ (v : Bool) (S' : List PN) (C' : List Cl), Fine S' C' (k + 1) ∧
    (∀ (X : Nat → Prop) (W : World), Two X w0 W Bd Br S C → Calls Try.prog 21 #[.pointer (some ⟨Bd, 0, none⟩), .int .i64 x, .int .i64 y] W (fun e w' => e = .returned (.bool v) ∧ Two X w0 w' Bd Br S' C ∧ Kept X W w')) ∧
    (∀ (X : Nat → Prop) (W : World), Two X w0 W Bd Br S' C → Calls Try.prog 22 #[.pointer (some ⟨Br, 0, none⟩), .int .i64 x, .int .i64 y] W (fun e w' => e = .returned (.bool v) ∧ Two X w0 w' Bd Br S' C' ∧ Kept X W w')) := by
  obtain ⟨b', hb'⟩ := tie_bool (Anc C y.toNat x.toNat)
  obtain ⟨f, b, S2, ok1, ok2, ans, hL⟩ := like_move F.like F.inv x y b' (fun _ _ => hb')
  have hS : 0 < S.length := by rw [F.like.len]; exact F.pos
  obtain ⟨h1, h2⟩ := same_d (nodes_moveD (C := C) (f := x) (t := y) (b := b'))
  refine ⟨(pMove S S2 x y b).2, (pMove S S2 x y b).1, (moveD C x y b').1, F.next hL (moveD_inv F.inv x y b' hb') h1 h2, fun X W h => ?_, fun X W h => ?_⟩
  · exact h.callP fun M hd _ => (dmoveP S S2 Bd M W f x y b hd hS ok1 ok2).mono fun _ _ q => q.adds
  · refine h.callR fun Mr Pr hr => (rmoveP6 C Br Mr Pr W x y hr F.inv (F.rows hk)).mono ?_
    rintro e w' ⟨c, hc, he, hs⟩
    have e1 : moveD C x y c = moveD C x y b' := moveD_tie fun p q => by rw [Bool.eq_iff_iff, hc p q, hb']
    rw [e1] at he hs
    rw [ans]
    exact ⟨he, hs⟩
theorem two_write {w0 : World} {Bd Br k : Nat} {S : List PN} {C : List Cl} (F : Fine S C k) (hk : k ≤ 1000) (s : List UInt8) (up ahead : Int) (hs : s.length ≤ 50) : ∃ (v : Bool) (S' : List PN) (C' : List Cl), Fine S' C' (k + 1) ∧
    (∀ (X : Nat → Prop) (W : World), Two X w0 W Bd Br S C → Calls Try.prog 10 #[.pointer (some ⟨Bd, 0, none⟩), .string ⟨s.toArray⟩, .int .i64 up, .int .i64 ahead] W (fun e w' => e = .returned (.bool v) ∧ Two X w0 w' Bd Br S' C ∧ Kept X W w')) ∧
    (∀ (X : Nat → Prop) (W : World), Two X w0 W Bd Br S' C → Calls Try.prog 23 #[.pointer (some ⟨Br, 0, none⟩), .string ⟨s.toArray⟩, .int .i64 up, .int .i64 ahead] W (fun e w' => e = .returned (.bool v) ∧ Two X w0 w' Bd Br S' C' ∧ Kept X W w')) := by
  obtain ⟨ok, ans, hL⟩ := like_write F.like F.inv s up ahead
  have hl := F.like.len
  have hlen := F.len
  have hS : 0 < S.length := by rw [hl]; exact F.pos
  obtain ⟨h1, h2⟩ := write_d (C := C) (s := s) (up := up) (ahead := ahead) hs
  refine ⟨(pWrite S s up ahead).2, (pWrite S s up ahead).1, (writeD C s up ahead).1, F.next hL (writeD_inv F.inv s up ahead) h1 h2, fun X W h => ?_, fun X W h => ?_⟩
  · exact h.callP fun M hd hM => dwriteP S Bd M W s up ahead hd hM (by omega) (by omega) (fun x hx => by have := (F.node x hx).1; omega) hS ok
  · rw [ans]
    exact h.callR fun Mr Pr hr => (rwriteP6 C Br Mr Pr W s up ahead hr F.inv (F.rows hk) (by omega) (fun c hc => by have := F.text c hc; omega) (by omega)).mono fun _ _ q => q
theorem two_note {w0 : World} {Bd Br k : Nat} {S : List PN} {C : List Cl} (F : Fine S C k) (hk : k ≤ 1000) (s : List UInt8) (hs : s.length ≤ 50) : ∃ (v : Int) (S' : List PN) (C' : List Cl), Fine S' C' (k + 1) ∧
    (∀ (X : Nat → Prop) (W : World), Two X w0 W Bd Br S C → Calls Try.prog 17 #[.pointer (some ⟨Bd, 0, none⟩), .string ⟨s.toArray⟩] W (fun e w' => e = .returned (.int .i64 v) ∧ Two X w0 w' Bd Br S' C ∧ Kept X W w')) ∧
    (∀ (X : Nat → Prop) (W : World), Two X w0 W Bd Br S' C → Calls Try.prog 18 #[.pointer (some ⟨Br, 0, none⟩), .string ⟨s.toArray⟩] W (fun e w' => e = .returned (.int .i64 v) ∧ Two X w0 w' Bd Br S' C' ∧ Kept X W w')) := by
  have hl := F.like.len
  have hlen := F.len
  refine ⟨(S.length : Int), S ++ [notePN 3 s], lay C (noteNd s), F.lay (x := notePN 3 s) (d := noteNd s) rfl rfl rfl rfl hs (Nat.zero_le _), fun X W h => ?_, fun X W h => ?_⟩
  · exact h.callP fun M hd hM => dnoteP S Bd M W s hd hM (by omega) (by omega)
  · rw [hl]
    exact h.callR fun Mr Pr hr => rnoteNewP C Br Mr Pr W s hr (by omega)
theorem two_elem {w0 : World} {Bd Br k : Nat} {S : List PN} {C : List Cl} (F : Fine S C k) (hk : k ≤ 1000) (sp : Int) (nm : List UInt8) (l : List (List UInt8 × List UInt8)) (va : Value) (hl1 : l.length = 1) : ∃ (v : Int) (S' : List PN) (C' : List Cl), Fine S' C' (k + 1) ∧
    (∀ (X : Nat → Prop) (W : World), Two X w0 W Bd Br S C → AttrsP (fun _ => True) W va l → Calls Try.prog 14 #[.pointer (some ⟨Bd, 0, none⟩), .int .i64 sp, .string ⟨nm.toArray⟩, va] W (fun e w' => e = .returned (.int .i64 v) ∧ Two X w0 w' Bd Br S' C ∧ Kept X W w')) ∧
    (∀ (X : Nat → Prop) (W : World), Two X w0 W Bd Br S' C → AttrsP (fun _ => True) W va l → Calls Try.prog 16 #[.pointer (some ⟨Br, 0, none⟩), .int .i64 sp, .string ⟨nm.toArray⟩, va] W (fun e w' => e = .returned (.int .i64 v) ∧ Two X w0 w' Bd Br S' C' ∧ Kept X W w')) := by
  have hl := F.like.len
  have hlen := F.len
  refine ⟨(S.length : Int), S ++ [elemPN sp nm l], lay C (elemNd sp nm l), F.lay (x := elemPN sp nm l) (d := elemNd sp nm l) rfl rfl rfl rfl (Nat.zero_le _) (Nat.le_of_eq hl1), fun X W h ha => ?_, fun X W h ha => ?_⟩
  · exact h.callP fun M hd hM => delemNewP S Bd M _ W sp nm l va hd hM (by omega) ha (by omega)
  · rw [hl]
    refine h.callR fun Mr Pr hr => relemNewP C Br Mr Pr _ W sp nm l va hr (by omega) ha (by omega) ?_
    intro p c e ep
    obtain ⟨p', c', e2, hx⟩ := ha
    obtain ⟨g, o, e3, _⟩ := hx (by omega)
    rw [e] at e2
    injection e2 with e4 _ _
    rw [ep, e3] at e4
    cases e4
end Go.Proofs.Ytkoijkdhmfnlbaa
