/-
  The reference's Write for nodes by numbers. Any nodes, not too many.
-/
import Derived.Test.YtkoijkdhmfnlbaaDRefW
import Derived.Test.YtkoijkdhmfnlbaaDRefE
namespace Go.Proofs.Ytkoijkdhmfnlbaa
open Go.RowKit

theorem RStep6.trans {M P M' P' : Nat → Prop} {w w1 w2 : World} {B : Nat} {S2 : List Cl} (hm : ∀ b, b < w.heap.size → M' b → M b) (hp : ∀ b, b < w.heap.size → P' b → P b) (t : Turns M w w1) (h : RStep6 w1 M' P' B S2 w2) : RStep6 w M P B S2 w2 := by
  obtain ⟨M2, P2, h1, h2, h3, h4⟩ := h
  have hz := t.size
  refine ⟨M2, P2, h1, fun b hb k => hm b hb (h2 b (by omega) k), fun b hb k => hp b hb (h3 b (by omega) k), t.trans ⟨h4.os, h4.tape, h4.output, h4.size, fun b hb k => h4.block b hb fun q => k ?_⟩⟩
  rcases Nat.lt_or_ge b w.heap.size with h' | h'
  · exact .inl (hm b h' q)
  · exact .inr h'
/-- A new text. -/
def textNd (s : List UInt8) : Nd := ⟨2, 0, [], [], s, 0⟩
/-- What Write answers and leaves. -/
def WriteOut6 (S : List Cl) (w : World) (M P : Nat → Prop) (B : Nat) (s : List UInt8) (up ahead : Int) (e : Ending) (w' : World) : Prop := e = .returned (.bool (writeD S s up ahead).2) ∧ RStep6 w M P B (writeD S s up ahead).1 w'
theorem WriteOut6.is {S S' : List Cl} {w w' : World} {M P : Nat → Prop} {B : Nat} {s : List UInt8} {up ahead : Int} {b : Bool} (h : writeD S s up ahead = (S', b)) (hs : RStep6 w M P B S' w') : WriteOut6 S w M P B s up ahead (.returned (.bool b)) w' := ⟨by rw [h], by rw [h]; exact hs⟩
theorem put_laid {S : List Cl} (hI : Inv S) (d : Nd) {u i : Nat} {ahead : Int} {b : Bool} (hu : u < S.length) (he : S[u].d.kind = 1) (hsp : spot S u ahead = some i) (hb : b = true ↔ Anc (lay S d) u S.length) : putD (lay S d) (S.length : Int) (u : Int) ahead b = (link (lay S d) S.length u i, true) := by
  have hbf : b = false := by
    cases b with
    | false => rfl
    | true => exact absurd (hb.1 rfl) (anc_new hI d hu)
  subst hbf
  have hnew := lay_new S d
  have hold := lay_old (d := d) (List.getElem?_eq_getElem hu)
  have hl := lay_len S d
  have hpos : 0 < S.length := by omega
  have h1 : isN (lay S d) (S.length : Int) = true := (isN_iff _ _).2 ⟨by omega, by omega⟩
  have h2 : isEl (lay S d) (u : Int) = true := by
    unfold isEl ndOf
    rw [(isN_iff _ _).2 ⟨by omega, by omega⟩, show ((u : Int)).toNat = u from rfl, hold]
    simp [he]
  have h3 : upAt (lay S d) S.length = none := by unfold upAt; rw [hnew]
  have h4 : rowAt (lay S d) u = rowAt S u := by unfold rowAt; rw [hold, List.getElem?_eq_getElem hu]
  have h5 : spot (lay S d) u ahead = some i := by unfold spot at hsp ⊢; rw [h4]; exact hsp
  have h6 : ((S.length : Int) == 0) = false := by rw [beq_eq_false_iff_ne]; omega
  unfold putD
  rw [if_pos (by rw [h1, h2, h6, show ((S.length : Int)).toNat = S.length from rfl, h3]; rfl), show ((u : Int)).toNat = u from rfl, h5]
  rfl
theorem lay_rows {S : List Cl} {d : Nd} (h : ∀ c ∈ S, c.row.length ≤ 100000) : ∀ c ∈ lay S d, c.row.length ≤ 100000 := by
  intro c hc
  unfold lay at hc
  rcases List.mem_append.1 hc with hc | hc
  · exact h c hc
  · obtain rfl := List.mem_singleton.1 hc
    exact Nat.zero_le _
/-- Put behind lay. -/
theorem rput_laid (S : List Cl) (B : Nat) (M P : Nat → Prop) (w w1 : World) (d : Nd) (u i : Nat) (ahead : Int) (h : RStep6 w M P B (lay S d) w1) (hI : Inv S) (hrow : ∀ c ∈ S, c.row.length ≤ 100000) (hu : u < S.length) (he : S[u].d.kind = 1) (hsp : spot S u ahead = some i) :
    Calls Try.prog 24 #[.pointer (some ⟨B, 0, none⟩), .int .i64 (S.length : Int), .int .i64 (u : Int), .int .i64 ahead] w1 (fun e w2 => e = .returned (.bool true) ∧ RStep6 w M P B (link (lay S d) S.length u i) w2) := by
  obtain ⟨M1, P1, hD, hm, hp, ht⟩ := h
  have hI2 : Inv (lay S d) := by
    obtain ⟨hh, hi⟩ := hI
    exact ⟨hh, hi.lay _⟩
  refine (rputP6 (lay S d) B M1 P1 w1 (S.length : Int) (u : Int) ahead hD hI2 (lay_rows hrow)).mono ?_
  rintro e w2 ⟨b, hb, rfl, hs⟩
  have hl := lay_len S d
  have hold := lay_old (d := d) (List.getElem?_eq_getElem hu)
  have hb' := hb ((isN_iff _ _).2 ⟨by omega, by omega⟩) (by
    unfold isEl ndOf
    rw [(isN_iff _ _).2 ⟨by omega, by omega⟩, show ((u : Int)).toNat = u from rfl, hold]
    simp [he])
  rw [put_laid hI d hu he hsp hb'] at hs ⊢
  exact ⟨rfl, hs.trans hm hp ht⟩
end Go.Proofs.Ytkoijkdhmfnlbaa
