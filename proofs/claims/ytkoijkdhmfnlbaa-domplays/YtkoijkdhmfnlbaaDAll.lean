/-
  What the texts of chapters 5 and 6 share: what a call tells; a number within a bound; texts as values. No program is walked.
  Nodes by numbers (chapter 6), of no program: rows of nodes, what each call makes of them, and what holds behind each. No conditions.
  Rows of nodes (chapter 6), of no program: how deep, sound, same, numbered; their texts. No conditions.
  Rows of nodes in memory (chapter 6). No program is walked.
-/
import Derived.WalkKit
import Derived.BigCall
import Derived.Test.YtkoijkdhmfnlbaaProg
import Derived.WalkLawsBesides
import Derived.Lib.Hide
import Derived.Deep.AppendLies
import Derived.Laws.OwnMore
import Derived.Lib.SmallJoins
import Derived.Deep.QuietTactic
import Derived.BigQuiet
import Derived.Deep.Slices
import Derived.Deep.RegionWith
import Derived.Deep.RegionLaw
import Derived.Deep.RegionHeld3
import Derived.ChangeSame
namespace Go.Proofs.Ytkoijkdhmfnlbaa
open Go.RowKit

/-- What a call tells: a value, new memory beside it. -/
def Brings (v : Value) (w : World) (e : Ending) (w' : World) : Prop := e = .returned v ∧ Below w.heap.size w w'
/-- What a call tells that only computes. -/
def Gives (v : Value) (w : World) (e : Ending) (w' : World) : Prop := e = .returned v ∧ w = w'
/-- A law holds: true, and nothing old is changed. -/
def Yes (w : World) (e : Ending) (w' : World) : Prop := e = .returned (.bool true) ∧ Below w.heap.size w w'
theorem ret_is {k : IntKind} {a b : Int} (h : a = b) : Ending.returned (.int k a) = .returned (.int k b) := by rw [h]
def strV (l : List UInt8) : Value := .string ⟨l.toArray⟩
def Within (n : Int) (m : Nat) : Nat := (n % (m : Int)).toNat
theorem within_lt (n : Int) (m : Nat) (h : 1 ≤ m) : Within n m < m ∧ ((Within n m : Nat) : Int) = n % (m : Int) := by
  unfold Within
  have g1 := Int.emod_nonneg n (show (m : Int) ≠ 0 by omega)
  have g2 := Int.emod_lt_of_pos n (show (0 : Int) < (m : Int) by omega)
  omega
theorem tmod_facts (n : Int) (m : Nat) (hn : n < 0) (hm : 1 ≤ m) : -(m : Int) < n.tmod m ∧ n.tmod m ≤ 0 ∧ (n.tmod m < 0 → n.tmod m + m = n % (m : Int)) ∧ (¬ n.tmod m < 0 → n.tmod m = n % (m : Int)) := by
  have g1 := Int.emod_nonneg n (show (m : Int) ≠ 0 by omega)
  have g2 := Int.emod_lt_of_pos n (show (0 : Int) < (m : Int) by omega)
  have e1 := Int.emod_add_mul_ediv n (m : Int)
  have e2 := Int.tmod_add_mul_tdiv n (m : Int)
  obtain ⟨a, rfl⟩ : ∃ a : Int, n = -a := ⟨-n, by omega⟩
  rw [Int.neg_tmod, Int.tmod_eq_emod_of_nonneg (by omega)] at *
  have k1 := Int.emod_nonneg a (show (m : Int) ≠ 0 by omega)
  have k2 := Int.emod_lt_of_pos a (show (0 : Int) < (m : Int) by omega)
  have hmod : (-a) % (m : Int) = if a % (m : Int) = 0 then 0 else (m : Int) - a % (m : Int) := by
    split
    · rename_i h
      exact Int.emod_eq_zero_of_dvd (Int.dvd_neg.2 (Int.dvd_of_emod_eq_zero h))
    · rename_i h
      have : (-a) % (m : Int) = ((m : Int) - a % (m : Int)) % (m : Int) := by
        have h3 : -a = (m : Int) - a % (m : Int) + (m : Int) * (-(a / (m : Int)) - 1) := by
          have := Int.emod_add_mul_ediv a (m : Int)
          rw [Int.mul_sub, Int.mul_neg]
          omega
        rw [h3, Int.add_mul_emod_self_left]
      rw [this, Int.emod_eq_of_lt (by omega) (by omega)]
  refine ⟨by omega, by omega, fun h => ?_, fun h => ?_⟩
  · rw [hmod, if_neg (by omega)]; omega
  · rw [hmod, if_pos (by omega)]; omega

end Go.Proofs.Ytkoijkdhmfnlbaa
namespace Go.Proofs.Ytkoijkdhmfnlbaa

/-- A node without its kids. -/
structure Nd where
  kind : Int
  space : Int
  name : List UInt8
  attrs : List (List UInt8 × List UInt8)
  text : List UInt8
  frm : Int
deriving DecidableEq

/-- A row of nodes, each with its kids. -/
inductive Fo where
  | nil : Fo
  | cons (d : Nd) (kids rest : Fo) : Fo
deriving DecidableEq

namespace Fo
def len : Fo → Nat
  | nil => 0
  | cons _ _ r => r.len + 1
def toList : Fo → List (Nd × Fo)
  | nil => []
  | cons d k r => (d, k) :: r.toList
def ofList : List (Nd × Fo) → Fo
  | [] => nil
  | x :: l => cons x.1 x.2 (ofList l)
theorem toList_len : ∀ f : Fo, f.toList.length = f.len
  | nil => rfl
  | cons _ _ r => by simp [toList, len, toList_len r]
theorem to_of : ∀ l, (ofList l).toList = l
  | [] => rfl
  | x :: l => by simp [ofList, toList, to_of l]
theorem of_to : ∀ f : Fo, ofList f.toList = f
  | nil => rfl
  | cons d k r => by simp [ofList, toList, of_to r]
theorem of_len (l : List (Nd × Fo)) : (ofList l).len = l.length := by rw [← toList_len, to_of]
end Fo

/-- A node by its number: what it is, whose kid it is, its kids. -/
structure Cl where
  d : Nd
  up : Option Nat
  row : List Nat

/-- m is n, or n is below it. -/
inductive Anc (S : List Cl) : Nat → Nat → Prop where
  | here (n : Nat) : Anc S n n
  | step {n m u : Nat} {c : Cl} (h : S[n]? = some c) (hu : c.up = some u) (ha : Anc S u m) : Anc S n m
theorem Anc.tail {S : List Cl} {a x u : Nat} {c : Cl} (h : Anc S a x) (hx : S[x]? = some c) (hu : c.up = some u) : Anc S a u := by
  induction h with
  | here n => exact .step hx hu (.here _)
  | step h1 h2 _ ih => exact .step h1 h2 (ih hx)

/-- What holds of all nodes behind every call; h: how high they stand. -/
structure InvH (S : List Cl) (h : Nat → Nat) : Prop where
  pos : 0 < S.length
  upok : ∀ (n : Nat) (c : Cl) (u : Nat), S[n]? = some c → c.up = some u → (∃ e : Cl, S[u]? = some e ∧ n ∈ e.row) ∧ h n < h u
  rowok : ∀ (u : Nat) (e : Cl) (k : Nat), S[u]? = some e → k ∈ e.row → ∃ c : Cl, S[k]? = some c ∧ c.up = some u
  nodup : ∀ (u : Nat) (e : Cl), S[u]? = some e → e.row.Nodup
def Inv (S : List Cl) : Prop := ∃ h, InvH S h

theorem lt_of_some {α : Type} {l : List α} {n : Nat} {x : α} (h : l[n]? = some x) : n < l.length := by
  rcases Nat.lt_or_ge n l.length with h' | h'
  · exact h'
  · rw [List.getElem?_eq_none h'] at h; cases h
theorem InvH.row_h {S : List Cl} {h : Nat → Nat} (hi : InvH S h) {u k : Nat} {e : Cl} (hu : S[u]? = some e) (hk : k ∈ e.row) : k < S.length ∧ h k < h u := by
  obtain ⟨c, hc, hcu⟩ := hi.rowok u e k hu hk
  exact ⟨lt_of_some hc, (hi.upok k c u hc hcu).2⟩

/-! ## What calls make of them -/
def rootCl : Cl := ⟨⟨1, 1, [], [], [], 0⟩, none, []⟩
def lay (S : List Cl) (d : Nd) : List Cl := S ++ [⟨d, none, []⟩]
def link (S : List Cl) (n u i : Nat) : List Cl := (S.modify u fun c => { c with row := c.row.take i ++ [n] ++ c.row.drop i }).modify n fun c => { c with up := some u }
def unlink (S : List Cl) (n u i : Nat) : List Cl := (S.modify u fun c => { c with row := c.row.take i ++ c.row.drop (i + 1) }).modify n fun c => { c with up := none }
def addText (S : List Cl) (k : Nat) (s : List UInt8) : List Cl := S.modify k fun c => { c with d := { c.d with text := c.d.text ++ s } }
def shift (S : List Cl) (f t : Nat) (row : List Nat) : List Cl := ((S.map fun c => { c with up := if c.up = some f then some t else c.up }).modify t fun c => { c with row := c.row ++ row }).modify f fun c => { c with row := [] }

theorem inv_new : InvH [rootCl] (fun _ => 0) := by
  refine ⟨by simp, ?_, ?_, ?_⟩
  · intro n c u hn hu
    match n, hn with
    | 0, hn => simp at hn; subst hn; cases hu
    | n + 1, hn => simp at hn
  · intro u e k hu hk
    match u, hu with
    | 0, hu => simp at hu; subst hu; cases hk
    | n + 1, hu => simp at hu
  · intro u e hu
    match u, hu with
    | 0, hu => simp at hu; subst hu; exact List.nodup_nil
    | n + 1, hu => simp at hu

theorem lay_old {S : List Cl} {d : Nd} {n : Nat} {c : Cl} (h : S[n]? = some c) : (lay S d)[n]? = some c := by
  unfold lay
  rw [List.getElem?_append_left (lt_of_some h), h]
theorem lay_new (S : List Cl) (d : Nd) : (lay S d)[S.length]? = some ⟨d, none, []⟩ := by
  unfold lay; simp
theorem lay_len (S : List Cl) (d : Nd) : (lay S d).length = S.length + 1 := by simp [lay]
theorem lay_inv {S : List Cl} {d : Nd} {n : Nat} {c : Cl} (h : (lay S d)[n]? = some c) : S[n]? = some c ∨ (n = S.length ∧ c = ⟨d, none, []⟩) := by
  unfold lay at h
  rw [List.getElem?_append] at h
  split at h
  · exact Or.inl h
  · rename_i hn
    have hl := lt_of_some h
    simp at hl
    have e : n = S.length := by omega
    subst e
    simp at h
    exact Or.inr ⟨rfl, h.symm⟩
theorem InvH.lay {S : List Cl} {h : Nat → Nat} (hi : InvH S h) (d : Nd) : InvH (lay S d) h := by
  refine ⟨by rw [lay_len]; omega, ?_, ?_, ?_⟩
  · intro n c u hn hu
    rcases lay_inv hn with h1 | ⟨_, rfl⟩
    · obtain ⟨⟨e, he, hm⟩, hh⟩ := hi.upok n c u h1 hu
      exact ⟨⟨e, lay_old he, hm⟩, hh⟩
    · cases hu
  · intro u e k hu hk
    rcases lay_inv hu with h1 | ⟨_, rfl⟩
    · obtain ⟨c, hc, hcu⟩ := hi.rowok u e k h1 hk
      exact ⟨c, lay_old hc, hcu⟩
    · cases hk
  · intro u e hu
    rcases lay_inv hu with h1 | ⟨_, rfl⟩
    · exact hi.nodup u e h1
    · exact List.nodup_nil

theorem link_len (S : List Cl) (n u i : Nat) : (link S n u i).length = S.length := by simp [link]
theorem link_get {S : List Cl} (n u i : Nat) {j : Nat} {c : Cl} (h : S[j]? = some c) : (link S n u i)[j]? = some ⟨c.d, if n = j then some u else c.up, if u = j then c.row.take i ++ [n] ++ c.row.drop i else c.row⟩ := by
  unfold link
  rw [List.getElem?_modify, List.getElem?_modify, h]
  by_cases h1 : n = j <;> by_cases h2 : u = j <;> simp [h1, h2]
theorem link_inv {S : List Cl} {n u i j : Nat} {c : Cl} (h : (link S n u i)[j]? = some c) : ∃ e, S[j]? = some e ∧ c = ⟨e.d, if n = j then some u else e.up, if u = j then e.row.take i ++ [n] ++ e.row.drop i else e.row⟩ := by
  have hl := lt_of_some h
  rw [link_len] at hl
  refine ⟨S[j], List.getElem?_eq_getElem hl, ?_⟩
  rw [link_get n u i (List.getElem?_eq_getElem hl)] at h
  exact (Option.some.inj h).symm
theorem mem_ins {l : List Nat} {i n k : Nat} : k ∈ l.take i ++ [n] ++ l.drop i ↔ k = n ∨ k ∈ l := by
  have : k ∈ l ↔ k ∈ l.take i ∨ k ∈ l.drop i := by
    rw [← List.mem_append, List.take_append_drop]
  rw [this]
  simp only [List.mem_append, List.mem_singleton]
  constructor
  · rintro ((h | h) | h)
    · exact Or.inr (Or.inl h)
    · exact Or.inl h
    · exact Or.inr (Or.inr h)
  · rintro (h | h | h)
    · exact Or.inl (Or.inr h)
    · exact Or.inl (Or.inl h)
    · exact Or.inr h
theorem nodup_ins {l : List Nat} {i n : Nat} (hl : l.Nodup) (hn : n ∉ l) : (l.take i ++ [n] ++ l.drop i).Nodup := by
  have hp : (l.take i ++ [n] ++ l.drop i).Perm (n :: l) := by
    have h1 : (l.take i ++ ([n] ++ l.drop i)).Perm ([n] ++ l.drop i ++ l.take i) := List.perm_append_comm
    rw [List.append_assoc]
    refine h1.trans ?_
    rw [List.append_assoc]
    refine List.Perm.cons n ?_
    have h2 : (l.drop i ++ l.take i).Perm (l.take i ++ l.drop i) := List.perm_append_comm
    rw [List.take_append_drop] at h2
    exact h2
  rw [hp.nodup_iff]
  exact List.nodup_cons.2 ⟨hn, hl⟩
theorem Inv.link {S : List Cl} (hI : Inv S) {n u : Nat} (i : Nat) {cn cu : Cl} (hn : S[n]? = some cn) (hup : cn.up = none) (hu : S[u]? = some cu) (hna : ¬ Anc S u n) : Inv (link S n u i) := by
  classical
  obtain ⟨h, hi⟩ := hI
  have hnu : n ≠ u := fun e => hna (e ▸ .here _)
  have hnin : ∀ (v : Nat) (e : Cl), S[v]? = some e → n ∉ e.row := by
    intro v e hv hm
    obtain ⟨c, hc, hcu⟩ := hi.rowok v e n hv hm
    rw [hn] at hc
    cases hc
    rw [hup] at hcu
    cases hcu
  refine ⟨fun x => if Anc S u x then h x + h n + 1 else h x, ⟨by rw [link_len]; exact hi.pos, ?_, ?_, ?_⟩⟩
  · intro m c v hm hv
    obtain ⟨e, he, rfl⟩ := link_inv hm
    simp only at hv
    by_cases hmn : n = m
    · subst hmn
      rw [if_pos rfl] at hv
      cases hv
      refine ⟨⟨_, link_get n u i hu, ?_⟩, ?_⟩
      · simp only [if_pos]
        exact mem_ins.2 (Or.inl rfl)
      · rw [if_neg hna, if_pos (.here _)]
        omega
    · rw [if_neg hmn] at hv
      obtain ⟨⟨f, hf, hfm⟩, hlt⟩ := hi.upok m e v he hv
      refine ⟨⟨_, link_get n u i hf, ?_⟩, ?_⟩
      · simp only
        by_cases h2 : u = v
        · rw [if_pos h2]
          exact mem_ins.2 (Or.inr hfm)
        · rw [if_neg h2]
          exact hfm
      · by_cases h3 : Anc S u m
        · rw [if_pos h3, if_pos (h3.tail he hv)]
          omega
        · rw [if_neg h3]
          split <;> omega
  · intro v e k hv hk
    obtain ⟨f, hf, rfl⟩ := link_inv hv
    simp only at hk
    have key : k ∈ f.row ∨ (k = n ∧ u = v) := by
      by_cases h2 : u = v
      · rw [if_pos h2] at hk
        rcases mem_ins.1 hk with h | h
        · exact Or.inr ⟨h, h2⟩
        · exact Or.inl h
      · rw [if_neg h2] at hk
        exact Or.inl hk
    rcases key with h1 | ⟨rfl, rfl⟩
    · obtain ⟨c, hc, hcv⟩ := hi.rowok v f k hf h1
      refine ⟨_, link_get n u i hc, ?_⟩
      simp only
      rw [if_neg (fun (e : n = k) => hnin v f hf (e ▸ h1)), hcv]
    · refine ⟨_, link_get k u i hn, ?_⟩
      simp
  · intro v e hv
    obtain ⟨f, hf, rfl⟩ := link_inv hv
    simp only
    split
    · exact nodup_ins (hi.nodup v f hf) (hnin v f hf)
    · exact hi.nodup v f hf

theorem unlink_len (S : List Cl) (n u i : Nat) : (unlink S n u i).length = S.length := by simp [unlink]
theorem unlink_get {S : List Cl} (n u i : Nat) {j : Nat} {c : Cl} (h : S[j]? = some c) : (unlink S n u i)[j]? = some ⟨c.d, if n = j then none else c.up, if u = j then c.row.take i ++ c.row.drop (i + 1) else c.row⟩ := by
  unfold unlink
  rw [List.getElem?_modify, List.getElem?_modify, h]
  by_cases h1 : n = j <;> by_cases h2 : u = j <;> simp [h1, h2]
theorem unlink_inv {S : List Cl} {n u i j : Nat} {c : Cl} (h : (unlink S n u i)[j]? = some c) : ∃ e, S[j]? = some e ∧ c = ⟨e.d, if n = j then none else e.up, if u = j then e.row.take i ++ e.row.drop (i + 1) else e.row⟩ := by
  have hl := lt_of_some h
  rw [unlink_len] at hl
  refine ⟨S[j], List.getElem?_eq_getElem hl, ?_⟩
  rw [unlink_get n u i (List.getElem?_eq_getElem hl)] at h
  exact (Option.some.inj h).symm
theorem mem_cut {l : List Nat} {i n k : Nat} (hl : l.Nodup) (hi : l[i]? = some n) : k ∈ l.take i ++ l.drop (i + 1) ↔ k ∈ l ∧ k ≠ n := by
  rw [← List.eraseIdx_eq_take_drop_succ, List.mem_eraseIdx_iff_getElem?]
  constructor
  · rintro ⟨j, hj, hk⟩
    refine ⟨List.mem_of_getElem? hk, ?_⟩
    rintro rfl
    have h1 := lt_of_some hk
    have h2 := lt_of_some hi
    rw [List.getElem?_eq_getElem h1] at hk
    rw [List.getElem?_eq_getElem h2] at hi
    exact hj ((List.getElem_inj hl).1 (Option.some.inj (hk.trans hi.symm)))
  · rintro ⟨hm, hne⟩
    obtain ⟨j, hj⟩ := List.getElem?_of_mem hm
    refine ⟨j, ?_, hj⟩
    rintro rfl
    rw [hi] at hj
    exact hne (Option.some.inj hj).symm
theorem InvH.unlink {S : List Cl} {h : Nat → Nat} (hi : InvH S h) {n u i : Nat} {cn cu : Cl} (hn : S[n]? = some cn) (hup : cn.up = some u) (hu : S[u]? = some cu) (hr : cu.row[i]? = some n) : InvH (unlink S n u i) h := by
  refine ⟨by rw [unlink_len]; exact hi.pos, ?_, ?_, ?_⟩
  · intro m c v hm hv
    obtain ⟨e, he, rfl⟩ := unlink_inv hm
    simp only at hv
    by_cases hmn : n = m
    · rw [if_pos hmn] at hv
      cases hv
    · rw [if_neg hmn] at hv
      obtain ⟨⟨f, hf, hfm⟩, hlt⟩ := hi.upok m e v he hv
      refine ⟨⟨_, unlink_get n u i hf, ?_⟩, hlt⟩
      simp only
      by_cases h2 : u = v
      · rw [if_pos h2]
        subst h2
        rw [hu] at hf
        cases hf
        exact (mem_cut (hi.nodup u cu hu) hr).2 ⟨hfm, fun e => hmn e.symm⟩
      · rw [if_neg h2]
        exact hfm
  · intro v e k hv hk
    obtain ⟨f, hf, rfl⟩ := unlink_inv hv
    simp only at hk
    have key : k ∈ f.row ∧ k ≠ n := by
      by_cases h2 : u = v
      · rw [if_pos h2] at hk
        subst h2
        rw [hu] at hf
        cases hf
        exact (mem_cut (hi.nodup u cu hu) hr).1 hk
      · rw [if_neg h2] at hk
        refine ⟨hk, ?_⟩
        rintro rfl
        obtain ⟨c, hc, hcv⟩ := hi.rowok v f k hf hk
        rw [hn] at hc
        cases hc
        rw [hup] at hcv
        exact h2 (Option.some.inj hcv)
    obtain ⟨c, hc, hcv⟩ := hi.rowok v f k hf key.1
    refine ⟨_, unlink_get n u i hc, ?_⟩
    simp only
    rw [if_neg (fun e => key.2 e.symm), hcv]
  · intro v e hv
    obtain ⟨f, hf, rfl⟩ := unlink_inv hv
    simp only
    split
    · rw [← List.eraseIdx_eq_take_drop_succ]
      exact List.Nodup.eraseIdx _ (hi.nodup v f hf)
    · exact hi.nodup v f hf

theorem addText_len (S : List Cl) (k : Nat) (s : List UInt8) : (addText S k s).length = S.length := by simp [addText]
theorem addText_get {S : List Cl} (k : Nat) (s : List UInt8) {j : Nat} {c : Cl} (h : S[j]? = some c) : (addText S k s)[j]? = some ⟨if k = j then { c.d with text := c.d.text ++ s } else c.d, c.up, c.row⟩ := by
  unfold addText
  rw [List.getElem?_modify, h]
  by_cases h1 : k = j <;> simp [h1]
theorem addText_inv {S : List Cl} {k : Nat} {s : List UInt8} {j : Nat} {c : Cl} (h : (addText S k s)[j]? = some c) : ∃ e, S[j]? = some e ∧ c = ⟨if k = j then { e.d with text := e.d.text ++ s } else e.d, e.up, e.row⟩ := by
  have hl := lt_of_some h
  rw [addText_len] at hl
  refine ⟨S[j], List.getElem?_eq_getElem hl, ?_⟩
  rw [addText_get k s (List.getElem?_eq_getElem hl)] at h
  exact (Option.some.inj h).symm
theorem InvH.addText {S : List Cl} {h : Nat → Nat} (hi : InvH S h) (k : Nat) (s : List UInt8) : InvH (addText S k s) h := by
  refine ⟨by rw [addText_len]; exact hi.pos, ?_, ?_, ?_⟩
  · intro n c u hn hu
    obtain ⟨e, he, rfl⟩ := addText_inv hn
    obtain ⟨⟨f, hf, hm⟩, hlt⟩ := hi.upok n e u he hu
    exact ⟨⟨_, addText_get k s hf, hm⟩, hlt⟩
  · intro u e m hu hm
    obtain ⟨f, hf, rfl⟩ := addText_inv hu
    obtain ⟨c, hc, hcu⟩ := hi.rowok u f m hf hm
    exact ⟨_, addText_get k s hc, hcu⟩
  · intro u e hu
    obtain ⟨f, hf, rfl⟩ := addText_inv hu
    exact hi.nodup u f hf

theorem shift_len (S : List Cl) (f t : Nat) (row : List Nat) : (shift S f t row).length = S.length := by simp [shift]
theorem shift_get {S : List Cl} (f t : Nat) (row : List Nat) {j : Nat} {c : Cl} (h : S[j]? = some c) : (shift S f t row)[j]? = some ⟨c.d, if c.up = some f then some t else c.up, if f = j then [] else if t = j then c.row ++ row else c.row⟩ := by
  unfold shift
  rw [List.getElem?_modify, List.getElem?_modify, List.getElem?_map, h]
  by_cases h1 : f = j <;> by_cases h2 : t = j <;> simp [h1, h2]
theorem shift_inv {S : List Cl} {f t : Nat} {row : List Nat} {j : Nat} {c : Cl} (h : (shift S f t row)[j]? = some c) : ∃ e, S[j]? = some e ∧ c = ⟨e.d, if e.up = some f then some t else e.up, if f = j then [] else if t = j then e.row ++ row else e.row⟩ := by
  have hl := lt_of_some h
  rw [shift_len] at hl
  refine ⟨S[j], List.getElem?_eq_getElem hl, ?_⟩
  rw [shift_get f t row (List.getElem?_eq_getElem hl)] at h
  exact (Option.some.inj h).symm
theorem Inv.shift {S : List Cl} (hI : Inv S) {f t : Nat} {cf ct : Cl} (hf : S[f]? = some cf) (ht : S[t]? = some ct) (hna : ¬ Anc S t f) : Inv (shift S f t cf.row) := by
  classical
  obtain ⟨h, hi⟩ := hI
  have hne : f ≠ t := fun e => hna (e ▸ .here _)
  have kid : ∀ k c, S[k]? = some c → c.up = some f → ¬ Anc S t k := fun k c hk hc ha => hna (ha.tail hk hc)
  refine ⟨fun x => if Anc S t x then h x + h f + 1 else h x, ⟨by rw [shift_len]; exact hi.pos, ?_, ?_, ?_⟩⟩
  · intro m c v hm hv
    obtain ⟨e, he, rfl⟩ := shift_inv hm
    simp only at hv
    by_cases hmf : e.up = some f
    · rw [if_pos hmf] at hv
      cases hv
      obtain ⟨⟨g, hg, hgm⟩, hlt⟩ := hi.upok m e f he hmf
      rw [hf] at hg
      cases hg
      refine ⟨⟨_, shift_get f t cf.row ht, ?_⟩, ?_⟩
      · simp only [if_neg hne, if_pos]
        exact List.mem_append.2 (Or.inr hgm)
      · rw [if_neg (kid m e he hmf), if_pos (.here _)]
        omega
    · rw [if_neg hmf] at hv
      obtain ⟨⟨g, hg, hgm⟩, hlt⟩ := hi.upok m e v he hv
      refine ⟨⟨_, shift_get f t cf.row hg, ?_⟩, ?_⟩
      · simp only
        by_cases h2 : f = v
        · exact absurd (h2 ▸ hv) hmf
        · rw [if_neg h2]
          split
          · exact List.mem_append.2 (Or.inl hgm)
          · exact hgm
      · by_cases h3 : Anc S t m
        · rw [if_pos h3, if_pos (h3.tail he hv)]
          omega
        · rw [if_neg h3]
          split <;> omega
  · intro v e k hv hk
    obtain ⟨g, hg, rfl⟩ := shift_inv hv
    simp only at hk
    by_cases h2 : f = v
    · rw [if_pos h2] at hk
      cases hk
    · rw [if_neg h2] at hk
      by_cases h3 : t = v
      · rw [if_pos h3] at hk
        subst h3
        rcases List.mem_append.1 hk with h | h
        · obtain ⟨c, hc, hcv⟩ := hi.rowok t g k hg h
          refine ⟨_, shift_get f t cf.row hc, ?_⟩
          simp only
          split
          · rfl
          · exact hcv
        · obtain ⟨c, hc, hcv⟩ := hi.rowok f cf k hf h
          refine ⟨_, shift_get f t cf.row hc, ?_⟩
          simp only
          rw [if_pos hcv]
      · rw [if_neg h3] at hk
        obtain ⟨c, hc, hcv⟩ := hi.rowok v g k hg hk
        refine ⟨_, shift_get f t cf.row hc, ?_⟩
        simp only
        rw [if_neg (fun e => h2 (Option.some.inj (e.symm.trans hcv))), hcv]
  · intro v e hv
    obtain ⟨g, hg, rfl⟩ := shift_inv hv
    simp only
    split
    · exact List.nodup_nil
    · split
      · rename_i h2 h3
        subst h3
        rw [List.nodup_append]
        refine ⟨hi.nodup t g hg, hi.nodup f cf hf, ?_⟩
        rintro a ha b hb rfl
        obtain ⟨c, hc, hcv⟩ := hi.rowok t g a hg ha
        obtain ⟨c', hc', hcv'⟩ := hi.rowok f cf a hf hb
        rw [hc] at hc'
        cases hc'
        rw [hcv] at hcv'
        exact hne (Option.some.inj hcv').symm
      · exact hi.nodup v g hg

/-! ## Trees of them -/
def ndOf (S : List Cl) (k : Nat) : Nd := match S[k]? with | some c => c.d | none => ⟨0, 0, [], [], [], 0⟩
def treeF (S : List Cl) : Nat → Nat → Fo
  | 0, _ => .nil
  | f + 1, n => match S[n]? with | none => .nil | some c => Fo.ofList (c.row.map fun k => (ndOf S k, treeF S f k))
theorem treeF_fuel {S : List Cl} {h : Nat → Nat} (hi : InvH S h) : ∀ (f g n : Nat), h n < f → h n < g → treeF S f n = treeF S g n := by
  intro f
  induction f with
  | zero => intro g n h1; omega
  | succ f ih =>
    intro g n h1 h2
    match g, h2 with
    | g + 1, h2 =>
      unfold treeF
      cases hn : S[n]? with
      | none => rfl
      | some c =>
        simp only
        congr 1
        apply List.map_congr_left
        intro k hk
        have := (hi.row_h hn hk).2
        rw [ih g k (by omega) (by omega)]
theorem treeF_at {S : List Cl} {f n : Nat} {c : Cl} (h : S[n]? = some c) : treeF S (f + 1) n = Fo.ofList (c.row.map fun k => (ndOf S k, treeF S f k)) := by
  rw [treeF, h]
theorem h_bound (h : Nat → Nat) : ∀ n : Nat, ∃ M, ∀ k, k < n → h k ≤ M
  | 0 => ⟨0, fun k hk => by omega⟩
  | n + 1 => by
    obtain ⟨M, hM⟩ := h_bound h n
    refine ⟨max M (h n), fun k hk => ?_⟩
    rcases Nat.lt_or_ge k n with h1 | h1
    · exact Nat.le_trans (hM k h1) (Nat.le_max_left _ _)
    · have : k = n := by omega
      subst this
      exact Nat.le_max_right _ _
end Go.Proofs.Ytkoijkdhmfnlbaa
namespace Go.Proofs.Ytkoijkdhmfnlbaa

/-- Is no attribute there twice? -/
def onceA : List (List UInt8 × List UInt8) → Bool
  | [] => true
  | a :: r => !(r.any fun b => b.1 == a.1) && onceA r
theorem onceA_snoc (a : List UInt8 × List UInt8) : ∀ l, onceA (l ++ [a]) = (onceA l && !(l.any fun b => b.1 == a.1))
  | [] => by simp [onceA]
  | b :: r => by
    rw [List.cons_append, onceA, onceA_snoc a r, onceA, List.any_append, List.any_cons, List.any_cons]
    have : (a.1 == b.1) = (b.1 == a.1) := by rw [Bool.eq_iff_iff, beq_iff_eq, beq_iff_eq]; exact eq_comm
    simp only [List.any_nil, Bool.or_false, Bool.not_or, this]
    cases (r.any fun x => x.1 == b.1) <;> cases (b.1 == a.1) <;> cases (onceA r) <;> simp
theorem onceA_no {l : List (List UInt8 × List UInt8)} {i k : Nat} (hi : i < l.length) (hk : k < i) (h : l[i].1 = l[k].1) : onceA l = false := by
  have h1 : onceA (l.take (i + 1)) = false := by
    rw [List.take_succ_eq_append_getElem hi, onceA_snoc]
    have : ((l.take i).any fun b => b.1 == l[i].1) = true := by
      rw [List.any_eq_true]
      refine ⟨l[k], ?_, by simp [h]⟩
      rw [List.mem_take_iff_getElem]
      exact ⟨k, by omega, rfl⟩
    rw [this]
    simp
  have key : ∀ (r p : List (List UInt8 × List UInt8)), onceA p = false → onceA (p ++ r) = false := by
    intro r
    induction r with
    | nil => intro p hp; rw [List.append_nil]; exact hp
    | cons a r ih =>
      intro p hp
      rw [← List.singleton_append, ← List.append_assoc]
      refine ih _ ?_
      rw [onceA_snoc, hp]
      rfl
  have h2 := key (l.drop (i + 1)) _ h1
  rw [List.take_append_drop] at h2
  exact h2
theorem onceA_step {l : List (List UInt8 × List UInt8)} {i : Nat} (hi : i < l.length) (h : onceA (l.take i) = true) (hk : ∀ k, (hk : k < i) → l[i].1 ≠ l[k].1) : onceA (l.take (i + 1)) = true := by
  rw [List.take_succ_eq_append_getElem hi, onceA_snoc, h, Bool.true_and, Bool.not_eq_true']
  rw [List.any_eq_false]
  intro x hx
  rw [List.mem_take_iff_getElem] at hx
  obtain ⟨k, hk1, rfl⟩ := hx
  have := hk k (by omega)
  rw [beq_iff_eq]
  exact fun e => this e.symm

namespace Fo
/-- How much there is: nodes and attributes. -/
def wt : Fo → Nat
  | nil => 0
  | cons d k r => 1 + d.attrs.length + k.wt + r.wt
def deep : Fo → Nat
  | nil => 0
  | cons _ k r => max (1 + k.deep) r.deep
/-- May a node be there, its kids told sound or not, a text ahead of it or not? -/
def okNode (d : Nd) (kids : Nat) (ks : Bool) (prev : Bool) : Bool :=
  if d.kind = 1 then decide (1 ≤ d.space) && decide (d.space ≤ 3) && !d.name.isEmpty && d.text.isEmpty && decide (d.frm = 0) && onceA d.attrs && ks
  else if d.kind = 2 then !d.text.isEmpty && decide (d.space = 0) && d.name.isEmpty && decide (d.attrs.length + kids = 0) && decide (0 ≤ d.frm) && !prev
  else if d.kind = 3 then decide (d.space = 0) && d.name.isEmpty && decide (d.attrs.length + kids = 0) && decide (d.frm = 0)
  else false
def sound : Fo → Bool → Bool
  | nil, _ => true
  | cons d k r, prev => okNode d k.len (k.sound false) prev && r.sound (decide (d.kind = 2))
def same : Fo → Fo → Bool
  | nil, nil => true
  | cons d k r, cons d' k' r' => decide (d = d') && same k k' && same r r'
  | _, _ => false
theorem same_iff : ∀ f g : Fo, same f g = true ↔ f = g
  | nil, nil => by simp [same]
  | nil, cons _ _ _ => by simp [same]
  | cons _ _ _, nil => by simp [same]
  | cons d k r, cons d' k' r' => by
    rw [same, Bool.and_eq_true, Bool.and_eq_true, same_iff k k', same_iff r r', decide_eq_true_eq]
    constructor
    · rintro ⟨⟨rfl, rfl⟩, rfl⟩; rfl
    · intro h; injection h with h1 h2 h3; exact ⟨⟨h1, h2⟩, h3⟩
theorem same_refl (f : Fo) : same f f = true := (same_iff f f).2 rfl
theorem same_len {f g : Fo} (h : f.len ≠ g.len) : same f g = false := by
  cases hs : same f g with
  | false => rfl
  | true => exact absurd (congrArg len ((same_iff f g).1 hs)) h
/-- A node's number, the next number. -/
def numD (d : Nd) (n : Int) : Nd := if d.kind = 2 then { d with frm := n } else d
def numN (d : Nd) (n : Int) : Int := if d.kind = 2 then n + 1 else n
def number : Fo → Int → Fo × Int
  | nil, n => (nil, n)
  | cons d k r, n => (cons (numD d n) (k.number (numN d n)).1 (r.number (k.number (numN d n)).2).1, (r.number (k.number (numN d n)).2).2)
def texts : Fo → List (List UInt8)
  | nil => []
  | cons d k r => (if d.kind = 2 then [d.text] else []) ++ k.texts ++ r.texts
theorem numD_kind (d : Nd) (n : Int) : (numD d n).kind = d.kind := by unfold numD; split <;> rfl
theorem numD_text (d : Nd) (n : Int) : (numD d n).text = d.text := by unfold numD; split <;> rfl
theorem numD_attrs (d : Nd) (n : Int) : (numD d n).attrs = d.attrs := by unfold numD; split <;> rfl
theorem numN_num (d : Nd) (n m : Int) : numN (numD d m) n = numN d n := by unfold numN; rw [numD_kind]
theorem numD_num (d : Nd) (n : Int) : numD (numD d n) n = numD d n := by
  unfold numD
  by_cases h : d.kind = 2 <;> simp [h]
theorem number_len : ∀ (f : Fo) (n : Int), (f.number n).1.len = f.len
  | nil, _ => rfl
  | cons d k r, n => by rw [number, len, len, number_len r]
theorem number_deep : ∀ (f : Fo) (n : Int), (f.number n).1.deep = f.deep
  | nil, _ => rfl
  | cons d k r, n => by rw [number, deep, deep, number_deep r, number_deep k]
theorem number_wt : ∀ (f : Fo) (n : Int), (f.number n).1.wt = f.wt
  | nil, _ => rfl
  | cons d k r, n => by rw [number, wt, wt, number_wt r, number_wt k, numD_attrs]
theorem number_texts : ∀ (f : Fo) (n : Int), (f.number n).1.texts = f.texts
  | nil, _ => rfl
  | cons d k r, n => by rw [number, texts, texts, number_texts r, number_texts k, numD_kind, numD_text]
theorem number_twice : ∀ (f : Fo) (n : Int), (f.number n).1.number n = f.number n
  | nil, _ => rfl
  | cons d k r, n => by
    rw [number]
    simp only
    rw [number, numN_num, numD_num, number_twice k, number_twice r]
theorem number_le : ∀ (f : Fo) (n : Int), n ≤ (f.number n).2 ∧ (f.number n).2 ≤ n + f.wt
  | nil, n => by simp [number, wt]
  | cons d k r, n => by
    rw [number, wt]
    have h1 := number_le k (numN d n)
    have h2 := number_le r (k.number (numN d n)).2
    have h3 : n ≤ numN d n ∧ numN d n ≤ n + 1 := by unfold numN; split <;> omega
    simp only
    omega
theorem okNode_num (d : Nd) (n : Int) (hn : 0 ≤ n) (kids : Nat) (ks prev : Bool) (h : okNode d kids ks prev = true) : okNode (numD d n) kids ks prev = true := by
  unfold numD
  by_cases hk : d.kind = 2
  · rw [if_pos hk]
    unfold okNode at h ⊢
    simp only [hk] at h ⊢
    simp at h ⊢
    simp [h, hn]
  · rw [if_neg hk]; exact h
theorem number_sound : ∀ (f : Fo) (n : Int) (b : Bool), 0 ≤ n → f.sound b = true → (f.number n).1.sound b = true
  | nil, _, _, _, _ => rfl
  | cons d k r, n, b, hn, h => by
    rw [sound, Bool.and_eq_true] at h
    rw [number, sound, Bool.and_eq_true, numD_kind, number_len]
    have h3 : n ≤ numN d n := by unfold numN; split <;> omega
    have h1 := number_le k (numN d n)
    refine ⟨?_, number_sound r _ _ (by omega) h.2⟩
    cases hs : k.sound false with
    | true =>
      rw [hs] at h
      rw [number_sound k _ _ (by omega) hs]
      exact okNode_num d n hn _ _ _ h.1
    | false =>
      rw [hs] at h
      have ho := okNode_num d n hn _ _ _ h.1
      cases (k.number (numN d n)).1.sound false with
      | false => exact ho
      | true =>
        unfold okNode at ho ⊢
        revert ho
        split
        · simp
        · intro ho; exact ho
theorem deep_le : ∀ f : Fo, f.deep ≤ f.wt
  | nil => Nat.le_refl _
  | cons d k r => by
    rw [deep, wt]
    have h1 := deep_le k
    have h2 := deep_le r
    omega
theorem len_le : ∀ f : Fo, f.len ≤ f.wt
  | nil => Nat.le_refl _
  | cons d k r => by
    rw [len, wt]
    have h2 := len_le r
    omega
theorem texts_le : ∀ f : Fo, f.texts.length ≤ f.wt
  | nil => Nat.le_refl _
  | cons d k r => by
    rw [texts, wt, List.length_append, List.length_append]
    have h1 := texts_le k
    have h2 := texts_le r
    split <;> simp <;> omega
def app : Fo → Fo → Fo
  | nil, g => g
  | cons d k r, g => cons d k (r.app g)
theorem app_nil : ∀ f : Fo, f.app nil = f
  | nil => rfl
  | cons d k r => by rw [app, app_nil r]
theorem app_assoc : ∀ f g h : Fo, (f.app g).app h = f.app (g.app h)
  | nil, _, _ => rfl
  | cons d k r, g, h => by rw [app, app, app, app_assoc r]
theorem app_len : ∀ f g : Fo, (f.app g).len = f.len + g.len
  | nil, g => by simp [app, len]
  | cons d k r, g => by rw [app, len, len, app_len r]; omega
theorem of_app : ∀ (l m : List (Nd × Fo)), ofList (l ++ m) = (ofList l).app (ofList m)
  | [], _ => rfl
  | x :: l, m => by rw [List.cons_append, ofList, ofList, app, of_app l]
end Fo
end Go.Proofs.Ytkoijkdhmfnlbaa
namespace Go.Proofs.Ytkoijkdhmfnlbaa
open Go.RowKit


/-- The blocks of P that were there are as they were. -/
structure Kept (P : Nat → Prop) (w w' : World) : Prop where
  size : w.heap.size ≤ w'.heap.size
  block : ∀ b, P b → b < w.heap.size → w'.heap[b]? = w.heap[b]?
theorem Kept.of_below {P : Nat → Prop} {w w' : World} (h : Below w.heap.size w w') : Kept P w w' := ⟨h.size, fun b _ hb => h.block b hb⟩
theorem Kept.of_grown {P : Nat → Prop} {w w' : World} {row : Option Nat} (h : w.grownBy w' row) (hP : ∀ b, P b → some b ≠ row) : Kept P w w' := ⟨h.size, fun b hp hb => h.block b hb (hP b hp)⟩
theorem Kept.cell {P : Nat → Prop} {w w' : World} (h : Kept P w w') {g o : Nat} (hp : P g) (hg : g < w.heap.size) : w'.cell? ⟨g, o, none⟩ = w.cell? ⟨g, o, none⟩ := World.cell?_of_block (w := w) (h.block g hp hg)

/-- The slice v holds the attributes rs in w, in a block of P. -/
def AttrsP (P : Nat → Prop) (w : World) (v : Value) (rs : List (List UInt8 × List UInt8)) : Prop :=
  ∃ p cap, v = .slice p rs.length cap ∧ (0 < rs.length → ∃ g o, p = some ⟨g, o, none⟩ ∧ P g ∧ g < w.heap.size ∧ ∀ j (hj : j < rs.length), w.cell? ⟨g, o + j * 2, none⟩ = some (.string ⟨rs[j].1.toArray⟩) ∧ w.cell? ⟨g, o + j * 2 + 1, none⟩ = some (.string ⟨rs[j].2.toArray⟩))
theorem AttrsP.kept {P : Nat → Prop} {w w' : World} {v : Value} {rs : List (List UInt8 × List UInt8)} (h : AttrsP P w v rs) (hk : Kept P w w') : AttrsP P w' v rs := by
  obtain ⟨p, cap, rfl, h⟩ := h
  refine ⟨p, cap, rfl, fun h0 => ?_⟩
  obtain ⟨g, o, rfl, hp, hg, hc⟩ := h h0
  exact ⟨g, o, rfl, hp, Nat.lt_of_lt_of_le hg hk.size, fun j hj => ⟨(hk.cell hp hg).trans (hc j hj).1, (hk.cell hp hg).trans (hc j hj).2⟩⟩
theorem AttrsP.mono {P Q : Nat → Prop} {w : World} {v : Value} {rs : List (List UInt8 × List UInt8)} (h : AttrsP P w v rs) (hq : ∀ b, P b → b < w.heap.size → Q b) : AttrsP Q w v rs := by
  obtain ⟨p, cap, rfl, h⟩ := h
  refine ⟨p, cap, rfl, fun h0 => ?_⟩
  obtain ⟨g, o, rfl, hp, hg, hc⟩ := h h0
  exact ⟨g, o, rfl, hq g hp hg, hg, hc⟩
theorem AttrsP.nil (P : Nat → Prop) (w : World) (p : Option Addr) (cap : Nat) : AttrsP P w (.slice p 0 cap) [] := ⟨p, cap, rfl, fun h => absurd h (by simp)⟩

/-- The seven cells of a node. -/
structure Cells7 (w : World) (g o : Nat) (d : Nd) (va vk : Value) : Prop where
  c0 : w.cell? ⟨g, o, none⟩ = some (.int .i64 d.kind)
  c1 : w.cell? ⟨g, o + 1, none⟩ = some (.int .i64 d.space)
  c2 : w.cell? ⟨g, o + 2, none⟩ = some (.string ⟨d.name.toArray⟩)
  c3 : w.cell? ⟨g, o + 3, none⟩ = some va
  c4 : w.cell? ⟨g, o + 4, none⟩ = some (.string ⟨d.text.toArray⟩)
  c5 : w.cell? ⟨g, o + 5, none⟩ = some (.int .i64 d.frm)
  c6 : w.cell? ⟨g, o + 6, none⟩ = some vk
theorem Cells7.kept {P : Nat → Prop} {w w' : World} {g o : Nat} {d : Nd} {va vk : Value} (h : Cells7 w g o d va vk) (hk : Kept P w w') (hp : P g) (hg : g < w.heap.size) : Cells7 w' g o d va vk :=
  ⟨(hk.cell hp hg).trans h.c0, (hk.cell hp hg).trans h.c1, (hk.cell hp hg).trans h.c2, (hk.cell hp hg).trans h.c3, (hk.cell hp hg).trans h.c4, (hk.cell hp hg).trans h.c5, (hk.cell hp hg).trans h.c6⟩

/-- The nodes of f stand from the i-th place on in the row at (g, o); what they lead to lies in blocks of P. -/
def NodesFrom (P : Nat → Prop) (w : World) : Fo → Nat → Nat → Nat → Prop
  | .nil, _, _, _ => True
  | .cons d k r, g, o, i => (∃ va vk, Cells7 w g (o + i * 7) d va vk ∧ AttrsP P w va d.attrs ∧ ∃ p cap, vk = .slice p k.len cap ∧ (0 < k.len → ∃ g' o', p = some ⟨g', o', none⟩ ∧ P g' ∧ g' < w.heap.size ∧ NodesFrom P w k g' o' 0)) ∧ NodesFrom P w r g o (i + 1)
/-- What is left of a row from the i-th place on. -/
def NodesTail (P : Nat → Prop) (w : World) (p : Option Addr) (f : Fo) (i : Nat) : Prop := 0 < f.len → ∃ g o, p = some ⟨g, o, none⟩ ∧ P g ∧ g < w.heap.size ∧ NodesFrom P w f g o i
/-- The slice v holds the nodes f in w; all lies in blocks of P. -/
def NodesP (P : Nat → Prop) (w : World) (v : Value) (f : Fo) : Prop := ∃ p cap, v = .slice p f.len cap ∧ NodesTail P w p f 0
theorem NodesFrom.kept {P : Nat → Prop} {w w' : World} (hk : Kept P w w') : ∀ (f : Fo) (g o i : Nat), P g → g < w.heap.size → NodesFrom P w f g o i → NodesFrom P w' f g o i
  | .nil, _, _, _, _, _, _ => trivial
  | .cons d k r, g, o, i, hp, hg, ⟨⟨va, vk, h7, ha, p, cap, hv, h⟩, hr⟩ => by
    refine ⟨⟨va, vk, h7.kept hk hp hg, ha.kept hk, p, cap, hv, fun h0 => ?_⟩, NodesFrom.kept hk r g o (i + 1) hp hg hr⟩
    obtain ⟨g', o', h1, h2, h3, h4⟩ := h h0
    exact ⟨g', o', h1, h2, Nat.lt_of_lt_of_le h3 hk.size, NodesFrom.kept hk k g' o' 0 h2 h3 h4⟩
theorem NodesFrom.mono {P Q : Nat → Prop} {w : World} (hq : ∀ b, P b → b < w.heap.size → Q b) : ∀ (f : Fo) (g o i : Nat), NodesFrom P w f g o i → NodesFrom Q w f g o i
  | .nil, _, _, _, _ => trivial
  | .cons d k r, g, o, i, ⟨⟨va, vk, h7, ha, p, cap, hv, h⟩, hr⟩ => by
    refine ⟨⟨va, vk, h7, ha.mono hq, p, cap, hv, fun h0 => ?_⟩, NodesFrom.mono hq r g o (i + 1) hr⟩
    obtain ⟨g', o', h1, h2, h3, h4⟩ := h h0
    exact ⟨g', o', h1, hq g' h2 h3, h3, NodesFrom.mono hq k g' o' 0 h4⟩
theorem NodesTail.kept {P : Nat → Prop} {w w' : World} {p : Option Addr} {f : Fo} {i : Nat} (h : NodesTail P w p f i) (hk : Kept P w w') : NodesTail P w' p f i := fun h0 => by
  obtain ⟨g, o, h1, h2, h3, h4⟩ := h h0
  exact ⟨g, o, h1, h2, Nat.lt_of_lt_of_le h3 hk.size, NodesFrom.kept hk f g o i h2 h3 h4⟩
theorem NodesTail.mono {P Q : Nat → Prop} {w : World} {p : Option Addr} {f : Fo} {i : Nat} (h : NodesTail P w p f i) (hq : ∀ b, P b → b < w.heap.size → Q b) : NodesTail Q w p f i := fun h0 => by
  obtain ⟨g, o, h1, h2, h3, h4⟩ := h h0
  exact ⟨g, o, h1, hq g h2 h3, h3, NodesFrom.mono hq f g o i h4⟩
theorem NodesP.kept {P : Nat → Prop} {w w' : World} {v : Value} {f : Fo} (h : NodesP P w v f) (hk : Kept P w w') : NodesP P w' v f := by
  obtain ⟨p, cap, rfl, h⟩ := h
  exact ⟨p, cap, rfl, h.kept hk⟩
theorem NodesP.mono {P Q : Nat → Prop} {w : World} {v : Value} {f : Fo} (h : NodesP P w v f) (hq : ∀ b, P b → b < w.heap.size → Q b) : NodesP Q w v f := by
  obtain ⟨p, cap, rfl, h⟩ := h
  exact ⟨p, cap, rfl, h.mono hq⟩
/-- The first node of what is left, and the rest. -/
theorem NodesTail.head {P : Nat → Prop} {w : World} {p : Option Addr} {d : Nd} {k r : Fo} {i : Nat} (h : NodesTail P w p (.cons d k r) i) :
    ∃ g o va vk, p = some ⟨g, o, none⟩ ∧ P g ∧ g < w.heap.size ∧ Cells7 w g (o + i * 7) d va vk ∧ AttrsP P w va d.attrs ∧ NodesP P w vk k ∧ NodesTail P w p r (i + 1) := by
  obtain ⟨g, o, h1, h2, h3, ⟨va, vk, h7, ha, p', cap, hv, hk⟩, hr⟩ := h (by simp [Fo.len])
  exact ⟨g, o, va, vk, h1, h2, h3, h7, ha, ⟨p', cap, hv, hk⟩, fun _ => ⟨g, o, h1, h2, h3, hr⟩⟩
theorem NodesP.nil (P : Nat → Prop) (w : World) (p : Option Addr) (cap : Nat) : NodesP P w (.slice p 0 cap) .nil := ⟨p, cap, rfl, fun h => absurd h (by simp [Fo.len])⟩

/-- A node's cells, its rows given. -/
def nodeCell (q : Nd × Value × Value) : List Value := [.int .i64 q.1.kind, .int .i64 q.1.space, .string ⟨q.1.name.toArray⟩, q.2.1, .string ⟨q.1.text.toArray⟩, .int .i64 q.1.frm, q.2.2]
def nodeCells (qs : List (Nd × Value × Value)) : List Value := qs.flatMap nodeCell
theorem nodeCells_snoc (qs : List (Nd × Value × Value)) (q : Nd × Value × Value) : nodeCells (qs ++ [q]) = nodeCells qs ++ nodeCell q := by
  unfold nodeCells
  rw [List.flatMap_append]
  simp
theorem nodeCells_at : ∀ (qs : List (Nd × Value × Value)) (j i : Nat) (hj : j < qs.length), i < 7 → (nodeCells qs)[j * 7 + i]? = (nodeCell qs[j])[i]?
  | [], j, _, hj, _ => absurd hj (by simp)
  | q :: r, 0, i, _, hi => by
    show (nodeCell q ++ nodeCells r)[0 * 7 + i]? = _
    rw [List.getElem?_append_left (by simp [nodeCell]; omega), Nat.zero_mul, Nat.zero_add]
    rfl
  | q :: r, j + 1, i, hj, hi => by
    have h := nodeCells_at r j i (by simpa using hj) hi
    show (nodeCell q ++ nodeCells r)[(j + 1) * 7 + i]? = _
    rw [List.getElem?_append_right (by simp [nodeCell]; omega), show (j + 1) * 7 + i - (nodeCell q).length = j * 7 + i by simp [nodeCell]; omega, h]
    rfl
theorem info_node : ∃ i, Try.prog.info? 43 = some i ∧ i.zero = some (.agg #[.int .i64 0, .int .i64 0, .string ByteArray.empty, .slice none 0 0, .string ByteArray.empty, .int .i64 0, .slice none 0 0]) ∧ i.size = 7 ∧ i.bytes = 104 := by
  have hi9 : (Try.prog.info? 43).map (fun i => (i.zero, i.size, i.bytes)) = some (some (.agg #[.int .i64 0, .int .i64 0, .string ByteArray.empty, .slice none 0 0, .string ByteArray.empty, .int .i64 0, .slice none 0 0]), 7, 104) := by kernel_rfl
  obtain ⟨i0, hi, hx⟩ := Option.map_eq_some_iff.1 hi9
  simp only [Prod.mk.injEq] at hx
  exact ⟨i0, hi, hx.1, hx.2.1, hx.2.2⟩
/-- A row of nodes that is being made: its cells; what its nodes lead to lies beside it, in blocks of Q. -/
structure RowN (Q : Nat → Prop) (w : World) (v : Value) (qs : List ((Nd × Value × Value) × Fo)) (W : World) : Prop where
  row : W.ownsRow w.heap.size 43 7 v qs.length (nodeCells (qs.map (·.1)))
  attrs : ∀ q ∈ qs, AttrsP (fun b => Q b ∧ some b ≠ v.ownBlock) W q.1.2.1 q.1.1.attrs
  kids : ∀ q ∈ qs, NodesP (fun b => Q b ∧ some b ≠ v.ownBlock) W q.1.2.2 q.2
  below : Below w.heap.size w W
theorem RowN.start (Q : Nat → Prop) (w : World) : RowN Q w (.slice none 0 0) [] w := ⟨⟨rfl, Or.inl ⟨rfl, rfl⟩⟩, fun _ h => absurd h (by simp), fun _ h => absurd h (by simp), Below.refl _ _⟩
theorem RowN.on {Q : Nat → Prop} {w W W' : World} {v : Value} {qs : List ((Nd × Value × Value) × Fo)} (h : RowN Q w v qs W) (hb : Below W.heap.size W W') : RowN Q w v qs W' :=
  ⟨h.row.kept (row := none) ⟨hb.os, hb.tape, hb.output, hb.size, fun i hi _ => hb.block i hi⟩ (by cases v.ownBlock <;> simp), fun q hq => (h.attrs q hq).kept (.of_below hb), fun q hq => (h.kids q hq).kept (.of_below hb), h.below.trans (hb.mono h.below.size)⟩
/-- One more node. -/
theorem RowN.more {Q : Nat → Prop} {w W W' : World} {v : Value} {g n cap : Nat} {qs : List ((Nd × Value × Value) × Fo)} {q : (Nd × Value × Value) × Fo} (h : RowN Q w v qs W)
    (ha : AttrsP (fun b => Q b ∧ some b ≠ v.ownBlock) W q.1.2.1 q.1.1.attrs) (hk : NodesP (fun b => Q b ∧ some b ≠ v.ownBlock) W q.1.2.2 q.2)
    (hg : W.grownBy W' v.ownBlock) (hr : W'.ownsRow w.heap.size 43 7 (.slice (some ⟨g, 0, none⟩) n cap) (qs.length + 1) (nodeCells (qs.map (·.1)) ++ nodeCell q.1)) (hat : v.ownBlock = some g ∨ g = W.heap.size) : RowN Q w (.slice (some ⟨g, 0, none⟩) n cap) (qs ++ [q]) W' := by
  have h1 : ∀ b, (Q b ∧ some b ≠ v.ownBlock) → b < W.heap.size → (Q b ∧ some b ≠ v.ownBlock ∧ b < W.heap.size) := fun b hb hl => ⟨hb.1, hb.2, hl⟩
  have h2 : Kept (fun b => Q b ∧ some b ≠ v.ownBlock ∧ b < W.heap.size) W W' := .of_grown hg (fun b hb => hb.2.1)
  have h3 : ∀ b, (Q b ∧ some b ≠ v.ownBlock ∧ b < W.heap.size) → b < W'.heap.size → (Q b ∧ some b ≠ (Value.slice (some ⟨g, 0, none⟩) n cap).ownBlock) := by
    intro b hb _
    refine ⟨hb.1, ?_⟩
    show some b ≠ some g
    rcases hat with h1 | h1
    · rw [← h1]; exact hb.2.1
    · intro e; injection e with e; omega
  refine ⟨?_, ?_, ?_, h.below.grown hg h.below.size (fun k hk => (h.row.lt k hk).1)⟩
  · rw [List.length_append, List.map_append, List.map_singleton, nodeCells_snoc]
    exact hr
  · intro x hx
    rcases List.mem_append.1 hx with hx | hx
    · exact (((h.attrs x hx).mono h1).kept h2).mono h3
    · rw [List.mem_singleton] at hx
      subst hx
      exact ((ha.mono h1).kept h2).mono h3
  · intro x hx
    rcases List.mem_append.1 hx with hx | hx
    · exact (((h.kids x hx).mono h1).kept h2).mono h3
    · rw [List.mem_singleton] at hx
      subst hx
      exact ((hk.mono h1).kept h2).mono h3
theorem nodesFrom_of (P : Nat → Prop) (W : World) (g : Nat) : ∀ (qs : List ((Nd × Value × Value) × Fo)) (i : Nat),
    (∀ j (hj : j < qs.length), Cells7 W g (0 + (i + j) * 7) qs[j].1.1 qs[j].1.2.1 qs[j].1.2.2 ∧ AttrsP P W qs[j].1.2.1 qs[j].1.1.attrs ∧ NodesP P W qs[j].1.2.2 qs[j].2) → NodesFrom P W (Fo.ofList (qs.map fun q => (q.1.1, q.2))) g 0 i
  | [], _, _ => trivial
  | q :: r, i, h => by
    obtain ⟨h7, ha, p, cap, hv, hk⟩ := h 0 (by simp)
    refine ⟨⟨q.1.2.1, q.1.2.2, h7, ha, p, cap, hv, hk⟩, ?_⟩
    refine nodesFrom_of P W g r (i + 1) fun j hj => ?_
    have := h (j + 1) (by simpa using hj)
    rw [show i + 1 + j = i + (j + 1) by omega]
    exact this
/-- What the row holds, told. -/
theorem RowN.told {Q : Nat → Prop} {w W : World} {v : Value} {qs : List ((Nd × Value × Value) × Fo)} (h : RowN Q w v qs W) (hQ : ∀ b, w.heap.size ≤ b → Q b) : NodesP Q W v (Fo.ofList (qs.map fun q => (q.1.1, q.2))) := by
  rcases Joins.ownsRow_forms h.row with ⟨rfl, h0⟩ | ⟨g, cap, rfl⟩
  · have : qs = [] := List.eq_nil_of_length_eq_zero h0
    subst this
    exact NodesP.nil _ _ _ _
  · have hw : ∀ b, (Q b ∧ some b ≠ (Value.slice (some ⟨g, 0, none⟩) qs.length cap).ownBlock) → b < W.heap.size → Q b := fun b hb _ => hb.1
    refine ⟨some ⟨g, 0, none⟩, cap, by rw [Fo.of_len, List.length_map], fun _ => ⟨g, 0, rfl, hQ g (h.row.lt g rfl).1, (h.row.lt g rfl).2, nodesFrom_of Q W g qs 0 fun j hj => ?_⟩⟩
    refine ⟨?_, (h.attrs _ (List.getElem_mem hj)).mono hw, (h.kids _ (List.getElem_mem hj)).mono hw⟩
    have key : ∀ i, i < 7 → W.cell? ⟨g, 0 + (0 + j) * 7 + i, none⟩ = (nodeCell qs[j].1)[i]? := by
      intro i hi
      have hj' : j < (qs.map (·.1)).length := by simpa using hj
      rw [show 0 + (0 + j) * 7 + i = j * 7 + i by omega, h.row.cellAt (j * 7 + i) (by omega), nodeCells_at (qs.map (·.1)) j i hj' hi, List.getElem_map]
    exact ⟨key 0 (by omega), key 1 (by omega), key 2 (by omega), key 3 (by omega), key 4 (by omega), key 5 (by omega), key 6 (by omega)⟩
end Go.Proofs.Ytkoijkdhmfnlbaa
