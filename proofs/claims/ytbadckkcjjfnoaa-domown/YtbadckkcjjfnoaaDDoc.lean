/-
  Nodes by numbers (chapter 6), of no program: rows of nodes, what each call makes of them, and what holds behind each. No conditions.
-/
namespace Go.Proofs.Ytbadckkcjjfnoaa

/-- A node without its kids. -/
structure Nd where
  kind : Int
  space : Int
  name : List UInt8
  attrs : List (List UInt8 × List UInt8)
  text : List UInt8
  frm : Int
deriving DecidableEq

/-- A row of nodes, each with its kids. -/
inductive Fo where
  | nil : Fo
  | cons (d : Nd) (kids rest : Fo) : Fo
deriving DecidableEq

namespace Fo
def len : Fo → Nat
  | nil => 0
  | cons _ _ r => r.len + 1
def toList : Fo → List (Nd × Fo)
  | nil => []
  | cons d k r => (d, k) :: r.toList
def ofList : List (Nd × Fo) → Fo
  | [] => nil
  | x :: l => cons x.1 x.2 (ofList l)
theorem toList_len : ∀ f : Fo, f.toList.length = f.len
  | nil => rfl
  | cons _ _ r => by simp [toList, len, toList_len r]
theorem to_of : ∀ l, (ofList l).toList = l
  | [] => rfl
  | x :: l => by simp [ofList, toList, to_of l]
theorem of_to : ∀ f : Fo, ofList f.toList = f
  | nil => rfl
  | cons d k r => by simp [ofList, toList, of_to r]
theorem of_len (l : List (Nd × Fo)) : (ofList l).len = l.length := by rw [← toList_len, to_of]
end Fo

/-- A node by its number: what it is, whose kid it is, its kids. -/
structure Cl where
  d : Nd
  up : Option Nat
  row : List Nat

/-- m is n, or n is below it. -/
inductive Anc (S : List Cl) : Nat → Nat → Prop where
  | here (n : Nat) : Anc S n n
  | step {n m u : Nat} {c : Cl} (h : S[n]? = some c) (hu : c.up = some u) (ha : Anc S u m) : Anc S n m
theorem Anc.tail {S : List Cl} {a x u : Nat} {c : Cl} (h : Anc S a x) (hx : S[x]? = some c) (hu : c.up = some u) : Anc S a u := by
  induction h with
  | here n => exact .step hx hu (.here _)
  | step h1 h2 _ ih => exact .step h1 h2 (ih hx)

/-- What holds of all nodes behind every call; h: how high they stand. -/
structure InvH (S : List Cl) (h : Nat → Nat) : Prop where
  pos : 0 < S.length
  upok : ∀ (n : Nat) (c : Cl) (u : Nat), S[n]? = some c → c.up = some u → (∃ e : Cl, S[u]? = some e ∧ n ∈ e.row) ∧ h n < h u
  rowok : ∀ (u : Nat) (e : Cl) (k : Nat), S[u]? = some e → k ∈ e.row → ∃ c : Cl, S[k]? = some c ∧ c.up = some u
  nodup : ∀ (u : Nat) (e : Cl), S[u]? = some e → e.row.Nodup
def Inv (S : List Cl) : Prop := ∃ h, InvH S h

theorem lt_of_some {α : Type} {l : List α} {n : Nat} {x : α} (h : l[n]? = some x) : n < l.length := by
  rcases Nat.lt_or_ge n l.length with h' | h'
  · exact h'
  · rw [List.getElem?_eq_none h'] at h; cases h
theorem InvH.row_h {S : List Cl} {h : Nat → Nat} (hi : InvH S h) {u k : Nat} {e : Cl} (hu : S[u]? = some e) (hk : k ∈ e.row) : k < S.length ∧ h k < h u := by
  obtain ⟨c, hc, hcu⟩ := hi.rowok u e k hu hk
  exact ⟨lt_of_some hc, (hi.upok k c u hc hcu).2⟩

/-! ## What calls make of them -/
def rootCl : Cl := ⟨⟨1, 1, [], [], [], 0⟩, none, []⟩
def lay (S : List Cl) (d : Nd) : List Cl := S ++ [⟨d, none, []⟩]
def link (S : List Cl) (n u i : Nat) : List Cl := (S.modify u fun c => { c with row := c.row.take i ++ [n] ++ c.row.drop i }).modify n fun c => { c with up := some u }
def unlink (S : List Cl) (n u i : Nat) : List Cl := (S.modify u fun c => { c with row := c.row.take i ++ c.row.drop (i + 1) }).modify n fun c => { c with up := none }
def addText (S : List Cl) (k : Nat) (s : List UInt8) : List Cl := S.modify k fun c => { c with d := { c.d with text := c.d.text ++ s } }
def shift (S : List Cl) (f t : Nat) (row : List Nat) : List Cl := ((S.map fun c => { c with up := if c.up = some f then some t else c.up }).modify t fun c => { c with row := c.row ++ row }).modify f fun c => { c with row := [] }

theorem inv_new : InvH [rootCl] (fun _ => 0) := by
  refine ⟨by simp, ?_, ?_, ?_⟩
  · intro n c u hn hu
    match n, hn with
    | 0, hn => simp at hn; subst hn; cases hu
    | n + 1, hn => simp at hn
  · intro u e k hu hk
    match u, hu with
    | 0, hu => simp at hu; subst hu; cases hk
    | n + 1, hu => simp at hu
  · intro u e hu
    match u, hu with
    | 0, hu => simp at hu; subst hu; exact List.nodup_nil
    | n + 1, hu => simp at hu

theorem lay_old {S : List Cl} {d : Nd} {n : Nat} {c : Cl} (h : S[n]? = some c) : (lay S d)[n]? = some c := by
  unfold lay
  rw [List.getElem?_append_left (lt_of_some h), h]
theorem lay_new (S : List Cl) (d : Nd) : (lay S d)[S.length]? = some ⟨d, none, []⟩ := by
  unfold lay; simp
theorem lay_len (S : List Cl) (d : Nd) : (lay S d).length = S.length + 1 := by simp [lay]
theorem lay_inv {S : List Cl} {d : Nd} {n : Nat} {c : Cl} (h : (lay S d)[n]? = some c) : S[n]? = some c ∨ (n = S.length ∧ c = ⟨d, none, []⟩) := by
  unfold lay at h
  rw [List.getElem?_append] at h
  split at h
  · exact Or.inl h
  · rename_i hn
    have hl := lt_of_some h
    simp at hl
    have e : n = S.length := by omega
    subst e
    simp at h
    exact Or.inr ⟨rfl, h.symm⟩
theorem InvH.lay {S : List Cl} {h : Nat → Nat} (hi : InvH S h) (d : Nd) : InvH (lay S d) h := by
  refine ⟨by rw [lay_len]; omega, ?_, ?_, ?_⟩
  · intro n c u hn hu
    rcases lay_inv hn with h1 | ⟨_, rfl⟩
    · obtain ⟨⟨e, he, hm⟩, hh⟩ := hi.upok n c u h1 hu
      exact ⟨⟨e, lay_old he, hm⟩, hh⟩
    · cases hu
  · intro u e k hu hk
    rcases lay_inv hu with h1 | ⟨_, rfl⟩
    · obtain ⟨c, hc, hcu⟩ := hi.rowok u e k h1 hk
      exact ⟨c, lay_old hc, hcu⟩
    · cases hk
  · intro u e hu
    rcases lay_inv hu with h1 | ⟨_, rfl⟩
    · exact hi.nodup u e h1
    · exact List.nodup_nil

theorem link_len (S : List Cl) (n u i : Nat) : (link S n u i).length = S.length := by simp [link]
theorem link_get {S : List Cl} (n u i : Nat) {j : Nat} {c : Cl} (h : S[j]? = some c) : (link S n u i)[j]? = some ⟨c.d, if n = j then some u else c.up, if u = j then c.row.take i ++ [n] ++ c.row.drop i else c.row⟩ := by
  unfold link
  rw [List.getElem?_modify, List.getElem?_modify, h]
  by_cases h1 : n = j <;> by_cases h2 : u = j <;> simp [h1, h2]
theorem link_inv {S : List Cl} {n u i j : Nat} {c : Cl} (h : (link S n u i)[j]? = some c) : ∃ e, S[j]? = some e ∧ c = ⟨e.d, if n = j then some u else e.up, if u = j then e.row.take i ++ [n] ++ e.row.drop i else e.row⟩ := by
  have hl := lt_of_some h
  rw [link_len] at hl
  refine ⟨S[j], List.getElem?_eq_getElem hl, ?_⟩
  rw [link_get n u i (List.getElem?_eq_getElem hl)] at h
  exact (Option.some.inj h).symm
theorem mem_ins {l : List Nat} {i n k : Nat} : k ∈ l.take i ++ [n] ++ l.drop i ↔ k = n ∨ k ∈ l := by
  have : k ∈ l ↔ k ∈ l.take i ∨ k ∈ l.drop i := by
    rw [← List.mem_append, List.take_append_drop]
  rw [this]
  simp only [List.mem_append, List.mem_singleton]
  constructor
  · rintro ((h | h) | h)
    · exact Or.inr (Or.inl h)
    · exact Or.inl h
    · exact Or.inr (Or.inr h)
  · rintro (h | h | h)
    · exact Or.inl (Or.inr h)
    · exact Or.inl (Or.inl h)
    · exact Or.inr h
theorem nodup_ins {l : List Nat} {i n : Nat} (hl : l.Nodup) (hn : n ∉ l) : (l.take i ++ [n] ++ l.drop i).Nodup := by
  have hp : (l.take i ++ [n] ++ l.drop i).Perm (n :: l) := by
    have h1 : (l.take i ++ ([n] ++ l.drop i)).Perm ([n] ++ l.drop i ++ l.take i) := List.perm_append_comm
    rw [List.append_assoc]
    refine h1.trans ?_
    rw [List.append_assoc]
    refine List.Perm.cons n ?_
    have h2 : (l.drop i ++ l.take i).Perm (l.take i ++ l.drop i) := List.perm_append_comm
    rw [List.take_append_drop] at h2
    exact h2
  rw [hp.nodup_iff]
  exact List.nodup_cons.2 ⟨hn, hl⟩
theorem Inv.link {S : List Cl} (hI : Inv S) {n u : Nat} (i : Nat) {cn cu : Cl} (hn : S[n]? = some cn) (hup : cn.up = none) (hu : S[u]? = some cu) (hna : ¬ Anc S u n) : Inv (link S n u i) := by
  classical
  obtain ⟨h, hi⟩ := hI
  have hnu : n ≠ u := fun e => hna (e ▸ .here _)
  have hnin : ∀ (v : Nat) (e : Cl), S[v]? = some e → n ∉ e.row := by
    intro v e hv hm
    obtain ⟨c, hc, hcu⟩ := hi.rowok v e n hv hm
    rw [hn] at hc
    cases hc
    rw [hup] at hcu
    cases hcu
  refine ⟨fun x => if Anc S u x then h x + h n + 1 else h x, ⟨by rw [link_len]; exact hi.pos, ?_, ?_, ?_⟩⟩
  · intro m c v hm hv
    obtain ⟨e, he, rfl⟩ := link_inv hm
    simp only at hv
    by_cases hmn : n = m
    · subst hmn
      rw [if_pos rfl] at hv
      cases hv
      refine ⟨⟨_, link_get n u i hu, ?_⟩, ?_⟩
      · simp only [if_pos]
        exact mem_ins.2 (Or.inl rfl)
      · rw [if_neg hna, if_pos (.here _)]
        omega
    · rw [if_neg hmn] at hv
      obtain ⟨⟨f, hf, hfm⟩, hlt⟩ := hi.upok m e v he hv
      refine ⟨⟨_, link_get n u i hf, ?_⟩, ?_⟩
      · simp only
        by_cases h2 : u = v
        · rw [if_pos h2]
          exact mem_ins.2 (Or.inr hfm)
        · rw [if_neg h2]
          exact hfm
      · by_cases h3 : Anc S u m
        · rw [if_pos h3, if_pos (h3.tail he hv)]
          omega
        · rw [if_neg h3]
          split <;> omega
  · intro v e k hv hk
    obtain ⟨f, hf, rfl⟩ := link_inv hv
    simp only at hk
    have key : k ∈ f.row ∨ (k = n ∧ u = v) := by
      by_cases h2 : u = v
      · rw [if_pos h2] at hk
        rcases mem_ins.1 hk with h | h
        · exact Or.inr ⟨h, h2⟩
        · exact Or.inl h
      · rw [if_neg h2] at hk
        exact Or.inl hk
    rcases key with h1 | ⟨rfl, rfl⟩
    · obtain ⟨c, hc, hcv⟩ := hi.rowok v f k hf h1
      refine ⟨_, link_get n u i hc, ?_⟩
      simp only
      rw [if_neg (fun (e : n = k) => hnin v f hf (e ▸ h1)), hcv]
    · refine ⟨_, link_get k u i hn, ?_⟩
      simp
  · intro v e hv
    obtain ⟨f, hf, rfl⟩ := link_inv hv
    simp only
    split
    · exact nodup_ins (hi.nodup v f hf) (hnin v f hf)
    · exact hi.nodup v f hf

theorem unlink_len (S : List Cl) (n u i : Nat) : (unlink S n u i).length = S.length := by simp [unlink]
theorem unlink_get {S : List Cl} (n u i : Nat) {j : Nat} {c : Cl} (h : S[j]? = some c) : (unlink S n u i)[j]? = some ⟨c.d, if n = j then none else c.up, if u = j then c.row.take i ++ c.row.drop (i + 1) else c.row⟩ := by
  unfold unlink
  rw [List.getElem?_modify, List.getElem?_modify, h]
  by_cases h1 : n = j <;> by_cases h2 : u = j <;> simp [h1, h2]
theorem unlink_inv {S : List Cl} {n u i j : Nat} {c : Cl} (h : (unlink S n u i)[j]? = some c) : ∃ e, S[j]? = some e ∧ c = ⟨e.d, if n = j then none else e.up, if u = j then e.row.take i ++ e.row.drop (i + 1) else e.row⟩ := by
  have hl := lt_of_some h
  rw [unlink_len] at hl
  refine ⟨S[j], List.getElem?_eq_getElem hl, ?_⟩
  rw [unlink_get n u i (List.getElem?_eq_getElem hl)] at h
  exact (Option.some.inj h).symm
theorem mem_cut {l : List Nat} {i n k : Nat} (hl : l.Nodup) (hi : l[i]? = some n) : k ∈ l.take i ++ l.drop (i + 1) ↔ k ∈ l ∧ k ≠ n := by
  rw [← List.eraseIdx_eq_take_drop_succ, List.mem_eraseIdx_iff_getElem?]
  constructor
  · rintro ⟨j, hj, hk⟩
    refine ⟨List.mem_of_getElem? hk, ?_⟩
    rintro rfl
    have h1 := lt_of_some hk
    have h2 := lt_of_some hi
    rw [List.getElem?_eq_getElem h1] at hk
    rw [List.getElem?_eq_getElem h2] at hi
    exact hj ((List.getElem_inj hl).1 (Option.some.inj (hk.trans hi.symm)))
  · rintro ⟨hm, hne⟩
    obtain ⟨j, hj⟩ := List.getElem?_of_mem hm
    refine ⟨j, ?_, hj⟩
    rintro rfl
    rw [hi] at hj
    exact hne (Option.some.inj hj).symm
theorem InvH.unlink {S : List Cl} {h : Nat → Nat} (hi : InvH S h) {n u i : Nat} {cn cu : Cl} (hn : S[n]? = some cn) (hup : cn.up = some u) (hu : S[u]? = some cu) (hr : cu.row[i]? = some n) : InvH (unlink S n u i) h := by
  refine ⟨by rw [unlink_len]; exact hi.pos, ?_, ?_, ?_⟩
  · intro m c v hm hv
    obtain ⟨e, he, rfl⟩ := unlink_inv hm
    simp only at hv
    by_cases hmn : n = m
    · rw [if_pos hmn] at hv
      cases hv
    · rw [if_neg hmn] at hv
      obtain ⟨⟨f, hf, hfm⟩, hlt⟩ := hi.upok m e v he hv
      refine ⟨⟨_, unlink_get n u i hf, ?_⟩, hlt⟩
      simp only
      by_cases h2 : u = v
      · rw [if_pos h2]
        subst h2
        rw [hu] at hf
        cases hf
        exact (mem_cut (hi.nodup u cu hu) hr).2 ⟨hfm, fun e => hmn e.symm⟩
      · rw [if_neg h2]
        exact hfm
  · intro v e k hv hk
    obtain ⟨f, hf, rfl⟩ := unlink_inv hv
    simp only at hk
    have key : k ∈ f.row ∧ k ≠ n := by
      by_cases h2 : u = v
      · rw [if_pos h2] at hk
        subst h2
        rw [hu] at hf
        cases hf
        exact (mem_cut (hi.nodup u cu hu) hr).1 hk
      · rw [if_neg h2] at hk
        refine ⟨hk, ?_⟩
        rintro rfl
        obtain ⟨c, hc, hcv⟩ := hi.rowok v f k hf hk
        rw [hn] at hc
        cases hc
        rw [hup] at hcv
        exact h2 (Option.some.inj hcv)
    obtain ⟨c, hc, hcv⟩ := hi.rowok v f k hf key.1
    refine ⟨_, unlink_get n u i hc, ?_⟩
    simp only
    rw [if_neg (fun e => key.2 e.symm), hcv]
  · intro v e hv
    obtain ⟨f, hf, rfl⟩ := unlink_inv hv
    simp only
    split
    · rw [← List.eraseIdx_eq_take_drop_succ]
      exact List.Nodup.eraseIdx _ (hi.nodup v f hf)
    · exact hi.nodup v f hf

theorem addText_len (S : List Cl) (k : Nat) (s : List UInt8) : (addText S k s).length = S.length := by simp [addText]
theorem addText_get {S : List Cl} (k : Nat) (s : List UInt8) {j : Nat} {c : Cl} (h : S[j]? = some c) : (addText S k s)[j]? = some ⟨if k = j then { c.d with text := c.d.text ++ s } else c.d, c.up, c.row⟩ := by
  unfold addText
  rw [List.getElem?_modify, h]
  by_cases h1 : k = j <;> simp [h1]
theorem addText_inv {S : List Cl} {k : Nat} {s : List UInt8} {j : Nat} {c : Cl} (h : (addText S k s)[j]? = some c) : ∃ e, S[j]? = some e ∧ c = ⟨if k = j then { e.d with text := e.d.text ++ s } else e.d, e.up, e.row⟩ := by
  have hl := lt_of_some h
  rw [addText_len] at hl
  refine ⟨S[j], List.getElem?_eq_getElem hl, ?_⟩
  rw [addText_get k s (List.getElem?_eq_getElem hl)] at h
  exact (Option.some.inj h).symm
theorem InvH.addText {S : List Cl} {h : Nat → Nat} (hi : InvH S h) (k : Nat) (s : List UInt8) : InvH (addText S k s) h := by
  refine ⟨by rw [addText_len]; exact hi.pos, ?_, ?_, ?_⟩
  · intro n c u hn hu
    obtain ⟨e, he, rfl⟩ := addText_inv hn
    obtain ⟨⟨f, hf, hm⟩, hlt⟩ := hi.upok n e u he hu
    exact ⟨⟨_, addText_get k s hf, hm⟩, hlt⟩
  · intro u e m hu hm
    obtain ⟨f, hf, rfl⟩ := addText_inv hu
    obtain ⟨c, hc, hcu⟩ := hi.rowok u f m hf hm
    exact ⟨_, addText_get k s hc, hcu⟩
  · intro u e hu
    obtain ⟨f, hf, rfl⟩ := addText_inv hu
    exact hi.nodup u f hf

theorem shift_len (S : List Cl) (f t : Nat) (row : List Nat) : (shift S f t row).length = S.length := by simp [shift]
theorem shift_get {S : List Cl} (f t : Nat) (row : List Nat) {j : Nat} {c : Cl} (h : S[j]? = some c) : (shift S f t row)[j]? = some ⟨c.d, if c.up = some f then some t else c.up, if f = j then [] else if t = j then c.row ++ row else c.row⟩ := by
  unfold shift
  rw [List.getElem?_modify, List.getElem?_modify, List.getElem?_map, h]
  by_cases h1 : f = j <;> by_cases h2 : t = j <;> simp [h1, h2]
theorem shift_inv {S : List Cl} {f t : Nat} {row : List Nat} {j : Nat} {c : Cl} (h : (shift S f t row)[j]? = some c) : ∃ e, S[j]? = some e ∧ c = ⟨e.d, if e.up = some f then some t else e.up, if f = j then [] else if t = j then e.row ++ row else e.row⟩ := by
  have hl := lt_of_some h
  rw [shift_len] at hl
  refine ⟨S[j], List.getElem?_eq_getElem hl, ?_⟩
  rw [shift_get f t row (List.getElem?_eq_getElem hl)] at h
  exact (Option.some.inj h).symm
theorem Inv.shift {S : List Cl} (hI : Inv S) {f t : Nat} {cf ct : Cl} (hf : S[f]? = some cf) (ht : S[t]? = some ct) (hna : ¬ Anc S t f) : Inv (shift S f t cf.row) := by
  classical
  obtain ⟨h, hi⟩ := hI
  have hne : f ≠ t := fun e => hna (e ▸ .here _)
  have kid : ∀ k c, S[k]? = some c → c.up = some f → ¬ Anc S t k := fun k c hk hc ha => hna (ha.tail hk hc)
  refine ⟨fun x => if Anc S t x then h x + h f + 1 else h x, ⟨by rw [shift_len]; exact hi.pos, ?_, ?_, ?_⟩⟩
  · intro m c v hm hv
    obtain ⟨e, he, rfl⟩ := shift_inv hm
    simp only at hv
    by_cases hmf : e.up = some f
    · rw [if_pos hmf] at hv
      cases hv
      obtain ⟨⟨g, hg, hgm⟩, hlt⟩ := hi.upok m e f he hmf
      rw [hf] at hg
      cases hg
      refine ⟨⟨_, shift_get f t cf.row ht, ?_⟩, ?_⟩
      · simp only [if_neg hne, if_pos]
        exact List.mem_append.2 (Or.inr hgm)
      · rw [if_neg (kid m e he hmf), if_pos (.here _)]
        omega
    · rw [if_neg hmf] at hv
      obtain ⟨⟨g, hg, hgm⟩, hlt⟩ := hi.upok m e v he hv
      refine ⟨⟨_, shift_get f t cf.row hg, ?_⟩, ?_⟩
      · simp only
        by_cases h2 : f = v
        · exact absurd (h2 ▸ hv) hmf
        · rw [if_neg h2]
          split
          · exact List.mem_append.2 (Or.inl hgm)
          · exact hgm
      · by_cases h3 : Anc S t m
        · rw [if_pos h3, if_pos (h3.tail he hv)]
          omega
        · rw [if_neg h3]
          split <;> omega
  · intro v e k hv hk
    obtain ⟨g, hg, rfl⟩ := shift_inv hv
    simp only at hk
    by_cases h2 : f = v
    · rw [if_pos h2] at hk
      cases hk
    · rw [if_neg h2] at hk
      by_cases h3 : t = v
      · rw [if_pos h3] at hk
        subst h3
        rcases List.mem_append.1 hk with h | h
        · obtain ⟨c, hc, hcv⟩ := hi.rowok t g k hg h
          refine ⟨_, shift_get f t cf.row hc, ?_⟩
          simp only
          split
          · rfl
          · exact hcv
        · obtain ⟨c, hc, hcv⟩ := hi.rowok f cf k hf h
          refine ⟨_, shift_get f t cf.row hc, ?_⟩
          simp only
          rw [if_pos hcv]
      · rw [if_neg h3] at hk
        obtain ⟨c, hc, hcv⟩ := hi.rowok v g k hg hk
        refine ⟨_, shift_get f t cf.row hc, ?_⟩
        simp only
        rw [if_neg (fun e => h2 (Option.some.inj (e.symm.trans hcv))), hcv]
  · intro v e hv
    obtain ⟨g, hg, rfl⟩ := shift_inv hv
    simp only
    split
    · exact List.nodup_nil
    · split
      · rename_i h2 h3
        subst h3
        rw [List.nodup_append]
        refine ⟨hi.nodup t g hg, hi.nodup f cf hf, ?_⟩
        rintro a ha b hb rfl
        obtain ⟨c, hc, hcv⟩ := hi.rowok t g a hg ha
        obtain ⟨c', hc', hcv'⟩ := hi.rowok f cf a hf hb
        rw [hc] at hc'
        cases hc'
        rw [hcv] at hcv'
        exact hne (Option.some.inj hcv').symm
      · exact hi.nodup v g hg

/-! ## Trees of them -/
def ndOf (S : List Cl) (k : Nat) : Nd := match S[k]? with | some c => c.d | none => ⟨0, 0, [], [], [], 0⟩
def treeF (S : List Cl) : Nat → Nat → Fo
  | 0, _ => .nil
  | f + 1, n => match S[n]? with | none => .nil | some c => Fo.ofList (c.row.map fun k => (ndOf S k, treeF S f k))
theorem treeF_fuel {S : List Cl} {h : Nat → Nat} (hi : InvH S h) : ∀ (f g n : Nat), h n < f → h n < g → treeF S f n = treeF S g n := by
  intro f
  induction f with
  | zero => intro g n h1; omega
  | succ f ih =>
    intro g n h1 h2
    match g, h2 with
    | g + 1, h2 =>
      unfold treeF
      cases hn : S[n]? with
      | none => rfl
      | some c =>
        simp only
        congr 1
        apply List.map_congr_left
        intro k hk
        have := (hi.row_h hn hk).2
        rw [ih g k (by omega) (by omega)]
theorem treeF_at {S : List Cl} {f n : Nat} {c : Cl} (h : S[n]? = some c) : treeF S (f + 1) n = Fo.ofList (c.row.map fun k => (ndOf S k, treeF S f k)) := by
  rw [treeF, h]
theorem h_bound (h : Nat → Nat) : ∀ n : Nat, ∃ M, ∀ k, k < n → h k ≤ M
  | 0 => ⟨0, fun k hk => by omega⟩
  | n + 1 => by
    obtain ⟨M, hM⟩ := h_bound h n
    refine ⟨max M (h n), fun k hk => ?_⟩
    rcases Nat.lt_or_ge k n with h1 | h1
    · exact Nat.le_trans (hM k h1) (Nat.le_max_left _ _)
    · have : k = n := by omega
      subst this
      exact Nat.le_max_right _ _
end Go.Proofs.Ytbadckkcjjfnoaa
