/-
  The walks of the program's eachOnce, bare, soundAlone, Sound. Any nodes, not too many.
-/
import Derived.Test.YtmhjfbdldpehdaaDSmall
import Derived.Maps.OwnSet
import Derived.Maps.Own
import Derived.StringKeys
namespace Go.Proofs.Ytmhjfbdldpehdaa
open Go.RowKit Go.Maps Go.WideMaps

/-- The set has the names of the first attributes of a row. -/
def Names (D : DataW Unit) (l : List (List UInt8 × List UInt8)) (k : Nat) : Prop :=
  (∀ s : List UInt8, has D (.string s) = (l.take k).any fun a => a.1 == s) ∧ size D ≤ k ∧ (size D = k ↔ onceA (l.take k) = true)
theorem Names.start (l : List (List UInt8 × List UInt8)) : Names (.map []) l 0 := ⟨fun s => by simp [has_eq], by simp [size_eq], by simp [size_eq, onceA]⟩
theorem Names.step {D : DataW Unit} {l : List (List UInt8 × List UInt8)} {k : Nat} (h : Names D l k) (hD : Tidy D) (hk : k < l.length) (hl : WideAt.IsKeyLit (.string l[k].1)) : Names (D.put (.string l[k].1) (.agg [])) l (k + 1) := by
  obtain ⟨h1, h2, h3⟩ := h
  have hs := size_put (k := Lit.string l[k].1) hD (DataW.agg (H := Unit) [])
  rw [h1] at hs
  have ht : l.take (k + 1) = l.take k ++ [l[k]] := List.take_succ_eq_append_getElem hk
  refine ⟨fun s => ?_, ?_, ?_⟩
  · rw [ht, List.any_append]
    by_cases e : s = l[k].1
    · subst e
      rw [has_put_same hD.isMap hl]
      simp
    · rw [has_put_other (fun q => e (by injection q)), h1]
      have : (l[k].1 == s) = false := by rw [beq_eq_false_iff_ne]; exact fun q => e q.symm
      simp [this]
  · rw [hs]; split <;> omega
  · rw [ht, onceA_snoc, hs]
    by_cases e : ((l.take k).any fun a => a.1 == l[k].1) = true
    · rw [if_pos e, e]
      simp
      omega
    · have e' : ((l.take k).any fun a => a.1 == l[k].1) = false := Bool.eq_false_iff.2 e
      rw [if_neg e, e']
      simp only [Bool.not_false, Bool.and_true]
      rw [← h3]
      omega
theorem law_str : Keyed Try.prog 9 := string_keyed Try.underlying9

set_option maxHeartbeats 1000000 in
set_option maxRecDepth 100000 in
theorem deachP (v : Value) (l : List (List UInt8 × List UInt8)) (P : Nat → Prop) (w : World) (h : AttrsP P w v l) (hN : l.length ≤ 4294967296) (hF : attrsFit l) : Calls Try.prog 142 #[v] w (Brings (.bool (onceA l)) w) := by
  obtain ⟨p, cap, rfl, hc⟩ := h
  have HC := Lib.hid hc
  have HF := Lib.hid hF.2
  clear hc hF
  have hmm := @run_makeMap Try.prog
  go_enter Try.func142, Try.ntmps142
  go_wp2
  go_loopw [9] (fun i wr => ∃ (k : Nat) (D : DataW Unit), k ≤ l.length ∧ i = .int .i64 (k : Int) ∧ wr.ownsMap Try.prog 9 unitElem w.heap.size k D ∧ Names D l k ∧ Below w.heap.size w wr) (fun i _ => l.length - (intOf i).toNat)
  case atStart => exact ⟨0, .map [], Nat.zero_le _, rfl, World.ownsMap_made _ _ _ _, Names.start l, (Below.refl _ _).alloc (Nat.le_refl _) _⟩
  case round =>
    obtain ⟨k, D, hk, rfl, hO, hM, hB⟩ := hrel
    have HM := Lib.hid hM
    have HB := Lib.hid hB
    clear hM hB
    by_cases hlt : k < l.length
    · obtain ⟨g, o, rfl, _, hg, hcell⟩ := HC.out (by omega)
      obtain ⟨h0, h1⟩ := hcell k hlt
      have hgs := HB.out.size
      have g0 := (HB.out.cell (p := ⟨g, o + k * 2, none⟩) hg).trans h0
      have g1 := (HB.out.cell (p := ⟨g, o + k * 2 + 1, none⟩) hg).trans h1
      have hkey : keyOf Try.prog 9 (.string ⟨l[k].1.toArray⟩) = some (.string l[k].1) := by
        have := WideMaps.keyOf_string_mk (P := Try.prog) Try.underlying9 (s := ⟨l[k].1.toArray⟩) (by show l[k].1.toArray.size ≤ _; rw [List.size_toArray]; exact HF.out _ (List.getElem_mem hlt))
        simpa using this
      have HT := Lib.hid (hO.tidy law_str)
      have HKL := Lib.hid (law_str.key hkey)
      obtain ⟨w1, hrun, hown1, hgrow1⟩ := (hO.alloc (.cells #[.string ⟨l[k].1.toArray⟩, .string ⟨l[k].2.toArray⟩] 46)).update law_str Try.underlying158 (by unfold maxLen; omega) hkey unitElem_mk
      have HO1 := Lib.hid hown1
      have HG1 := Lib.hid hgrow1
      have HN1 := Lib.hid (HM.out.step HT.out hlt HKL.out)
      have hgw : g < wr.heap.size := by omega
      clear hcell h0 h1 hown1 hgrow1 hkey hO
      generalize (⟨l[k].1.toArray⟩ : ByteArray) = A at *
      generalize (⟨l[k].2.toArray⟩ : ByteArray) = B at *
      go_wp2
      refine ⟨⟨k + 1, _, by omega, by go_num, HO1.out, HN1.out, ?_⟩, by simp [intOf]; omega⟩
      exact (HB.out.alloc HB.out.size _).grown HG1.out (by have := HB.out.size; simp; omega) (fun j hj => by injection hj with hj; omega)
    · have hkl : k = l.length := by omega
      have hlen := hO.len Try.underlying158
      have HR : Hid (((size D : Int) == (l.length : Int)) = onceA l) := by
        refine Lib.hid ?_
        obtain ⟨_, h2, h3⟩ := HM.out
        rw [hkl, List.take_length] at h3
        cases ho : onceA l with
        | true => rw [beq_iff_eq]; have := h3.2 ho; omega
        | false =>
          rw [beq_eq_false_iff_ne]
          intro e
          have := h3.1 (by omega)
          rw [ho] at this
          cases this
      clear hO hkl
      go_wp2
      go_ret
      exact ⟨by rw [HR.out]; rfl, HB.out⟩

/-- What a node may not have, if it is no element. -/
def bareD (d : Nd) (kids : Nat) : Bool := decide (d.space = 0) && d.name.isEmpty && decide (d.attrs.length = 0) && decide (kids = 0)
theorem str_empty (l : List UInt8) : ((⟨l.toArray⟩ : ByteArray).toList == []) = l.isEmpty := by
  rw [Lib.toList_data]
  cases l <;> rfl
theorem int_zero (n : Int) : (n == 0) = decide (n = 0) := by rw [Bool.eq_iff_iff, beq_iff_eq, decide_eq_true_eq]
theorem nat_zero (n : Nat) : ((n : Int) == 0) = decide (n = 0) := by rw [Bool.eq_iff_iff, beq_iff_eq, decide_eq_true_eq]; omega

set_option maxHeartbeats 1000000 in
set_option maxRecDepth 100000 in
theorem dbareP (d : Nd) (g o : Nat) (pa pk : Option Addr) (ca lk ck : Nat) (w : World) (h7 : Cells7 w g o d (.slice pa d.attrs.length ca) (.slice pk lk ck)) : Calls Try.prog 143 #[.pointer (some ⟨g, o, none⟩)] w (Gives (.bool (bareD d lk)) w) := by
  obtain ⟨c0, c1, c2, c3, c4, c5, c6⟩ := h7
  have q1 := int_zero d.space
  have q2 := str_empty d.name
  have q3 := nat_zero d.attrs.length
  have q4 := nat_zero lk
  have HE : Hid (bareD d lk = (decide (d.space = 0) && d.name.isEmpty && decide (d.attrs.length = 0) && decide (lk = 0))) := Lib.hid rfl
  generalize (⟨d.name.toArray⟩ : ByteArray) = N at *
  cases b1 : decide (d.space = 0)
  · rw [b1] at q1 HE
    go_enter Try.func143, Try.ntmps143
    go_wp2
    go_ret
    exact ⟨by rw [HE.out]; rfl, rfl⟩
  · rw [b1] at q1 HE
    cases b2 : d.name.isEmpty
    · rw [b2] at q2 HE
      go_enter Try.func143, Try.ntmps143
      go_wp2
      go_ret
      exact ⟨by rw [HE.out]; rfl, rfl⟩
    · rw [b2] at q2 HE
      cases b3 : decide (d.attrs.length = 0)
      · rw [b3] at q3 HE
        go_enter Try.func143, Try.ntmps143
        go_wp2
        go_ret
        exact ⟨by rw [HE.out]; rfl, rfl⟩
      · rw [b3] at q3 HE
        cases b4 : decide (lk = 0) <;>
        · rw [b4] at q4 HE
          go_enter Try.func143, Try.ntmps143
          go_wp2
          go_ret
          exact ⟨by rw [HE.out]; rfl, rfl⟩
/-- May a node be there, whatever its kids are? -/
def okAlone (d : Nd) (kids : Nat) : Bool :=
  if d.kind = 1 then decide (1 ≤ d.space) && decide (d.space ≤ 3) && !d.name.isEmpty && d.text.isEmpty && decide (d.frm = 0) && onceA d.attrs
  else if d.kind = 2 then bareD d kids && !d.text.isEmpty && decide (0 ≤ d.frm)
  else if d.kind = 3 then bareD d kids && decide (d.frm = 0)
  else false
theorem str_some (l : List UInt8) : (⟨l.toArray⟩ : ByteArray).toList.isEmpty = l.isEmpty := by rw [Lib.toList_data]
set_option maxHeartbeats 1000000 in
set_option maxRecDepth 100000 in
theorem dalone_e0 (d : Nd) (g o : Nat) (pa pk : Option Addr) (ca lk ck : Nat) (w : World) (h7 : Cells7 w g o d (.slice pa d.attrs.length ca) (.slice pk lk ck)) (hk : d.kind = 1) (a0 : ¬ 1 ≤ d.space) : Calls Try.prog 88 #[.pointer (some ⟨g, o, none⟩)] w (Brings (.bool (okAlone d lk)) w) := by
  have HE : Hid (okAlone d lk = false) := Lib.hid (by unfold okAlone; rw [if_pos hk, decide_eq_false a0]; rfl)
  obtain ⟨c0, c1, c2, c3, c4, c5, c6⟩ := h7
  rw [hk] at c0
  clear hk
  generalize (⟨d.name.toArray⟩ : ByteArray) = N at *
  generalize (⟨d.text.toArray⟩ : ByteArray) = T at *
  go_enter Try.func88, Try.ntmps88
  go_wp2_with fail
  go_ret
  exact ⟨by rw [HE.out]; rfl, Below.refl _ _⟩
set_option maxHeartbeats 1000000 in
set_option maxRecDepth 100000 in
theorem dalone_e1 (d : Nd) (g o : Nat) (pa pk : Option Addr) (ca lk ck : Nat) (w : World) (h7 : Cells7 w g o d (.slice pa d.attrs.length ca) (.slice pk lk ck)) (hk : d.kind = 1) (a0 : 1 ≤ d.space) (a1 : ¬ d.space ≤ 3) : Calls Try.prog 88 #[.pointer (some ⟨g, o, none⟩)] w (Brings (.bool (okAlone d lk)) w) := by
  have HE : Hid (okAlone d lk = false) := Lib.hid (by unfold okAlone; rw [if_pos hk, decide_eq_true a0, decide_eq_false a1]; rfl)
  obtain ⟨c0, c1, c2, c3, c4, c5, c6⟩ := h7
  rw [hk] at c0
  clear hk
  generalize (⟨d.name.toArray⟩ : ByteArray) = N at *
  generalize (⟨d.text.toArray⟩ : ByteArray) = T at *
  go_enter Try.func88, Try.ntmps88
  go_wp2_with fail
  go_ret
  exact ⟨by rw [HE.out]; rfl, Below.refl _ _⟩
set_option maxHeartbeats 1000000 in
set_option maxRecDepth 100000 in
theorem dalone_e2 (d : Nd) (g o : Nat) (pa pk : Option Addr) (ca lk ck : Nat) (w : World) (h7 : Cells7 w g o d (.slice pa d.attrs.length ca) (.slice pk lk ck)) (hk : d.kind = 1) (a0 : 1 ≤ d.space) (a1 : d.space ≤ 3) (a2 : d.name.isEmpty = true) : Calls Try.prog 88 #[.pointer (some ⟨g, o, none⟩)] w (Brings (.bool (okAlone d lk)) w) := by
  have HE : Hid (okAlone d lk = false) := Lib.hid (by unfold okAlone; rw [if_pos hk, decide_eq_true a0, decide_eq_true a1, a2]; rfl)
  obtain ⟨c0, c1, c2, c3, c4, c5, c6⟩ := h7
  rw [hk] at c0
  have q2 : (⟨d.name.toArray⟩ : ByteArray).toList.isEmpty = true := by rw [str_some, a2]
  clear hk a2
  generalize (⟨d.name.toArray⟩ : ByteArray) = N at *
  generalize (⟨d.text.toArray⟩ : ByteArray) = T at *
  go_enter Try.func88, Try.ntmps88
  go_wp2_with fail
  go_ret
  exact ⟨by rw [HE.out]; rfl, Below.refl _ _⟩
set_option maxHeartbeats 1000000 in
set_option maxRecDepth 100000 in
theorem dalone_e3 (d : Nd) (g o : Nat) (pa pk : Option Addr) (ca lk ck : Nat) (w : World) (h7 : Cells7 w g o d (.slice pa d.attrs.length ca) (.slice pk lk ck)) (hk : d.kind = 1) (a0 : 1 ≤ d.space) (a1 : d.space ≤ 3) (a2 : d.name.isEmpty = false) (a3 : d.text.isEmpty = false) : Calls Try.prog 88 #[.pointer (some ⟨g, o, none⟩)] w (Brings (.bool (okAlone d lk)) w) := by
  have HE : Hid (okAlone d lk = false) := Lib.hid (by unfold okAlone; rw [if_pos hk, decide_eq_true a0, decide_eq_true a1, a2, a3]; rfl)
  obtain ⟨c0, c1, c2, c3, c4, c5, c6⟩ := h7
  rw [hk] at c0
  have q2 : (⟨d.name.toArray⟩ : ByteArray).toList.isEmpty = false := by rw [str_some, a2]
  have q3 := str_empty d.text
  rw [a3] at q3
  clear hk a2 a3
  generalize (⟨d.name.toArray⟩ : ByteArray) = N at *
  generalize (⟨d.text.toArray⟩ : ByteArray) = T at *
  go_enter Try.func88, Try.ntmps88
  go_wp2_with fail
  go_ret
  exact ⟨by rw [HE.out]; rfl, Below.refl _ _⟩
set_option maxHeartbeats 1000000 in
set_option maxRecDepth 100000 in
theorem dalone_e4 (d : Nd) (g o : Nat) (pa pk : Option Addr) (ca lk ck : Nat) (w : World) (h7 : Cells7 w g o d (.slice pa d.attrs.length ca) (.slice pk lk ck)) (hk : d.kind = 1) (a0 : 1 ≤ d.space) (a1 : d.space ≤ 3) (a2 : d.name.isEmpty = false) (a3 : d.text.isEmpty = true) (a4 : ¬ d.frm = 0) : Calls Try.prog 88 #[.pointer (some ⟨g, o, none⟩)] w (Brings (.bool (okAlone d lk)) w) := by
  have HE : Hid (okAlone d lk = false) := Lib.hid (by unfold okAlone; rw [if_pos hk, decide_eq_true a0, decide_eq_true a1, a2, a3, decide_eq_false a4]; rfl)
  obtain ⟨c0, c1, c2, c3, c4, c5, c6⟩ := h7
  rw [hk] at c0
  have q2 : (⟨d.name.toArray⟩ : ByteArray).toList.isEmpty = false := by rw [str_some, a2]
  have q3 := str_empty d.text
  rw [a3] at q3
  have q4 := int_zero d.frm
  rw [decide_eq_false a4] at q4
  clear hk a2 a3 a4
  generalize (⟨d.name.toArray⟩ : ByteArray) = N at *
  generalize (⟨d.text.toArray⟩ : ByteArray) = T at *
  go_enter Try.func88, Try.ntmps88
  go_wp2_with fail
  go_ret
  exact ⟨by rw [HE.out]; rfl, Below.refl _ _⟩
set_option maxHeartbeats 1000000 in
set_option maxRecDepth 100000 in
theorem dalone_e5 (d : Nd) (g o : Nat) (pa pk : Option Addr) (ca lk ck : Nat) (P : Nat → Prop) (w : World) (h7 : Cells7 w g o d (.slice pa d.attrs.length ca) (.slice pk lk ck)) (ha : AttrsP P w (.slice pa d.attrs.length ca) d.attrs) (hN : d.attrs.length ≤ 4294967296) (hF : attrsFit d.attrs) (hk : d.kind = 1) (a0 : 1 ≤ d.space) (a1 : d.space ≤ 3) (a2 : d.name.isEmpty = false) (a3 : d.text.isEmpty = true) (a4 : d.frm = 0) : Calls Try.prog 88 #[.pointer (some ⟨g, o, none⟩)] w (Brings (.bool (okAlone d lk)) w) := by
  have HE : Hid (okAlone d lk = onceA d.attrs) := Lib.hid (by unfold okAlone; rw [if_pos hk, decide_eq_true a0, decide_eq_true a1, a2, a3, decide_eq_true a4]; rfl)
  have HO := Lib.hid (deachP _ _ P w ha hN hF)
  obtain ⟨c0, c1, c2, c3, c4, c5, c6⟩ := h7
  rw [hk] at c0
  have q2 : (⟨d.name.toArray⟩ : ByteArray).toList.isEmpty = false := by rw [str_some, a2]
  have q3 := str_empty d.text
  rw [a3] at q3
  have q4 := int_zero d.frm
  rw [decide_eq_true a4] at q4
  clear hk a2 a3 a4 ha hF
  generalize (⟨d.name.toArray⟩ : ByteArray) = N at *
  generalize (⟨d.text.toArray⟩ : ByteArray) = T at *
  go_enter Try.func88, Try.ntmps88
  go_wp2_with fail
  refine HO.out.mono ?_
  rintro e w2 ⟨rfl, b2⟩
  generalize onceA d.attrs = R at *
  go_wp2_with fail
  go_ret
  exact ⟨by rw [HE.out]; rfl, b2⟩
set_option maxHeartbeats 1000000 in
set_option maxRecDepth 100000 in
theorem dalone_t0 (d : Nd) (g o : Nat) (pa pk : Option Addr) (ca lk ck : Nat) (w : World) (h7 : Cells7 w g o d (.slice pa d.attrs.length ca) (.slice pk lk ck)) (hk : d.kind = 2) (a0 : bareD d lk = false) : Calls Try.prog 88 #[.pointer (some ⟨g, o, none⟩)] w (Brings (.bool (okAlone d lk)) w) := by
  have HE : Hid (okAlone d lk = false) := Lib.hid (by unfold okAlone; rw [if_neg (by omega), if_pos hk, a0]; rfl)
  have HO := Lib.hid (dbareP d g o pa pk ca lk ck w h7)
  rw [a0] at HO
  obtain ⟨c0, c1, c2, c3, c4, c5, c6⟩ := h7
  rw [hk] at c0
  clear hk a0
  generalize (⟨d.name.toArray⟩ : ByteArray) = N at *
  generalize (⟨d.text.toArray⟩ : ByteArray) = T at *
  go_enter Try.func88, Try.ntmps88
  go_wp2_with fail
  refine HO.out.mono ?_
  rintro e w2 ⟨rfl, rfl⟩
  go_wp2_with fail
  go_ret
  exact ⟨by rw [HE.out]; rfl, Below.refl _ _⟩
set_option maxHeartbeats 1000000 in
set_option maxRecDepth 100000 in
theorem dalone_t1 (d : Nd) (g o : Nat) (pa pk : Option Addr) (ca lk ck : Nat) (w : World) (h7 : Cells7 w g o d (.slice pa d.attrs.length ca) (.slice pk lk ck)) (hk : d.kind = 2) (a0 : bareD d lk = true) (a1 : d.text.isEmpty = true) : Calls Try.prog 88 #[.pointer (some ⟨g, o, none⟩)] w (Brings (.bool (okAlone d lk)) w) := by
  have HE : Hid (okAlone d lk = false) := Lib.hid (by unfold okAlone; rw [if_neg (by omega), if_pos hk, a0, a1]; rfl)
  have HO := Lib.hid (dbareP d g o pa pk ca lk ck w h7)
  rw [a0] at HO
  obtain ⟨c0, c1, c2, c3, c4, c5, c6⟩ := h7
  rw [hk] at c0
  have q1 : (⟨d.text.toArray⟩ : ByteArray).toList.isEmpty = true := by rw [str_some, a1]
  clear hk a0 a1
  generalize (⟨d.name.toArray⟩ : ByteArray) = N at *
  generalize (⟨d.text.toArray⟩ : ByteArray) = T at *
  go_enter Try.func88, Try.ntmps88
  go_wp2_with fail
  refine HO.out.mono ?_
  rintro e w2 ⟨rfl, rfl⟩
  go_wp2_with fail
  go_ret
  exact ⟨by rw [HE.out]; rfl, Below.refl _ _⟩
set_option maxHeartbeats 1000000 in
set_option maxRecDepth 100000 in
theorem dalone_t2 (d : Nd) (g o : Nat) (pa pk : Option Addr) (ca lk ck : Nat) (w : World) (h7 : Cells7 w g o d (.slice pa d.attrs.length ca) (.slice pk lk ck)) (hk : d.kind = 2) (a0 : bareD d lk = true) (a1 : d.text.isEmpty = false) (a2 : ¬ 0 ≤ d.frm) : Calls Try.prog 88 #[.pointer (some ⟨g, o, none⟩)] w (Brings (.bool (okAlone d lk)) w) := by
  have HE : Hid (okAlone d lk = false) := Lib.hid (by unfold okAlone; rw [if_neg (by omega), if_pos hk, a0, a1, decide_eq_false a2]; rfl)
  have HO := Lib.hid (dbareP d g o pa pk ca lk ck w h7)
  rw [a0] at HO
  obtain ⟨c0, c1, c2, c3, c4, c5, c6⟩ := h7
  rw [hk] at c0
  have q1 : (⟨d.text.toArray⟩ : ByteArray).toList.isEmpty = false := by rw [str_some, a1]
  clear hk a0 a1
  generalize (⟨d.name.toArray⟩ : ByteArray) = N at *
  generalize (⟨d.text.toArray⟩ : ByteArray) = T at *
  go_enter Try.func88, Try.ntmps88
  go_wp2_with fail
  refine HO.out.mono ?_
  rintro e w2 ⟨rfl, rfl⟩
  go_wp2_with fail
  go_ret
  exact ⟨by rw [HE.out, ← decide_eq_false (show ¬ (0 ≤ d.frm) by omega)]; rfl, Below.refl _ _⟩
set_option maxHeartbeats 1000000 in
set_option maxRecDepth 100000 in
theorem dalone_t3 (d : Nd) (g o : Nat) (pa pk : Option Addr) (ca lk ck : Nat) (w : World) (h7 : Cells7 w g o d (.slice pa d.attrs.length ca) (.slice pk lk ck)) (hk : d.kind = 2) (a0 : bareD d lk = true) (a1 : d.text.isEmpty = false) (a2 : 0 ≤ d.frm) : Calls Try.prog 88 #[.pointer (some ⟨g, o, none⟩)] w (Brings (.bool (okAlone d lk)) w) := by
  have HE : Hid (okAlone d lk = true) := Lib.hid (by unfold okAlone; rw [if_neg (by omega), if_pos hk, a0, a1, decide_eq_true a2]; rfl)
  have HO := Lib.hid (dbareP d g o pa pk ca lk ck w h7)
  rw [a0] at HO
  obtain ⟨c0, c1, c2, c3, c4, c5, c6⟩ := h7
  rw [hk] at c0
  have q1 : (⟨d.text.toArray⟩ : ByteArray).toList.isEmpty = false := by rw [str_some, a1]
  clear hk a0 a1
  generalize (⟨d.name.toArray⟩ : ByteArray) = N at *
  generalize (⟨d.text.toArray⟩ : ByteArray) = T at *
  go_enter Try.func88, Try.ntmps88
  go_wp2_with fail
  refine HO.out.mono ?_
  rintro e w2 ⟨rfl, rfl⟩
  go_wp2_with fail
  go_ret
  exact ⟨by rw [HE.out]; rfl, Below.refl _ _⟩
set_option maxHeartbeats 1000000 in
set_option maxRecDepth 100000 in
theorem dalone_n0 (d : Nd) (g o : Nat) (pa pk : Option Addr) (ca lk ck : Nat) (w : World) (h7 : Cells7 w g o d (.slice pa d.attrs.length ca) (.slice pk lk ck)) (hk : d.kind = 3) (a0 : bareD d lk = false) : Calls Try.prog 88 #[.pointer (some ⟨g, o, none⟩)] w (Brings (.bool (okAlone d lk)) w) := by
  have HE : Hid (okAlone d lk = false) := Lib.hid (by unfold okAlone; rw [if_neg (by omega), if_neg (by omega), if_pos hk, a0]; rfl)
  have HO := Lib.hid (dbareP d g o pa pk ca lk ck w h7)
  rw [a0] at HO
  obtain ⟨c0, c1, c2, c3, c4, c5, c6⟩ := h7
  rw [hk] at c0
  clear hk a0
  go_enter Try.func88, Try.ntmps88
  go_wp2_with fail
  refine HO.out.mono ?_
  rintro e w2 ⟨rfl, rfl⟩
  go_wp2_with fail
  go_ret
  exact ⟨by rw [HE.out]; rfl, Below.refl _ _⟩
set_option maxHeartbeats 1000000 in
set_option maxRecDepth 100000 in
theorem dalone_n1 (d : Nd) (g o : Nat) (pa pk : Option Addr) (ca lk ck : Nat) (w : World) (h7 : Cells7 w g o d (.slice pa d.attrs.length ca) (.slice pk lk ck)) (hk : d.kind = 3) (a0 : bareD d lk = true) (a1 : ¬ d.frm = 0) : Calls Try.prog 88 #[.pointer (some ⟨g, o, none⟩)] w (Brings (.bool (okAlone d lk)) w) := by
  have HE : Hid (okAlone d lk = false) := Lib.hid (by unfold okAlone; rw [if_neg (by omega), if_neg (by omega), if_pos hk, a0, decide_eq_false a1]; rfl)
  have HO := Lib.hid (dbareP d g o pa pk ca lk ck w h7)
  rw [a0] at HO
  obtain ⟨c0, c1, c2, c3, c4, c5, c6⟩ := h7
  rw [hk] at c0
  have q1 := int_zero d.frm
  rw [decide_eq_false a1] at q1
  clear hk a0 a1
  go_enter Try.func88, Try.ntmps88
  go_wp2_with fail
  refine HO.out.mono ?_
  rintro e w2 ⟨rfl, rfl⟩
  go_wp2_with fail
  go_ret
  exact ⟨by rw [HE.out]; rfl, Below.refl _ _⟩
set_option maxHeartbeats 1000000 in
set_option maxRecDepth 100000 in
theorem dalone_n2 (d : Nd) (g o : Nat) (pa pk : Option Addr) (ca lk ck : Nat) (w : World) (h7 : Cells7 w g o d (.slice pa d.attrs.length ca) (.slice pk lk ck)) (hk : d.kind = 3) (a0 : bareD d lk = true) (a1 : d.frm = 0) : Calls Try.prog 88 #[.pointer (some ⟨g, o, none⟩)] w (Brings (.bool (okAlone d lk)) w) := by
  have HE : Hid (okAlone d lk = true) := Lib.hid (by unfold okAlone; rw [if_neg (by omega), if_neg (by omega), if_pos hk, a0, decide_eq_true a1]; rfl)
  have HO := Lib.hid (dbareP d g o pa pk ca lk ck w h7)
  rw [a0] at HO
  obtain ⟨c0, c1, c2, c3, c4, c5, c6⟩ := h7
  rw [hk] at c0
  have q1 := int_zero d.frm
  rw [decide_eq_true a1] at q1
  clear hk a0 a1
  go_enter Try.func88, Try.ntmps88
  go_wp2_with fail
  refine HO.out.mono ?_
  rintro e w2 ⟨rfl, rfl⟩
  go_wp2_with fail
  go_ret
  exact ⟨by rw [HE.out]; rfl, Below.refl _ _⟩
set_option maxHeartbeats 1000000 in
set_option maxRecDepth 100000 in
theorem dalone_x (d : Nd) (g o : Nat) (pa pk : Option Addr) (ca lk ck : Nat) (w : World) (h7 : Cells7 w g o d (.slice pa d.attrs.length ca) (.slice pk lk ck)) (h1 : ¬ d.kind = 1) (h2 : ¬ d.kind = 2) (h3 : ¬ d.kind = 3) : Calls Try.prog 88 #[.pointer (some ⟨g, o, none⟩)] w (Brings (.bool (okAlone d lk)) w) := by
  have HE : Hid (okAlone d lk = false) := Lib.hid (by unfold okAlone; rw [if_neg h1, if_neg h2, if_neg h3])
  obtain ⟨c0, c1, c2, c3, c4, c5, c6⟩ := h7
  have q1 : (d.kind == 1) = false := beq_eq_false_iff_ne.2 h1
  have q2 : (d.kind == 2) = false := beq_eq_false_iff_ne.2 h2
  have q3 : (d.kind == 3) = false := beq_eq_false_iff_ne.2 h3
  go_enter Try.func88, Try.ntmps88
  go_wp2_with fail
  go_ret
  exact ⟨by rw [HE.out]; rfl, Below.refl _ _⟩
theorem daloneP (d : Nd) (g o : Nat) (pa pk : Option Addr) (ca lk ck : Nat) (P : Nat → Prop) (w : World) (h7 : Cells7 w g o d (.slice pa d.attrs.length ca) (.slice pk lk ck)) (ha : AttrsP P w (.slice pa d.attrs.length ca) d.attrs) (hN : d.attrs.length ≤ 4294967296) (hF : attrsFit d.attrs) : Calls Try.prog 88 #[.pointer (some ⟨g, o, none⟩)] w (Brings (.bool (okAlone d lk)) w) := by
  by_cases k1 : d.kind = 1
  · by_cases a0 : 1 ≤ d.space
    case neg => exact dalone_e0 d g o pa pk ca lk ck w h7 k1 a0
    by_cases a1 : d.space ≤ 3
    case neg => exact dalone_e1 d g o pa pk ca lk ck w h7 k1 a0 a1
    cases a2 : d.name.isEmpty
    case true => exact dalone_e2 d g o pa pk ca lk ck w h7 k1 a0 a1 a2
    cases a3 : d.text.isEmpty
    case false => exact dalone_e3 d g o pa pk ca lk ck w h7 k1 a0 a1 a2 a3
    by_cases a4 : d.frm = 0
    case neg => exact dalone_e4 d g o pa pk ca lk ck w h7 k1 a0 a1 a2 a3 a4
    exact dalone_e5 d g o pa pk ca lk ck P w h7 ha hN hF k1 a0 a1 a2 a3 a4
  · by_cases k2 : d.kind = 2
    · cases a0 : bareD d lk
      case false => exact dalone_t0 d g o pa pk ca lk ck w h7 k2 a0
      cases a1 : d.text.isEmpty
      case true => exact dalone_t1 d g o pa pk ca lk ck w h7 k2 a0 a1
      by_cases a2 : 0 ≤ d.frm
      case neg => exact dalone_t2 d g o pa pk ca lk ck w h7 k2 a0 a1 a2
      exact dalone_t3 d g o pa pk ca lk ck w h7 k2 a0 a1 a2
    · by_cases k3 : d.kind = 3
      · cases a0 : bareD d lk
        case false => exact dalone_n0 d g o pa pk ca lk ck w h7 k3 a0
        by_cases a1 : d.frm = 0
        case neg => exact dalone_n1 d g o pa pk ca lk ck w h7 k3 a0 a1
        exact dalone_n2 d g o pa pk ca lk ck w h7 k3 a0 a1
      · exact dalone_x d g o pa pk ca lk ck w h7 k1 k2 k3
end Go.Proofs.Ytmhjfbdldpehdaa
