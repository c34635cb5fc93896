/-
  The walks of the program's tokens: stop, read, withoutZeros, inside, endsAt, endOf, upToEnd, behindMute, noteUpTo, note. Any text of at most 2^28 bytes; the library's number MaxLen and the table of package refs are there.
-/
import Derived.Test.YtgelgfgcdfnacaaGreatDoorXUp
namespace Go.Proofs.YtgelgfgcdfnacaaGreatDoor
open Go.RowKit

/-- What Next tells: a token and the place behind it; nothing old is changed. -/
def LexOut (t : Tok × Nat) (w : World) (e : Ending) (w' : World) : Prop :=
  ∃ v, e = .returned (.tuple #[.agg #[.int .i64 t.1.kind, .string ⟨t.1.name.toArray⟩, v, .bool t.1.self, .string ⟨t.1.text.toArray⟩], .int .i64 (t.2 : Int)]) ∧ AttrsAt w' v t.1.attrs ∧ Below w.heap.size w w'
/-- What the program finds ready: the library's number, the table of package refs. -/
structure Ready (w : World) : Prop where
  max : HasMax w
  early : HasEarly w
theorem Ready.below {w w' : World} (h : Ready w) (hb : Below w.heap.size w w') : Ready w' := ⟨h.max.below hb, h.early.below hb h.early.size⟩
theorem Ready.alloc {w : World} (h : Ready w) (o : Obj) : Ready (w.alloc o) := h.below ((Below.refl _ w).alloc (Nat.le_refl _) o)

set_option maxHeartbeats 1000000 in
set_option maxRecDepth 100000 in
theorem zeros_lex (s : ByteArray) (w : World) (hm : HasMax w) (hs : s.size ≤ 1073741824) : Calls Tryz.prog 50 #[.string s] w (Tells (Plain.clear s.data.toList) w) := by
  have H := Lib.hid (zeros_rep s w hm hs)
  clear hm
  go_enter Tryz.func50, Tryz.ntmps50
  go_wp2_with fail
  refine H.out.mono ?_
  rintro e w1 ⟨rfl, hb⟩
  go_wp2
  go_ret
  exact ⟨rfl, hb⟩
/-- The result's block (w's next) as it is made, in W. -/
structure ResW (w W : World) : Prop where
  lt : w.heap.size < W.heap.size
  r : ∀ j, W.cell? ⟨w.heap.size, j, none⟩ = (#[.int .i64 0, .string ⟨#[]⟩, .slice none 0 0, .bool false, .string ⟨#[]⟩] : Array Value)[j]?
  fr : ∀ j, W.frozen? ⟨w.heap.size, j, none⟩ = false
  below : Below w.heap.size w W
theorem ResW.start (w : World) : ResW w (w.alloc (.cells #[.int .i64 0, .string ⟨#[]⟩, .slice none 0 0, .bool false, .string ⟨#[]⟩] 33)) :=
  ⟨by simp, fun j => World.cell?_alloc_mark w _ 33 (0, 0) j, fun j => by rw [World.frozen?_alloc_mark]; simp, (Below.refl _ w).alloc (Nat.le_refl _) _⟩
theorem ResW.on {w W W' : World} (h : ResW w W) (hb : Below W.heap.size W W') : ResW w W' :=
  ⟨Nat.lt_of_lt_of_le h.lt hb.size, fun j => (hb.cell (p := ⟨w.heap.size, j, none⟩) h.lt).trans (h.r j), fun j => (hb.frozen (p := ⟨w.heap.size, j, none⟩) h.lt).trans (h.fr j), h.below.trans (hb.mono h.below.size)⟩
theorem AttrsAt.form {W : World} {v : Value} {rs : List (List UInt8 × List UInt8)} (h : AttrsAt W v rs) : ∃ p cap, v = .slice p rs.length cap := by
  obtain ⟨p, cap, rfl, _⟩ := h
  exact ⟨p, cap, rfl⟩
theorem AttrsAt.off {W W' : World} {v : Value} {rs : List (List UInt8 × List UInt8)} {b : Nat} {k : IntKind} {z : Int} (h : AttrsAt W v rs) (hb : W.cell? ⟨b, 0, none⟩ = some (.int k z)) (hs : W.heap.size ≤ W'.heap.size) (hc : ∀ g j, g ≠ b → W'.cell? ⟨g, j, none⟩ = W.cell? ⟨g, j, none⟩) : AttrsAt W' v rs := by
  obtain ⟨p, cap, rfl, h⟩ := h
  refine ⟨p, cap, rfl, fun j hj => ?_⟩
  obtain ⟨g, hp, hg, h0, h1⟩ := h j hj
  have hne : g ≠ b := by
    rintro rfl
    obtain ⟨g', hp', _, h0', _⟩ := h 0 (by omega)
    rw [hp] at hp'
    have e : g = g' := by injection hp' with hp'; injection hp'
    subst e
    rw [Nat.zero_mul, hb] at h0'
    cases h0'
  exact ⟨g, hp, by omega, by rw [hc g _ hne]; exact h0, by rw [hc g _ hne]; exact h1⟩
/-- The result's five cells set. -/
abbrev set5 (W : World) (b : Nat) (v0 v1 v2 v3 v4 : Value) : World := ((((W.setCell ⟨b, 0, none⟩ v0).setCell ⟨b, 1, none⟩ v1).setCell ⟨b, 2, none⟩ v2).setCell ⟨b, 3, none⟩ v3).setCell ⟨b, 4, none⟩ v4
theorem ResW.done {w W : World} (h : ResW w W) {v : Value} {rs : List (List UInt8 × List UInt8)} (ha : AttrsAt W v rs) (v0 v1 v2 v3 v4 : Value) : Below w.heap.size w (set5 W w.heap.size v0 v1 v2 v3 v4) ∧ AttrsAt (set5 W w.heap.size v0 v1 v2 v3 v4) v rs := by
  constructor
  · iterate 5 refine Below.setCell ?_ (by simp) _
    exact h.below
  · refine ha.off (b := w.heap.size) (h.r 0) (by simp) (fun g j hg => ?_)
    iterate 5 rw [World.cell?_setCell_other _ _ _ _ (fun q => hg (by injection q with q1; exact q1.symm))]

set_option maxHeartbeats 1000000 in
set_option maxRecDepth 100000 in
theorem stop_lex (s : ByteArray) (w : World) : Calls Tryz.prog 19 #[.string s] w (LexOut (stopT s.data.toList) w) := by
  have HL := Lib.hid (len_of s)
  go_enter Tryz.func19, Tryz.ntmps19
  go_wp2
  refine bodyPost_ret (v := .tuple #[.agg #[.int .i64 5, .string ⟨#[]⟩, .slice none 0 0, .bool false, .string ⟨#[]⟩], .int .i64 (s.size : Int)]) (by simp [results, Tryz.results19, go_sem, *]) rfl ⟨.slice none 0 0, ?_, AttrsAt.nil _, (Below.refl _ w).alloc (Nat.le_refl _) _⟩
  unfold stopT
  rw [HL.out]
set_option maxHeartbeats 1000000 in
set_option maxRecDepth 100000 in
theorem read_lex (s : ByteArray) (k : Nat) (w : World) (hR : Ready w) (hat : Plain.atTag (s.data.toList.drop k) = true) (hs : s.size ≤ 268435456) : Calls Tryz.prog 30 #[.string s, .int .i64 (k : Int)] w (LexOut (readL s.data.toList k) w) := by
  have hk := atTag_lt _ _ hat
  have H := fun W h1 h2 => Lib.hid (read_tk s k W h1 h2 (by unfold atPlace; rw [decide_eq_true (by omega), decide_eq_true (by omega)]; simpa using hat) hs)
  have HRD : Hid (readL s.data.toList k = if (tagT s.data.toList k).kind = 0 then stopT s.data.toList else (⟨(tagT s.data.toList k).kind, (tagT s.data.toList k).name, (tagT s.data.toList k).attrs, (tagT s.data.toList k).self, []⟩, (tagT s.data.toList k).behind)) := Lib.hid rfl
  generalize tagT s.data.toList k = T at *
  obtain ⟨K, nm, rs, sf, bh⟩ := T
  have HR := Lib.hid hR
  have HX := Lib.hid (ResW.start w)
  clear hR hat
  go_enter Tryz.func30, Tryz.ntmps30
  go_wp2_with fail
  generalize w.alloc (.cells #[.int .i64 0, .string ⟨#[]⟩, .slice none 0 0, .bool false, .string ⟨#[]⟩] 33) = W0 at *
  refine (H W0 (HR.out.below HX.out.below).max (HR.out.below HX.out.below).early).out.mono ?_
  rintro e w1 ⟨v, rfl, ha, b1⟩
  have HX1 := Lib.hid (HX.out.on b1)
  obtain ⟨p, cap, hv⟩ := ha.form
  subst hv
  have HAt := Lib.hid ha
  clear HX b1 ha H
  have hlt := HX1.out.lt
  have r0 := HX1.out.r 0
  have r1 := HX1.out.r 1
  have r2 := HX1.out.r 2
  have r3 := HX1.out.r 3
  have r4 := HX1.out.r 4
  have fr := HX1.out.fr
  by_cases hK : K = 0
  · subst hK
    go_wp2_with fail
    refine (stop_lex s _).mono ?_
    rintro e w2 ⟨v2, rfl, ha2, b2⟩
    have b3 : Below w1.heap.size w1 w2 := ((Below.refl _ w1).alloc (Nat.le_refl _) _).trans (b2.mono (by simp))
    have HX2 := Lib.hid (HX1.out.on b3)
    obtain ⟨p2, cap2, hv⟩ := ha2.form
    subst hv
    have HA2 := Lib.hid ha2
    clear b2 b3 ha2 hlt r0 r1 r2 r3 r4 fr
    have hlt := HX2.out.lt
    have r0 := HX2.out.r 0
    have r1 := HX2.out.r 1
    have r2 := HX2.out.r 2
    have r3 := HX2.out.r 3
    have r4 := HX2.out.r 4
    have fr := HX2.out.fr
    generalize stopT s.data.toList = ST at *
    obtain ⟨⟨tk, tn, ta, ts, tt⟩, tb⟩ := ST
    go_wp2_with fail
    obtain ⟨d1, d2⟩ := HX2.out.done HA2.out (.int .i64 tk) (.string ⟨tn.toArray⟩) (.slice p2 ta.length cap2) (.bool ts) (.string ⟨tt.toArray⟩)
    refine bodyPost_ret (v := .tuple #[.agg #[.int .i64 tk, .string ⟨tn.toArray⟩, .slice p2 ta.length cap2, .bool ts, .string ⟨tt.toArray⟩], .int .i64 (tb : Int)]) (by simp [results, Tryz.results30, go_sem, *]) rfl ?_
    rw [HRD.out]
    exact ⟨_, rfl, d2, d1⟩
  · have q1 : (K == 0) = false := beq_eq_false_iff_ne.2 hK
    have HKK := Lib.hid hK
    clear hK
    go_wp2_with fail
    obtain ⟨d1, d2⟩ := HX1.out.done HAt.out (.int .i64 K) (.string ⟨nm.toArray⟩) (.slice p rs.length cap) (.bool sf) (.string ⟨#[]⟩)
    refine bodyPost_ret (v := .tuple #[.agg #[.int .i64 K, .string ⟨nm.toArray⟩, .slice p rs.length cap, .bool sf, .string ⟨#[]⟩], .int .i64 (bh : Int)]) (by simp [results, Tryz.results30, go_sem, *]) rfl ?_
    rw [HRD.out, if_neg HKK.out]
    exact ⟨_, rfl, d2.below ((Below.refl _ _).alloc (Nat.le_refl _) _), d1.alloc d1.size _⟩

theorem TextsAt.made (w : World) (ws : List (List UInt8)) (t : TypeId) : TextsAt (w.alloc (.cells (ws.map strV).toArray t)) (.slice (some ⟨w.heap.size, 0, none⟩) ws.length ws.length) ws := by
  refine Or.inr ⟨w.heap.size, ws.length, rfl, by simp, Nat.le_refl _, fun j hj => ?_⟩
  refine (World.cell?_alloc_mark w _ t (0, 0) j).trans ?_
  rw [List.getElem?_toArray, List.getElem?_map, List.getElem?_eq_getElem hj]
  rfl

set_option maxHeartbeats 1000000 in
set_option maxRecDepth 100000 in
theorem inside_lex (s : ByteArray) (st : Nat) (w : World) (hR : Ready w) (hst : st ≤ 4) (hs : s.size ≤ 268435456) : Calls Tryz.prog 31 #[.string s, .int .i64 (st : Int)] w (Tells (insideT st s.data.toList) w) := by
  have HR := Lib.hid hR
  clear hR
  by_cases h1 : st = 1
  · subst h1
    have HE := fun W h => Lib.hid (expand_any s false W (by omega) h)
    have hel := Plain.expand_len _ s.data.toList false (Nat.le_refl _)
    rw [len_of] at hel
    unfold insideT
    rw [if_pos rfl]
    generalize Plain.expand s.data.toList false = E at *
    have hsz : (⟨E.toArray⟩ : ByteArray).size ≤ 1073741824 := by show E.toArray.size ≤ _; simp; omega
    have HZ := fun W h => Lib.hid (zeros_lex ⟨E.toArray⟩ W h hsz)
    go_enter Tryz.func31, Tryz.ntmps31
    go_wp2_with fail
    refine (HE _ HR.out.early).out.mono ?_
    rintro e w1 ⟨rfl, b1⟩
    have HB := Lib.hid b1
    clear b1
    go_wp2_with fail
    refine (HZ _ (HR.out.below HB.out).max).out.mono ?_
    rintro e w2 ⟨rfl, b2⟩
    go_wp2
    go_ret
    exact ⟨rfl, HB.out.trans (b2.mono HB.out.size)⟩
  · have HZ := fun W h => Lib.hid (zeros_lex s W h (by omega))
    unfold insideT
    rw [if_neg h1]
    have q1 : ((st : Int) == 1) = false := beq_eq_false_iff_ne.2 (by omega)
    go_enter Tryz.func31, Tryz.ntmps31
    go_wp2_with fail
    refine (HZ _ HR.out.max).out.mono ?_
    rintro e w2 ⟨rfl, b2⟩
    go_wp2
    go_ret
    exact ⟨rfl, b2⟩

set_option maxHeartbeats 1000000 in
set_option maxRecDepth 100000 in
theorem noteUpTo_lex (s : ByteArray) (f : Nat) (v : Value) (ends : List (List UInt8)) (w : World) (hR : Ready w) (hv : TextsAt w v ends) (hf : f ≤ s.size) (hs : s.size ≤ 268435456) (hN : ends.length ≤ 1000) : Calls Tryz.prog 36 #[.string s, .int .i64 (f : Int), v] w (LexOut (noteTo ends s.data.toList f) w) := by
  obtain ⟨p, cap, rfl, _, _⟩ := hv.slice
  have HV := Lib.hid hv
  have HR := Lib.hid hR
  clear hv hR
  have HX := Lib.hid (ResW.start w)
  have HU := fun W h => Lib.hid (upto_lex s f (.slice p ends.length cap) ends W h hf hs hN)
  have hle := up_le ends s.data.toList f (by rw [len_of]; exact hf)
  rw [len_of] at hle
  have HN : Hid (noteTo ends s.data.toList f = (noteT (Plain.clear (mid s.data.toList f (upL ends s.data.toList f).1)), (upL ends s.data.toList f).2)) := Lib.hid rfl
  generalize upL ends s.data.toList f = U at *
  obtain ⟨a, b⟩ := U
  simp only at hle
  have hsl := fun W => slice_mid s f a W hle.1 (by omega)
  have HM := Lib.hid (mid_list s f a)
  have hms : (s.extract f a).size ≤ 268435456 := by simp; omega
  generalize s.extract f a = M at *
  have HZ := fun W h => Lib.hid (zeros_lex M W h (by omega))
  go_enter Tryz.func36, Tryz.ntmps36
  go_wp2_with fail
  refine (HU _ (HV.out.below HX.out.below)).out.mono ?_
  rintro e w1 ⟨rfl, rfl⟩
  go_wp2_with fail
  refine (HZ _ (HR.out.below HX.out.below).max).out.mono ?_
  rintro e w2 ⟨rfl, b2⟩
  have HX2 := Lib.hid (HX.out.on b2)
  have hlt := HX2.out.lt
  have r0 := HX2.out.r 0
  have r1 := HX2.out.r 1
  have r2 := HX2.out.r 2
  have r3 := HX2.out.r 3
  have r4 := HX2.out.r 4
  have fr := HX2.out.fr
  clear b2 HX
  go_wp2_with fail
  obtain ⟨d1, d2⟩ := HX2.out.done (AttrsAt.nil _) (.int .i64 4) (.string ⟨#[]⟩) (.slice none 0 0) (.bool false) (.string ⟨(Plain.clear M.data.toList).toArray⟩)
  refine bodyPost_ret (v := .tuple #[.agg #[.int .i64 4, .string ⟨#[]⟩, .slice none 0 0, .bool false, .string ⟨(Plain.clear M.data.toList).toArray⟩], .int .i64 (b : Int)]) (by simp [results, Tryz.results36, go_sem, *]) rfl ?_
  rw [HN.out, show mid s.data.toList f a = M.data.toList from HM.out.symm]
  exact ⟨_, rfl, d2, d1⟩

theorem has_lex (s p : ByteArray) (f : Nat) (b : Bool) (h : p.data.toList.isPrefixOf (s.data.toList.drop f) = b) (W : World) : Calls Tryz.prog 22 #[.string (s.extract f s.size), .string p] W (Gives (.bool b) W) := by
  refine (Tryz.strings_HasPrefix (s.extract f s.size) p W).mono ?_
  rintro e w' ⟨rfl, rfl⟩
  refine ⟨?_, rfl⟩
  rw [from_list, ← h]
  rfl
set_option maxHeartbeats 1000000 in
set_option maxRecDepth 100000 in
theorem note_lex (s : ByteArray) (f : Nat) (w : World) (hR : Ready w) (hf : f ≤ s.size) (hs : s.size ≤ 268435456) : Calls Tryz.prog 35 #[.string s, .int .i64 (f : Int)] w (LexOut (remarkT s.data.toList f) w) := by
  have HR := Lib.hid hR
  have HX := Lib.hid (ResW.start w)
  clear hR
  cases h1 : [45, 62].isPrefixOf (s.data.toList.drop f)
  · have HP1 := fun W => Lib.hid (has_lex s ⟨#[45, 62]⟩ f false h1 W)
    cases h2 : [62].isPrefixOf (s.data.toList.drop f)
    · have HP2 := fun W => Lib.hid (has_lex s ⟨#[62]⟩ f false h2 W)
      have HN : Hid (remarkT s.data.toList f = noteTo [[45, 45, 62], [45, 45, 33, 62]] s.data.toList f) := Lib.hid (by unfold remarkT; rw [if_neg (by rw [h1]; decide), if_neg (by rw [h2]; decide)])
      clear h1 h2
      go_enter Tryz.func35, Tryz.ntmps35
      go_wp2_with fail
      refine (HP1 _).out.mono ?_
      rintro e w1 ⟨rfl, rfl⟩
      go_wp2_with fail
      refine (HP2 _).out.mono ?_
      rintro e w1 ⟨rfl, rfl⟩
      go_wp2_with fail
      have hz : w.heap.size + 1 = (w.alloc (.cells #[.int .i64 0, .string ⟨#[]⟩, .slice none 0 0, .bool false, .string ⟨#[]⟩] 33)).heap.size := by simp
      rw [hz]
      generalize w.alloc (.cells #[.int .i64 0, .string ⟨#[]⟩, .slice none 0 0, .bool false, .string ⟨#[]⟩] 33) = W0 at *
      have hb : Below W0.heap.size W0 (W0.alloc (.cells #[.string ⟨#[45, 45, 62]⟩, .string ⟨#[45, 45, 33, 62]⟩] 9)) := (Below.refl _ _).alloc (Nat.le_refl _) _
      have HX1 := Lib.hid (HX.out.on hb)
      have HT : Hid (TextsAt (W0.alloc (.cells #[.string ⟨#[45, 45, 62]⟩, .string ⟨#[45, 45, 33, 62]⟩] 9)) (.slice (some ⟨W0.heap.size, 0, none⟩) 2 2) [[45, 45, 62], [45, 45, 33, 62]]) := Lib.hid (TextsAt.made W0 [[45, 45, 62], [45, 45, 33, 62]] 9)
      clear hb HX hz
      generalize W0.alloc (.cells #[.string ⟨#[45, 45, 62]⟩, .string ⟨#[45, 45, 33, 62]⟩] 9) = W1 at *
      refine (noteUpTo_lex s f _ _ W1 (HR.out.below HX1.out.below) HT.out hf hs (by simp)).mono ?_
      rintro e w2 ⟨v2, rfl, ha2, b2⟩
      have HX2 := Lib.hid (HX1.out.on b2)
      obtain ⟨p2, cap2, hv2⟩ := ha2.form
      subst hv2
      have HA2 := Lib.hid ha2
      clear b2 ha2
      have hlt := HX2.out.lt
      have r0 := HX2.out.r 0
      have r1 := HX2.out.r 1
      have r2 := HX2.out.r 2
      have r3 := HX2.out.r 3
      have r4 := HX2.out.r 4
      have fr := HX2.out.fr
      generalize noteTo [[45, 45, 62], [45, 45, 33, 62]] s.data.toList f = ST at *
      obtain ⟨⟨tk, tn, ta, ts, tt⟩, tb⟩ := ST
      go_wp2_with fail
      obtain ⟨d1, d2⟩ := HX2.out.done (HA2.out) (.int .i64 tk) (.string ⟨tn.toArray⟩) (.slice p2 ta.length cap2) (.bool ts) (.string ⟨tt.toArray⟩)
      refine bodyPost_ret (v := .tuple #[.agg #[.int .i64 tk, .string ⟨tn.toArray⟩, .slice p2 ta.length cap2, .bool ts, .string ⟨tt.toArray⟩], .int .i64 (tb : Int)]) (by simp [results, Tryz.results35, go_sem, *]) rfl ?_
      rw [HN.out]
      exact ⟨_, rfl, d2, d1⟩
    · have HP2 := fun W => Lib.hid (has_lex s ⟨#[62]⟩ f true h2 W)
      have HN : Hid (remarkT s.data.toList f = (noteT [], f + 1)) := Lib.hid (by unfold remarkT; rw [if_neg (by rw [h1]; decide), if_pos h2])
      clear h1 h2
      go_enter Tryz.func35, Tryz.ntmps35
      go_wp2_with fail
      refine (HP1 _).out.mono ?_
      rintro e w1 ⟨rfl, rfl⟩
      go_wp2_with fail
      refine (HP2 _).out.mono ?_
      rintro e w1 ⟨rfl, rfl⟩
      go_wp2_with fail
      refine bodyPost_ret (v := .tuple #[.agg #[.int .i64 4, .string ⟨#[]⟩, .slice none 0 0, .bool false, .string ⟨#[]⟩], .int .i64 ((f : Int) + 1)]) (by simp [results, Tryz.results35, go_sem, *]) rfl ?_
      rw [HN.out]
      exact ⟨.slice none 0 0, by simp only [Int.natCast_add]; rfl, AttrsAt.nil _, (Below.refl _ w).alloc (Nat.le_refl _) _⟩
  · have HP1 := fun W => Lib.hid (has_lex s ⟨#[45, 62]⟩ f true h1 W)
    have HN : Hid (remarkT s.data.toList f = (noteT [], f + 1 + 1)) := Lib.hid (by unfold remarkT; rw [if_pos h1])
    clear h1
    go_enter Tryz.func35, Tryz.ntmps35
    go_wp2_with fail
    refine (HP1 _).out.mono ?_
    rintro e w1 ⟨rfl, rfl⟩
    go_wp2_with fail
    refine bodyPost_ret (v := .tuple #[.agg #[.int .i64 4, .string ⟨#[]⟩, .slice none 0 0, .bool false, .string ⟨#[]⟩], .int .i64 ((f : Int) + 1 + 1)]) (by simp [results, Tryz.results35, go_sem, *]) rfl ?_
    rw [HN.out]
    exact ⟨.slice none 0 0, by simp only [Int.natCast_add]; rfl, AttrsAt.nil _, (Below.refl _ w).alloc (Nat.le_refl _) _⟩
end Go.Proofs.YtgelgfgcdfnacaaGreatDoor
