/-
  The walks of the program's tag.Same and of the reference's. Any two rows of attributes, not too many.
-/
import Derived.Test.YtbadckkcjjfnoaaMAlike
import Derived.DeepKeys4
import Derived.Maps.Keyed
import Derived.WideKeyEntry
import Derived.Maps.Own
import Derived.Carry
namespace Go.Proofs.Ytbadckkcjjfnoaa
open Go.RowKit Go.Maps Go.WideMaps

theorem bool_is {a b : Bool} (h : a = b) : Ending.returned (.bool a) = .returned (.bool b) := by rw [h]
/-- The slice v, at whichever place of a block, holds the attributes rs in w. -/
def AttrsIn (w : World) (v : Value) (rs : List (List UInt8 × List UInt8)) : Prop :=
  (∃ p cap, v = .slice p rs.length cap ∧ ∀ j (hj : j < rs.length), ∃ g off, p = some ⟨g, off, none⟩ ∧ g < w.heap.size ∧ w.cell? ⟨g, off + j * 2, none⟩ = some (.string ⟨rs[j].1.toArray⟩) ∧ w.cell? ⟨g, off + j * 2 + 1, none⟩ = some (.string ⟨rs[j].2.toArray⟩)) ∧
  ∀ x ∈ rs, x.1.length ≤ maxLen ∧ x.2.length ≤ maxLen
theorem AttrsIn.below {w w' : World} {v : Value} {rs : List (List UInt8 × List UInt8)} (h : AttrsIn w v rs) (hb : Below w.heap.size w w') : AttrsIn w' v rs := by
  obtain ⟨⟨p, cap, rfl, hc⟩, hs⟩ := h
  refine ⟨⟨p, cap, rfl, fun j hj => ?_⟩, hs⟩
  obtain ⟨g, off, h1, h2, h3, h4⟩ := hc j hj
  exact ⟨g, off, h1, Nat.lt_of_lt_of_le h2 hb.size, (hb.cell (p := ⟨g, off + j * 2, none⟩) h2).trans h3, (hb.cell (p := ⟨g, off + j * 2 + 1, none⟩) h2).trans h4⟩
theorem AttrsP.has {P : Nat → Prop} {w : World} {v : Value} {rs : List (List UInt8 × List UInt8)} (h : AttrsP P w v rs) (hs : ∀ x ∈ rs, x.1.length ≤ maxLen ∧ x.2.length ≤ maxLen) : AttrsIn w v rs := by
  obtain ⟨p, cap, rfl, hc⟩ := h
  refine ⟨⟨p, cap, rfl, fun j hj => ?_⟩, hs⟩
  obtain ⟨g, o, h1, _, h2, h3⟩ := hc (by omega)
  exact ⟨g, o, h1, h2, (h3 j hj).1, (h3 j hj).2⟩
/-- Is each of the first in the second, and are they of one length? -/
def sameV (xs ys : List (List UInt8 × List UInt8)) : Bool := (xs.all fun a => ys.any fun b => a == b) && decide (xs.length = ys.length)

theorem sameV_no (xs ys : List (List UInt8 × List UInt8)) (k : Nat) (h : k < xs.length) (hn : (ys.any fun b => xs[k] == b) = false) : sameV xs ys = false := by
  have : (xs.all fun a => ys.any fun b => a == b) = false := by
    rw [List.all_eq_false]
    exact ⟨xs[k], List.getElem_mem h, by rw [hn]; decide⟩
  unfold sameV
  rw [this, Bool.false_and]
theorem sameV_step (xs ys : List (List UInt8 × List UInt8)) (k : Nat) (h : k < xs.length) (ha : ((xs.take k).all fun a => ys.any fun b => a == b) = true) (hy : (ys.any fun b => xs[k] == b) = true) : ((xs.take (k + 1)).all fun a => ys.any fun b => a == b) = true := by
  rw [List.take_succ_eq_append_getElem h, List.all_append, ha, Bool.true_and, List.all_cons, hy, List.all_nil]
  rfl

theorem lit_inj {a b : Int} (h : (DataW.lit (Lit.int .i64 a) : DataW Unit) = .lit (.int .i64 b)) : a = b := by
  injection h with e
  injection e
theorem zero_int (w : World) : (zeroValue 3).run Try.prog w = .ok (.int .i64 0) w := by kernel_rfl

theorem lo : laidOutB Try.prog = true := by kernel_rfl
theorem law_attr : Keyed Try.prog 40 := Keyed.of_law (deep_law_laid lo (m := 4) (by omega) (of_decide_eq_true (by kernel_rfl)) (by kernel_rfl) (by kernel_rfl))

theorem keyLits_str (d : Nat) (s : ByteArray) (h : s.size ≤ maxLen) : Try.prog.keyLits (d + 1) 9 [.string s] = some [.string s.data.toList] := by
  unfold Program.keyLits
  rw [(Try.underlying9 )]
  simp [h]
theorem keyLits_attr (d : Nat) (A V : ByteArray) (hA : A.size ≤ maxLen) (hV : V.size ≤ maxLen) : Try.prog.keyLits (d + 1 + 1) 40 [.string A, .string V] = some [.string A.data.toList, .string V.data.toList] := by
  have hc : Try.prog.cellsOf 40 = 2 := by kernel_rfl
  have hc1 : Try.prog.cellsOf 9 = 1 := by kernel_rfl
  unfold Program.keyLits
  rw [(Try.underlying40 )]
  simp [hc, hc1, keyLits_str, hA, hV]
theorem key_attr (A V : ByteArray) (hA : A.size ≤ maxLen) (hV : V.size ≤ maxLen) : ∃ kl, keyOf Try.prog 40 (.agg #[.string A, .string V]) = some kl := by
  have hk : Try.prog.keyType 40 = true := by kernel_rfl
  have hc : Try.prog.cellsOf 40 = 2 := by kernel_rfl
  have hf : (Value.agg #[.string A, .string V]).formed Try.prog 40 = true := by
    simp [Value.formed, (Try.underlying40 ), hc]
  obtain ⟨d, hs⟩ : ∃ d, Try.prog.types.size + 1 = d + 1 + 1 := ⟨Try.prog.types.size - 1, by have h1 : 1 ≤ Try.prog.types.size := of_decide_eq_true (by kernel_rfl); omega⟩
  unfold keyOf
  rw [(Try.underlying40 )]
  simp only [hk, hf, Bool.and_self, if_true]
  rw [hs, show (Value.agg #[.string A, .string V]).cells.toList = [.string A, .string V] from rfl, keyLits_attr d A V hA hV]
  exact ⟨_, rfl⟩

theorem block_same (W : World) (b : Nat) (o : Obj) (h : W.heap[b]? = some o) : Go.ChangeMaps.setBlock W b o = W := by
  have e : W.heap.setIfInBounds b o = W.heap := by
    obtain ⟨hb, hv⟩ := Array.getElem?_eq_some_iff.1 h
    apply Array.ext
    · simp
    · intro i h1 h2
      rw [Array.getElem_setIfInBounds]
      split
      · rename_i q
        subst q
        exact hv.symm
      · rfl
  unfold Go.ChangeMaps.setBlock
  rw [e]
theorem block_twice (W : World) (b : Nat) (o p : Obj) : Go.ChangeMaps.setBlock (Go.ChangeMaps.setBlock W b o) b p = Go.ChangeMaps.setBlock W b p := by
  unfold Go.ChangeMaps.setBlock
  simp
open Go.WideElems in
theorem count_step (W : World) (b n : Nat) (D : DataW Unit) (hown : W.ownsMap Try.prog 40 (plainElem Try.prog 3) b n D) (hn : n < 1000) (key : Value) (kl : Lit) (hkey : keyOf Try.prog 40 key = some kl) :
    ∃ (c : Int) (v0 : Value) (st : Nat) (W1 : World), D.atKey kl (.lit (.int .i64 0)) = .lit (.int .i64 c) ∧
      (Instr.lookup 159 (.map (some b)) key false).run Try.prog W = .ok (.int .i64 c) W ∧
      (Instr.mapEntry 159 (.map (some b)) key).run Try.prog W = .ok (.tuple #[v0, .int .i64 (st : Int)]) W1 ∧
      (Instr.lookup 159 (.map (some b)) key false).run Try.prog W1 = .ok (.int .i64 c) W1 ∧
      ∀ (u : Int), (Lit.int .i64 u).wf = true → ∃ W2, (Instr.entryStore 159 (.map (some b)) (.int .i64 (st : Int)) (.int .i64 u)).run Try.prog W1 = .ok () W2 ∧ W2.ownsMap Try.prog 40 (plainElem Try.prog 3) b (n + 1) (D.put kl (.lit (.int .i64 u))) ∧ W.grownBy W2 (some b) := by
  have ht : Try.prog.underlying 159 = some (.map 40 3) := Try.underlying159
  have K : KeyLaw Try.prog 40 := deep_law_laid lo (m := 4) (by omega) (of_decide_eq_true (by kernel_rfl)) (by kernel_rfl) (by kernel_rfl)
  obtain ⟨c, hrun, hat, hwc⟩ := hown.lookup_int law_attr ht (Try.underlying3 ) (zero_int _) hkey
  have hown0 := hown
  obtain ⟨es, clock, hb, F, hs, hD⟩ := hown
  obtain ⟨v0, st, es1, clock1, hme, hv, hst⟩ := entry_then_store K ht (fun u => zero_int u) hb F hkey
  refine ⟨c, v0, st, _, hat, hrun, hme, ?_, ?_⟩
  · rcases law_attr.find W hkey es.toList F.keys with ⟨h1, h2⟩ | ⟨j, e0, h1, h2, h3⟩
    · have hm2 : (Instr.mapEntry 159 (.map (some b)) key).run Try.prog W = .ok (.tuple #[.int .i64 0, goInt clock]) (Go.ChangeMaps.setBlock W b (.map (es.push ⟨key, .int .i64 0, clock⟩) (clock + 1))) := by
        simp [Instr.mapEntry, run_underlying ht, MapKept.run_getObj_map hb, law_attr.check W false hkey, h1, MapKept.run_setObj_map _ hb, Result.andThen, Go.ChangeMaps.setBlock]
      have hu2 : (Instr.mapUpdate 159 (.map (some b)) key (.int .i64 0)).run Try.prog W = .ok () (Go.ChangeMaps.setBlock W b (.map (es.push ⟨key, .int .i64 0, clock⟩) (clock + 1))) := by
        simp [Instr.mapUpdate, run_underlying ht, MapKept.run_getObj_map hb, law_attr.check W false hkey, h1, MapKept.run_setObj_map _ hb, Result.andThen, Go.ChangeMaps.setBlock]
      have hl2 : (Instr.lookup 159 (.map (some b)) key false).run Try.prog W = .ok (.int .i64 0) W := by
        simp [Instr.lookup, run_underlying ht, MapKept.run_getObj_map hb, law_attr.check W es.isEmpty hkey, h1, Result.andThen]
      rw [hm2] at hme
      rw [hl2] at hrun
      have ec : (0 : Int) = c := by have := (Result.ok.inj hrun).1; injection this
      subst ec
      rw [← (Result.ok.inj hme).2]
      obtain ⟨w', g3, g4, _⟩ := hown0.update law_attr ht (by unfold maxLen; omega) hkey (plainElem_int (Try.underlying3 ) (show (Lit.int .i64 0).wf = true by decide))
      rw [hu2] at g3
      have e := (Result.ok.inj g3).2
      rw [e]
      obtain ⟨c1, k1, k2, _⟩ := g4.lookup_int law_attr ht (Try.underlying3 ) (zero_int _) hkey
      rw [atKey_put_same hown0.isMap (law_attr.key hkey)] at k2
      rw [k1, ← lit_inj k2]
    · have hj : es[j]? = some e0 := by simpa using h2
      have hsame : es.modify j (fun e => { e with key := key }) = es := by
        apply Array.ext'
        rw [Array.toList_modify, Go.ChangeMaps.modify_eq_set _ _ _ _ h2]
        have : ({ e0 with key := key } : MapEntry) = e0 := by rw [← h3]
        rw [this]
        exact set_self _ _ _ h2
      have hm2 : (Instr.mapEntry 159 (.map (some b)) key).run Try.prog W = .ok (.tuple #[e0.val, goInt e0.born]) (Go.ChangeMaps.setBlock W b (.map es clock)) := by
        simp [Instr.mapEntry, run_underlying ht, MapKept.run_getObj_map hb, law_attr.check W false hkey, h1, hj, h3, law_attr.stays W hkey, hsame, MapKept.run_setObj_map _ hb, Result.andThen, Go.ChangeMaps.setBlock]
      rw [hm2] at hme
      rw [← (Result.ok.inj hme).2, block_same W b _ hb]
      exact hrun
  · intro u hu
    have hb1 : (Go.ChangeMaps.setBlock W b (.map es1 clock1)).heap[b]? = some (.map es1 clock1) := Go.ChangeMaps.heap_setBlock_same hb _
    obtain ⟨es', clock', h1, h2⟩ := hst _ (.int .i64 u) hb1
    obtain ⟨w', h3, h4, h5⟩ := hown0.update law_attr ht (by unfold maxLen; omega) hkey (plainElem_int (Try.underlying3 ) hu)
    rw [h2] at h3
    have e := (Result.ok.inj h3).2
    rw [block_twice, e] at h1
    exact ⟨_, h1, h4, h5⟩

/-- An attribute as the key that it is. -/
def attrV (x : List UInt8 × List UInt8) : Value := .agg #[.string ⟨x.1.toArray⟩, .string ⟨x.2.toArray⟩]
theorem attrV_inj {x y : List UInt8 × List UInt8} (h : attrV x = attrV y) : x = y := by
  unfold attrV at h
  injection h with h
  have h1 := congrArg (fun a : Array Value => a[0]?) h
  have h2 := congrArg (fun a : Array Value => a[1]?) h
  simp at h1 h2
  exact Prod.ext h1 h2
/-- The map counts the first attributes of a row. -/
def Counts (D : DataW Unit) (ys : List (List UInt8 × List UInt8)) (j : Nat) : Prop :=
  ∀ x kl, keyOf Try.prog 40 (attrV x) = some kl → ∃ c : Int, D.atKey kl (.lit (.int .i64 0)) = .lit (.int .i64 c) ∧ 0 ≤ c ∧ c ≤ j ∧ (c = 0 ↔ x ∉ ys.take j)
theorem Counts.start (ys : List (List UInt8 × List UInt8)) : Counts (.map []) ys 0 := by
  exact fun x kl _ => ⟨0, rfl, by omega, by omega, by simp⟩
theorem Counts.step {D : DataW Unit} {ys : List (List UInt8 × List UInt8)} {j : Nat} (h : Counts D ys j) (hD : IsMap D) (hj : j < ys.length) (kl : Lit) (hk : keyOf Try.prog 40 (attrV ys[j]) = some kl) (c : Int) (hc : D.atKey kl (.lit (.int .i64 0)) = .lit (.int .i64 c)) : Counts (D.put kl (.lit (.int .i64 (c + 1)))) ys (j + 1) := by
  intro x kx hx
  obtain ⟨c', h1, h2, h3, h4⟩ := h x kx hx
  rw [List.take_succ_eq_append_getElem hj, List.mem_append, List.mem_singleton]
  by_cases e : kx = kl
  · subst e
    have ex : x = ys[j] := attrV_inj (law_attr.inj hx hk)
    rw [hc] at h1
    have ec := lit_inj h1
    subst ec
    refine ⟨c + 1, atKey_put_same hD (law_attr.key hk) _ _, by omega, by omega, ⟨fun q => by omega, fun q => absurd (Or.inr ex) q⟩⟩
  · refine ⟨c', by rw [atKey_put_other e, h1], h2, by omega, ?_⟩
    rw [h4]
    have hne : x ≠ ys[j] := by
      intro q
      rw [q, hk] at hx
      exact e (Option.some.inj hx).symm
    simp [hne]

set_option maxHeartbeats 4000000 in
set_option maxRecDepth 100000 in
theorem same_in (a b : Value) (xs ys : List (List UInt8 × List UInt8)) (w : World) (ha : AttrsIn w a xs) (hb : AttrsIn w b ys) (hN : xs.length ≤ 30) : Calls Try.prog 144 #[a, b] w (Brings (.bool (sameV xs ys)) w) := by
  obtain ⟨⟨p, cap, rfl, hc⟩, hsx⟩ := ha
  obtain ⟨⟨p2, cap2, rfl, hc2⟩, hsy⟩ := hb
  have HC := Lib.hid hc
  have HC2 := Lib.hid hc2
  have HSX := Lib.hid hsx
  have HSY := Lib.hid hsy
  clear hc hc2 hsx hsy
  by_cases hl : xs.length = ys.length
  · have q0 : ((xs.length : Int) != (ys.length : Int)) = false := by simp [hl]
    have hmm := @run_makeMap Try.prog
    go_enter Try.func144, Try.ntmps144
    go_wp2_with fail
    go_loopw [18] (fun v wr => ∃ (j : Nat) (D : DataW Unit), j ≤ ys.length ∧ v = .int .i64 (j : Int) ∧ wr.ownsMap Try.prog 40 (plainElem Try.prog 3) w.heap.size j D ∧ Counts D ys j ∧ Below w.heap.size w wr) (fun v _ => ys.length - (intOf v).toNat)
    case atStart => exact ⟨0, .map [], Nat.zero_le _, rfl, World.ownsMap_made w Try.prog _ _, Counts.start ys, (Below.refl _ w).alloc (Nat.le_refl _) _⟩
    case round =>
      obtain ⟨j, D, hj, rfl, hO, hCo, hB⟩ := hrel
      have HO := Lib.hid hO
      have HCo := Lib.hid hCo
      have HB := Lib.hid hB
      clear hO hCo hB
      by_cases hlt : j < ys.length
      · obtain ⟨g, off, rfl, hg, h0, h1⟩ := HC2.out j hlt
        have g0 := (HB.out.cell (p := ⟨g, off + j * 2, none⟩) hg).trans h0
        have g1 := (HB.out.cell (p := ⟨g, off + j * 2 + 1, none⟩) hg).trans h1
        have hgs := HB.out.size
        have hgr : g < wr.heap.size := by omega
        have hsz := HSY.out ys[j] (List.getElem_mem hlt)
        obtain ⟨kl, hkey⟩ := key_attr ⟨ys[j].1.toArray⟩ ⟨ys[j].2.toArray⟩ (by show ys[j].1.toArray.size ≤ _; rw [List.size_toArray]; exact hsz.1) (by show ys[j].2.toArray.size ≤ _; rw [List.size_toArray]; exact hsz.2)
        have hO2 : ((wr.alloc (.cells #[.string ⟨ys[j].1.toArray⟩, .string ⟨ys[j].2.toArray⟩] 40)).drew).ownsMap Try.prog 40 (plainElem Try.prog 3) w.heap.size j D := (HO.out.alloc _).drew
        obtain ⟨c, v0, st, W1, e1, e2, e3, e4, e5⟩ := count_step _ _ _ D hO2 (by omega) _ kl hkey
        obtain ⟨c', f1, f2, f3, _⟩ := HCo.out ys[j] kl hkey
        have ec : c = c' := by rw [e1] at f1; exact lit_inj f1
        subst ec
        obtain ⟨W2, e6, hO3, hg3⟩ := e5 (c + 1) (WalkArith.wf_i64 (by omega))
        have e7 := e6
        rw [← IntWalk.i64_in (c + 1) (by omega)] at e7
        have HCn := Lib.hid (HCo.out.step HO.out.isMap hlt kl hkey c e1)
        have HO3 := Lib.hid hO3
        have HB3 : Hid (Below w.heap.size w W2) := Lib.hid (((HB.out.alloc HB.out.size _).drew).grown hg3 (by have := HB.out.size; simp; omega) (fun k hk => by injection hk with hk; omega))
        clear e1 f1 hO2 e5 hO3 hg3 h0 h1 hkey hsz HO HCo
        generalize (⟨ys[j].1.toArray⟩ : ByteArray) = A at *
        generalize (⟨ys[j].2.toArray⟩ : ByteArray) = V at *
        go_wp2_with fail
        go_region_with (fail)
        all_goals
          go_wp2_with fail
          try go_simp
          exact ⟨⟨j + 1, by omega, by omega, _, HO3.out, HCn.out, HB3.out⟩, by simp [intOf]; omega⟩
      · have hjl : j = ys.length := by omega
        subst hjl
        obtain ⟨wk, hwk⟩ : ∃ wk, wk = wr := ⟨_, rfl⟩
        subst hwk
        have HTK : Hid (ys.take ys.length = ys) := Lib.hid List.take_length
        go_wp2_with fail
        go_loopw [31] (fun v wr => ∃ k : Nat, k ≤ xs.length ∧ v = .int .i64 (k : Int) ∧ wr.ownsMap Try.prog 40 (plainElem Try.prog 3) w.heap.size ys.length D ∧ ((xs.take k).all fun a => ys.any fun b => a == b) = true ∧ Below w.heap.size w wr) (fun v _ => xs.length - (intOf v).toNat)
        case atStart => exact ⟨0, Nat.zero_le _, rfl, HO.out, rfl, HB.out⟩
        case round =>
          obtain ⟨k, hk, rfl, hO, hall, hB⟩ := hrel
          have HO' := Lib.hid hO
          have HALL := Lib.hid hall
          have HB' := Lib.hid hB
          clear hO hall hB
          by_cases hlt2 : k < xs.length
          · obtain ⟨g, off, rfl, hg, h0, h1⟩ := HC.out k hlt2
            have g0 := (HB'.out.cell (p := ⟨g, off + k * 2, none⟩) hg).trans h0
            have g1 := (HB'.out.cell (p := ⟨g, off + k * 2 + 1, none⟩) hg).trans h1
            have hgs := HB'.out.size
            have hgr : g < wr.heap.size := by omega
            have hsz := HSX.out xs[k] (List.getElem_mem hlt2)
            obtain ⟨kl, hkey⟩ := key_attr ⟨xs[k].1.toArray⟩ ⟨xs[k].2.toArray⟩ (by show xs[k].1.toArray.size ≤ _; rw [List.size_toArray]; exact hsz.1) (by show xs[k].2.toArray.size ≤ _; rw [List.size_toArray]; exact hsz.2)
            have hO2 := HO'.out.alloc (.cells #[.string ⟨xs[k].1.toArray⟩, .string ⟨xs[k].2.toArray⟩] 40)
            obtain ⟨c, hrun, hat, _⟩ := hO2.lookup_int law_attr (Try.underlying159 ) (Try.underlying3 ) (zero_int _) hkey
            obtain ⟨c', f1, f2, f3, f4⟩ := HCo.out xs[k] kl hkey
            have ec : c = c' := by rw [hat] at f1; exact lit_inj f1
            subst ec
            rw [HTK.out] at f4
            have hany : (ys.any fun b => xs[k] == b) = decide (xs[k] ∈ ys) := by
              rw [Bool.eq_iff_iff, List.any_eq_true, decide_eq_true_iff]
              constructor
              · rintro ⟨b, hb, he⟩
                rw [beq_iff_eq] at he
                rw [he]; exact hb
              · intro hm
                exact ⟨_, hm, beq_self_eq_true _⟩
            have HNO := Lib.hid (sameV_no xs ys k hlt2)
            have HST := Lib.hid (sameV_step xs ys k hlt2 HALL.out)
            rw [hany] at HNO HST
            clear hO2 hat f1 h0 h1 hkey hsz hany
            by_cases hc0 : c = 0
            · have q1 : (c == 0) = true := by simp [hc0]
              have HR := Lib.hid (HNO.out (decide_eq_false (f4.1 hc0)))
              clear hc0 f4 HNO HST
              generalize (⟨xs[k].1.toArray⟩ : ByteArray) = A at *
              generalize (⟨xs[k].2.toArray⟩ : ByteArray) = V at *
              go_wp2_with fail
              go_ret
              exact ⟨bool_is HR.out.symm, HB'.out.alloc HB'.out.size _⟩
            · have q1 : (c == 0) = false := beq_eq_false_iff_ne.2 hc0
              have HR := Lib.hid (HST.out (decide_eq_true (Classical.byContradiction fun q => hc0 (f4.2 q))))
              clear hc0 f4 HNO HST
              have HO2 := Lib.hid (HO'.out.alloc (.cells #[.string ⟨xs[k].1.toArray⟩, .string ⟨xs[k].2.toArray⟩] 40))
              generalize (⟨xs[k].1.toArray⟩ : ByteArray) = A at *
              generalize (⟨xs[k].2.toArray⟩ : ByteArray) = V at *
              go_wp2_with fail
              exact ⟨⟨k + 1, by omega, by go_num, HO2.out, HR.out, HB'.out.alloc HB'.out.size _⟩, by simp [intOf]; omega⟩
          · go_wp2_with fail
            go_ret
            refine ⟨bool_is ?_, HB'.out⟩
            unfold sameV
            have := HALL.out
            rw [List.take_of_length_le (by omega)] at this
            rw [this, decide_eq_true hl]
            rfl
  · have q0 : ((xs.length : Int) != (ys.length : Int)) = true := by simp; omega
    go_enter Try.func144, Try.ntmps144
    go_wp2_with fail
    go_ret
    refine ⟨bool_is ?_, Below.refl _ _⟩
    unfold sameV
    rw [decide_eq_false hl, Bool.and_false]

set_option maxHeartbeats 1000000 in
set_option maxRecDepth 100000 in
theorem rsame_in (a b : Value) (xs ys : List (List UInt8 × List UInt8)) (w : World) (ha : AttrsIn w a xs) (hb : AttrsIn w b ys) (hN : xs.length ≤ 4294967296) (hM : ys.length ≤ 4294967296) : Calls Try.prog 95 #[a, b] w fun e w' => e = .returned (.bool (sameV xs ys)) ∧ ∃ q, w' = w.drewN q := by
  obtain ⟨⟨p, cap, rfl, hc⟩, _⟩ := ha
  obtain ⟨⟨p2, cap2, rfl, hc2⟩, _⟩ := hb
  have HC := Lib.hid hc
  have HC2 := Lib.hid hc2
  clear hc hc2
  go_enter Try.func95, Try.ntmps95
  go_wp2
  go_loopw [5] (fun i wr => ∃ (k q : Nat), k ≤ xs.length ∧ i = .int .i64 k ∧ wr = w.drewN q ∧ ((xs.take k).all fun a => ys.any fun b => a == b) = true) (fun i _ => xs.length - (intOf i).toNat)
  case atStart => exact ⟨0, 0, Nat.zero_le _, rfl, rfl, rfl⟩
  case round =>
    obtain ⟨k, q, hk, rfl, rfl, hall⟩ := hrel
    have HALL := Lib.hid hall
    clear hall
    by_cases hlt : k < xs.length
    · obtain ⟨g, off, rfl, hg, h0, h1⟩ := HC.out k hlt
      have k0 : (0 : Int) ≤ (k : Int) := by omega
      have k1 : (k : Int) < (xs.length : Int) := by omega
      obtain ⟨X, HX⟩ : ∃ X : List UInt8 × List UInt8, Hid (xs[k] = X) := ⟨_, Lib.hid rfl⟩
      rw [HX.out] at h0 h1
      go_wp2
      go_loopw [6, 7] (fun s j wr => ∃ (m r : Nat), m ≤ ys.length ∧ j = .int .i64 m ∧ s = .bool ((ys.take m).any fun b => X == b) ∧ wr = w.drewN r) (fun _ j _ => ys.length - (intOf j).toNat)
      case atStart => exact ⟨0, q, Nat.zero_le _, rfl, rfl, rfl⟩
      case round =>
        obtain ⟨m, r, hm, rfl, rfl, rfl⟩ := hrel
        by_cases hlm : m < ys.length
        · obtain ⟨g2, off2, rfl, hg2, e0, e1⟩ := HC2.out m hlm
          have m0 : (0 : Int) ≤ (m : Int) := by omega
          have m1 : (m : Int) < (ys.length : Int) := by omega
          obtain ⟨Y, HY⟩ : ∃ Y : List UInt8 × List UInt8, Hid (ys[m] = Y) := ⟨_, Lib.hid rfl⟩
          rw [HY.out] at e0 e1
          have HT : Hid (((ys.take (m + 1)).any fun b => X == b) = (((ys.take m).any fun b => X == b) || (X == Y))) := by
            refine Lib.hid ?_
            rw [List.take_succ_eq_append_getElem hlm, List.any_append, HY.out]
            simp
          cases hI : ((ys.take m).any fun b => X == b)
          · have HB0 := Lib.hid hI
            clear hI
            by_cases c1 : X.1 = Y.1
            · have q1 : ((⟨X.1.toArray⟩ : ByteArray).toList == (⟨Y.1.toArray⟩ : ByteArray).toList) = true := by rw [c1]; exact beq_self_eq_true _
              by_cases c2 : X.2 = Y.2
              · have q2 : ((⟨X.2.toArray⟩ : ByteArray).toList == (⟨Y.2.toArray⟩ : ByteArray).toList) = true := by rw [c2]; exact beq_self_eq_true _
                have HF : Hid ((((ys.take m).any fun b => X == b) || (X == Y)) = true) := Lib.hid (by rw [HB0.out, Prod.ext c1 c2]; simp)
                clear c1 c2
                generalize (⟨X.1.toArray⟩ : ByteArray) = A at *
                generalize (⟨X.2.toArray⟩ : ByteArray) = B at *
                generalize (⟨Y.1.toArray⟩ : ByteArray) = C at *
                generalize (⟨Y.2.toArray⟩ : ByteArray) = D at *
                go_wp2
                go_quiet (fail)
                go_wp2
                exact ⟨⟨m + 1, _, by omega, by go_num, by rw [HT.out, HF.out], rfl⟩, by simp [intOf]; omega⟩
              · have q2 : ((⟨X.2.toArray⟩ : ByteArray).toList == (⟨Y.2.toArray⟩ : ByteArray).toList) = false := by rw [Lib.toList_data, Lib.toList_data, beq_eq_false_iff_ne]; exact c2
                have HF : Hid ((((ys.take m).any fun b => X == b) || (X == Y)) = false) := Lib.hid (by rw [HB0.out, Bool.false_or, beq_eq_false_iff_ne]; exact fun e => c2 (by rw [e]))
                clear c1 c2
                generalize (⟨X.1.toArray⟩ : ByteArray) = A at *
                generalize (⟨X.2.toArray⟩ : ByteArray) = B at *
                generalize (⟨Y.1.toArray⟩ : ByteArray) = C at *
                generalize (⟨Y.2.toArray⟩ : ByteArray) = D at *
                go_wp2
                go_quiet (fail)
                go_wp2
                exact ⟨⟨m + 1, _, by omega, by go_num, by rw [HT.out, HF.out], rfl⟩, by simp [intOf]; omega⟩
            · have q1 : ((⟨X.1.toArray⟩ : ByteArray).toList == (⟨Y.1.toArray⟩ : ByteArray).toList) = false := by rw [Lib.toList_data, Lib.toList_data, beq_eq_false_iff_ne]; exact c1
              have HF : Hid ((((ys.take m).any fun b => X == b) || (X == Y)) = false) := Lib.hid (by rw [HB0.out, Bool.false_or, beq_eq_false_iff_ne]; exact fun e => c1 (by rw [e]))
              clear c1
              generalize (⟨X.1.toArray⟩ : ByteArray) = A at *
              generalize (⟨X.2.toArray⟩ : ByteArray) = B at *
              generalize (⟨Y.1.toArray⟩ : ByteArray) = C at *
              generalize (⟨Y.2.toArray⟩ : ByteArray) = D at *
              go_wp2
              go_quiet (fail)
              go_wp2
              exact ⟨⟨m + 1, _, by omega, by go_num, by rw [HT.out, HF.out], rfl⟩, by simp [intOf]; omega⟩
          · have HF : Hid ((((ys.take m).any fun b => X == b) || (X == Y)) = true) := Lib.hid (by rw [hI, Bool.true_or])
            go_wp2
            go_quiet (fail)
            go_wp2
            exact ⟨⟨m + 1, _, by omega, by go_num, by rw [HT.out, HF.out], rfl⟩, by simp [intOf]; omega⟩
        · have HE : Hid (ys.take m = ys) := Lib.hid (List.take_of_length_le (by omega))
          rw [HE.out]
          cases hB : (ys.any fun b => X == b)
          · go_wp2
            go_ret
            refine ⟨?_, r, rfl⟩
            rw [sameV_no xs ys k hlt (by rw [HX.out]; exact hB)]
            rfl
          · go_wp2
            exact ⟨⟨k + 1, r, by omega, by go_num, rfl, sameV_step xs ys k hlt HALL.out (by rw [HX.out]; exact hB)⟩, by simp [intOf]; omega⟩
    · have HE : Hid (sameV xs ys = decide (xs.length = ys.length)) := by
        refine Lib.hid ?_
        have := HALL.out
        rw [List.take_of_length_le (by omega)] at this
        unfold sameV
        rw [this, Bool.true_and]
      go_wp2
      go_ret
      refine ⟨?_, q, rfl⟩
      rw [HE.out]
      have e : ((xs.length : Int) == (ys.length : Int)) = decide (xs.length = ys.length) := by
        rw [Bool.eq_iff_iff, beq_iff_eq, decide_eq_true_iff]
        omega
      rw [← e]
      rfl
end Go.Proofs.Ytbadckkcjjfnoaa
