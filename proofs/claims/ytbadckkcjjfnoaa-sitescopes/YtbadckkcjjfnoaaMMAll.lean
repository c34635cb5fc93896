/-
  Rows of attributes in memory; what turns and what stands. No program is walked.
  The walk of the reference's Alike. Any two rows of attributes, not too many.
  The walks of the program's tag.Same and of the reference's. Any two rows of attributes, not too many.
  Marks in memory (chapter 7): a list of marks, three cells each; the calls as functions of the list. No program is walked.
  The program's Site in memory (chapter 8): a row of open elements, three cells each; which numbers are open and how often a name is, by maps. No program is walked.
-/
import Derived.Test.YtbadckkcjjfnoaaDCll
import Derived.Test.YtbadckkcjjfnoaaDBll
import Derived.Test.YtbadckkcjjfnoaaDAll
import Derived.Test.YtbadckkcjjfnoaaProg
import Derived.WalkKit
import Derived.BigCall
import Derived.WalkLawsBesides
import Derived.Lib.Hide
import Derived.Deep.AppendLies
import Derived.Laws.OwnMore
import Derived.Lib.SmallJoins
import Derived.Deep.QuietTactic
import Derived.BigQuiet
import Derived.Deep.Slices
import Derived.Deep.RegionWith
import Derived.Deep.RegionLaw
import Derived.Deep.RegionHeld3
import Derived.ChangeSame
import Derived.Laws.AppendOwnNone
import Derived.Laws.CopyRow
import Derived.Test.YtbadckkcjjfnoaaDSame
import Derived.DeepKeys4
import Derived.Maps.Keyed
import Derived.WideKeyEntry
import Derived.Maps.Own
import Derived.Carry
import Derived.Test.YtbadckkcjjfnoaaDTAll
import Derived.Maps.OwnSet
namespace Go.Proofs.Ytbadckkcjjfnoaa
open Go.RowKit

end Go.Proofs.Ytbadckkcjjfnoaa
namespace Go.Proofs.Ytbadckkcjjfnoaa
open Go.RowKit

end Go.Proofs.Ytbadckkcjjfnoaa
namespace Go.Proofs.Ytbadckkcjjfnoaa
open Go.RowKit Go.Maps Go.WideMaps

theorem bool_is {a b : Bool} (h : a = b) : Ending.returned (.bool a) = .returned (.bool b) := by rw [h]
/-- The slice v, at whichever place of a block, holds the attributes rs in w. -/
def AttrsIn (w : World) (v : Value) (rs : List (List UInt8 × List UInt8)) : Prop :=
  (∃ p cap, v = .slice p rs.length cap ∧ ∀ j (hj : j < rs.length), ∃ g off, p = some ⟨g, off, none⟩ ∧ g < w.heap.size ∧ w.cell? ⟨g, off + j * 2, none⟩ = some (.string ⟨rs[j].1.toArray⟩) ∧ w.cell? ⟨g, off + j * 2 + 1, none⟩ = some (.string ⟨rs[j].2.toArray⟩)) ∧
  ∀ x ∈ rs, x.1.length ≤ maxLen ∧ x.2.length ≤ maxLen
theorem AttrsIn.below {w w' : World} {v : Value} {rs : List (List UInt8 × List UInt8)} (h : AttrsIn w v rs) (hb : Below w.heap.size w w') : AttrsIn w' v rs := by
  obtain ⟨⟨p, cap, rfl, hc⟩, hs⟩ := h
  refine ⟨⟨p, cap, rfl, fun j hj => ?_⟩, hs⟩
  obtain ⟨g, off, h1, h2, h3, h4⟩ := hc j hj
  exact ⟨g, off, h1, Nat.lt_of_lt_of_le h2 hb.size, (hb.cell (p := ⟨g, off + j * 2, none⟩) h2).trans h3, (hb.cell (p := ⟨g, off + j * 2 + 1, none⟩) h2).trans h4⟩
theorem AttrsP.has {P : Nat → Prop} {w : World} {v : Value} {rs : List (List UInt8 × List UInt8)} (h : AttrsP P w v rs) (hs : ∀ x ∈ rs, x.1.length ≤ maxLen ∧ x.2.length ≤ maxLen) : AttrsIn w v rs := by
  obtain ⟨p, cap, rfl, hc⟩ := h
  refine ⟨⟨p, cap, rfl, fun j hj => ?_⟩, hs⟩
  obtain ⟨g, o, h1, _, h2, h3⟩ := hc (by omega)
  exact ⟨g, o, h1, h2, (h3 j hj).1, (h3 j hj).2⟩
/-- Is each of the first in the second, and are they of one length? -/
def sameV (xs ys : List (List UInt8 × List UInt8)) : Bool := (xs.all fun a => ys.any fun b => a == b) && decide (xs.length = ys.length)

theorem sameV_no (xs ys : List (List UInt8 × List UInt8)) (k : Nat) (h : k < xs.length) (hn : (ys.any fun b => xs[k] == b) = false) : sameV xs ys = false := by
  have : (xs.all fun a => ys.any fun b => a == b) = false := by
    rw [List.all_eq_false]
    exact ⟨xs[k], List.getElem_mem h, by rw [hn]; decide⟩
  unfold sameV
  rw [this, Bool.false_and]
theorem sameV_step (xs ys : List (List UInt8 × List UInt8)) (k : Nat) (h : k < xs.length) (ha : ((xs.take k).all fun a => ys.any fun b => a == b) = true) (hy : (ys.any fun b => xs[k] == b) = true) : ((xs.take (k + 1)).all fun a => ys.any fun b => a == b) = true := by
  rw [List.take_succ_eq_append_getElem h, List.all_append, ha, Bool.true_and, List.all_cons, hy, List.all_nil]
  rfl

theorem lit_inj {a b : Int} (h : (DataW.lit (Lit.int .i64 a) : DataW Unit) = .lit (.int .i64 b)) : a = b := by
  injection h with e
  injection e
theorem zero_int (w : World) : (zeroValue 3).run Try.prog w = .ok (.int .i64 0) w := by kernel_rfl

theorem lo : laidOutB Try.prog = true := by kernel_rfl
theorem law_attr : Keyed Try.prog 40 := Keyed.of_law (deep_law_laid lo (m := 4) (by omega) (of_decide_eq_true (by kernel_rfl)) (by kernel_rfl) (by kernel_rfl))

theorem keyLits_str (d : Nat) (s : ByteArray) (h : s.size ≤ maxLen) : Try.prog.keyLits (d + 1) 9 [.string s] = some [.string s.data.toList] := by
  unfold Program.keyLits
  rw [(Try.underlying9 )]
  simp [h]
theorem keyLits_attr (d : Nat) (A V : ByteArray) (hA : A.size ≤ maxLen) (hV : V.size ≤ maxLen) : Try.prog.keyLits (d + 1 + 1) 40 [.string A, .string V] = some [.string A.data.toList, .string V.data.toList] := by
  have hc : Try.prog.cellsOf 40 = 2 := by kernel_rfl
  have hc1 : Try.prog.cellsOf 9 = 1 := by kernel_rfl
  unfold Program.keyLits
  rw [(Try.underlying40 )]
  simp [hc, hc1, keyLits_str, hA, hV]
theorem key_attr (A V : ByteArray) (hA : A.size ≤ maxLen) (hV : V.size ≤ maxLen) : ∃ kl, keyOf Try.prog 40 (.agg #[.string A, .string V]) = some kl := by
  have hk : Try.prog.keyType 40 = true := by kernel_rfl
  have hc : Try.prog.cellsOf 40 = 2 := by kernel_rfl
  have hf : (Value.agg #[.string A, .string V]).formed Try.prog 40 = true := by
    simp [Value.formed, (Try.underlying40 ), hc]
  obtain ⟨d, hs⟩ : ∃ d, Try.prog.types.size + 1 = d + 1 + 1 := ⟨Try.prog.types.size - 1, by have h1 : 1 ≤ Try.prog.types.size := of_decide_eq_true (by kernel_rfl); omega⟩
  unfold keyOf
  rw [(Try.underlying40 )]
  simp only [hk, hf, Bool.and_self, if_true]
  rw [hs, show (Value.agg #[.string A, .string V]).cells.toList = [.string A, .string V] from rfl, keyLits_attr d A V hA hV]
  exact ⟨_, rfl⟩

theorem block_same (W : World) (b : Nat) (o : Obj) (h : W.heap[b]? = some o) : Go.ChangeMaps.setBlock W b o = W := by
  have e : W.heap.setIfInBounds b o = W.heap := by
    obtain ⟨hb, hv⟩ := Array.getElem?_eq_some_iff.1 h
    apply Array.ext
    · simp
    · intro i h1 h2
      rw [Array.getElem_setIfInBounds]
      split
      · rename_i q
        subst q
        exact hv.symm
      · rfl
  unfold Go.ChangeMaps.setBlock
  rw [e]
theorem block_twice (W : World) (b : Nat) (o p : Obj) : Go.ChangeMaps.setBlock (Go.ChangeMaps.setBlock W b o) b p = Go.ChangeMaps.setBlock W b p := by
  unfold Go.ChangeMaps.setBlock
  simp
open Go.WideElems in
theorem count_step (W : World) (b n : Nat) (D : DataW Unit) (hown : W.ownsMap Try.prog 40 (plainElem Try.prog 3) b n D) (hn : n < 1000) (key : Value) (kl : Lit) (hkey : keyOf Try.prog 40 key = some kl) :
    ∃ (c : Int) (v0 : Value) (st : Nat) (W1 : World), D.atKey kl (.lit (.int .i64 0)) = .lit (.int .i64 c) ∧
      (Instr.lookup 159 (.map (some b)) key false).run Try.prog W = .ok (.int .i64 c) W ∧
      (Instr.mapEntry 159 (.map (some b)) key).run Try.prog W = .ok (.tuple #[v0, .int .i64 (st : Int)]) W1 ∧
      (Instr.lookup 159 (.map (some b)) key false).run Try.prog W1 = .ok (.int .i64 c) W1 ∧
      ∀ (u : Int), (Lit.int .i64 u).wf = true → ∃ W2, (Instr.entryStore 159 (.map (some b)) (.int .i64 (st : Int)) (.int .i64 u)).run Try.prog W1 = .ok () W2 ∧ W2.ownsMap Try.prog 40 (plainElem Try.prog 3) b (n + 1) (D.put kl (.lit (.int .i64 u))) ∧ W.grownBy W2 (some b) := by
  have ht : Try.prog.underlying 159 = some (.map 40 3) := Try.underlying159
  have K : KeyLaw Try.prog 40 := deep_law_laid lo (m := 4) (by omega) (of_decide_eq_true (by kernel_rfl)) (by kernel_rfl) (by kernel_rfl)
  obtain ⟨c, hrun, hat, hwc⟩ := hown.lookup_int law_attr ht (Try.underlying3 ) (zero_int _) hkey
  have hown0 := hown
  obtain ⟨es, clock, hb, F, hs, hD⟩ := hown
  obtain ⟨v0, st, es1, clock1, hme, hv, hst⟩ := entry_then_store K ht (fun u => zero_int u) hb F hkey
  refine ⟨c, v0, st, _, hat, hrun, hme, ?_, ?_⟩
  · rcases law_attr.find W hkey es.toList F.keys with ⟨h1, h2⟩ | ⟨j, e0, h1, h2, h3⟩
    · have hm2 : (Instr.mapEntry 159 (.map (some b)) key).run Try.prog W = .ok (.tuple #[.int .i64 0, goInt clock]) (Go.ChangeMaps.setBlock W b (.map (es.push ⟨key, .int .i64 0, clock⟩) (clock + 1))) := by
        simp [Instr.mapEntry, run_underlying ht, MapKept.run_getObj_map hb, law_attr.check W false hkey, h1, MapKept.run_setObj_map _ hb, Result.andThen, Go.ChangeMaps.setBlock]
      have hu2 : (Instr.mapUpdate 159 (.map (some b)) key (.int .i64 0)).run Try.prog W = .ok () (Go.ChangeMaps.setBlock W b (.map (es.push ⟨key, .int .i64 0, clock⟩) (clock + 1))) := by
        simp [Instr.mapUpdate, run_underlying ht, MapKept.run_getObj_map hb, law_attr.check W false hkey, h1, MapKept.run_setObj_map _ hb, Result.andThen, Go.ChangeMaps.setBlock]
      have hl2 : (Instr.lookup 159 (.map (some b)) key false).run Try.prog W = .ok (.int .i64 0) W := by
        simp [Instr.lookup, run_underlying ht, MapKept.run_getObj_map hb, law_attr.check W es.isEmpty hkey, h1, Result.andThen]
      rw [hm2] at hme
      rw [hl2] at hrun
      have ec : (0 : Int) = c := by have := (Result.ok.inj hrun).1; injection this
      subst ec
      rw [← (Result.ok.inj hme).2]
      obtain ⟨w', g3, g4, _⟩ := hown0.update law_attr ht (by unfold maxLen; omega) hkey (plainElem_int (Try.underlying3 ) (show (Lit.int .i64 0).wf = true by decide))
      rw [hu2] at g3
      have e := (Result.ok.inj g3).2
      rw [e]
      obtain ⟨c1, k1, k2, _⟩ := g4.lookup_int law_attr ht (Try.underlying3 ) (zero_int _) hkey
      rw [atKey_put_same hown0.isMap (law_attr.key hkey)] at k2
      rw [k1, ← lit_inj k2]
    · have hj : es[j]? = some e0 := by simpa using h2
      have hsame : es.modify j (fun e => { e with key := key }) = es := by
        apply Array.ext'
        rw [Array.toList_modify, Go.ChangeMaps.modify_eq_set _ _ _ _ h2]
        have : ({ e0 with key := key } : MapEntry) = e0 := by rw [← h3]
        rw [this]
        exact set_self _ _ _ h2
      have hm2 : (Instr.mapEntry 159 (.map (some b)) key).run Try.prog W = .ok (.tuple #[e0.val, goInt e0.born]) (Go.ChangeMaps.setBlock W b (.map es clock)) := by
        simp [Instr.mapEntry, run_underlying ht, MapKept.run_getObj_map hb, law_attr.check W false hkey, h1, hj, h3, law_attr.stays W hkey, hsame, MapKept.run_setObj_map _ hb, Result.andThen, Go.ChangeMaps.setBlock]
      rw [hm2] at hme
      rw [← (Result.ok.inj hme).2, block_same W b _ hb]
      exact hrun
  · intro u hu
    have hb1 : (Go.ChangeMaps.setBlock W b (.map es1 clock1)).heap[b]? = some (.map es1 clock1) := Go.ChangeMaps.heap_setBlock_same hb _
    obtain ⟨es', clock', h1, h2⟩ := hst _ (.int .i64 u) hb1
    obtain ⟨w', h3, h4, h5⟩ := hown0.update law_attr ht (by unfold maxLen; omega) hkey (plainElem_int (Try.underlying3 ) hu)
    rw [h2] at h3
    have e := (Result.ok.inj h3).2
    rw [block_twice, e] at h1
    exact ⟨_, h1, h4, h5⟩

/-- An attribute as the key that it is. -/
def attrV (x : List UInt8 × List UInt8) : Value := .agg #[.string ⟨x.1.toArray⟩, .string ⟨x.2.toArray⟩]
theorem attrV_inj {x y : List UInt8 × List UInt8} (h : attrV x = attrV y) : x = y := by
  unfold attrV at h
  injection h with h
  have h1 := congrArg (fun a : Array Value => a[0]?) h
  have h2 := congrArg (fun a : Array Value => a[1]?) h
  simp at h1 h2
  exact Prod.ext h1 h2
/-- The map counts the first attributes of a row. -/
def Counts (D : DataW Unit) (ys : List (List UInt8 × List UInt8)) (j : Nat) : Prop :=
  ∀ x kl, keyOf Try.prog 40 (attrV x) = some kl → ∃ c : Int, D.atKey kl (.lit (.int .i64 0)) = .lit (.int .i64 c) ∧ 0 ≤ c ∧ c ≤ j ∧ (c = 0 ↔ x ∉ ys.take j)
theorem Counts.start (ys : List (List UInt8 × List UInt8)) : Counts (.map []) ys 0 := by
  exact fun x kl _ => ⟨0, rfl, by omega, by omega, by simp⟩
theorem Counts.step {D : DataW Unit} {ys : List (List UInt8 × List UInt8)} {j : Nat} (h : Counts D ys j) (hD : IsMap D) (hj : j < ys.length) (kl : Lit) (hk : keyOf Try.prog 40 (attrV ys[j]) = some kl) (c : Int) (hc : D.atKey kl (.lit (.int .i64 0)) = .lit (.int .i64 c)) : Counts (D.put kl (.lit (.int .i64 (c + 1)))) ys (j + 1) := by
  intro x kx hx
  obtain ⟨c', h1, h2, h3, h4⟩ := h x kx hx
  rw [List.take_succ_eq_append_getElem hj, List.mem_append, List.mem_singleton]
  by_cases e : kx = kl
  · subst e
    have ex : x = ys[j] := attrV_inj (law_attr.inj hx hk)
    rw [hc] at h1
    have ec := lit_inj h1
    subst ec
    refine ⟨c + 1, atKey_put_same hD (law_attr.key hk) _ _, by omega, by omega, ⟨fun q => by omega, fun q => absurd (Or.inr ex) q⟩⟩
  · refine ⟨c', by rw [atKey_put_other e, h1], h2, by omega, ?_⟩
    rw [h4]
    have hne : x ≠ ys[j] := by
      intro q
      rw [q, hk] at hx
      exact e (Option.some.inj hx).symm
    simp [hne]

set_option maxHeartbeats 4000000 in
set_option maxRecDepth 100000 in
theorem same_in (a b : Value) (xs ys : List (List UInt8 × List UInt8)) (w : World) (ha : AttrsIn w a xs) (hb : AttrsIn w b ys) (hN : xs.length ≤ 30) : Calls Try.prog 144 #[a, b] w (Brings (.bool (sameV xs ys)) w) := by
  obtain ⟨⟨p, cap, rfl, hc⟩, hsx⟩ := ha
  obtain ⟨⟨p2, cap2, rfl, hc2⟩, hsy⟩ := hb
  have HC := Lib.hid hc
  have HC2 := Lib.hid hc2
  have HSX := Lib.hid hsx
  have HSY := Lib.hid hsy
  clear hc hc2 hsx hsy
  by_cases hl : xs.length = ys.length
  · have q0 : ((xs.length : Int) != (ys.length : Int)) = false := by simp [hl]
    have hmm := @run_makeMap Try.prog
    go_enter Try.func144, Try.ntmps144
    go_wp2_with fail
    go_loopw [18] (fun v wr => ∃ (j : Nat) (D : DataW Unit), j ≤ ys.length ∧ v = .int .i64 (j : Int) ∧ wr.ownsMap Try.prog 40 (plainElem Try.prog 3) w.heap.size j D ∧ Counts D ys j ∧ Below w.heap.size w wr) (fun v _ => ys.length - (intOf v).toNat)
    case atStart => exact ⟨0, .map [], Nat.zero_le _, rfl, World.ownsMap_made w Try.prog _ _, Counts.start ys, (Below.refl _ w).alloc (Nat.le_refl _) _⟩
    case round =>
      obtain ⟨j, D, hj, rfl, hO, hCo, hB⟩ := hrel
      have HO := Lib.hid hO
      have HCo := Lib.hid hCo
      have HB := Lib.hid hB
      clear hO hCo hB
      by_cases hlt : j < ys.length
      · obtain ⟨g, off, rfl, hg, h0, h1⟩ := HC2.out j hlt
        have g0 := (HB.out.cell (p := ⟨g, off + j * 2, none⟩) hg).trans h0
        have g1 := (HB.out.cell (p := ⟨g, off + j * 2 + 1, none⟩) hg).trans h1
        have hgs := HB.out.size
        have hgr : g < wr.heap.size := by omega
        have hsz := HSY.out ys[j] (List.getElem_mem hlt)
        obtain ⟨kl, hkey⟩ := key_attr ⟨ys[j].1.toArray⟩ ⟨ys[j].2.toArray⟩ (by show ys[j].1.toArray.size ≤ _; rw [List.size_toArray]; exact hsz.1) (by show ys[j].2.toArray.size ≤ _; rw [List.size_toArray]; exact hsz.2)
        have hO2 : ((wr.alloc (.cells #[.string ⟨ys[j].1.toArray⟩, .string ⟨ys[j].2.toArray⟩] 40)).drew).ownsMap Try.prog 40 (plainElem Try.prog 3) w.heap.size j D := (HO.out.alloc _).drew
        obtain ⟨c, v0, st, W1, e1, e2, e3, e4, e5⟩ := count_step _ _ _ D hO2 (by omega) _ kl hkey
        obtain ⟨c', f1, f2, f3, _⟩ := HCo.out ys[j] kl hkey
        have ec : c = c' := by rw [e1] at f1; exact lit_inj f1
        subst ec
        obtain ⟨W2, e6, hO3, hg3⟩ := e5 (c + 1) (WalkArith.wf_i64 (by omega))
        have e7 := e6
        rw [← IntWalk.i64_in (c + 1) (by omega)] at e7
        have HCn := Lib.hid (HCo.out.step HO.out.isMap hlt kl hkey c e1)
        have HO3 := Lib.hid hO3
        have HB3 : Hid (Below w.heap.size w W2) := Lib.hid (((HB.out.alloc HB.out.size _).drew).grown hg3 (by have := HB.out.size; simp; omega) (fun k hk => by injection hk with hk; omega))
        clear e1 f1 hO2 e5 hO3 hg3 h0 h1 hkey hsz HO HCo
        generalize (⟨ys[j].1.toArray⟩ : ByteArray) = A at *
        generalize (⟨ys[j].2.toArray⟩ : ByteArray) = V at *
        go_wp2_with fail
        go_region_with (fail)
        all_goals
          go_wp2_with fail
          try go_simp
          exact ⟨⟨j + 1, by omega, by omega, _, HO3.out, HCn.out, HB3.out⟩, by simp [intOf]; omega⟩
      · have hjl : j = ys.length := by omega
        subst hjl
        obtain ⟨wk, hwk⟩ : ∃ wk, wk = wr := ⟨_, rfl⟩
        subst hwk
        have HTK : Hid (ys.take ys.length = ys) := Lib.hid List.take_length
        go_wp2_with fail
        go_loopw [31] (fun v wr => ∃ k : Nat, k ≤ xs.length ∧ v = .int .i64 (k : Int) ∧ wr.ownsMap Try.prog 40 (plainElem Try.prog 3) w.heap.size ys.length D ∧ ((xs.take k).all fun a => ys.any fun b => a == b) = true ∧ Below w.heap.size w wr) (fun v _ => xs.length - (intOf v).toNat)
        case atStart => exact ⟨0, Nat.zero_le _, rfl, HO.out, rfl, HB.out⟩
        case round =>
          obtain ⟨k, hk, rfl, hO, hall, hB⟩ := hrel
          have HO' := Lib.hid hO
          have HALL := Lib.hid hall
          have HB' := Lib.hid hB
          clear hO hall hB
          by_cases hlt2 : k < xs.length
          · obtain ⟨g, off, rfl, hg, h0, h1⟩ := HC.out k hlt2
            have g0 := (HB'.out.cell (p := ⟨g, off + k * 2, none⟩) hg).trans h0
            have g1 := (HB'.out.cell (p := ⟨g, off + k * 2 + 1, none⟩) hg).trans h1
            have hgs := HB'.out.size
            have hgr : g < wr.heap.size := by omega
            have hsz := HSX.out xs[k] (List.getElem_mem hlt2)
            obtain ⟨kl, hkey⟩ := key_attr ⟨xs[k].1.toArray⟩ ⟨xs[k].2.toArray⟩ (by show xs[k].1.toArray.size ≤ _; rw [List.size_toArray]; exact hsz.1) (by show xs[k].2.toArray.size ≤ _; rw [List.size_toArray]; exact hsz.2)
            have hO2 := HO'.out.alloc (.cells #[.string ⟨xs[k].1.toArray⟩, .string ⟨xs[k].2.toArray⟩] 40)
            obtain ⟨c, hrun, hat, _⟩ := hO2.lookup_int law_attr (Try.underlying159 ) (Try.underlying3 ) (zero_int _) hkey
            obtain ⟨c', f1, f2, f3, f4⟩ := HCo.out xs[k] kl hkey
            have ec : c = c' := by rw [hat] at f1; exact lit_inj f1
            subst ec
            rw [HTK.out] at f4
            have hany : (ys.any fun b => xs[k] == b) = decide (xs[k] ∈ ys) := by
              rw [Bool.eq_iff_iff, List.any_eq_true, decide_eq_true_iff]
              constructor
              · rintro ⟨b, hb, he⟩
                rw [beq_iff_eq] at he
                rw [he]; exact hb
              · intro hm
                exact ⟨_, hm, beq_self_eq_true _⟩
            have HNO := Lib.hid (sameV_no xs ys k hlt2)
            have HST := Lib.hid (sameV_step xs ys k hlt2 HALL.out)
            rw [hany] at HNO HST
            clear hO2 hat f1 h0 h1 hkey hsz hany
            by_cases hc0 : c = 0
            · have q1 : (c == 0) = true := by simp [hc0]
              have HR := Lib.hid (HNO.out (decide_eq_false (f4.1 hc0)))
              clear hc0 f4 HNO HST
              generalize (⟨xs[k].1.toArray⟩ : ByteArray) = A at *
              generalize (⟨xs[k].2.toArray⟩ : ByteArray) = V at *
              go_wp2_with fail
              go_ret
              exact ⟨bool_is HR.out.symm, HB'.out.alloc HB'.out.size _⟩
            · have q1 : (c == 0) = false := beq_eq_false_iff_ne.2 hc0
              have HR := Lib.hid (HST.out (decide_eq_true (Classical.byContradiction fun q => hc0 (f4.2 q))))
              clear hc0 f4 HNO HST
              have HO2 := Lib.hid (HO'.out.alloc (.cells #[.string ⟨xs[k].1.toArray⟩, .string ⟨xs[k].2.toArray⟩] 40))
              generalize (⟨xs[k].1.toArray⟩ : ByteArray) = A at *
              generalize (⟨xs[k].2.toArray⟩ : ByteArray) = V at *
              go_wp2_with fail
              exact ⟨⟨k + 1, by omega, by go_num, HO2.out, HR.out, HB'.out.alloc HB'.out.size _⟩, by simp [intOf]; omega⟩
          · go_wp2_with fail
            go_ret
            refine ⟨bool_is ?_, HB'.out⟩
            unfold sameV
            have := HALL.out
            rw [List.take_of_length_le (by omega)] at this
            rw [this, decide_eq_true hl]
            rfl
  · have q0 : ((xs.length : Int) != (ys.length : Int)) = true := by simp; omega
    go_enter Try.func144, Try.ntmps144
    go_wp2_with fail
    go_ret
    refine ⟨bool_is ?_, Below.refl _ _⟩
    unfold sameV
    rw [decide_eq_false hl, Bool.and_false]

set_option maxHeartbeats 1000000 in
set_option maxRecDepth 100000 in
theorem rsame_in (a b : Value) (xs ys : List (List UInt8 × List UInt8)) (w : World) (ha : AttrsIn w a xs) (hb : AttrsIn w b ys) (hN : xs.length ≤ 4294967296) (hM : ys.length ≤ 4294967296) : Calls Try.prog 95 #[a, b] w fun e w' => e = .returned (.bool (sameV xs ys)) ∧ ∃ q, w' = w.drewN q := by
  obtain ⟨⟨p, cap, rfl, hc⟩, _⟩ := ha
  obtain ⟨⟨p2, cap2, rfl, hc2⟩, _⟩ := hb
  have HC := Lib.hid hc
  have HC2 := Lib.hid hc2
  clear hc hc2
  go_enter Try.func95, Try.ntmps95
  go_wp2
  go_loopw [5] (fun i wr => ∃ (k q : Nat), k ≤ xs.length ∧ i = .int .i64 k ∧ wr = w.drewN q ∧ ((xs.take k).all fun a => ys.any fun b => a == b) = true) (fun i _ => xs.length - (intOf i).toNat)
  case atStart => exact ⟨0, 0, Nat.zero_le _, rfl, rfl, rfl⟩
  case round =>
    obtain ⟨k, q, hk, rfl, rfl, hall⟩ := hrel
    have HALL := Lib.hid hall
    clear hall
    by_cases hlt : k < xs.length
    · obtain ⟨g, off, rfl, hg, h0, h1⟩ := HC.out k hlt
      have k0 : (0 : Int) ≤ (k : Int) := by omega
      have k1 : (k : Int) < (xs.length : Int) := by omega
      obtain ⟨X, HX⟩ : ∃ X : List UInt8 × List UInt8, Hid (xs[k] = X) := ⟨_, Lib.hid rfl⟩
      rw [HX.out] at h0 h1
      go_wp2
      go_loopw [6, 7] (fun s j wr => ∃ (m r : Nat), m ≤ ys.length ∧ j = .int .i64 m ∧ s = .bool ((ys.take m).any fun b => X == b) ∧ wr = w.drewN r) (fun _ j _ => ys.length - (intOf j).toNat)
      case atStart => exact ⟨0, q, Nat.zero_le _, rfl, rfl, rfl⟩
      case round =>
        obtain ⟨m, r, hm, rfl, rfl, rfl⟩ := hrel
        by_cases hlm : m < ys.length
        · obtain ⟨g2, off2, rfl, hg2, e0, e1⟩ := HC2.out m hlm
          have m0 : (0 : Int) ≤ (m : Int) := by omega
          have m1 : (m : Int) < (ys.length : Int) := by omega
          obtain ⟨Y, HY⟩ : ∃ Y : List UInt8 × List UInt8, Hid (ys[m] = Y) := ⟨_, Lib.hid rfl⟩
          rw [HY.out] at e0 e1
          have HT : Hid (((ys.take (m + 1)).any fun b => X == b) = (((ys.take m).any fun b => X == b) || (X == Y))) := by
            refine Lib.hid ?_
            rw [List.take_succ_eq_append_getElem hlm, List.any_append, HY.out]
            simp
          cases hI : ((ys.take m).any fun b => X == b)
          · have HB0 := Lib.hid hI
            clear hI
            by_cases c1 : X.1 = Y.1
            · have q1 : ((⟨X.1.toArray⟩ : ByteArray).toList == (⟨Y.1.toArray⟩ : ByteArray).toList) = true := by rw [c1]; exact beq_self_eq_true _
              by_cases c2 : X.2 = Y.2
              · have q2 : ((⟨X.2.toArray⟩ : ByteArray).toList == (⟨Y.2.toArray⟩ : ByteArray).toList) = true := by rw [c2]; exact beq_self_eq_true _
                have HF : Hid ((((ys.take m).any fun b => X == b) || (X == Y)) = true) := Lib.hid (by rw [HB0.out, Prod.ext c1 c2]; simp)
                clear c1 c2
                generalize (⟨X.1.toArray⟩ : ByteArray) = A at *
                generalize (⟨X.2.toArray⟩ : ByteArray) = B at *
                generalize (⟨Y.1.toArray⟩ : ByteArray) = C at *
                generalize (⟨Y.2.toArray⟩ : ByteArray) = D at *
                go_wp2
                go_quiet (fail)
                go_wp2
                exact ⟨⟨m + 1, _, by omega, by go_num, by rw [HT.out, HF.out], rfl⟩, by simp [intOf]; omega⟩
              · have q2 : ((⟨X.2.toArray⟩ : ByteArray).toList == (⟨Y.2.toArray⟩ : ByteArray).toList) = false := by rw [Lib.toList_data, Lib.toList_data, beq_eq_false_iff_ne]; exact c2
                have HF : Hid ((((ys.take m).any fun b => X == b) || (X == Y)) = false) := Lib.hid (by rw [HB0.out, Bool.false_or, beq_eq_false_iff_ne]; exact fun e => c2 (by rw [e]))
                clear c1 c2
                generalize (⟨X.1.toArray⟩ : ByteArray) = A at *
                generalize (⟨X.2.toArray⟩ : ByteArray) = B at *
                generalize (⟨Y.1.toArray⟩ : ByteArray) = C at *
                generalize (⟨Y.2.toArray⟩ : ByteArray) = D at *
                go_wp2
                go_quiet (fail)
                go_wp2
                exact ⟨⟨m + 1, _, by omega, by go_num, by rw [HT.out, HF.out], rfl⟩, by simp [intOf]; omega⟩
            · have q1 : ((⟨X.1.toArray⟩ : ByteArray).toList == (⟨Y.1.toArray⟩ : ByteArray).toList) = false := by rw [Lib.toList_data, Lib.toList_data, beq_eq_false_iff_ne]; exact c1
              have HF : Hid ((((ys.take m).any fun b => X == b) || (X == Y)) = false) := Lib.hid (by rw [HB0.out, Bool.false_or, beq_eq_false_iff_ne]; exact fun e => c1 (by rw [e]))
              clear c1
              generalize (⟨X.1.toArray⟩ : ByteArray) = A at *
              generalize (⟨X.2.toArray⟩ : ByteArray) = B at *
              generalize (⟨Y.1.toArray⟩ : ByteArray) = C at *
              generalize (⟨Y.2.toArray⟩ : ByteArray) = D at *
              go_wp2
              go_quiet (fail)
              go_wp2
              exact ⟨⟨m + 1, _, by omega, by go_num, by rw [HT.out, HF.out], rfl⟩, by simp [intOf]; omega⟩
          · have HF : Hid ((((ys.take m).any fun b => X == b) || (X == Y)) = true) := Lib.hid (by rw [hI, Bool.true_or])
            go_wp2
            go_quiet (fail)
            go_wp2
            exact ⟨⟨m + 1, _, by omega, by go_num, by rw [HT.out, HF.out], rfl⟩, by simp [intOf]; omega⟩
        · have HE : Hid (ys.take m = ys) := Lib.hid (List.take_of_length_le (by omega))
          rw [HE.out]
          cases hB : (ys.any fun b => X == b)
          · go_wp2
            go_ret
            refine ⟨?_, r, rfl⟩
            rw [sameV_no xs ys k hlt (by rw [HX.out]; exact hB)]
            rfl
          · go_wp2
            exact ⟨⟨k + 1, r, by omega, by go_num, rfl, sameV_step xs ys k hlt HALL.out (by rw [HX.out]; exact hB)⟩, by simp [intOf]; omega⟩
    · have HE : Hid (sameV xs ys = decide (xs.length = ys.length)) := by
        refine Lib.hid ?_
        have := HALL.out
        rw [List.take_of_length_le (by omega)] at this
        unfold sameV
        rw [this, Bool.true_and]
      go_wp2
      go_ret
      refine ⟨?_, q, rfl⟩
      rw [HE.out]
      have e : ((xs.length : Int) == (ys.length : Int)) = decide (xs.length = ys.length) := by
        rw [Bool.eq_iff_iff, beq_iff_eq, decide_eq_true_iff]
        omega
      rw [← e]
      rfl
end Go.Proofs.Ytbadckkcjjfnoaa
namespace Go.Proofs.Ytbadckkcjjfnoaa
open Go.RowKit

/-- A mark. -/
structure MK where
  node : Int
  name : List UInt8
  attrs : List (List UInt8 × List UInt8)
deriving DecidableEq, Inhabited

/-- Names and values that a text can have, and not too many. -/
def MK.fits (x : MK) : Prop := x.attrs.length ≤ 30 ∧ ∀ a ∈ x.attrs, a.1.length ≤ maxLen ∧ a.2.length ≤ maxLen
def mWall : MK := ⟨-1, [], []⟩
def mZero : MK := ⟨0, [], []⟩
def alikeM (x y : MK) : Bool := x.name == y.name && sameV x.attrs y.attrs
/-- The first one that is alike, from the i-th down to the last wall, and how many. -/
def mScan (S : List MK) (x : MK) : Nat → Int → Nat → Int × Nat
  | 0, f, n => (f, n)
  | i + 1, f, n => if (S.getD i mZero).node = -1 then (f, n) else if alikeM (S.getD i mZero) x then mScan S x i i (n + 1) else mScan S x i f n
def mRoom (S : List MK) (x : MK) : List MK := if 3 ≤ (mScan S x S.length (-1) 0).2 then S.eraseIdx (mScan S x S.length (-1) 0).1.toNat else S
def mPush (S : List MK) (x : MK) : List MK := mRoom S x ++ [x]
/-- The last wall at or ahead of the i-th place, or 0. -/
def mLast (S : List MK) : Nat → Nat
  | 0 => 0
  | i + 1 => if (S.getD (i + 1) mZero).node = -1 then i + 1 else mLast S i
def mClear (S : List MK) : List MK := S.take (mLast S (S.length - 1))
def mFind (S : List MK) (n : List UInt8) : Nat → Int
  | 0 => -1
  | i + 1 => if (S.getD i mZero).node = -1 then -1 else if (S.getD i mZero).name = n then i else mFind S n i
def mOf (S : List MK) (n : Int) : Int := match S.findIdx? (fun q => q.node == n) with | some i => i | none => -1
theorem getD_at {S : List MK} {i : Nat} (h : i < S.length) : S.getD i mZero = S[i] := by rw [List.getD_eq_getElem?_getD, List.getElem?_eq_getElem h]; rfl
theorem mScan_lt (S : List MK) (x : MK) : ∀ (i : Nat) (f : Int) (n : Nat), (0 < n → 0 ≤ f ∧ f < S.length) → i ≤ S.length → 0 < (mScan S x i f n).2 → 0 ≤ (mScan S x i f n).1 ∧ (mScan S x i f n).1 < S.length
  | 0, f, n, h, _, h2 => h h2
  | i + 1, f, n, h, hi, h2 => by
    unfold mScan at h2 ⊢
    split at h2 <;> rename_i c1
    · rw [if_pos c1]; exact h h2
    · rw [if_neg c1]
      split at h2 <;> rename_i c2
      · rw [if_pos c2]; exact mScan_lt S x i i (n + 1) (fun _ => by omega) (by omega) h2
      · rw [if_neg c2]; exact mScan_lt S x i f n h (by omega) h2
theorem mScan_room (S : List MK) (x : MK) (h : 3 ≤ (mScan S x S.length (-1) 0).2) : 0 ≤ (mScan S x S.length (-1) 0).1 ∧ (mScan S x S.length (-1) 0).1 < S.length := mScan_lt S x S.length (-1) 0 (fun k => absurd k (by omega)) (Nat.le_refl _) (by omega)
theorem mScan_le (S : List MK) (x : MK) : ∀ (i : Nat) (f : Int) (n : Nat), (mScan S x i f n).2 ≤ n + i
  | 0, f, n => Nat.le_refl _
  | i + 1, f, n => by
    unfold mScan
    split
    · omega
    · split
      · have := mScan_le S x i i (n + 1); omega
      · have := mScan_le S x i f n; omega
theorem mLast_le (S : List MK) : ∀ i, mLast S i ≤ i
  | 0 => Nat.le_refl _
  | i + 1 => by
    unfold mLast
    split
    · exact Nat.le_refl _
    · have := mLast_le S i; omega

def mkCell (q : MK × Value) : List Value := [.int .i64 q.1.node, .string ⟨q.1.name.toArray⟩, q.2]
def mkCells (qs : List (MK × Value)) : List Value := qs.flatMap mkCell
theorem mkCells_len (qs : List (MK × Value)) : (mkCells qs).length = qs.length * 3 := by
  induction qs with
  | nil => rfl
  | cons q r ih => show (mkCell q ++ mkCells r).length = _; rw [List.length_append, ih, List.length_cons]; simp [mkCell]; omega
theorem mkCells_app (a b : List (MK × Value)) : mkCells (a ++ b) = mkCells a ++ mkCells b := by unfold mkCells; rw [List.flatMap_append]
theorem mkCells_snoc (qs : List (MK × Value)) (q : MK × Value) : mkCells (qs ++ [q]) = mkCells qs ++ mkCell q := by
  rw [mkCells_app]
  simp [mkCells]
theorem mkCells_at : ∀ (qs : List (MK × Value)) (j i : Nat) (hj : j < qs.length), i < 3 → (mkCells qs)[j * 3 + i]? = (mkCell qs[j])[i]?
  | [], j, _, hj, _ => absurd hj (by simp)
  | q :: r, 0, i, _, hi => by
    show (mkCell q ++ mkCells r)[0 * 3 + i]? = _
    rw [List.getElem?_append_left (by simp [mkCell]; omega), Nat.zero_mul, Nat.zero_add]
    rfl
  | q :: r, j + 1, i, hj, hi => by
    have h := mkCells_at r j i (by simpa using hj) hi
    show (mkCell q ++ mkCells r)[(j + 1) * 3 + i]? = _
    rw [List.getElem?_append_right (by simp [mkCell]; omega), show (j + 1) * 3 + i - (mkCell q).length = j * 3 + i by simp [mkCell]; omega, h]
    rfl
theorem mkCells_take (qs : List (MK × Value)) (k : Nat) : (mkCells qs).take (k * 3) = mkCells (qs.take k) := by
  rcases Nat.lt_or_ge k qs.length with h | h
  · have e := congrArg mkCells (List.take_append_drop k qs)
    rw [mkCells_app] at e
    rw [← e, List.take_append_of_le_length (by rw [mkCells_len, List.length_take]; omega)]
    exact List.take_of_length_le (by rw [mkCells_len, List.length_take]; omega)
  · rw [List.take_of_length_le (by rw [mkCells_len]; omega), List.take_of_length_le h]
theorem mkCells_drop (qs : List (MK × Value)) (k : Nat) : (mkCells qs).drop (k * 3) = mkCells (qs.drop k) := by
  rcases Nat.lt_or_ge k qs.length with h | h
  · have e := congrArg mkCells (List.take_append_drop k qs)
    rw [mkCells_app] at e
    rw [← e, List.drop_append, List.drop_eq_nil_of_le (by rw [mkCells_len, List.length_take]; omega), List.nil_append, mkCells_len, List.length_take, show k * 3 - min k qs.length * 3 = 0 by omega, List.drop_zero]
  · rw [List.drop_eq_nil_of_le (by rw [mkCells_len]; omega), List.drop_eq_nil_of_le h]
    rfl
theorem mkCells_set : ∀ (qs : List (MK × Value)) (j i : Nat) (u : Value) (q : MK × Value) (hj : j < qs.length), i < 3 → mkCell q = (mkCell qs[j]).set i u → (mkCells qs).set (j * 3 + i) u = mkCells (qs.set j q)
  | [], j, _, _, _, hj, _, _ => absurd hj (by simp)
  | p :: r, 0, i, u, q, _, hi, h => by
    show (mkCell p ++ mkCells r).set (0 * 3 + i) u = mkCell q ++ mkCells r
    rw [Nat.zero_mul, Nat.zero_add, List.set_append_left _ _ (by simp [mkCell]; omega)]
    have h' : mkCell q = (mkCell p).set i u := h
    rw [h']
  | p :: r, j + 1, i, u, q, hj, hi, h => by
    show (mkCell p ++ mkCells r).set ((j + 1) * 3 + i) u = mkCell p ++ mkCells (r.set j q)
    rw [List.set_append_right _ _ (by simp [mkCell]; omega), show (j + 1) * 3 + i - (mkCell p).length = j * 3 + i by simp [mkCell]; omega, mkCells_set r j i u q (by simpa using hj) hi h]

/-- The Marks at block B: v is its row, qs what that holds. All that it has lies in blocks of M. -/
structure MarkQ (M : Nat → Prop) (w : World) (B : Nat) (v : Value) (qs : List (MK × Value)) : Prop where
  inM : M B
  lt : B < w.heap.size
  cell : w.cell? ⟨B, 0, none⟩ = some v
  free : w.frozen? ⟨B, 0, none⟩ = false
  row : w.ownsRow 0 63 3 v qs.length (mkCells qs)
  rowM : ∀ g, v.ownBlock = some g → M g ∧ g ≠ B
  attrs : ∀ q ∈ qs, AttrsP (fun b => M b ∧ b ≠ B ∧ some b ≠ v.ownBlock) w q.2 q.1.attrs
def MarksM (M : Nat → Prop) (w : World) (B : Nat) (S : List MK) : Prop := ∃ v qs, qs.map (·.1) = S ∧ MarkQ M w B v qs
theorem MarkQ.mono {M L : Nat → Prop} {w : World} {B : Nat} {v : Value} {qs : List (MK × Value)} (h : MarkQ M w B v qs) (hm : ∀ b, b < w.heap.size → M b → L b) : MarkQ L w B v qs :=
  ⟨hm B h.lt h.inM, h.lt, h.cell, h.free, h.row, fun g e => ⟨hm g (h.row.lt g e).2 (h.rowM g e).1, (h.rowM g e).2⟩, fun q hq => (h.attrs q hq).mono (fun b k hb => ⟨hm b hb k.1, k.2⟩)⟩
theorem MarkQ.on {M L : Nat → Prop} {w w' : World} {B : Nat} {v : Value} {qs : List (MK × Value)} (h : MarkQ M w B v qs) (ht : Turns L w w') (hm : ∀ b, b < w.heap.size → M b → ¬ L b) : MarkQ M w' B v qs := by
  have hk := ht.block B h.lt (hm B h.lt h.inM)
  refine ⟨h.inM, Nat.lt_of_lt_of_le h.lt ht.size, ?_, ?_, ?_, h.rowM, ?_⟩
  · rw [World.cell?_of_block (w := w) hk]; exact h.cell
  · rw [World.frozen?_of_block (w := w) hk]; exact h.free
  · exact ownsRow_kept h.row ht (fun g e => hm g (h.row.lt g e).2 (h.rowM g e).1)
  · exact fun q hq => (h.attrs q hq).kept (ht.kept (fun b hb k => hm b hb k.1))
theorem MarkQ.below {M : Nat → Prop} {w w' : World} {B : Nat} {v : Value} {qs : List (MK × Value)} (h : MarkQ M w B v qs) (hb : Below w.heap.size w w') : MarkQ M w' B v qs := h.on (L := fun _ => False) (.of_below hb) (fun _ _ _ k => k)
theorem MarksM.mono {M L : Nat → Prop} {w : World} {B : Nat} {S : List MK} (h : MarksM M w B S) (hm : ∀ b, b < w.heap.size → M b → L b) : MarksM L w B S := by
  obtain ⟨v, qs, e, h⟩ := h
  exact ⟨v, qs, e, h.mono hm⟩
theorem MarksM.on {M L : Nat → Prop} {w w' : World} {B : Nat} {S : List MK} (h : MarksM M w B S) (ht : Turns L w w') (hm : ∀ b, b < w.heap.size → M b → ¬ L b) : MarksM M w' B S := by
  obtain ⟨v, qs, e, h⟩ := h
  exact ⟨v, qs, e, h.on ht hm⟩
theorem MarksM.below {M : Nat → Prop} {w w' : World} {B : Nat} {S : List MK} (h : MarksM M w B S) (hb : Below w.heap.size w w') : MarksM M w' B S := by
  obtain ⟨v, qs, e, h⟩ := h
  exact ⟨v, qs, e, h.below hb⟩
theorem MarkQ.form {M : Nat → Prop} {w : World} {B : Nat} {v : Value} {qs : List (MK × Value)} (h : MarkQ M w B v qs) : (v = .slice none 0 0 ∧ qs = []) ∨ ∃ g cap, v = .slice (some ⟨g, 0, none⟩) qs.length cap := by
  rcases h.row.2 with ⟨e, h0⟩ | ⟨g, cap, _, e, _⟩
  · exact .inl ⟨e, List.eq_nil_of_length_eq_zero h0⟩
  · exact .inr ⟨g, cap, e⟩
/-- A cell of a mark. -/
theorem MarkQ.at {M : Nat → Prop} {w : World} {B g n cap : Nat} {qs : List (MK × Value)} (h : MarkQ M w B (.slice (some ⟨g, 0, none⟩) n cap) qs) (j i : Nat) (hj : j < qs.length) (hi : i < 3) : w.cell? ⟨g, j * 3 + i, none⟩ = (mkCell qs[j])[i]? := by
  have hr := h.row
  have hn : n = qs.length := by
    rcases hr.2 with ⟨e, _⟩ | ⟨_, _, _, e, _⟩
    · cases e
    · injection e
  subst hn
  rw [hr.cellAt (j * 3 + i) (by omega), mkCells_at qs j i hj hi]
/-- What can be read of the marks: the slice; each one's cells. -/
theorem MarkQ.reads {M : Nat → Prop} {w : World} {B : Nat} {v : Value} {qs : List (MK × Value)} (h : MarkQ M w B v qs) : ∃ p cap, v = .slice p qs.length cap ∧ ∀ j (hj : j < qs.length), ∃ g, p = some ⟨g, 0, none⟩ ∧ g < w.heap.size ∧ w.cell? ⟨g, j * 3, none⟩ = some (.int .i64 qs[j].1.node) ∧ w.cell? ⟨g, j * 3 + 1, none⟩ = some (.string ⟨qs[j].1.name.toArray⟩) ∧ w.cell? ⟨g, j * 3 + 2, none⟩ = some qs[j].2 := by
  rcases h.form with ⟨rfl, rfl⟩ | ⟨g, cap, rfl⟩
  · exact ⟨none, 0, rfl, fun j hj => absurd hj (by simp)⟩
  · exact ⟨_, cap, rfl, fun j hj => ⟨g, rfl, (h.row.lt g rfl).2, h.at j 0 hj (by omega), h.at j 1 hj (by omega), h.at j 2 hj (by omega)⟩⟩
end Go.Proofs.Ytbadckkcjjfnoaa
namespace Go.Proofs.Ytbadckkcjjfnoaa
open Go.RowKit Go.Maps

/-- An open element: its number, its space, its name. -/
structure EL where
  n : Int
  space : Int
  name : List UInt8
deriving DecidableEq, Inhabited
def EL.html (x : EL) : Bool := decide (x.n ≠ 0) && decide (x.space = 1)
def EL.is (x : EL) (l : List (List UInt8)) : Bool := x.html && l.any (fun s => s == x.name)
def elCell (x : EL) : List Value := [.int .i64 x.n, .int .i64 x.space, .string ⟨x.name.toArray⟩]
def elCells (R : List EL) : List Value := R.flatMap elCell
theorem elCells_len (R : List EL) : (elCells R).length = R.length * 3 := by
  induction R with
  | nil => rfl
  | cons q r ih => show (elCell q ++ elCells r).length = _; rw [List.length_append, ih, List.length_cons]; simp [elCell]; omega
theorem elCells_app (a b : List EL) : elCells (a ++ b) = elCells a ++ elCells b := by unfold elCells; rw [List.flatMap_append]
theorem elCells_snoc (R : List EL) (q : EL) : elCells (R ++ [q]) = elCells R ++ elCell q := by
  rw [elCells_app]
  simp [elCells]
theorem elCells_at : ∀ (R : List EL) (j i : Nat) (hj : j < R.length), i < 3 → (elCells R)[j * 3 + i]? = (elCell R[j])[i]?
  | [], j, _, hj, _ => absurd hj (by simp)
  | q :: r, 0, i, _, hi => by
    show (elCell q ++ elCells r)[0 * 3 + i]? = _
    rw [List.getElem?_append_left (by simp [elCell]; omega), Nat.zero_mul, Nat.zero_add]
    rfl
  | q :: r, j + 1, i, hj, hi => by
    have h := elCells_at r j i (by simpa using hj) hi
    show (elCell q ++ elCells r)[(j + 1) * 3 + i]? = _
    rw [List.getElem?_append_right (by simp [elCell]; omega), show (j + 1) * 3 + i - (elCell q).length = j * 3 + i by simp [elCell]; omega, h]
    rfl
theorem elCells_take (R : List EL) (k : Nat) : (elCells R).take (k * 3) = elCells (R.take k) := by
  rcases Nat.lt_or_ge k R.length with h | h
  · have e := congrArg elCells (List.take_append_drop k R)
    rw [elCells_app] at e
    rw [← e, List.take_append_of_le_length (by rw [elCells_len, List.length_take]; omega)]
    exact List.take_of_length_le (by rw [elCells_len, List.length_take]; omega)
  · rw [List.take_of_length_le (by rw [elCells_len]; omega), List.take_of_length_le h]
theorem elCells_drop (R : List EL) (k : Nat) : (elCells R).drop (k * 3) = elCells (R.drop k) := by
  rcases Nat.lt_or_ge k R.length with h | h
  · have e := congrArg elCells (List.take_append_drop k R)
    rw [elCells_app] at e
    rw [← e, List.drop_append, List.drop_eq_nil_of_le (by rw [elCells_len, List.length_take]; omega), List.nil_append, elCells_len, List.length_take, show k * 3 - min k R.length * 3 = 0 by omega, List.drop_zero]
  · rw [List.drop_eq_nil_of_le (by rw [elCells_len]; omega), List.drop_eq_nil_of_le h]
    rfl
theorem elCells_one (R : List EL) : ∀ u ∈ elCells R, u.oneCell' = true := by
  intro u hu
  obtain ⟨q, _, hu⟩ := List.mem_flatMap.1 hu
  simp only [elCell, List.mem_cons, List.not_mem_nil, or_false] at hu
  rcases hu with rfl | rfl | rfl <;> rfl

/-- Where a Site has what it has: its Doc, its Marks, its maps, its row; what the maps hold. -/
structure SA where
  D : Nat
  K : Nat
  mo : Nat
  mn : Nat
  v : Value
  MD : Nat → Prop
  MK : Nat → Prop
  DO : DataW Unit
  DN : DataW Unit
  no : Nat
  nn : Nat
def elOpen (R : List EL) (n : Int) : Bool := R.any fun x => x.n == n
def elNamed (R : List EL) (s : List UInt8) : Int := ((R.countP fun x => x.html && (x.name == s) : Nat) : Int)
/-- The Site at block B. All that it has lies in blocks of M. fO: what the one map says; fN: the other. -/
structure SiteQ (M : Nat → Prop) (w : World) (B : Nat) (a : SA) (S : List PN) (L : List MK) (R : List EL) (fO : Int → Bool) (fN : List UInt8 → Int) (fo : Bool) : Prop where
  inM : M B
  lt : B < w.heap.size
  c0 : w.cell? ⟨B, 0, none⟩ = some (.pointer (some ⟨a.D, 0, none⟩))
  c1 : w.cell? ⟨B, 1, none⟩ = some (.pointer (some ⟨a.K, 0, none⟩))
  c2 : w.cell? ⟨B, 2, none⟩ = some a.v
  c3 : w.cell? ⟨B, 3, none⟩ = some (.map (some a.mo))
  c4 : w.cell? ⟨B, 4, none⟩ = some (.map (some a.mn))
  c5 : w.cell? ⟨B, 5, none⟩ = some (.bool fo)
  free : ∀ i, w.frozen? ⟨B, i, none⟩ = false
  doc : DocM a.MD w a.D S
  marks : MarksM a.MK w a.K L
  row : w.ownsRow 0 125 3 a.v R.length (elCells R)
  om : w.ownsMap Try.prog 3 unitElem a.mo a.no a.DO
  opens : ∀ n : Int, Maps.has a.DO (.int .i64 n) = fO n
  nm : w.ownsMap Try.prog 9 (plainElem Try.prog 3) a.mn a.nn a.DN
  names : ∀ s : List UInt8, a.DN.atKey (.string s) (.lit (.int .i64 0)) = .lit (.int .i64 (fN s))
  dM : ∀ b, a.MD b → M b ∧ b < w.heap.size ∧ b ≠ B ∧ some b ≠ a.v.ownBlock ∧ b ≠ a.mo ∧ b ≠ a.mn ∧ ¬ a.MK b
  kM : ∀ b, a.MK b → M b ∧ b < w.heap.size ∧ b ≠ B ∧ some b ≠ a.v.ownBlock ∧ b ≠ a.mo ∧ b ≠ a.mn
  rM : ∀ g, a.v.ownBlock = some g → M g ∧ g ≠ B ∧ g ≠ a.mo ∧ g ≠ a.mn
  oM : M a.mo ∧ a.mo ≠ B ∧ a.mo ≠ a.mn
  nM : M a.mn ∧ a.mn ≠ B
variable {M : Nat → Prop} {w w' : World} {B : Nat} {a : SA} {S : List PN} {L : List MK} {R : List EL} {fO : Int → Bool} {fN : List UInt8 → Int} {fo : Bool}
theorem SiteQ.mono {N : Nat → Prop} (h : SiteQ M w B a S L R fO fN fo) (hm : ∀ b, b < w.heap.size → M b → N b) : SiteQ N w B a S L R fO fN fo :=
  { h with
    inM := hm B h.lt h.inM
    dM := fun b k => ⟨hm b (h.dM b k).2.1 (h.dM b k).1, (h.dM b k).2⟩
    kM := fun b k => ⟨hm b (h.kM b k).2.1 (h.kM b k).1, (h.kM b k).2⟩
    rM := fun g e => ⟨hm g (h.row.lt g e).2 (h.rM g e).1, (h.rM g e).2⟩
    oM := ⟨hm _ h.om.lt h.oM.1, h.oM.2⟩
    nM := ⟨hm _ h.nm.lt h.nM.1, h.nM.2⟩ }
theorem ownsMap_block {k : TypeId} {P : Value → Option (DataW Unit × List MemPlace)} {b n : Nat} {D : DataW Unit} (h : w.ownsMap Try.prog k P b n D) (e : w'.heap[b]? = w.heap[b]?) : w'.ownsMap Try.prog k P b n D := by
  obtain ⟨es, clock, hb, r⟩ := h
  exact ⟨es, clock, e.trans hb, r⟩
/-- What stands when other blocks turn. -/
theorem SiteQ.on {N : Nat → Prop} (h : SiteQ M w B a S L R fO fN fo) (ht : Turns N w w') (hm : ∀ b, b < w.heap.size → M b → ¬ N b) : SiteQ M w' B a S L R fO fN fo := by
  have hB := ht.block B h.lt (hm B h.lt h.inM)
  have hc : ∀ i, w'.cell? ⟨B, i, none⟩ = w.cell? ⟨B, i, none⟩ := fun i => World.cell?_of_block (w := w) hB
  exact { h with
    lt := Nat.lt_of_lt_of_le h.lt ht.size
    c0 := (hc 0).trans h.c0
    c1 := (hc 1).trans h.c1
    c2 := (hc 2).trans h.c2
    c3 := (hc 3).trans h.c3
    c4 := (hc 4).trans h.c4
    c5 := (hc 5).trans h.c5
    free := fun i => (World.frozen?_of_block (w := w) hB).trans (h.free i)
    doc := h.doc.on ht (fun b hb k => hm b hb (h.dM b k).1)
    marks := h.marks.on ht (fun b hb k => hm b hb (h.kM b k).1)
    row := ownsRow_kept h.row ht (fun g e => hm g (h.row.lt g e).2 (h.rM g e).1)
    om := ownsMap_block h.om (ht.block _ h.om.lt (hm _ h.om.lt h.oM.1))
    nm := ownsMap_block h.nm (ht.block _ h.nm.lt (hm _ h.nm.lt h.nM.1))
    dM := fun b k => ⟨(h.dM b k).1, Nat.lt_of_lt_of_le (h.dM b k).2.1 ht.size, (h.dM b k).2.2⟩
    kM := fun b k => ⟨(h.kM b k).1, Nat.lt_of_lt_of_le (h.kM b k).2.1 ht.size, (h.kM b k).2.2⟩ }
theorem SiteQ.below (h : SiteQ M w B a S L R fO fN fo) (hb : Below w.heap.size w w') : SiteQ M w' B a S L R fO fN fo := h.on (N := fun _ => False) (.of_below hb) (fun _ _ _ k => k)
/-- What the Doc does. -/
theorem SiteQ.docStep {S' : List PN} (h : SiteQ M w B a S L R fO fN fo) (hd : DocM (New a.MD w) w' a.D S') (ht : Turns a.MD w w') :
    SiteQ (New M w) w' B { a with MD := fun b => New a.MD w b ∧ b < w'.heap.size } S' L R fO fN fo ∧ Turns M w w' := by
  have hB := ht.block B h.lt (fun k => (h.dM B k).2.2.1 rfl)
  have hc : ∀ i, w'.cell? ⟨B, i, none⟩ = w.cell? ⟨B, i, none⟩ := fun i => World.cell?_of_block (w := w) hB
  have hg := fun g e => (h.row.lt g e).2
  refine ⟨?_, ht.mono (fun b _ k => (h.dM b k).1)⟩
  exact { h with
    inM := .inl h.inM
    lt := Nat.lt_of_lt_of_le h.lt ht.size
    c0 := (hc 0).trans h.c0
    c1 := (hc 1).trans h.c1
    c2 := (hc 2).trans h.c2
    c3 := (hc 3).trans h.c3
    c4 := (hc 4).trans h.c4
    c5 := (hc 5).trans h.c5
    free := fun i => (World.frozen?_of_block (w := w) hB).trans (h.free i)
    doc := hd.mono (fun b hb k => ⟨k, hb⟩)
    marks := h.marks.on ht (fun b _ k e => (h.dM b e).2.2.2.2.2.2 k)
    row := ownsRow_kept h.row ht (fun g e k => (h.dM g k).2.2.2.1 e.symm)
    om := ownsMap_block h.om (ht.block _ h.om.lt (fun k => (h.dM _ k).2.2.2.2.1 rfl))
    nm := ownsMap_block h.nm (ht.block _ h.nm.lt (fun k => (h.dM _ k).2.2.2.2.2.1 rfl))
    dM := by
      rintro b ⟨k | k, hb⟩
      · have := h.dM b k
        exact ⟨.inl this.1, hb, this.2.2⟩
      · refine ⟨.inr k, hb, ?_, ?_, ?_, ?_, ?_⟩
        · rintro rfl; have := h.lt; omega
        · intro e; have := hg b e.symm; omega
        · intro e; have e' : b = a.mo := e; have := h.om.lt; omega
        · intro e; have e' : b = a.mn := e; have := h.nm.lt; omega
        · intro e; have := (h.kM b e).2.1; omega
    kM := fun b k => ⟨.inl (h.kM b k).1, Nat.lt_of_lt_of_le (h.kM b k).2.1 ht.size, (h.kM b k).2.2⟩
    rM := fun g e => ⟨.inl (h.rM g e).1, (h.rM g e).2⟩
    oM := ⟨.inl h.oM.1, h.oM.2⟩
    nM := ⟨.inl h.nM.1, h.nM.2⟩ }
/-- What the Marks do. -/
theorem SiteQ.markStep {L' : List MK} (h : SiteQ M w B a S L R fO fN fo) (hd : MarksM (New a.MK w) w' a.K L') (ht : Turns a.MK w w') :
    SiteQ (New M w) w' B { a with MK := fun b => New a.MK w b ∧ b < w'.heap.size } S L' R fO fN fo ∧ Turns M w w' := by
  have hB := ht.block B h.lt (fun k => (h.kM B k).2.2.1 rfl)
  have hc : ∀ i, w'.cell? ⟨B, i, none⟩ = w.cell? ⟨B, i, none⟩ := fun i => World.cell?_of_block (w := w) hB
  have hg := fun g e => (h.row.lt g e).2
  refine ⟨?_, ht.mono (fun b _ k => (h.kM b k).1)⟩
  exact { h with
    inM := .inl h.inM
    lt := Nat.lt_of_lt_of_le h.lt ht.size
    c0 := (hc 0).trans h.c0
    c1 := (hc 1).trans h.c1
    c2 := (hc 2).trans h.c2
    c3 := (hc 3).trans h.c3
    c4 := (hc 4).trans h.c4
    c5 := (hc 5).trans h.c5
    free := fun i => (World.frozen?_of_block (w := w) hB).trans (h.free i)
    marks := hd.mono (fun b hb k => ⟨k, hb⟩)
    doc := h.doc.on ht (fun b _ k e => (h.dM b k).2.2.2.2.2.2 e)
    row := ownsRow_kept h.row ht (fun g e k => (h.kM g k).2.2.2.1 e.symm)
    om := ownsMap_block h.om (ht.block _ h.om.lt (fun k => (h.kM _ k).2.2.2.2.1 rfl))
    nm := ownsMap_block h.nm (ht.block _ h.nm.lt (fun k => (h.kM _ k).2.2.2.2.2 rfl))
    dM := by
      intro b k
      have := h.dM b k
      refine ⟨.inl this.1, Nat.lt_of_lt_of_le this.2.1 ht.size, this.2.2.1, this.2.2.2.1, this.2.2.2.2.1, this.2.2.2.2.2.1, ?_⟩
      rintro ⟨e | e, _⟩
      · exact this.2.2.2.2.2.2 e
      · omega
    kM := by
      rintro b ⟨k | k, hb⟩
      · have := h.kM b k
        exact ⟨.inl this.1, hb, this.2.2⟩
      · refine ⟨.inr k, hb, ?_, ?_, ?_, ?_⟩
        · rintro rfl; have := h.lt; omega
        · intro e; have := hg b e.symm; omega
        · intro e; have e' : b = a.mo := e; have := h.om.lt; omega
        · intro e; have e' : b = a.mn := e; have := h.nm.lt; omega
    rM := fun g e => ⟨.inl (h.rM g e).1, (h.rM g e).2⟩
    oM := ⟨.inl h.oM.1, h.oM.2⟩
    nM := ⟨.inl h.nM.1, h.nM.2⟩ }
/-- The map of numbers turns. -/
theorem SiteQ.openStep {D' : DataW Unit} {n' : Nat} {fO' : Int → Bool} (h : SiteQ M w B a S L R fO fN fo) (hd : w'.ownsMap Try.prog 3 unitElem a.mo n' D') (hg : w.grownBy w' (some a.mo)) (hf : ∀ n : Int, Maps.has D' (.int .i64 n) = fO' n) :
    SiteQ M w' B { a with DO := D', no := n' } S L R fO' fN fo ∧ Turns M w w' := by
  have ht : Turns (fun b => b = a.mo) w w' := .of_grown hg (fun g e => by injection e with e; exact e.symm)
  have hB := ht.block B h.lt (fun k => h.oM.2.1 k.symm)
  have hc : ∀ i, w'.cell? ⟨B, i, none⟩ = w.cell? ⟨B, i, none⟩ := fun i => World.cell?_of_block (w := w) hB
  refine ⟨?_, ht.mono (fun b _ k => by rw [k]; exact h.oM.1)⟩
  exact { h with
    lt := Nat.lt_of_lt_of_le h.lt ht.size
    c0 := (hc 0).trans h.c0
    c1 := (hc 1).trans h.c1
    c2 := (hc 2).trans h.c2
    c3 := (hc 3).trans h.c3
    c4 := (hc 4).trans h.c4
    c5 := (hc 5).trans h.c5
    free := fun i => (World.frozen?_of_block (w := w) hB).trans (h.free i)
    doc := h.doc.on ht (fun b _ k e => (h.dM b k).2.2.2.2.1 e)
    marks := h.marks.on ht (fun b _ k e => (h.kM b k).2.2.2.2.1 e)
    row := ownsRow_kept h.row ht (fun g e k => (h.rM g e).2.2.1 k)
    om := hd
    opens := hf
    nm := ownsMap_block h.nm (ht.block _ h.nm.lt (fun k => h.oM.2.2 k.symm))
    dM := fun b k => ⟨(h.dM b k).1, Nat.lt_of_lt_of_le (h.dM b k).2.1 ht.size, (h.dM b k).2.2⟩
    kM := fun b k => ⟨(h.kM b k).1, Nat.lt_of_lt_of_le (h.kM b k).2.1 ht.size, (h.kM b k).2.2⟩ }
/-- The map of names turns. -/
theorem SiteQ.nameStep {D' : DataW Unit} {n' : Nat} {fN' : List UInt8 → Int} (h : SiteQ M w B a S L R fO fN fo) (hd : w'.ownsMap Try.prog 9 (plainElem Try.prog 3) a.mn n' D') (hg : w.grownBy w' (some a.mn)) (hf : ∀ s : List UInt8, D'.atKey (.string s) (.lit (.int .i64 0)) = .lit (.int .i64 (fN' s))) :
    SiteQ M w' B { a with DN := D', nn := n' } S L R fO fN' fo ∧ Turns M w w' := by
  have ht : Turns (fun b => b = a.mn) w w' := .of_grown hg (fun g e => by injection e with e; exact e.symm)
  have hB := ht.block B h.lt (fun k => h.nM.2 k.symm)
  have hc : ∀ i, w'.cell? ⟨B, i, none⟩ = w.cell? ⟨B, i, none⟩ := fun i => World.cell?_of_block (w := w) hB
  refine ⟨?_, ht.mono (fun b _ k => by rw [k]; exact h.nM.1)⟩
  exact { h with
    lt := Nat.lt_of_lt_of_le h.lt ht.size
    c0 := (hc 0).trans h.c0
    c1 := (hc 1).trans h.c1
    c2 := (hc 2).trans h.c2
    c3 := (hc 3).trans h.c3
    c4 := (hc 4).trans h.c4
    c5 := (hc 5).trans h.c5
    free := fun i => (World.frozen?_of_block (w := w) hB).trans (h.free i)
    doc := h.doc.on ht (fun b _ k e => (h.dM b k).2.2.2.2.2.1 e)
    marks := h.marks.on ht (fun b _ k e => (h.kM b k).2.2.2.2.2 e)
    row := ownsRow_kept h.row ht (fun g e k => (h.rM g e).2.2.2 k)
    om := ownsMap_block h.om (ht.block _ h.om.lt (fun k => h.oM.2.2 k))
    nm := hd
    names := hf
    dM := fun b k => ⟨(h.dM b k).1, Nat.lt_of_lt_of_le (h.dM b k).2.1 ht.size, (h.dM b k).2.2⟩
    kM := fun b k => ⟨(h.kM b k).1, Nat.lt_of_lt_of_le (h.kM b k).2.1 ht.size, (h.kM b k).2.2⟩ }
/-- The row turns, and the Site's own cell is set. -/
theorem SiteQ.rowStep {w1 : World} {v' : Value} {R' : List EL} (h : SiteQ M w B a S L R fO fN fo) (hg : w.grownBy w1 a.v.ownBlock) (hr : w1.ownsRow 0 125 3 v' R'.length (elCells R')) (hat : ∀ g, v'.ownBlock = some g → a.v.ownBlock = some g ∨ w.heap.size ≤ g) :
    SiteQ (New M w) (w1.setCell ⟨B, 2, none⟩ v') B { a with v := v' } S L R' fO fN fo ∧ Turns M w (w1.setCell ⟨B, 2, none⟩ v') := by
  have hT : Turns (fun b => some b = a.v.ownBlock) w w1 := .of_grown hg (fun x e => e.symm)
  have hT2 : Turns (fun b => some b = a.v.ownBlock ∨ b = B) w (w1.setCell ⟨B, 2, none⟩ v') := (hT.mono (L := fun b => some b = a.v.ownBlock ∨ b = B) (fun b _ e => .inl e)).setCell (.inl (.inr rfl)) 2 v'
  have hBv : some B ≠ a.v.ownBlock := fun e => (h.rM B e.symm).2.1 rfl
  have hB1 : w1.heap[B]? = w.heap[B]? := hT.block B h.lt hBv
  have hc : ∀ i, i ≠ 2 → (w1.setCell ⟨B, 2, none⟩ v').cell? ⟨B, i, none⟩ = w.cell? ⟨B, i, none⟩ := fun i hi => by
    rw [World.cell?_setCell_other _ _ _ _ (by intro e; injection e with _ e; exact hi e.symm)]
    exact World.cell?_of_block (w := w) hB1
  have hBv1 : ∀ g, v'.ownBlock = some g → New M w g ∧ g ≠ B ∧ g ≠ a.mo ∧ g ≠ a.mn := by
    intro g e
    rcases hat g e with k | k
    · have := h.rM g k
      exact ⟨.inl this.1, this.2⟩
    · refine ⟨.inr k, ?_, ?_, ?_⟩
      · rintro rfl; have := h.lt; omega
      · rintro rfl; have := h.om.lt; omega
      · rintro rfl; have := h.nm.lt; omega
  have hv1 : ∀ b, b < w.heap.size → (some b ≠ a.v.ownBlock) → some b ≠ v'.ownBlock := by
    intro b hb hne e
    rcases hat b e.symm with k | k
    · exact hne k.symm
    · omega
  have hsz := hT2.size
  refine ⟨?_, hT2.mono (fun b _ k => k.elim (fun e => (h.rM b e.symm).1) (fun e => by rw [e]; exact h.inM))⟩
  exact { h with
    inM := .inl h.inM
    lt := Nat.lt_of_lt_of_le h.lt hsz
    c0 := (hc 0 (by omega)).trans h.c0
    c1 := (hc 1 (by omega)).trans h.c1
    c2 := World.cell?_setCell_same _ _ (u := a.v) _ (by rw [World.cell?_of_block (w := w) hB1]; exact h.c2)
    c3 := (hc 3 (by omega)).trans h.c3
    c4 := (hc 4 (by omega)).trans h.c4
    c5 := (hc 5 (by omega)).trans h.c5
    free := fun i => by rw [World.frozen?_setCell, World.frozen?_of_block (w := w) hB1]; exact h.free i
    doc := h.doc.on hT2 (fun b _ k e => e.elim (h.dM b k).2.2.2.1 (h.dM b k).2.2.1)
    marks := h.marks.on hT2 (fun b _ k e => e.elim (h.kM b k).2.2.2.1 (h.kM b k).2.2.1)
    row := by
      refine hr.kept (row := some B) ⟨rfl, rfl, rfl, by simp, fun k _ hk => heap_setCell_other w1 ⟨B, 2, none⟩ k v' (by rintro rfl; exact hk rfl)⟩ ?_
      cases hv : v'.ownBlock with
      | none => exact .inl rfl
      | some g => exact .inr (by intro e; injection e with e; exact (hBv1 g hv).2.1 e)
    om := ownsMap_block h.om (hT2.block _ h.om.lt (fun k => k.elim (fun e => (h.rM _ e.symm).2.2.1 rfl) h.oM.2.1))
    nm := ownsMap_block h.nm (hT2.block _ h.nm.lt (fun k => k.elim (fun e => (h.rM _ e.symm).2.2.2 rfl) h.nM.2))
    dM := fun b k => ⟨.inl (h.dM b k).1, Nat.lt_of_lt_of_le (h.dM b k).2.1 hsz, (h.dM b k).2.2.1, hv1 b (h.dM b k).2.1 (h.dM b k).2.2.2.1, (h.dM b k).2.2.2.2⟩
    kM := fun b k => ⟨.inl (h.kM b k).1, Nat.lt_of_lt_of_le (h.kM b k).2.1 hsz, (h.kM b k).2.2.1, hv1 b (h.kM b k).2.1 (h.kM b k).2.2.2.1, (h.kM b k).2.2.2.2⟩
    rM := hBv1
    oM := ⟨.inl h.oM.1, h.oM.2⟩
    nM := ⟨.inl h.nM.1, h.nM.2⟩ }
/-- Fostering is set. -/
theorem SiteQ.fosterStep (h : SiteQ M w B a S L R fO fN fo) (f : Bool) : SiteQ M (w.setCell ⟨B, 5, none⟩ (.bool f)) B a S L R fO fN f ∧ Turns M w (w.setCell ⟨B, 5, none⟩ (.bool f)) := by
  have hT : Turns (fun b => b = B) w (w.setCell ⟨B, 5, none⟩ (.bool f)) := (Turns.refl (fun b => b = B) w).setCell (.inl rfl) 5 _
  have hc : ∀ i, i ≠ 5 → (w.setCell ⟨B, 5, none⟩ (.bool f)).cell? ⟨B, i, none⟩ = w.cell? ⟨B, i, none⟩ := fun i hi => World.cell?_setCell_other _ _ _ _ (by intro e; injection e with _ e; exact hi e.symm)
  refine ⟨?_, hT.mono (fun b _ e => by rw [e]; exact h.inM)⟩
  exact { h with
    lt := by simpa using h.lt
    c0 := (hc 0 (by omega)).trans h.c0
    c1 := (hc 1 (by omega)).trans h.c1
    c2 := (hc 2 (by omega)).trans h.c2
    c3 := (hc 3 (by omega)).trans h.c3
    c4 := (hc 4 (by omega)).trans h.c4
    c5 := World.cell?_setCell_same _ _ (u := .bool fo) _ h.c5
    free := fun i => by rw [World.frozen?_setCell]; exact h.free i
    doc := h.doc.on hT (fun b _ k e => (h.dM b k).2.2.1 e)
    marks := h.marks.on hT (fun b _ k e => (h.kM b k).2.2.1 e)
    row := ownsRow_kept h.row hT (fun g e k => (h.rM g e).2.1 k)
    om := ownsMap_block h.om (hT.block _ h.om.lt h.oM.2.1)
    nm := ownsMap_block h.nm (hT.block _ h.nm.lt h.nM.2)
    dM := fun b k => ⟨(h.dM b k).1, Nat.lt_of_lt_of_le (h.dM b k).2.1 hT.size, (h.dM b k).2.2⟩
    kM := fun b k => ⟨(h.kM b k).1, Nat.lt_of_lt_of_le (h.kM b k).2.1 hT.size, (h.kM b k).2.2⟩ }
theorem SiteQ.form (h : SiteQ M w B a S L R fO fN fo) : (a.v = .slice none 0 0 ∧ R = []) ∨ ∃ g cap, a.v = .slice (some ⟨g, 0, none⟩) R.length cap := by
  rcases h.row.2 with ⟨e, h0⟩ | ⟨g, cap, _, e, _⟩
  · exact .inl ⟨e, List.eq_nil_of_length_eq_zero h0⟩
  · exact .inr ⟨g, cap, e⟩
/-- A cell of an open element. -/
theorem SiteQ.at {g cap n : Nat} (h : SiteQ M w B a S L R fO fN fo) (e : a.v = .slice (some ⟨g, 0, none⟩) n cap) (j i : Nat) (hj : j < R.length) (hi : i < 3) : w.cell? ⟨g, j * 3 + i, none⟩ = (elCell R[j])[i]? := by
  have hr := h.row
  rw [e] at hr
  have hn : n = R.length := by
    rcases hr.2 with ⟨e, _⟩ | ⟨_, _, _, e, _⟩
    · cases e
    · injection e
  subst hn
  rw [hr.cellAt (j * 3 + i) (by omega), elCells_at R j i hj hi]
/-- The Site at block B: its nodes, its marks, its row, fostering. T: no more entries than that were made. -/
def SiteM (M : Nat → Prop) (w : World) (B : Nat) (S : List PN) (L : List MK) (R : List EL) (fo : Bool) (T : Nat) : Prop := ∃ a, SiteQ M w B a S L R (elOpen R) (elNamed R) fo ∧ a.no ≤ T ∧ a.nn ≤ T
theorem SiteM.mono {N : Nat → Prop} {T : Nat} (h : SiteM M w B S L R fo T) (hm : ∀ b, b < w.heap.size → M b → N b) : SiteM N w B S L R fo T := by
  obtain ⟨a, h, k⟩ := h
  exact ⟨a, h.mono hm, k⟩
theorem SiteM.on {N : Nat → Prop} {T : Nat} (h : SiteM M w B S L R fo T) (ht : Turns N w w') (hm : ∀ b, b < w.heap.size → M b → ¬ N b) : SiteM M w' B S L R fo T := by
  obtain ⟨a, h, k⟩ := h
  exact ⟨a, h.on ht hm, k⟩
theorem SiteM.below {T : Nat} (h : SiteM M w B S L R fo T) (hb : Below w.heap.size w w') : SiteM M w' B S L R fo T := by
  obtain ⟨a, h, k⟩ := h
  exact ⟨a, h.below hb, k⟩
theorem elOpen_app (A C : List EL) (n : Int) : elOpen (A ++ C) n = (elOpen A n || elOpen C n) := by unfold elOpen; rw [List.any_append]
theorem elNamed_app (A C : List EL) (s : List UInt8) : elNamed (A ++ C) s = elNamed A s + elNamed C s := by unfold elNamed; rw [List.countP_append]; simp
theorem elNamed_cons (x : EL) (C : List EL) (s : List UInt8) : elNamed (x :: C) s = (if (x.html && (x.name == s)) = true then 1 else 0) + elNamed C s := by
  unfold elNamed
  rw [List.countP_cons]
  split <;> simp <;> omega
theorem elOpen_cons (x : EL) (C : List EL) (n : Int) : elOpen (x :: C) n = ((x.n == n) || elOpen C n) := rfl
theorem elNamed_le (R : List EL) (s : List UInt8) : 0 ≤ elNamed R s ∧ elNamed R s ≤ R.length := by
  unfold elNamed
  have := List.countP_le_length (p := fun x : EL => x.html && (x.name == s)) (l := R)
  omega
end Go.Proofs.Ytbadckkcjjfnoaa
