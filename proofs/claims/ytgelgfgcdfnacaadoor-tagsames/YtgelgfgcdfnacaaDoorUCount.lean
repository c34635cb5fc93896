/-
  A map that counts attributes: what 'has[x]++' leaves, in whichever order its parts are run. No program is walked.
-/
import Derived.Test.YtgelgfgcdfnacaaDoorUKey
import Derived.WideKeyEntry
import Derived.Maps.Own
import Derived.Test.YtgelgfgcdfnacaaDoorUWayAll
namespace Go.Proofs.YtgelgfgcdfnacaaDoor
open Go.RowKit Go.Maps Go.WideMaps

theorem keyLits_str (d : Nat) (s : ByteArray) (h : s.size ≤ maxLen) : Tryd.prog.keyLits (d + 1) 9 [.string s] = some [.string s.data.toList] := by
  unfold Program.keyLits
  rw [(Tryd.underlying9 )]
  simp [h]
theorem keyLits_attr (d : Nat) (A V : ByteArray) (hA : A.size ≤ maxLen) (hV : V.size ≤ maxLen) : Tryd.prog.keyLits (d + 1 + 1) 49 [.string A, .string V] = some [.string A.data.toList, .string V.data.toList] := by
  have hc : Tryd.prog.cellsOf 49 = 2 := by kernel_rfl
  have hc1 : Tryd.prog.cellsOf 9 = 1 := by kernel_rfl
  unfold Program.keyLits
  rw [(Tryd.underlying49 )]
  simp [hc, hc1, keyLits_str, hA, hV]
theorem key_attr (A V : ByteArray) (hA : A.size ≤ maxLen) (hV : V.size ≤ maxLen) : ∃ kl, keyOf Tryd.prog 49 (.agg #[.string A, .string V]) = some kl := by
  have hk : Tryd.prog.keyType 49 = true := by kernel_rfl
  have hc : Tryd.prog.cellsOf 49 = 2 := by kernel_rfl
  have hf : (Value.agg #[.string A, .string V]).formed Tryd.prog 49 = true := by
    simp [Value.formed, (Tryd.underlying49 ), hc]
  have hs : Tryd.prog.types.size + 1 = 125 + 1 + 1 := by kernel_rfl
  unfold keyOf
  rw [(Tryd.underlying49 )]
  simp only [hk, hf, Bool.and_self, if_true]
  rw [hs, show (Value.agg #[.string A, .string V]).cells.toList = [.string A, .string V] from rfl, keyLits_attr 125 A V hA hV]
  exact ⟨_, rfl⟩

theorem block_same (W : World) (b : Nat) (o : Obj) (h : W.heap[b]? = some o) : Go.ChangeMaps.setBlock W b o = W := by
  have e : W.heap.setIfInBounds b o = W.heap := by
    obtain ⟨hb, hv⟩ := Array.getElem?_eq_some_iff.1 h
    apply Array.ext
    · simp
    · intro i h1 h2
      rw [Array.getElem_setIfInBounds]
      split
      · rename_i q
        subst q
        exact hv.symm
      · rfl
  unfold Go.ChangeMaps.setBlock
  rw [e]
theorem block_twice (W : World) (b : Nat) (o p : Obj) : Go.ChangeMaps.setBlock (Go.ChangeMaps.setBlock W b o) b p = Go.ChangeMaps.setBlock W b p := by
  unfold Go.ChangeMaps.setBlock
  simp
open Go.WideElems in
theorem count_step (W : World) (b n : Nat) (D : DataW Unit) (hown : W.ownsMap Tryd.prog 49 (plainElem Tryd.prog 3) b n D) (hn : n < 1000) (key : Value) (kl : Lit) (hkey : keyOf Tryd.prog 49 key = some kl) :
    ∃ (c : Int) (v0 : Value) (st : Nat) (W1 : World), D.atKey kl (.lit (.int .i64 0)) = .lit (.int .i64 c) ∧
      (Instr.lookup 64 (.map (some b)) key false).run Tryd.prog W = .ok (.int .i64 c) W ∧
      (Instr.mapEntry 64 (.map (some b)) key).run Tryd.prog W = .ok (.tuple #[v0, .int .i64 (st : Int)]) W1 ∧
      (Instr.lookup 64 (.map (some b)) key false).run Tryd.prog W1 = .ok (.int .i64 c) W1 ∧
      ∀ (u : Int), (Lit.int .i64 u).wf = true → ∃ W2, (Instr.entryStore 64 (.map (some b)) (.int .i64 (st : Int)) (.int .i64 u)).run Tryd.prog W1 = .ok () W2 ∧ W2.ownsMap Tryd.prog 49 (plainElem Tryd.prog 3) b (n + 1) (D.put kl (.lit (.int .i64 u))) ∧ W.grownBy W2 (some b) := by
  have ht : Tryd.prog.underlying 64 = some (.map 49 3) := Tryd.underlying64
  have K : KeyLaw Tryd.prog 49 := deep_law_laid lo (m := 4) (by omega) (of_decide_eq_true (by kernel_rfl)) (by kernel_rfl) (by kernel_rfl)
  obtain ⟨c, hrun, hat, hwc⟩ := hown.lookup_int law_attr ht (Tryd.underlying3 ) (zero_int _) hkey
  have hown0 := hown
  obtain ⟨es, clock, hb, F, hs, hD⟩ := hown
  obtain ⟨v0, st, es1, clock1, hme, hv, hst⟩ := entry_then_store K ht (fun u => zero_int u) hb F hkey
  refine ⟨c, v0, st, _, hat, hrun, hme, ?_, ?_⟩
  · rcases law_attr.find W hkey es.toList F.keys with ⟨h1, h2⟩ | ⟨j, e0, h1, h2, h3⟩
    · have hm2 : (Instr.mapEntry 64 (.map (some b)) key).run Tryd.prog W = .ok (.tuple #[.int .i64 0, goInt clock]) (Go.ChangeMaps.setBlock W b (.map (es.push ⟨key, .int .i64 0, clock⟩) (clock + 1))) := by
        simp [Instr.mapEntry, run_underlying ht, MapKept.run_getObj_map hb, law_attr.check W false hkey, h1, MapKept.run_setObj_map _ hb, Result.andThen, Go.ChangeMaps.setBlock]
      have hu2 : (Instr.mapUpdate 64 (.map (some b)) key (.int .i64 0)).run Tryd.prog W = .ok () (Go.ChangeMaps.setBlock W b (.map (es.push ⟨key, .int .i64 0, clock⟩) (clock + 1))) := by
        simp [Instr.mapUpdate, run_underlying ht, MapKept.run_getObj_map hb, law_attr.check W false hkey, h1, MapKept.run_setObj_map _ hb, Result.andThen, Go.ChangeMaps.setBlock]
      have hl2 : (Instr.lookup 64 (.map (some b)) key false).run Tryd.prog W = .ok (.int .i64 0) W := by
        simp [Instr.lookup, run_underlying ht, MapKept.run_getObj_map hb, law_attr.check W es.isEmpty hkey, h1, Result.andThen]
      rw [hm2] at hme
      rw [hl2] at hrun
      have ec : (0 : Int) = c := by have := (Result.ok.inj hrun).1; injection this
      subst ec
      rw [← (Result.ok.inj hme).2]
      obtain ⟨w', g3, g4, _⟩ := hown0.update law_attr ht (by unfold maxLen; omega) hkey (plainElem_int (Tryd.underlying3 ) (show (Lit.int .i64 0).wf = true by decide))
      rw [hu2] at g3
      have e := (Result.ok.inj g3).2
      rw [e]
      obtain ⟨c1, k1, k2, _⟩ := g4.lookup_int law_attr ht (Tryd.underlying3 ) (zero_int _) hkey
      rw [atKey_put_same hown0.isMap (law_attr.key hkey)] at k2
      rw [k1, ← lit_inj k2]
    · have hj : es[j]? = some e0 := by simpa using h2
      have hsame : es.modify j (fun e => { e with key := key }) = es := by
        apply Array.ext'
        rw [Array.toList_modify, Go.ChangeMaps.modify_eq_set _ _ _ _ h2]
        have : ({ e0 with key := key } : MapEntry) = e0 := by rw [← h3]
        rw [this]
        exact set_self _ _ _ h2
      have hm2 : (Instr.mapEntry 64 (.map (some b)) key).run Tryd.prog W = .ok (.tuple #[e0.val, goInt e0.born]) (Go.ChangeMaps.setBlock W b (.map es clock)) := by
        simp [Instr.mapEntry, run_underlying ht, MapKept.run_getObj_map hb, law_attr.check W false hkey, h1, hj, h3, law_attr.stays W hkey, hsame, MapKept.run_setObj_map _ hb, Result.andThen, Go.ChangeMaps.setBlock]
      rw [hm2] at hme
      rw [← (Result.ok.inj hme).2, block_same W b _ hb]
      exact hrun
  · intro u hu
    have hb1 : (Go.ChangeMaps.setBlock W b (.map es1 clock1)).heap[b]? = some (.map es1 clock1) := Go.ChangeMaps.heap_setBlock_same hb _
    obtain ⟨es', clock', h1, h2⟩ := hst _ (.int .i64 u) hb1
    obtain ⟨w', h3, h4, h5⟩ := hown0.update law_attr ht (by unfold maxLen; omega) hkey (plainElem_int (Tryd.underlying3 ) hu)
    rw [h2] at h3
    have e := (Result.ok.inj h3).2
    rw [block_twice, e] at h1
    exact ⟨_, h1, h4, h5⟩
end Go.Proofs.YtgelgfgcdfnacaaDoor
