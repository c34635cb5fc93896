/-
  The walk of the reference's Deep. Any nodes, not too many.
-/
import Derived.Test.YtjlkdhbgomamjaaDMem
namespace Go.Proofs.Ytjlkdhbgomamjaa
open Go.RowKit

set_option maxHeartbeats 1000000 in
set_option maxRecDepth 100000 in
theorem rdeep_all : ∀ (n : Nat) (f : Fo) (P : Nat → Prop) (v : Value) (w : World), f.wt < n → f.wt ≤ 4294967296 → NodesP P w v f → Calls Try.prog 28 #[v] w (Brings (.int .i64 (f.deep : Int)) w)
  | 0, f, P, v, w, hn, _, _ => absurd hn (by omega)
  | n + 1, f, P, v, w, hn, hs, h => by
    have IH := Lib.hid (rdeep_all n)
    obtain ⟨p, cap, rfl, ht⟩ := h
    have HT := Lib.hid ht
    have hl := Fo.len_le f
    clear ht
    go_enter Try.func28, Try.ntmps28
    go_wp2
    go_loopw [3, 4] (fun m i wr => ∃ (k q : Nat) (r : Fo), k + r.len = f.len ∧ r.wt ≤ f.wt ∧ i = .int .i64 (k : Int) ∧ m = .int .i64 (q : Int) ∧ f.deep = max q r.deep ∧ NodesTail P wr p r k ∧ Below w.heap.size w wr) (fun _ i _ => f.len - (intOf i).toNat)
    case atStart => exact ⟨0, 0, f, by omega, Nat.le_refl _, rfl, rfl, by simp, HT.out, Below.refl _ _⟩
    case round =>
      obtain ⟨k, q, r, hk, hr, rfl, rfl, hd, hT, hB⟩ := hrel
      have HD := Lib.hid hd
      have HB := Lib.hid hB
      clear hd hB
      cases r with
      | nil =>
        have hk' : k = f.len := by simpa [Fo.len] using hk
        subst hk'
        go_wp2
        go_ret
        refine ⟨?_, HB.out⟩
        rw [HD.out]
        simp [Fo.deep]
      | cons d kd r' =>
        obtain ⟨g, o, va, vk, rfl, _, hg, h7, _, hkd, htl⟩ := hT.head
        have c6 := h7.c6
        have HKD := Lib.hid hkd
        have HTL := Lib.hid htl
        simp only [Fo.wt, Fo.len] at hr hk
        have hkl : k < f.len := by omega
        have hdl := Fo.deep_le kd
        have hdl2 := Fo.deep_le f
        have hq : q ≤ f.wt := by have := HD.out; omega
        clear hT h7 hkd htl
        go_wp2_with fail
        refine (IH.out kd P vk wr (by omega) (by omega) HKD.out).mono ?_
        rintro e w2 ⟨rfl, b2⟩
        have HB2 := Lib.hid (HB.out.trans (b2.mono HB.out.size))
        have HT2 := Lib.hid (HTL.out.kept (.of_below b2))
        clear b2 HB HKD HTL
        go_wp2_with fail
        refine ⟨⟨k + 1, max q (1 + kd.deep), r', by omega, by omega, by go_num, ?_, ?_, HT2.out, HB2.out⟩, by simp [intOf]; omega⟩
        · congr 1
          split <;> omega
        · rw [HD.out, Fo.deep]
          omega
theorem rdeep_any (f : Fo) (P : Nat → Prop) (v : Value) (w : World) (hs : f.wt ≤ 4294967296) (h : NodesP P w v f) : Calls Try.prog 28 #[v] w (Brings (.int .i64 (f.deep : Int)) w) := rdeep_all _ f P v w (Nat.lt_succ_self _) hs h
end Go.Proofs.Ytjlkdhbgomamjaa
