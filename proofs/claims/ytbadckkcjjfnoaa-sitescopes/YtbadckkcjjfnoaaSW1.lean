/-
  The walks of slices.Index, slices.Contains for texts; of an element's isHtml, is. Any texts, not too many.
-/
import Derived.Test.YtbadckkcjjfnoaaMMAll
namespace Go.Proofs.Ytbadckkcjjfnoaa
open Go.RowKit

/-- The slice v holds the texts l. -/
def StrsAt (w : World) (v : Value) (l : List (List UInt8)) : Prop := ∃ p cap, v = .slice p l.length cap ∧ ∀ j (hj : j < l.length), ∃ g o, p = some ⟨g, o, none⟩ ∧ g < w.heap.size ∧ w.cell? ⟨g, o + j, none⟩ = some (.string ⟨l[j].toArray⟩)
theorem StrsAt.below {w w' : World} {v : Value} {l : List (List UInt8)} (h : StrsAt w v l) (hb : Below w.heap.size w w') : StrsAt w' v l := by
  obtain ⟨p, cap, rfl, h⟩ := h
  refine ⟨p, cap, rfl, fun j hj => ?_⟩
  obtain ⟨g, o, rfl, hg, hc⟩ := h j hj
  exact ⟨g, o, rfl, Nat.lt_of_lt_of_le hg hb.size, (hb.cell hg).trans hc⟩
theorem StrsAt.nil (w : World) (p : Option Addr) (cap : Nat) : StrsAt w (.slice p 0 cap) [] := ⟨p, cap, rfl, fun j hj => absurd hj (by simp)⟩
theorem StrsAt.made (w : World) (l : List (List UInt8)) (cs : Array Value) (T : TypeId) (n c : Nat) (hn : n = l.length) (hc : cs = (l.map fun s => Value.string ⟨s.toArray⟩).toArray) : StrsAt (w.alloc (.cells cs T)) (.slice (some ⟨w.heap.size, 0, none⟩) n c) l := by
  subst hn hc
  refine ⟨_, c, rfl, fun j hj => ⟨w.heap.size, 0, rfl, by simp, ?_⟩⟩
  rw [World.cell?_alloc_mark w _ _ (0, 0) (0 + j)]
  simp [hj]
def hasS (l : List (List UInt8)) (s : List UInt8) : Bool := l.any fun x => x == s
theorem hasS_iff (l : List (List UInt8)) (s : List UInt8) : hasS l s = true ↔ s ∈ l := by
  unfold hasS
  rw [List.any_eq_true]
  constructor
  · rintro ⟨x, hx, e⟩
    rw [beq_iff_eq] at e
    rw [← e]; exact hx
  · intro h
    exact ⟨s, h, beq_self_eq_true _⟩
set_option maxHeartbeats 1000000 in
set_option maxRecDepth 100000 in
theorem sindexP (v : Value) (l : List (List UInt8)) (s : List UInt8) (w : World) (h : StrsAt w v l) (hs : l.length ≤ 4294967296) :
    Calls Try.prog 154 #[v, .string ⟨s.toArray⟩] w (fun e w' => ∃ r : Int, e = .returned (.int .i64 r) ∧ w = w' ∧ ((r = -1 ∧ hasS l s = false) ∨ ∃ k : Nat, r = (k : Int) ∧ k < l.length ∧ hasS l s = true)) := by
  obtain ⟨p, cap, rfl, hr⟩ := h
  have HR := Lib.hid hr
  clear hr
  go_enter Try.func154, Try.ntmps154
  go_wp2_with fail
  go_loop [8] (fun i => ∃ k : Nat, k ≤ l.length ∧ i = .int .i64 (k : Int) ∧ ∀ j (_ : j < k) (h : j < l.length), l[j] ≠ s) (fun i => l.length - (intOf i).toNat)
  case atStart => exact ⟨0, Nat.zero_le _, rfl, fun j h => absurd h (by omega)⟩
  case round =>
    obtain ⟨k, hk, rfl, hf⟩ := hrel
    have HF := Lib.hid hf
    clear hf
    by_cases hlt : k < l.length
    · obtain ⟨g, o, rfl, hg, c0⟩ := HR.out k hlt
      have j0 : (0 : Int) ≤ (k : Int) := by omega
      have j1 : (k : Int) < (l.length : Int) := by omega
      by_cases c1 : s = l[k]
      · have q1 := str_is c1
        have HY : Hid (hasS l s = true) := Lib.hid ((hasS_iff l s).2 (by rw [c1]; exact List.getElem_mem hlt))
        clear c1
        generalize (⟨s.toArray⟩ : ByteArray) = SA at *
        generalize (⟨l[k].toArray⟩ : ByteArray) = SB at *
        go_wp2_with fail
        go_ret
        exact ⟨_, rfl, rfl, .inr ⟨k, rfl, hlt, HY.out⟩⟩
      · have q1 := str_ne c1
        have HN : Hid (∀ j (_ : j < k + 1) (h : j < l.length), l[j] ≠ s) := Lib.hid fun j hj h => by
          rcases Nat.lt_or_ge j k with q | q
          · exact HF.out j q h
          · have : j = k := by omega
            subst this
            exact fun e => c1 e.symm
        clear c1
        generalize (⟨s.toArray⟩ : ByteArray) = SA at *
        generalize (⟨l[k].toArray⟩ : ByteArray) = SB at *
        go_wp2_with fail
        exact ⟨⟨k + 1, by omega, by go_num, HN.out⟩, by simp [intOf]; omega⟩
    · have HZ : Hid (hasS l s = false) := Lib.hid (by
        rw [Bool.eq_false_iff]
        intro e
        obtain ⟨j, hj, e⟩ := List.getElem_of_mem ((hasS_iff l s).1 e)
        exact HF.out j (by omega) hj e)
      go_wp2_with fail
      go_ret
      exact ⟨_, rfl, rfl, .inl ⟨rfl, HZ.out⟩⟩
set_option maxHeartbeats 1000000 in
set_option maxRecDepth 100000 in
theorem scontainsP (v : Value) (l : List (List UInt8)) (s : List UInt8) (w : World) (h : StrsAt w v l) (hs : l.length ≤ 4294967296) :
    Calls Try.prog 140 #[v, .string ⟨s.toArray⟩] w (Gives (.bool (hasS l s)) w) := by
  have HC := Lib.hid (sindexP v l s w h hs)
  clear h
  generalize (⟨s.toArray⟩ : ByteArray) = SA at *
  go_enter Try.func140, Try.ntmps140
  go_wp2_with fail
  refine HC.out.mono ?_
  rintro e w1 ⟨r, rfl, rfl, ⟨rfl, hh⟩ | ⟨k, rfl, hk, hh⟩⟩
  · have HH := Lib.hid hh
    clear hh
    go_wp2_with fail
    go_ret
    exact ⟨bool_is HH.out.symm, rfl⟩
  · have HH := Lib.hid hh
    clear hh
    have j0 : (0 : Int) ≤ (k : Int) := by omega
    go_wp2_with fail
    go_ret
    exact ⟨bool_is HH.out.symm, rfl⟩

/-- An element in memory. -/
def ElAt (w : World) (g o : Nat) (x : EL) : Prop := g < w.heap.size ∧ w.cell? ⟨g, o, none⟩ = some (.int .i64 x.n) ∧ w.cell? ⟨g, o + 1, none⟩ = some (.int .i64 x.space) ∧ w.cell? ⟨g, o + 2, none⟩ = some (.string ⟨x.name.toArray⟩)
theorem ElAt.below {w w' : World} {g o : Nat} {x : EL} (h : ElAt w g o x) (hb : Below w.heap.size w w') : ElAt w' g o x := ⟨Nat.lt_of_lt_of_le h.1 hb.size, (hb.cell h.1).trans h.2.1, (hb.cell h.1).trans h.2.2.1, (hb.cell h.1).trans h.2.2.2⟩
set_option maxHeartbeats 1000000 in
set_option maxRecDepth 100000 in
theorem ehtmlP (g o : Nat) (x : EL) (w : World) (h : ElAt w g o x) : Calls Try.prog 133 #[.pointer (some ⟨g, o, none⟩)] w (Gives (.bool x.html) w) := by
  obtain ⟨hg, c0, c1, c2⟩ := h
  by_cases k0 : x.n = 0
  · have q0 : (x.n != 0) = false := by simp [k0]
    have HE : Hid (x.html = false) := Lib.hid (by simp [EL.html, k0])
    clear k0 c2
    generalize x.n = N at *
    go_enter Try.func133, Try.ntmps133
    go_wp2_with fail
    go_ret
    exact ⟨bool_is HE.out.symm, rfl⟩
  · have q0 : (x.n != 0) = true := by simp [k0]
    by_cases k1 : x.space = 1
    · have q1 : (x.space == 1) = true := by simp [k1]
      have HE : Hid (x.html = true) := Lib.hid (by simp [EL.html, k0, k1])
      clear k0 k1 c2
      generalize x.n = N at *
      generalize x.space = P at *
      go_enter Try.func133, Try.ntmps133
      go_wp2_with fail
      go_ret
      exact ⟨bool_is HE.out.symm, rfl⟩
    · have q1 : (x.space == 1) = false := by simp [k1]
      have HE : Hid (x.html = false) := Lib.hid (by simp [EL.html, k1])
      clear k0 k1 c2
      generalize x.n = N at *
      generalize x.space = P at *
      go_enter Try.func133, Try.ntmps133
      go_wp2_with fail
      go_ret
      exact ⟨bool_is HE.out.symm, rfl⟩
theorem EL.is_html {x : EL} {l : List (List UInt8)} (h : x.html = true) : x.is l = hasS l x.name := by unfold EL.is hasS; rw [h, Bool.true_and]
theorem EL.is_not {x : EL} {l : List (List UInt8)} (h : x.html = false) : x.is l = false := by unfold EL.is; rw [h, Bool.false_and]
set_option maxHeartbeats 1000000 in
set_option maxRecDepth 100000 in
theorem eisP (g o : Nat) (x : EL) (v : Value) (l : List (List UInt8)) (w : World) (h : ElAt w g o x) (hv : StrsAt w v l) (hs : l.length ≤ 4294967296) : Calls Try.prog 114 #[.pointer (some ⟨g, o, none⟩), v] w (Gives (.bool (x.is l)) w) := by
  have HH := Lib.hid (ehtmlP g o x w h)
  have HC := Lib.hid (scontainsP v l x.name w hv hs)
  obtain ⟨hg, c0, c1, c2⟩ := h
  clear hv c0 c1
  cases k0 : x.html
  · have HE : Hid (x.is l = false) := Lib.hid (EL.is_not k0)
    rw [k0] at HH
    clear k0
    go_enter Try.func114, Try.ntmps114
    go_wp2_with fail
    refine HH.out.mono ?_
    rintro e w1 ⟨rfl, rfl⟩
    go_wp2_with fail
    go_ret
    exact ⟨bool_is HE.out.symm, rfl⟩
  · have HE : Hid (x.is l = hasS l x.name) := Lib.hid (EL.is_html k0)
    rw [k0] at HH
    clear k0
    generalize (⟨x.name.toArray⟩ : ByteArray) = SA at *
    go_enter Try.func114, Try.ntmps114
    go_wp2_with fail
    refine HH.out.mono ?_
    rintro e w1 ⟨rfl, rfl⟩
    go_wp2_with fail
    refine HC.out.mono ?_
    rintro e w1 ⟨rfl, rfl⟩
    cases k1 : hasS l x.name
    · rw [k1] at HE
      go_wp2_with fail
      go_ret
      exact ⟨bool_is HE.out.symm, rfl⟩
    · rw [k1] at HE
      go_wp2_with fail
      go_ret
      exact ⟨bool_is HE.out.symm, rfl⟩
end Go.Proofs.Ytbadckkcjjfnoaa
