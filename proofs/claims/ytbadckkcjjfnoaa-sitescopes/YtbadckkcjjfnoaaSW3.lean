/-
  The walk of the program's isAnyOpen: a closure over a map. Any Site, any names, not too many.
-/
import Derived.Test.YtbadckkcjjfnoaaSW2
namespace Go.Proofs.Ytbadckkcjjfnoaa
open Go.RowKit Go.Maps

variable {M : Nat → Prop} {w w' : World} {B : Nat} {a : SA} {S : List PN} {L : List MK} {R : List EL} {fO : Int → Bool} {fN : List UInt8 → Int} {fo : Bool}
def anyN (fN : List UInt8 → Int) (l : List (List UInt8)) : Bool := l.any fun s => decide (0 < fN s)
set_option maxHeartbeats 1000000 in
set_option maxRecDepth 100000 in
theorem sany1P (h : SiteQ M w B a S L R fO fN fo) (s : List UInt8) (b : Nat) (hc : w.cell? ⟨b, 0, none⟩ = some (.pointer (some ⟨B, 0, none⟩))) (_hb : b < w.heap.size) (hl : s.length ≤ 4294967296) : Calls Try.prog 139 #[.string ⟨s.toArray⟩, .pointer (some ⟨b, 0, none⟩)] w (Gives (.bool (decide (0 < fN s))) w) := by
  have hB := h.lt
  have c4 := h.c4
  have HN := Lib.hid h.nm
  have HF := Lib.hid (h.names s)
  have HK := Lib.hid (key_s hl)
  clear h hl
  generalize (⟨s.toArray⟩ : ByteArray) = SA at *
  by_cases k : 0 < fN s
  · rw [decide_eq_true k]
    have HP : Hid (∀ c : Int, a.DN.atKey (.string s) (.lit (.int .i64 0)) = .lit (.int .i64 c) → 0 < c) := Lib.hid fun c e => by
      rw [HF.out] at e
      have := lit_inj e
      omega
    clear k
    go_enter Try.func139, Try.ntmps139
    go_wp2_with (first
      | (at_lookup; refine wpList_lookup_own_int _ rfl _ _ 119 rfl 9 3 .i64 law_s Try.underlying119 Try.underlying3 (zero_i _) a.mn a.nn a.DN rfl HN.out _ _ rfl HK.out ?_; intro c hat hwc; have hcp := HP.out c hat; clear hat hwc)
      | fail)
    go_ret
    exact ⟨rfl, rfl⟩
  · rw [decide_eq_false k]
    have HP : Hid (∀ c : Int, a.DN.atKey (.string s) (.lit (.int .i64 0)) = .lit (.int .i64 c) → ¬ 0 < c) := Lib.hid fun c e => by
      rw [HF.out] at e
      have := lit_inj e
      omega
    clear k
    go_enter Try.func139, Try.ntmps139
    go_wp2_with (first
      | (at_lookup; refine wpList_lookup_own_int _ rfl _ _ 119 rfl 9 3 .i64 law_s Try.underlying119 Try.underlying3 (zero_i _) a.mn a.nn a.DN rfl HN.out _ _ rfl HK.out ?_; intro c hat hwc; have hcp := HP.out c hat; clear hat hwc)
      | fail)
    go_ret
    exact ⟨rfl, rfl⟩
set_option maxHeartbeats 1000000 in
set_option maxRecDepth 100000 in
theorem sindexFP (h : SiteQ M w B a S L R fO fN fo) (v : Value) (l : List (List UInt8)) (b : Nat) (hv : StrsAt w v l) (hc : w.cell? ⟨b, 0, none⟩ = some (.pointer (some ⟨B, 0, none⟩))) (hb : b < w.heap.size) (hs : l.length ≤ 4294967296) (hl : ∀ s ∈ l, s.length ≤ 4294967296) :
    Calls Try.prog 153 #[v, .func (.func 139) #[] #[.pointer (some ⟨b, 0, none⟩)]] w (fun e w' => ∃ r : Int, e = .returned (.int .i64 r) ∧ w = w' ∧ ((r = -1 ∧ anyN fN l = false) ∨ ∃ k : Nat, r = (k : Int) ∧ anyN fN l = true)) := by
  have HS : Hid (∀ s ∈ l, Calls Try.prog 139 #[.string ⟨s.toArray⟩, .pointer (some ⟨b, 0, none⟩)] w (Gives (.bool (decide (0 < fN s))) w)) := Lib.hid fun s hm => sany1P h s b hc hb (hl s hm)
  clear h hc hb hl
  obtain ⟨p, cap, rfl, hr⟩ := hv
  have HR := Lib.hid hr
  clear hr
  go_enter Try.func153, Try.ntmps153
  go_wp2_with fail
  go_loop [8] (fun i => ∃ k : Nat, k ≤ l.length ∧ i = .int .i64 (k : Int) ∧ ∀ j (_ : j < k) (h : j < l.length), fN l[j] ≤ 0) (fun i => l.length - (intOf i).toNat)
  case atStart => exact ⟨0, Nat.zero_le _, rfl, fun j h => absurd h (by omega)⟩
  case round =>
    obtain ⟨k, hk, rfl, hf⟩ := hrel
    have HF := Lib.hid hf
    clear hf
    by_cases hlt : k < l.length
    · obtain ⟨g, o, rfl, hg, c0⟩ := HR.out k hlt
      have j0 : (0 : Int) ≤ (k : Int) := by omega
      have j1 : (k : Int) < (l.length : Int) := by omega
      have HC := Lib.hid (HS.out l[k] (List.getElem_mem hlt))
      by_cases c1 : 0 < fN l[k]
      · have HY : Hid (anyN fN l = true) := Lib.hid (by
          unfold anyN
          rw [List.any_eq_true]
          exact ⟨l[k], List.getElem_mem hlt, decide_eq_true c1⟩)
        rw [decide_eq_true c1] at HC
        clear c1
        generalize (⟨l[k].toArray⟩ : ByteArray) = SB at *
        go_wp2_with fail
        refine HC.out.mono ?_
        rintro e w1 ⟨rfl, rfl⟩
        go_wp2_with fail
        go_ret
        exact ⟨_, rfl, rfl, .inr ⟨k, rfl, HY.out⟩⟩
      · have HN : Hid (∀ j (_ : j < k + 1) (h : j < l.length), fN l[j] ≤ 0) := Lib.hid fun j hj h => by
          rcases Nat.lt_or_ge j k with q | q
          · exact HF.out j q h
          · have : j = k := by omega
            subst this
            omega
        rw [decide_eq_false c1] at HC
        clear c1
        generalize (⟨l[k].toArray⟩ : ByteArray) = SB at *
        go_wp2_with fail
        refine HC.out.mono ?_
        rintro e w1 ⟨rfl, rfl⟩
        go_wp2_with fail
        exact ⟨⟨k + 1, by omega, by go_num, HN.out⟩, by simp [intOf]; omega⟩
    · have HZ : Hid (anyN fN l = false) := Lib.hid (by
        unfold anyN
        rw [Bool.eq_false_iff]
        intro e
        rw [List.any_eq_true] at e
        obtain ⟨x, hx, e⟩ := e
        obtain ⟨j, hj, rfl⟩ := List.getElem_of_mem hx
        have := HF.out j (by omega) hj; have := of_decide_eq_true e; omega)
      go_wp2_with fail
      go_ret
      exact ⟨_, rfl, rfl, .inl ⟨rfl, HZ.out⟩⟩
set_option maxHeartbeats 1000000 in
set_option maxRecDepth 100000 in
theorem scontainsFP (h : SiteQ M w B a S L R fO fN fo) (v : Value) (l : List (List UInt8)) (b : Nat) (hv : StrsAt w v l) (hc : w.cell? ⟨b, 0, none⟩ = some (.pointer (some ⟨B, 0, none⟩))) (hb : b < w.heap.size) (hs : l.length ≤ 4294967296) (hl : ∀ s ∈ l, s.length ≤ 4294967296) :
    Calls Try.prog 138 #[v, .func (.func 139) #[] #[.pointer (some ⟨b, 0, none⟩)]] w (Gives (.bool (anyN fN l)) w) := by
  have HC := Lib.hid (sindexFP h v l b hv hc hb hs hl)
  clear h hv hc hb hl
  go_enter Try.func138, Try.ntmps138
  go_wp2_with fail
  refine HC.out.mono ?_
  rintro e w1 ⟨r, rfl, rfl, ⟨rfl, hh⟩ | ⟨k, rfl, hh⟩⟩
  · have HH := Lib.hid hh
    clear hh
    go_wp2_with fail
    go_ret
    exact ⟨bool_is HH.out.symm, rfl⟩
  · have HH := Lib.hid hh
    clear hh
    have j0 : (0 : Int) ≤ (k : Int) := by omega
    go_wp2_with fail
    go_ret
    exact ⟨bool_is HH.out.symm, rfl⟩
set_option maxHeartbeats 1000000 in
set_option maxRecDepth 100000 in
theorem sanyP (h : SiteQ M w B a S L R fO fN fo) (v : Value) (l : List (List UInt8)) (hv : StrsAt w v l) (hs : l.length ≤ 4294967296) (hl : ∀ s ∈ l, s.length ≤ 4294967296) : Calls Try.prog 113 #[.pointer (some ⟨B, 0, none⟩), v] w (Brings (.bool (anyN fN l)) w) := by
  have hb : Below w.heap.size w (w.alloc (.cells #[.pointer (some ⟨B, 0, none⟩)] 72)) := (Below.refl _ w).alloc (Nat.le_refl _) _
  have HB := Lib.hid hb
  have HC := Lib.hid (scontainsFP (h.below hb) v l w.heap.size (hv.below hb) (by rw [World.cell?_alloc_mark w _ _ (0, 0) 0]; rfl) (by simp) hs hl)
  have hmf : ∀ (fn : Fn) (first cap : Array Value) (w : World), (Instr.makeFunc fn first cap).run Try.prog w = .ok (.func fn first cap) w := fun _ _ _ _ => rfl
  clear h hv hl hb
  go_enter Try.func113, Try.ntmps113
  go_wp2_with fail
  refine HC.out.mono ?_
  rintro e w1 ⟨rfl, rfl⟩
  go_wp2_with fail
  go_ret
  exact ⟨rfl, HB.out⟩
end Go.Proofs.Ytbadckkcjjfnoaa
