/-
  The walks of the program's Wall, Drop, Put. Any marks, not too many.
-/
import Derived.Test.YtbadckkcjjfnoaaMW6
namespace Go.Proofs.Ytbadckkcjjfnoaa
open Go.RowKit

theorem mIns_end (S : List MK) (x : MK) : mIns S S.length x = S ++ [x] := by simp [mIns]
theorem markV_wall : markV mWall (.slice none 0 0) = .agg #[.int .i64 (-1), .string ⟨#[]⟩, .slice none 0 0] := rfl
set_option maxHeartbeats 1000000 in
set_option maxRecDepth 100000 in
theorem mwallP (S : List MK) (B : Nat) (M : Nat → Prop) (w : World) (h : MarksM M w B S) (hs : S.length ≤ 4294967296) :
    Calls Try.prog 28 #[.pointer (some ⟨B, 0, none⟩)] w (fun e w' => e = .returned (.tuple #[]) ∧ MarksM (New M w) w' B (S ++ [mWall]) ∧ Turns M w w') := by
  have HI := Lib.hid (minsertP S B M (fun _ => False) w S.length mWall none 0 h (Nat.le_refl _) hs (AttrsP.nil _ _ _ _) (fun _ k => k.elim) (by decide))
  rw [mIns_end, show (mWall.attrs.length) = 0 from rfl, markV_wall] at HI
  obtain ⟨v, qs, rfl, hq⟩ := h
  obtain ⟨p, cap, rfl, _⟩ := hq.reads
  have h0 := hq.cell
  have hB := hq.lt
  have HL : Hid (((qs.map (·.1)).length : Int) = (qs.length : Int)) := Lib.hid (by simp)
  rw [HL.out] at HI
  clear hq
  go_enter Try.func28, Try.ntmps28
  go_wp2_with fail
  refine HI.out.mono ?_
  rintro e w2 ⟨rfl, d2, t2⟩
  have HD := Lib.hid d2
  have HT := Lib.hid t2
  clear d2 t2
  go_wp2_with fail
  exact bodyPost_end (results_none rfl _ _ _) rfl ⟨rfl, HD.out, HT.out⟩

def mDropS (S : List MK) (i : Int) : List MK := if mHas S i = true then S.eraseIdx i.toNat else S
set_option maxHeartbeats 1000000 in
set_option maxRecDepth 100000 in
theorem mdropP (S : List MK) (B : Nat) (M : Nat → Prop) (w : World) (i : Int) (h : MarksM M w B S) (hs : S.length ≤ 4294967296) :
    Calls Try.prog 32 #[.pointer (some ⟨B, 0, none⟩), .int .i64 i] w (fun e w' => e = .returned (.bool (mHas S i)) ∧ MarksM M w' B (mDropS S i) ∧ Turns M w w') := by
  have HH := Lib.hid (mhasP S B M w i h)
  have HM := Lib.hid h
  by_cases c : mHas S i = true
  · have hc : 0 ≤ i ∧ i < S.length := by unfold mHas at c; simpa using c
    have HR := Lib.hid (mremoveP S B M w i.toNat h (by omega) hs)
    have ei : ((i.toNat : Nat) : Int) = i := by omega
    rw [ei] at HR
    have HS : Hid (mDropS S i = S.eraseIdx i.toNat) := Lib.hid (if_pos c)
    rw [HS.out, c]
    rw [c] at HH
    clear h c hc ei
    go_enter Try.func32, Try.ntmps32
    go_wp2_with fail
    refine HH.out.mono ?_
    rintro e w1 ⟨rfl, rfl⟩
    go_wp2_with fail
    refine HR.out.mono ?_
    rintro e w2 ⟨rfl, d2, t2⟩
    have HD := Lib.hid d2
    have HT := Lib.hid t2
    clear d2 t2
    go_wp2_with fail
    go_ret
    exact ⟨rfl, HD.out, HT.out⟩
  · have c' : mHas S i = false := by simpa using c
    have HS : Hid (mDropS S i = S) := Lib.hid (if_neg c)
    rw [HS.out, c']
    rw [c'] at HH
    clear h c c'
    go_enter Try.func32, Try.ntmps32
    go_wp2_with fail
    refine HH.out.mono ?_
    rintro e w1 ⟨rfl, rfl⟩
    go_wp2_with fail
    go_ret
    exact ⟨rfl, HM.out, Turns.refl _ _⟩

def mPutB (S : List MK) (i : Int) : Bool := mHas S i || decide (i = S.length)
def mPutS (S : List MK) (i : Int) (x : MK) : List MK := if mPutB S i = true then mIns S i.toNat x else S
set_option maxHeartbeats 1000000 in
set_option maxRecDepth 100000 in
theorem mputP (S : List MK) (B : Nat) (M P : Nat → Prop) (w : World) (i : Int) (x : MK) (pa : Option Addr) (ca : Nat) (h : MarksM M w B S) (hs : S.length ≤ 4294967296) (ha : AttrsP P w (.slice pa x.attrs.length ca) x.attrs) (hP : ∀ b, P b → ¬ M b) (hx : x.attrs.length ≤ 4294967296) :
    Calls Try.prog 36 #[.pointer (some ⟨B, 0, none⟩), .int .i64 i, markV x (.slice pa x.attrs.length ca)] w (fun e w' => e = .returned (.bool (mPutB S i)) ∧ MarksM (New M w) w' B (mPutS S i x) ∧ Turns M w w') := by
  unfold markV
  obtain ⟨NM, hNM⟩ : ∃ NM : ByteArray, NM = (⟨x.name.toArray⟩ : ByteArray) := ⟨_, rfl⟩
  rw [← hNM]
  obtain ⟨W1, hW1⟩ : ∃ W1, W1 = w.alloc (.cells #[.int .i64 x.node, .string NM, .slice pa x.attrs.length ca] 63) := ⟨_, rfl⟩
  have b1 : Below w.heap.size w W1 := by rw [hW1]; exact (Below.refl _ w).alloc (Nat.le_refl _) _
  have hx1 : W1.heap[w.heap.size]? = some (.cells #[.int .i64 x.node, .string NM, .slice pa x.attrs.length ca] 63 (0, 0)) := by rw [hW1]; exact heap_alloc_new w _
  have h1 := h.below b1
  have HH := Lib.hid (mhasP S B M W1 i h1)
  have HM := Lib.hid (h1.mono (L := New M w) fun b _ k => .inl k)
  have HB1 := Lib.hid (Turns.of_below (M := M) b1)
  have y0 := (block_cell hx1 0).1
  have y1 := (block_cell hx1 1).1
  have y2 := (block_cell hx1 2).1
  simp at y0 y1 y2
  have ys := heap_lt hx1
  have HW1 := Lib.hid hW1
  have hlen : Hid (∀ v qs, qs.map (·.1) = S → MarkQ M W1 B v qs → ∃ p cap, v = .slice p S.length cap ∧ W1.cell? ⟨B, 0, none⟩ = some v) := Lib.hid fun v qs e hq => by
    obtain ⟨p, cap, e2, _⟩ := hq.reads
    refine ⟨p, cap, ?_, hq.cell⟩
    rw [e2, ← e]; simp
  obtain ⟨v, qs, eS, hq⟩ := id h1
  obtain ⟨p, cap, rfl, h0⟩ := hlen.out v qs eS hq
  have hB := hq.lt
  by_cases c : mPutB S i = true
  · have hc : 0 ≤ i ∧ i ≤ S.length := by unfold mPutB mHas at c; simp at c; omega
    have hins := minsertP S B M P W1 i.toNat x pa ca h1 (by omega) hs (ha.kept (.of_below b1)) hP hx
    unfold markV at hins
    have ei : ((i.toNat : Nat) : Int) = i := by omega
    rw [ei, ← hNM] at hins
    have HINS : Hid (Calls Try.prog 87 #[.pointer (some ⟨B, 0, none⟩), .int .i64 i, .agg #[.int .i64 x.node, .string NM, .slice pa x.attrs.length ca]] W1 (fun e w' => e = .returned (.tuple #[]) ∧ MarksM (New M w) w' B (mIns S i.toNat x) ∧ Turns M w w')) := by
      refine Lib.hid (hins.mono ?_)
      rintro e w' ⟨q1, q2, q3⟩
      exact ⟨q1, q2.mono (fun b _ k => k.imp id (fun k => Nat.le_trans b1.size k)), HB1.out.trans (q3.mono fun b _ k => .inl k)⟩
    have HS : Hid (mPutS S i x = mIns S i.toNat x) := Lib.hid (if_pos c)
    rw [HS.out, c]
    by_cases c2 : mHas S i = true
    · rw [c2] at HH
      clear h h1 hq eS hlen hx1 hW1 c c2 hc ei hins ha hP b1 hNM HM
      go_enter Try.func36, Try.ntmps36
      go_wp2_with fail
      rw [← HW1.out]
      refine HH.out.mono ?_
      rintro e w1 ⟨rfl, rfl⟩
      go_wp2_with fail
      refine HINS.out.mono ?_
      rintro e w2 ⟨rfl, d2, t2⟩
      have HD := Lib.hid d2
      have HT := Lib.hid t2
      clear d2 t2
      go_wp2_with fail
      go_ret
      exact ⟨rfl, HD.out, HT.out⟩
    · have c2' : mHas S i = false := by simpa using c2
      have q1 : (i != (S.length : Int)) = false := by
        unfold mPutB at c
        rw [c2', Bool.false_or, decide_eq_true_eq] at c
        simp [c]
      rw [c2'] at HH
      clear h h1 hq eS hlen hx1 hW1 c c2 c2' hc ei hins ha hP b1 hNM HM
      go_enter Try.func36, Try.ntmps36
      go_wp2_with fail
      rw [← HW1.out]
      refine HH.out.mono ?_
      rintro e w1 ⟨rfl, rfl⟩
      go_wp2_with fail
      refine HINS.out.mono ?_
      rintro e w2 ⟨rfl, d2, t2⟩
      have HD := Lib.hid d2
      have HT := Lib.hid t2
      clear d2 t2
      go_wp2_with fail
      go_ret
      exact ⟨rfl, HD.out, HT.out⟩
  · have c' : mPutB S i = false := by simpa using c
    have hcc : mHas S i = false ∧ i ≠ S.length := by unfold mPutB at c'; simpa using c'
    have q1 : (i != (S.length : Int)) = true := by simpa using hcc.2
    have HS : Hid (mPutS S i x = S) := Lib.hid (if_neg c)
    rw [HS.out, c']
    rw [hcc.1] at HH
    clear h h1 hq eS hlen hx1 hW1 c c' hcc ha hP b1 hNM
    go_enter Try.func36, Try.ntmps36
    go_wp2_with fail
    rw [← HW1.out]
    refine HH.out.mono ?_
    rintro e w1 ⟨rfl, rfl⟩
    go_wp2_with fail
    go_ret
    exact ⟨rfl, HM.out, HB1.out⟩
end Go.Proofs.Ytbadckkcjjfnoaa
