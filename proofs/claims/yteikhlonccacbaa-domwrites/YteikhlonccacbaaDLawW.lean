/-
  The walk of the law DomWrites: true, and nothing old is changed. Any three texts.
-/
import Derived.Test.YteikhlonccacbaaDPKnown
import Derived.Test.YteikhlonccacbaaDPText
import Derived.Test.YteikhlonccacbaaDTSame
namespace Go.Proofs.Yteikhlonccacbaa
open Go.RowKit

namespace Wr
def rt (f l : Int) : PN := ⟨1, 1, [], [], [], -1, -1, -1, f, l⟩
def pp (u a b : Int) : PN := ⟨1, 1, [112], [], [], u, a, b, -1, -1⟩
def tx (s : List UInt8) (a b : Int) : PN := ⟨2, 0, [], [], s, 0, a, b, -1, -1⟩
def s1 : List PN := [rt (-1) (-1), pp (-1) (-1) (-1)]
def s2 (a : List UInt8) : List PN := [rt 2 2, pp (-1) (-1) (-1), tx a (-1) (-1)]
def s4 (a : List UInt8) : List PN := [rt 2 1, pp 0 2 (-1), tx a (-1) 1]
def s5 (a c : List UInt8) : List PN := [rt 2 3, pp 0 2 3, tx a (-1) 1, tx c 1 (-1)]
theorem w1 (a : List UInt8) (h : a ≠ []) : pWrite s1 a 0 (-1) = (s2 a, true) ∧ okWrite s1 a 0 (-1) = true := by
  refine ⟨?_, ?_⟩
  · unfold pWrite; rw [if_pos (show pPlace s1 0 (-1) = true from rfl), if_neg h]; rfl
  · unfold okWrite; rw [decide_eq_false h]; rfl
theorem w2 (a b : List UInt8) (h : b ≠ []) : pWrite (s2 a) b 0 (-1) = (s2 (a ++ b), true) ∧ okWrite (s2 a) b 0 (-1) = true := by
  refine ⟨?_, ?_⟩
  · unfold pWrite; rw [if_pos (show pPlace (s2 a) 0 (-1) = true from rfl), if_neg h]; rfl
  · unfold okWrite; rw [decide_eq_false h]; rfl
theorem p3 (a : List UInt8) : pPut (s2 a) 1 0 (-1) false = (s4 a, true) ∧ okPut (s2 a) 9 1 0 (-1) false = true := ⟨rfl, rfl⟩
theorem w4 (a c : List UInt8) (h : c ≠ []) : pWrite (s4 a) c 0 (-1) = (s5 a c, true) ∧ okWrite (s4 a) c 0 (-1) = true := by
  refine ⟨?_, ?_⟩
  · unfold pWrite; rw [if_pos (show pPlace (s4 a) 0 (-1) = true from rfl), if_neg h]; rfl
  · unfold okWrite; rw [decide_eq_false h]; rfl
theorem w5 (a c : List UInt8) (h : c ≠ []) : pWrite (s5 a c) c 0 1 = (s5 (a ++ c) c, true) ∧ okWrite (s5 a c) c 0 1 = true := by
  refine ⟨?_, ?_⟩
  · unfold pWrite; rw [if_pos (show pPlace (s5 a c) 0 1 = true from rfl), if_neg h]; rfl
  · unfold okWrite; rw [decide_eq_false h]; rfl
theorem w6 (a c : List UInt8) : pWrite (s5 a c) [] 0 1 = (s5 a c, true) ∧ okWrite (s5 a c) [] 0 1 = true := ⟨rfl, rfl⟩
theorem w7 (a c s : List UInt8) : pWrite (s5 a c) s 0 0 = (s5 a c, false) ∧ okWrite (s5 a c) s 0 0 = true := ⟨rfl, rfl⟩
theorem w8 (a c : List UInt8) : pWrite (s5 a c) [] 9 (-1) = (s5 a c, false) ∧ okWrite (s5 a c) [] 9 (-1) = true := ⟨rfl, rfl⟩
theorem t9 (a c : List UInt8) : pKidsA (s5 a c) 9 0 = some [2, 1, 3] ∧ pBfs (s5 a c) 9 9 [2, 1, 3] [3] 0 = some ([2, 1, 3], [3, 3, 3, 3]) ∧ (foF (s5 a c) [2, 1, 3] [3, 3, 3, 3] 4 0 3).texts = [a, c] ∧ (foF (s5 a c) [2, 1, 3] [3, 3, 3, 3] 4 0 3).wt = 3 := ⟨rfl, rfl, rfl, rfl⟩
theorem b1 : ∀ x ∈ s1, x.text.length ≤ 4294967296 := by decide
theorem b2 (a : List UInt8) (h : a.length ≤ 4294967296) : ∀ x ∈ s2 a, x.text.length ≤ 4294967296 := by
  intro x hx
  simp only [s2, List.mem_cons, List.not_mem_nil, or_false] at hx
  rcases hx with rfl | rfl | rfl
  · exact Nat.zero_le _
  · exact Nat.zero_le _
  · exact h
theorem b4 (a : List UInt8) (h : a.length ≤ 4294967296) : ∀ x ∈ s4 a, x.text.length ≤ 4294967296 := by
  intro x hx
  simp only [s4, List.mem_cons, List.not_mem_nil, or_false] at hx
  rcases hx with rfl | rfl | rfl
  · exact Nat.zero_le _
  · exact Nat.zero_le _
  · exact h
theorem b5 (a c : List UInt8) (h : a.length ≤ 4294967296) (h2 : c.length ≤ 4294967296) : ∀ x ∈ s5 a c, x.text.length ≤ 4294967296 := by
  intro x hx
  simp only [s5, List.mem_cons, List.not_mem_nil, or_false] at hx
  rcases hx with rfl | rfl | rfl | rfl
  · exact Nat.zero_le _
  · exact Nat.zero_le _
  · exact h
  · exact h2
theorem a5 (a c : List UInt8) : ∀ x ∈ s5 a c, x.attrs.length ≤ 4294967296 := by
  intro x hx
  simp only [s5, List.mem_cons, List.not_mem_nil, or_false] at hx
  rcases hx with rfl | rfl | rfl | rfl <;> exact Nat.zero_le _
end Wr
set_option maxHeartbeats 1000000 in
set_option maxRecDepth 100000 in
theorem domWrites_walk (x y z : ByteArray) (w : World) (hx : x.size ≤ 140737488351232) (hy : y.size ≤ 140737488351232) (hz : z.size ≤ 140737488351232) : Calls Try.prog 7 #[.string x, .string y, .string z] w (Yes w) := by
  have HK := Lib.hid (known6_yes w)
  cases qx : (x.toList == [])
  case true =>
    go_enter Try.func7, Try.ntmps7
    go_wp2_with fail
    refine HK.out.mono ?_
    rintro e w1 ⟨rfl, b1⟩
    go_wp2_with fail
    go_ret
    exact ⟨rfl, b1⟩
  cases qy : (y.toList == [])
  case true =>
    go_enter Try.func7, Try.ntmps7
    go_wp2_with fail
    refine HK.out.mono ?_
    rintro e w1 ⟨rfl, b1⟩
    go_wp2_with fail
    go_ret
    exact ⟨rfl, b1⟩
  cases qz : (z.toList == [])
  case true =>
    go_enter Try.func7, Try.ntmps7
    go_wp2_with fail
    refine HK.out.mono ?_
    rintro e w1 ⟨rfl, b1⟩
    go_wp2_with fail
    go_ret
    exact ⟨rfl, b1⟩
  by_cases hlen : 300 < x.size + y.size + z.size
  · have hl2 : (300 : Int) < (x.size : Int) + (y.size : Int) + (z.size : Int) := by omega
    go_enter Try.func7, Try.ntmps7
    go_wp2_with fail
    refine HK.out.mono ?_
    rintro e w1 ⟨rfl, b1⟩
    go_wp2_with fail
    go_ret
    exact ⟨rfl, b1⟩
  · have hl2 : ¬ (300 : Int) < (x.size : Int) + (y.size : Int) + (z.size : Int) := by omega
    obtain ⟨a, ha⟩ : ∃ a : List UInt8, x = ⟨a.toArray⟩ := ⟨x.data.toList, by simp⟩
    obtain ⟨b, hb⟩ : ∃ b : List UInt8, y = ⟨b.toArray⟩ := ⟨y.data.toList, by simp⟩
    obtain ⟨c, hc⟩ : ∃ c : List UInt8, z = ⟨c.toArray⟩ := ⟨z.data.toList, by simp⟩
    have na : a ≠ [] := by rintro rfl; rw [ha, Lib.toList_data] at qx; cases qx
    have nb : b ≠ [] := by rintro rfl; rw [hb, Lib.toList_data] at qy; cases qy
    have nc : c ≠ [] := by rintro rfl; rw [hc, Lib.toList_data] at qz; cases qz
    have la : a.length = x.size := by rw [ha]; show _ = a.toArray.size; simp
    have lb : b.length = y.size := by rw [hb]; show _ = b.toArray.size; simp
    have lc : c.length = z.size := by rw [hc]; show _ = c.toArray.size; simp
    have HN := Lib.hid (fun W => bnew W)
    have HEL : Hid (∀ w1 W B, DocB w1 W B [elemPN 1 [] []] → Calls Try.prog 31 #[.pointer (some ⟨B, 0, none⟩), .int .i64 1, .string ⟨#[112]⟩, .slice none 0 0] W (fun e w' => e = .returned (.int .i64 1) ∧ DocB w1 w' B Wr.s1)) := Lib.hid fun w1 W B h => belem h (fun _ => True) 1 [112] [] (.slice none 0 0) (by decide) (AttrsP.nil _ _ _ _) (by simp)
    have HW1 : Hid (∀ w1 W B, DocB w1 W B Wr.s1 → Calls Try.prog 32 #[.pointer (some ⟨B, 0, none⟩), .string x, .int .i64 0, .int .i64 (-1)] W (fun e w' => e = .returned (.bool true) ∧ DocB w1 w' B (Wr.s2 a))) := by
      refine Lib.hid fun w1 W B h => ?_
      have := bwrite h a 0 (-1) (Nat.le_of_ble_eq_true rfl) (by omega) Wr.b1 (Nat.le_of_ble_eq_true rfl) (Wr.w1 a na).2
      rw [(Wr.w1 a na).1, ← ha] at this
      exact this
    have HW2 : Hid (∀ w1 W B, DocB w1 W B (Wr.s2 a) → Calls Try.prog 32 #[.pointer (some ⟨B, 0, none⟩), .string y, .int .i64 0, .int .i64 (-1)] W (fun e w' => e = .returned (.bool true) ∧ DocB w1 w' B (Wr.s2 (a ++ b)))) := by
      refine Lib.hid fun w1 W B h => ?_
      have := bwrite h b 0 (-1) (Nat.le_of_ble_eq_true rfl) (by omega) (Wr.b2 _ (by omega)) (Nat.le_of_ble_eq_true rfl) (Wr.w2 a b nb).2
      rw [(Wr.w2 a b nb).1, ← hb] at this
      exact this
    have HP3 : Hid (∀ w1 W B, DocB w1 W B (Wr.s2 (a ++ b)) → Calls Try.prog 33 #[.pointer (some ⟨B, 0, none⟩), .int .i64 1, .int .i64 0, .int .i64 (-1)] W (fun e w' => e = .returned (.bool true) ∧ DocB w1 w' B (Wr.s4 (a ++ b)))) := by
      refine Lib.hid fun w1 W B h => ?_
      have := bput h 9 1 0 (-1) false (Nat.le_of_ble_eq_true rfl) (Wr.p3 (a ++ b)).2
      rw [(Wr.p3 (a ++ b)).1] at this
      exact this
    have HW4 : Hid (∀ w1 W B, DocB w1 W B (Wr.s4 (a ++ b)) → Calls Try.prog 32 #[.pointer (some ⟨B, 0, none⟩), .string z, .int .i64 0, .int .i64 (-1)] W (fun e w' => e = .returned (.bool true) ∧ DocB w1 w' B (Wr.s5 (a ++ b) c))) := by
      refine Lib.hid fun w1 W B h => ?_
      have := bwrite h c 0 (-1) (Nat.le_of_ble_eq_true rfl) (by omega) (Wr.b4 _ (by simp only [List.length_append]; omega)) (Nat.le_of_ble_eq_true rfl) (Wr.w4 (a ++ b) c nc).2
      rw [(Wr.w4 (a ++ b) c nc).1, ← hc] at this
      exact this
    have HW5 : Hid (∀ w1 W B, DocB w1 W B (Wr.s5 (a ++ b) c) → Calls Try.prog 32 #[.pointer (some ⟨B, 0, none⟩), .string z, .int .i64 0, .int .i64 1] W (fun e w' => e = .returned (.bool true) ∧ DocB w1 w' B (Wr.s5 (a ++ b ++ c) c))) := by
      refine Lib.hid fun w1 W B h => ?_
      have := bwrite h c 0 1 (Nat.le_of_ble_eq_true rfl) (by omega) (Wr.b5 _ _ (by simp only [List.length_append]; omega) (by omega)) (Nat.le_of_ble_eq_true rfl) (Wr.w5 (a ++ b) c nc).2
      rw [(Wr.w5 (a ++ b) c nc).1, ← hc] at this
      exact this
    have HW6 : Hid (∀ w1 W B, DocB w1 W B (Wr.s5 (a ++ b ++ c) c) → Calls Try.prog 32 #[.pointer (some ⟨B, 0, none⟩), .string ⟨#[]⟩, .int .i64 0, .int .i64 1] W (fun e w' => e = .returned (.bool true) ∧ DocB w1 w' B (Wr.s5 (a ++ b ++ c) c))) := by
      refine Lib.hid fun w1 W B h => ?_
      have := bwrite h [] 0 1 (Nat.le_of_ble_eq_true rfl) (by decide) (Wr.b5 _ _ (by simp only [List.length_append]; omega) (by omega)) (Nat.le_of_ble_eq_true rfl) (Wr.w6 (a ++ b ++ c) c).2
      rw [(Wr.w6 (a ++ b ++ c) c).1] at this
      exact this
    have HW7 : Hid (∀ w1 W B, DocB w1 W B (Wr.s5 (a ++ b ++ c) c) → Calls Try.prog 32 #[.pointer (some ⟨B, 0, none⟩), .string x, .int .i64 0, .int .i64 0] W (fun e w' => e = .returned (.bool false) ∧ DocB w1 w' B (Wr.s5 (a ++ b ++ c) c))) := by
      refine Lib.hid fun w1 W B h => ?_
      have := bwrite h a 0 0 (Nat.le_of_ble_eq_true rfl) (by omega) (Wr.b5 _ _ (by simp only [List.length_append]; omega) (by omega)) (Nat.le_of_ble_eq_true rfl) (Wr.w7 (a ++ b ++ c) c a).2
      rw [(Wr.w7 (a ++ b ++ c) c a).1, ← ha] at this
      exact this
    have HW8 : Hid (∀ w1 W B, DocB w1 W B (Wr.s5 (a ++ b ++ c) c) → Calls Try.prog 32 #[.pointer (some ⟨B, 0, none⟩), .string ⟨#[]⟩, .int .i64 9, .int .i64 (-1)] W (fun e w' => e = .returned (.bool false) ∧ DocB w1 w' B (Wr.s5 (a ++ b ++ c) c))) := by
      refine Lib.hid fun w1 W B h => ?_
      have := bwrite h [] 9 (-1) (Nat.le_of_ble_eq_true rfl) (by decide) (Wr.b5 _ _ (by simp only [List.length_append]; omega) (by omega)) (Nat.le_of_ble_eq_true rfl) (Wr.w8 (a ++ b ++ c) c).2
      rw [(Wr.w8 (a ++ b ++ c) c).1] at this
      exact this
    have HTR : Hid (∀ w1 W B, DocB w1 W B (Wr.s5 (a ++ b ++ c) c) → Calls Try.prog 34 #[.pointer (some ⟨B, 0, none⟩), .int .i64 0] W (fun e w' => ∃ p l q f, e = .returned (.slice p l q) ∧ NodesP (fun _ => True) w' (.slice p l q) f ∧ f.texts = [a ++ b ++ c, c] ∧ f.wt = 3 ∧ DocB w1 w' B (Wr.s5 (a ++ b ++ c) c))) := by
      refine Lib.hid fun w1 W B h => ?_
      obtain ⟨t1, t2, t3, t4⟩ := Wr.t9 (a ++ b ++ c) c
      refine (btree h 9 9 0 _ _ _ t1 t2 (by decide) (Wr.a5 _ _)).mono ?_
      rintro e w' ⟨v, rfl, hn, hb⟩
      obtain ⟨p, l, q, rfl⟩ := hn.slice
      exact ⟨p, l, q, _, rfl, hn.mono (fun _ _ _ => trivial), t3, t4, h.on hb⟩
    have HSZ : Hid (∀ w1 W B, DocB w1 W B (Wr.s5 (a ++ b ++ c) c) → Calls Try.prog 35 #[.pointer (some ⟨B, 0, none⟩)] W (Gives (.int .i64 4) W)) := Lib.hid fun w1 W B h => bsize h
    have HABC : Hid ((⟨(a ++ b ++ c).toArray⟩ : ByteArray) = x ++ y ++ z ∧ (⟨c.toArray⟩ : ByteArray) = z) := Lib.hid ⟨by rw [ha, hb, hc]; apply ByteArray.ext; simp [ByteArray.data_append], hc.symm⟩
    clear la lb lc na nb nc ha hb hc
    go_enter Try.func7, Try.ntmps7
    go_wp2_with fail
    refine HK.out.mono ?_
    rintro e w1 ⟨rfl, b1⟩
    have B1 := Lib.hid b1
    clear b1
    go_wp2_with fail
    refine (HN.out w1).mono ?_
    rintro e w2 ⟨B, rfl, h2⟩
    have H2 := Lib.hid (HEL.out w1 w2 B h2)
    clear h2
    go_wp2_with fail
    refine H2.out.mono ?_
    rintro e w3 ⟨rfl, h3⟩
    have H3 := Lib.hid (HW1.out w1 w3 B h3)
    clear h3
    go_wp2_with fail
    refine H3.out.mono ?_
    rintro e w4 ⟨rfl, h4⟩
    have H4 := Lib.hid (HW2.out w1 w4 B h4)
    clear h4
    go_wp2_with fail
    refine H4.out.mono ?_
    rintro e w5 ⟨rfl, h5⟩
    have H5 := Lib.hid (HP3.out w1 w5 B h5)
    clear h5
    go_wp2_with fail
    refine H5.out.mono ?_
    rintro e w6 ⟨rfl, h6⟩
    have H6 := Lib.hid (HW4.out w1 w6 B h6)
    clear h6
    go_wp2_with fail
    refine H6.out.mono ?_
    rintro e w7 ⟨rfl, h7⟩
    have H7 := Lib.hid (HW5.out w1 w7 B h7)
    clear h7
    go_wp2_with fail
    refine H7.out.mono ?_
    rintro e w8 ⟨rfl, h8⟩
    have H8 := Lib.hid (HW6.out w1 w8 B h8)
    clear h8
    go_wp2_with fail
    refine H8.out.mono ?_
    rintro e w9 ⟨rfl, h9⟩
    have H9 := Lib.hid (HTR.out w1 w9 B h9)
    clear h9
    go_wp2_with fail
    refine H9.out.mono ?_
    rintro e w10 ⟨p, l, q, f, rfl, hn, ht, hw, h10⟩
    have HTX := Lib.hid (dtextsP f _ _ w10 (by omega) hn)
    rw [ht] at HTX
    have H10 := Lib.hid h10
    clear hn ht hw h10
    go_wp2_with fail
    refine HTX.out.mono ?_
    rintro e w11 ⟨v, rfl, ht11, b11⟩
    obtain ⟨p11, l11, c11, rfl⟩ := ht11.slice
    have H11 := Lib.hid (H10.out.on b11)
    have HT11 := Lib.hid ht11
    clear ht11 b11
    go_wp2_with fail
    have HB12 : Hid (Below w11.heap.size w11 (w11.alloc (.cells #[.string (x ++ y ++ z), .string z] 9))) := Lib.hid ((Below.refl _ w11).alloc (Nat.le_refl _) _)
    have HT12 : Hid (TextsP (fun _ => True) (w11.alloc (.cells #[.string (x ++ y ++ z), .string z] 9)) (.slice (some ⟨w11.heap.size, 0, none⟩) 2 2) [a ++ b ++ c, c]) := by
      refine Lib.hid ⟨_, 2, rfl, fun _ => ⟨w11.heap.size, 0, rfl, trivial, by simp, fun j hj => ?_⟩⟩
      rw [Nat.zero_add, World.cell?_alloc_mark w11 _ _ (0, 0) j]
      match j, hj with
      | 0, _ => show some (Value.string (x ++ y ++ z)) = some (strV (a ++ b ++ c)); unfold strV; rw [HABC.out.1]
      | 1, _ => show some (Value.string z) = some (strV c); unfold strV; rw [HABC.out.2]
    refine (tsameP _ _ [a ++ b ++ c, c] _ _ _ (HT11.out.kept (.of_below HB12.out)) HT12.out (by simp)).mono ?_
    rintro e w13 ⟨rfl, b13⟩
    have H13 := Lib.hid ((H11.out.on HB12.out).on b13)
    clear b13
    have HSZ2 := Lib.hid (HSZ.out w1 w13 B H13.out)
    go_wp2_with fail
    refine HSZ2.out.mono ?_
    rintro e w14 ⟨rfl, rfl⟩
    have HW72 := Lib.hid (HW7.out w1 w13 B H13.out)
    go_wp2_with fail
    refine HW72.out.mono ?_
    rintro e w15 ⟨rfl, h15⟩
    have HW82 := Lib.hid (HW8.out w1 w15 B h15)
    clear h15
    go_wp2_with fail
    refine HW82.out.mono ?_
    rintro e w16 ⟨rfl, h16⟩
    have HBE := Lib.hid h16.below
    clear h16
    go_wp2_with fail
    go_ret
    exact ⟨rfl, B1.out.trans (HBE.out.mono B1.out.size)⟩
end Go.Proofs.Yteikhlonccacbaa
