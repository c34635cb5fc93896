/-
  A Site beside a tape of numbers: the calls of the law of rows.
-/
import Derived.Test.YtbadckkcjjfnoaaSWG
import Derived.Test.YtbadckkcjjfnoaaSWL
import Derived.Test.YtbadckkcjjfnoaaSRow
import Derived.Test.YtbadckkcjjfnoaaDTape
import Derived.Test.YtbadckkcjjfnoaaDCll
namespace Go.Proofs.Ytbadckkcjjfnoaa
open Go.RowKit Go.Maps

theorem Stepped.turns8 {T : Nat} {W W' : World} (h : Stepped T W W') : Turns (fun b => b = T) W W' := by
  obtain ⟨q1, q2, rfl | ⟨u, rfl⟩⟩ := h
  · exact Turns.of_below (below_drewN (Below.refl _ _) q1)
  · exact ((Turns.of_below (M := fun b => b = T) (below_drewN (Below.refl _ W) q1)).setCell (B := T) (.inl rfl) 1 u).trans (Turns.of_below (below_drewN (Below.refl _ _) q2))
theorem TapeAt.turns8 {w W W' : World} {v : Value} {n B : Nat} {M : Nat → Prop} (h : TapeAt w v n B W) (ht : Turns M W W') (hB : B < W.heap.size) (hm : ¬ M B) (hw : ∀ b, M b → w.heap.size ≤ b) : TapeAt w v n B W' := by
  obtain ⟨a, ha, hc⟩ := h.at_
  have hk := ht.block B hB hm
  refine ⟨h.ints, h.new, ?_, ⟨a, ha, ?_⟩, ?_, h.below.trans (ht.below h.below.size fun b hb k => absurd (hw b k) (by omega))⟩
  · rw [World.cell?_of_block (w := W) hk]; exact h.row
  · rw [World.cell?_of_block (w := W) hk]; exact hc
  · rw [World.frozen?_of_block (w := W) hk]; exact h.free
/-- A tape beside a Site. -/
structure TapeK8 (w W : World) (M : Nat → Prop) (v : Value) (n T : Nat) : Prop where
  tape : TapeAt w v n T W
  off : ¬ M T
  lt : T < W.heap.size
theorem TapeK8.on {w W W' : World} {M : Nat → Prop} {v : Value} {n T : Nat} (h : TapeK8 w W M v n T) (hb : Below W.heap.size W W') : TapeK8 w W' M v n T := ⟨h.tape.on hb h.lt, h.off, Nat.lt_of_lt_of_le h.lt hb.size⟩
theorem TapeK8.turns {w w1 W W' : World} {M M' : Nat → Prop} {v : Value} {n T : Nat} (h : TapeK8 w W M v n T) (hs : ∀ b, b < W.heap.size → M' b → M b) (ht : Turns M W W') (hw : ∀ b, M b → w1.heap.size ≤ b) (hz : w.heap.size ≤ w1.heap.size) : TapeK8 w W' M' v n T :=
  ⟨h.tape.turns8 ht h.lt h.off (fun b k => Nat.le_trans hz (hw b k)), fun k => h.off (hs T h.lt k), Nat.lt_of_lt_of_le h.lt ht.size⟩
structure RowsQ (w w0 W : World) (v : Value) (n A B : Nat) (S : List PN) (R : List EL) (T : Nat) : Prop where
  ex : ∃ M, SiteK w0 W M B S [] R false T ∧ TapeK8 w W M v n A
  sz : w.heap.size ≤ w0.heap.size
  szA : w0.heap.size ≤ A
variable {w w0 W w' : World} {v : Value} {n A B : Nat} {S S' : List PN} {R R' : List EL} {T T' : Nat}
theorem RowsQ.out {vv : Value} {e : Ending} {M : Nat → Prop} (k : SiteK w0 W M B S [] R false T) (t : TapeK8 w W M v n A) (sz : w.heap.size ≤ w0.heap.size) (szA : w0.heap.size ≤ A) (q : SiteOut M W B S' [] R' false T' vv e w') : e = .returned vv ∧ RowsQ w w0 w' v n A B S' R' T' := by
  obtain ⟨he, M', k', hs, ht⟩ := k.out q
  exact ⟨he, ⟨⟨M', k', t.turns (w1 := w0) hs ht (fun b hb => (k.inn b hb).1) sz⟩, sz, szA⟩⟩
theorem RowsQ.on (h : RowsQ w w0 W v n A B S R T) (hb : Below W.heap.size W w') : RowsQ w w0 w' v n A B S R T := by
  obtain ⟨⟨M, k, t⟩, sz, szA⟩ := h
  exact ⟨⟨M, k.on hb, t.on hb⟩, sz, szA⟩
theorem RowsQ.below (h : RowsQ w w0 W v n A B S R T) : Below w0.heap.size w0 W := by
  obtain ⟨⟨M, k, t⟩, sz, szA⟩ := h
  exact k.below
theorem qNext (h : RowsQ w w0 W v n A B S R T) (m : Nat) (hm1 : 1 ≤ m) (hm2 : m ≤ 2147483647) :
    Calls Try.prog 47 #[.pointer (some ⟨A, 0, none⟩), .int .i64 (m : Int)] W (fun e w' => ∃ r : Nat, r < m ∧ e = .returned (.int .i64 (r : Int)) ∧ RowsQ w w0 w' v n A B S R T) := by
  obtain ⟨⟨M, k, t⟩, sz, szA⟩ := h
  refine (tape_next w v n A m W t.tape hm1 hm2).mono ?_
  rintro e w' ⟨r, hr, he, hs, ht⟩
  have htt := hs.turns8
  exact ⟨r, hr, he, ⟨⟨M, ⟨k.site.on htt (fun b _ kk e => t.off (by rw [← e]; exact kk)), fun b kk => ⟨(k.inn b kk).1, by rw [hs.size]; exact (k.inn b kk).2⟩, k.below.trans (htt.below k.below.size fun b hb e => by omega)⟩, ⟨ht, t.off, by rw [hs.size]; exact t.lt⟩⟩, sz, szA⟩⟩
theorem qMore (h : RowsQ w w0 W v n A B S R T) :
    Calls Try.prog 46 #[.pointer (some ⟨A, 0, none⟩)] W (fun e w' => ∃ b, e = .returned (.bool b) ∧ RowsQ w w0 w' v n A B S R T) := by
  obtain ⟨M, k, t⟩ := h.ex
  refine (tape_more w v n A W t.tape).mono ?_
  rintro e w' ⟨b, q, he, rfl⟩
  exact ⟨b, he, h.on (below_drewN (Below.refl _ _) q)⟩
theorem qDoc (h : RowsQ w w0 W v n A B S R T) (hS : S.length ≤ 4294967296) : ∃ D, Calls Try.prog 101 #[.pointer (some ⟨B, 0, none⟩)] W (Gives (.pointer (some ⟨D, 0, none⟩)) W) ∧
    (∀ nm : List UInt8, Calls Try.prog 13 #[.pointer (some ⟨D, 0, none⟩), .int .i64 1, .string ⟨nm.toArray⟩, .slice none 0 0] W (fun e w' => e = .returned (.int .i64 (S.length : Int)) ∧ RowsQ w w0 w' v n A B (S ++ [elemPN 1 nm []]) R T)) ∧
    (∀ s : List UInt8, s.length ≤ 4294967296 → Calls Try.prog 57 #[.pointer (some ⟨D, 0, none⟩), .string ⟨s.toArray⟩] W (fun e w' => e = .returned (.int .i64 (S.length : Int)) ∧ RowsQ w w0 w' v n A B (S ++ [notePN 3 s]) R T)) := by
  obtain ⟨⟨M, k, t⟩, sz, szA⟩ := h
  obtain ⟨a, hh, kk⟩ := k.site
  refine ⟨a.D, sdocP hh, fun nm => ?_, fun s hs => ?_⟩
  · exact (delemNewP S a.D a.MD (fun _ => True) W 1 nm [] (.slice none 0 0) hh.doc (fun b q => (hh.dM b q).2.1) hS (AttrsP.nil _ _ _ _) (by simp)).mono fun e w' q => RowsQ.out k t sz szA (SiteM.docOut hh kk q)
  · exact (dnoteP S a.D a.MD W s hh.doc (fun b q => (hh.dM b q).2.1) hS hs).mono fun e w' q => RowsQ.out k t sz szA (SiteM.docOut hh kk q)
theorem qTop (h : RowsQ w w0 W v n A B S R T) (h0 : 0 < R.length) (hr : R.length ≤ 4294967296) : Calls Try.prog 104 #[.pointer (some ⟨B, 0, none⟩)] W (Brings (.int .i64 (lastE R).n) W) := by
  obtain ⟨⟨M, k, t⟩, sz, szA⟩ := h
  exact sTopM k.site h0 hr
/-- What stands in the law's loop, i calls behind its start. -/
def RowsI (w w0 W : World) (v : Value) (n A B : Nat) (i : Nat) : Prop := ∃ R T, RowsQ w w0 W v n A B nodes8 R T ∧ RowOk i R ∧ T ≤ 1 + 2 * i
theorem RowsI.on {i : Nat} (h : RowsI w w0 W v n A B i) (hb : Below W.heap.size W w') : RowsI w w0 w' v n A B i := by
  obtain ⟨R, T, h, k, l⟩ := h
  exact ⟨R, T, h.on hb, k, l⟩
theorem iNext {i : Nat} (h : RowsI w w0 W v n A B i) (m : Nat) (hm1 : 1 ≤ m) (hm2 : m ≤ 2147483647) :
    Calls Try.prog 47 #[.pointer (some ⟨A, 0, none⟩), .int .i64 (m : Int)] W (fun e w' => ∃ r : Nat, r < m ∧ e = .returned (.int .i64 (r : Int)) ∧ RowsI w w0 w' v n A B i) := by
  obtain ⟨R, T, h, k, l⟩ := h
  exact (qNext h m hm1 hm2).mono fun e w' ⟨r, hr, he, q⟩ => ⟨r, hr, he, R, T, q, k, l⟩
theorem iMore {i : Nat} (h : RowsI w w0 W v n A B i) :
    Calls Try.prog 46 #[.pointer (some ⟨A, 0, none⟩)] W (fun e w' => ∃ b, e = .returned (.bool b) ∧ RowsI w w0 w' v n A B i) := by
  obtain ⟨R, T, h, k, l⟩ := h
  exact (qMore h).mono fun e w' ⟨b, he, q⟩ => ⟨b, he, R, T, q, k, l⟩
def RowsStep (w w0 : World) (v : Value) (n A B i : Nat) (e : Ending) (w' : World) : Prop := ∃ b, e = .returned (.bool b) ∧ RowsI w w0 w' v n A B i
theorem iPop {i : Nat} (h : RowsI w w0 W v n A B i) (hi : i ≤ 100) : Calls Try.prog 105 #[.pointer (some ⟨B, 0, none⟩)] W (RowsStep w w0 v n A B (i + 1)) := by
  obtain ⟨R, T, ⟨⟨M, k, t⟩, sz, szA⟩, ok, l⟩ := h
  have hl := ok.len
  refine (spopP k.site ok.pos (by omega) (by omega) ok.fit).mono fun e w' q => ?_
  obtain ⟨he, q⟩ := RowsQ.out k t sz szA q
  exact ⟨_, he, _, _, q, ok.popS, by omega⟩
theorem iDrop {i : Nat} (h : RowsI w w0 W v n A B i) (hi : i ≤ 100) (m : Nat) (hm : m ≤ 100) : Calls Try.prog 131 #[.pointer (some ⟨B, 0, none⟩), .int .i64 (m : Int)] W (RowsStep w w0 v n A B (i + 1)) := by
  obtain ⟨R, T, ⟨⟨M, k, t⟩, sz, szA⟩, ok, l⟩ := h
  have hl := ok.len
  refine (sdropP k.site (m : Int) ok.pos (by omega) (by omega) ok.fit (by omega) (by omega)).mono fun e w' q => ?_
  obtain ⟨he, q⟩ := RowsQ.out k t sz szA q
  exact ⟨_, he, _, _, q, ok.dropS _, by omega⟩
end Go.Proofs.Ytbadckkcjjfnoaa
