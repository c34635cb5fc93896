/-
  The walk of the program's Decode. Any bytes, at most 2^32 of them.
-/
import Derived.Test.YtnikehhcfbeiaaaDoorWholeP
import Derived.Lib.SlBytesRow
namespace Go.Proofs.YtnikehhcfbeiaaaDoor
open Go.RowKit

/-- The slice v holds the bytes of s in w. -/
def BytesIn (w : World) (v : Value) (s : ByteArray) : Prop :=
  (∃ p cap, v = .slice p 0 cap ∧ s = ByteArray.empty) ∨
  ∃ g off cap, v = .slice (some ⟨g, off, none⟩) s.size cap ∧ g < w.heap.size ∧ ∀ j (hj : j < s.size), w.cell? ⟨g, off + j, none⟩ = some (.int .u8 (s[j].toNat : Int))
theorem BytesIn.conv {w : World} {v : Value} {s : ByteArray} (h : BytesIn w v s) : (convert 22 9 v).run Tryd.prog w = .ok (.string s) w := by
  rcases h with ⟨p, cap, rfl, rfl⟩ | ⟨g, off, cap, rfl, hg, hc⟩
  · cases p with
    | none => exact run_convert_bytes_nil w 22 5 Tryd.underlying22 Tryd.underlying5 0 cap 9 Tryd.underlying9
    | some a =>
      have := run_convert_bytes_back (P := Tryd.prog) w 22 9 5 a cap [] Tryd.underlying22 Tryd.underlying5 Tryd.underlying9 (fun j hj => absurd hj (by simp))
      exact this
  · exact Lib.run_convert_whole w 22 5 9 Tryd.underlying22 Tryd.underlying5 Tryd.underlying9 g off s hc cap
theorem BytesIn.below {w w' : World} {v : Value} {s : ByteArray} (h : BytesIn w v s) (hb : Below w.heap.size w w') : BytesIn w' v s := by
  rcases h with h | ⟨g, off, cap, rfl, hg, hc⟩
  · exact Or.inl h
  · exact Or.inr ⟨g, off, cap, rfl, Nat.lt_of_lt_of_le hg hb.size, fun j hj => (hb.cell (p := ⟨g, off + j, none⟩) hg).trans (hc j hj)⟩

theorem trim_len (l p : List UInt8) : (Lib.trimPrefix l p).length ≤ l.length := by
  unfold Lib.trimPrefix
  split <;> simp

theorem begun_at (s : ByteArray) (k : Nat) (h : k < s.size) (hb : Plain.partB (s.data.toList.drop k) = false) : Plain.begun (s.extract k s.size).data.toList = max (Plain.partK (s.data.toList.drop k)) 1 := by
  rw [ext_end]
  have hd := drop_cons s k h
  rw [hd] at hb ⊢
  exact Plain.begun_eq _ _ hb
theorem on_at (s : ByteArray) (k j : Nat) (hj : j < s.size) (h1 : k < j) (h2 : j < k + Plain.partK (s.data.toList.drop k)) : 128 ≤ s[j].toNat ∧ s[j].toNat ≤ 191 := by
  have hk : k < s.size := by omega
  have hd := drop_cons s k hk
  rw [hd] at h2
  have := Plain.part_mem s[k] (s.data.toList.drop (k + 1)) (j - (k + 1)) (by simp; omega) (by omega)
  have e : (s.data.toList.drop (k + 1))[j - (k + 1)]'(by simp; omega) = s[j] := by
    rw [List.getElem_drop]
    have : k + 1 + (j - (k + 1)) = j := by omega
    simp only [this]
    rfl
  rw [e] at this
  exact this
theorem found_on (s : ByteArray) (k : Nat) (h : k < s.size) (hb : 128 ≤ s[k].toNat ∧ s[k].toNat ≤ 191) : Utf8.decode s k = (65533, 1) := by
  rw [Plain.decode_at s k h]
  exact Plain.decL_on _ _ hb.1 hb.2
theorem enc_lost : Lib.encodeRune ((65533 : Nat) : Int) = Plain.bad := by decide

theorem trim_size (s : ByteArray) : (⟨(Lib.trimPrefix s.data.toList Plain.mark).toArray⟩ : ByteArray).size ≤ s.size := by
  have h1 := trim_len s.data.toList Plain.mark
  rw [show s.data.toList.length = s.size by simp] at h1
  show (Lib.trimPrefix s.data.toList Plain.mark).toArray.size ≤ s.size
  rw [List.size_toArray]
  exact h1
theorem heap_last (w : World) (o : Obj) : (w.alloc o).heap[w.heap.size]? = some o := by
  show (w.heap.push o)[w.heap.size]? = some o
  simp

/-- What the loop of Decode keeps: where it stands, up to where bytes are passed, what is written. -/
def DecAt (t : ByteArray) (pos p : Nat) (acc : List UInt8) : Prop :=
  pos ≤ t.size ∧ p ≤ t.size ∧ acc.length ≤ 4 * pos ∧ acc ++ Plain.dec (t.data.toList.drop (max pos p)) = Plain.dec t.data.toList ∧ ∀ j (hj : j < t.size), pos ≤ j → j < p → 128 ≤ t[j].toNat ∧ t[j].toNat ≤ 191
theorem DecAt.pass {t : ByteArray} {pos p : Nat} {acc : List UInt8} (h : DecAt t pos p acc) (hp : pos < p) : Utf8.decode t pos = (65533, 1) ∧ DecAt t (pos + 1) p acc := by
  obtain ⟨h1, h2, h3, h4, h5⟩ := h
  refine ⟨found_on t pos (by omega) (h5 pos (by omega) (Nat.le_refl _) hp), by omega, h2, by omega, ?_, fun j hj a b => h5 j hj (by omega) b⟩
  rw [show max (pos + 1) p = max pos p by omega]
  exact h4
theorem DecAt.sign {t : ByteArray} {pos p : Nat} {acc : List UInt8} (h : DecAt t pos p acc) (hp : ¬ pos < p) (hlt : pos < t.size) (hb : Plain.partB (t.data.toList.drop pos) = true) :
    1 ≤ (Utf8.decode t pos).2 ∧ DecAt t (pos + (Utf8.decode t pos).2) p (acc ++ Lib.encodeRune ((Utf8.decode t pos).1 : Int)) := by
  obtain ⟨h1, h2, h3, h4, h5⟩ := h
  obtain ⟨f1, f2, _⟩ := found_whole t pos hlt hb
  have hpb := part_bound t pos hlt
  have hk1 := hpb.2 hb
  have hk2 := hpb.1
  have hd := dec_yes t pos hlt hb
  rw [f1, f2]
  refine ⟨hk1, by omega, h2, ?_, ?_, fun j hj a b => absurd b (by omega)⟩
  · have := List.length_take_le (Plain.partK (t.data.toList.drop pos)) (t.data.toList.drop pos)
    rw [List.length_append]
    omega
  · rw [show max (pos + Plain.partK (t.data.toList.drop pos)) p = pos + Plain.partK (t.data.toList.drop pos) by omega, List.append_assoc, ← hd]
    rw [show max pos p = pos by omega] at h4
    exact h4
theorem DecAt.none {t : ByteArray} {pos p : Nat} {acc : List UInt8} (h : DecAt t pos p acc) (hp : ¬ pos < p) (hlt : pos < t.size) (hb : Plain.partB (t.data.toList.drop pos) = false) :
    (Utf8.decode t pos).2 = 1 ∧ pos + Plain.begun (t.extract pos t.size).data.toList ≤ t.size ∧ DecAt t (pos + 1) (pos + Plain.begun (t.extract pos t.size).data.toList) (acc ++ Lib.encodeRune ((Utf8.decode t pos).1 : Int)) := by
  obtain ⟨h1, h2, h3, h4, h5⟩ := h
  obtain ⟨f1, _⟩ := found_none t pos hlt hb
  have hk2 := (part_bound t pos hlt).1
  have hd := dec_no t pos hlt hb
  rw [begun_at t pos hlt hb, f1]
  refine ⟨rfl, by omega, by omega, by omega, ?_, ?_, fun j hj a b => on_at t pos j hj (by omega) (by omega)⟩
  · show (acc ++ Lib.encodeRune ((65533 : Nat) : Int)).length ≤ _
    rw [enc_lost, List.length_append]
    simp [Plain.bad]
    omega
  · show acc ++ Lib.encodeRune ((65533 : Nat) : Int) ++ _ = _
    rw [enc_lost, show max (pos + 1) (pos + max (Plain.partK (t.data.toList.drop pos)) 1) = pos + max (Plain.partK (t.data.toList.drop pos)) 1 by omega, List.append_assoc, ← hd]
    rw [show max pos p = pos by omega] at h4
    exact h4
theorem DecAt.done {t : ByteArray} {pos p : Nat} {acc : List UInt8} (h : DecAt t pos p acc) (hp : ¬ pos < t.size) : acc = Plain.dec t.data.toList := by
  obtain ⟨h1, h2, h3, h4, h5⟩ := h
  rw [List.drop_eq_nil_of_le (by simp; omega)] at h4
  rw [← h4]
  simp [Plain.dec, Plain.decS]

set_option maxHeartbeats 4000000 in
set_option maxRecDepth 1000000 in
theorem decode_any (v : Value) (s : ByteArray) (w : World) (hv : BytesIn w v s) (hs : s.size ≤ 4294967296) :
    Calls Tryd.prog 14 #[v] w fun e w' => e = .returned (.string ⟨(Plain.decode s.data.toList).toArray⟩) ∧ Below w.heap.size w w' := by
  have hconv := hv.conv
  have htl := trim_size s
  clear hv
  obtain ⟨t, ht⟩ : ∃ t : ByteArray, (⟨(Lib.trimPrefix s.data.toList Plain.mark).toArray⟩ : ByteArray) = t := ⟨_, rfl⟩
  have hfin : Plain.decode s.data.toList = Plain.dec t.data.toList := by rw [← ht]; rfl
  have hc33 : Calls Tryd.prog 33 #[.string s, .string ⟨#[239, 187, 191]⟩] w fun e w' => e = .returned (.string t) ∧ w' = w := by
    have := Tryd.strings_TrimPrefix s ⟨#[239, 187, 191]⟩ w
    rw [← ht]
    exact this
  rw [ht] at htl
  have HC := Lib.hid hc33
  have HFIN := Lib.hid hfin
  clear hfin hc33 ht
  go_enter Tryd.func14, Tryd.ntmps14
  go_wp2_with fail
  refine HC.out.mono ?_
  rintro e w1 ⟨rfl, rfl⟩
  clear hconv HC
  go_wp2_with fail
  refine (Tryd.Builder_Grow_fresh w1.heap.size w1.heap.size t.size _ (Nat.le_refl _) (heap_last _ _) (by simp) (by omega)).mono ?_
  rintro e w2 ⟨rfl, hbd, hb2⟩
  have hsz2 : w1.heap.size < w2.heap.size := by have := hb2.size; simp at this; omega
  have hb3 : Below w1.heap.size w1 w2 := ((Below.refl _ w1).alloc (Nat.le_refl _) _).trans hb2
  have HBD : Hid (Lib.IsBuilderF 39 5 w1.heap.size w1.heap.size (Lib.byteCells []) w2) := Lib.IsBuilderF.of (Or.inr hbd)
  clear hbd hb2
  go_wp2
  go_loopw [5] (fun q wr => ∃ (pos p : Nat) (acc : List UInt8), q = .int .i64 p ∧ Lib.IsBuilderF 39 5 w1.heap.size w1.heap.size (Lib.byteCells acc) wr ∧ wr.heap[w2.heap.size]? = some (.stringIter t pos) ∧ Below w1.heap.size w1 wr ∧ DecAt t pos p acc) (fun _ wr => t.size - wr.iterPos w2.heap.size)
  case atStart =>
    refine ⟨0, 0, [], rfl, HBD.out.alloc _, ?_, hb3.alloc hb3.size _, Nat.zero_le _, Nat.zero_le _, by simp, by simp, fun j hj a b => absurd b (by omega)⟩
    have := World.iter_heap w2 t 0
    simpa using this
  case round =>
    clear HBD
    obtain ⟨pos, p, acc, rfl, hI, hit, hbw, hD⟩ := hrel
    have hsz : w2.heap.size < wr.heap.size := (Array.getElem?_eq_some_iff.1 hit).1
    have hpt : p ≤ t.size := hD.2.1
    have hal : acc.length ≤ 4 * pos := hD.2.2.1
    have HD := Lib.hid hD
    clear hD
    by_cases hp : pos < t.size
    · have hnx : ∀ ty, (Instr.next (.pointer (some ⟨w2.heap.size, 0, none⟩)) true ty).run Tryd.prog wr = _ := fun ty => Lib.run_next_any_at wr w2.heap.size t pos ty hit hp
      have hd1 := decode_le t pos
      have hI2 := hI.iterAt hit (pos + (Utf8.decode t pos).2)
      have hit2 := Lib.iterAt_heap wr w2.heap.size t pos (pos + (Utf8.decode t pos).2) hit
      have hbw2 := Lib.below_iterAt hbw (k := w2.heap.size) (by omega) t (pos + (Utf8.decode t pos).2)
      have hsz3 : w1.heap.size ≤ (wr.iterAt w2.heap.size t (pos + (Utf8.decode t pos).2)).heap.size := by rw [Lib.iterAt_size]; omega
      have HIT := Lib.hid hit
      have HIT2 := Lib.hid hit2
      have HI2 := Lib.hid hI2
      clear hit hit2 hI hI2
      by_cases hpass : pos < p
      · have HP := Lib.hid (HD.out.pass hpass)
        go_wp2
        go_roundw
        case rel =>
          refine ⟨pos + (Utf8.decode t pos).2, p, acc, rfl, HI2.out, HIT2.out, hbw2, ?_⟩
          rw [HP.out.1]
          exact HP.out.2
        case measure =>
          have h1 : (Utf8.decode t pos).2 = 1 := by rw [HP.out.1]
          simp only [World.iterPos, HIT2.out, HIT.out]
          omega
      · cases hb : Plain.partB (t.data.toList.drop pos)
        · have HN := Lib.hid (HD.out.none hpass hp hb)
          have hn2 := HN.out.2.1
          have HB := Lib.hid hb
          clear hb
          have hgs : 0 < (t.extract pos t.size).size := by rw [ByteArray.size_extract]; omega
          have hgl : (t.extract pos t.size).size ≤ 4294967296 := by rw [ByteArray.size_extract]; omega
          have HG := fun W => Lib.hid (begun_any (t.extract pos t.size) W hgs hgl)
          clear hgs hgl
          generalize Plain.begun (t.extract pos t.size).data.toList = g at *
          go_wp2_with (first
            | (go_at_call 35; refine (broken_at t pos _ hp false HB.out).mono ?_; rintro e w3 ⟨rfl, rfl⟩)
            | (go_at_call 36; refine (HG _).out.mono ?_; rintro e w3 ⟨rfl, rfl⟩)
            | (go_at_call 37; refine (Tryd.Builder_WriteRune_k w1.heap.size w1.heap.size _ _ (by omega) (by omega) _ HI2.out (by rw [Lib.byteCells_length]; omega) hsz3).mono ?_; rintro e w3 ⟨rfl, h3, b3, k3⟩))
          go_roundw
          case rel =>
            refine ⟨pos + (Utf8.decode t pos).2, pos + g, acc ++ Lib.encodeRune (Utf8.decode t pos).1, int_eq (by omega), ?_, k3.iter HIT2.out (by omega), hbw2.trans b3, ?_⟩
            · rw [Lib.byteCells_append, Lib.byteCells_encodeRune]; exact Or.inr h3
            · rw [HN.out.1]; exact HN.out.2.2
          case measure =>
            simp only [World.iterPos, k3.iter HIT2.out (by omega), HIT.out, HN.out.1]
            omega
        · have HN := Lib.hid (HD.out.sign hpass hp hb)
          have HB := Lib.hid hb
          clear hb
          go_wp2_with (first
            | (go_at_call 35; refine (broken_at t pos _ hp true HB.out).mono ?_; rintro e w3 ⟨rfl, rfl⟩)
            | (go_at_call 37; refine (Tryd.Builder_WriteRune_k w1.heap.size w1.heap.size _ _ (by omega) (by omega) _ HI2.out (by rw [Lib.byteCells_length]; omega) hsz3).mono ?_; rintro e w3 ⟨rfl, h3, b3, k3⟩))
          go_roundw
          case rel =>
            refine ⟨pos + (Utf8.decode t pos).2, p, acc ++ Lib.encodeRune (Utf8.decode t pos).1, rfl, ?_, k3.iter HIT2.out (by omega), hbw2.trans b3, HN.out.2⟩
            rw [Lib.byteCells_append, Lib.byteCells_encodeRune]; exact Or.inr h3
          case measure =>
            have := HN.out.1
            simp only [World.iterPos, k3.iter HIT2.out (by omega), HIT.out]
            omega
    · have hnx : ∀ ty, (Instr.next (.pointer (some ⟨w2.heap.size, 0, none⟩)) true ty).run Tryd.prog wr = _ := fun ty => Lib.run_next_end_at wr w2.heap.size t pos ty hit hp
      have HE := Lib.hid (HD.out.done hp)
      clear hit
      go_wp2_with (go_at_call 38; refine (Tryd.Builder_String_any_k w1.heap.size w1.heap.size acc _ hI (by omega)).mono ?_; rintro e w3 ⟨rfl, _, b3, _⟩)
      go_ret
      refine ⟨?_, hbw.trans b3⟩
      rw [HFIN.out, ← HE.out]
      rfl
end Go.Proofs.YtnikehhcfbeiaaaDoor
