/-
  The walks of the reference's Set and Put for marks. Any marks, not too many.
-/
import Derived.Test.YtbadckkcjjfnoaaMR7
import Derived.Test.YtbadckkcjjfnoaaMR8
import Derived.Test.YtbadckkcjjfnoaaMR9
import Derived.Test.YtbadckkcjjfnoaaMRA
import Derived.Test.YtbadckkcjjfnoaaMRB
import Derived.Deep.CutBlock
import Derived.Deep.DeepCutAuto
namespace Go.Proofs.Ytbadckkcjjfnoaa
open Go.RowKit

theorem PEnd.fin3 {P : Nat → Prop} {W2 w' : World} {B : Nat} {S2 : List MK} {x : MK} {NM : ByteArray} {pa : Option Addr} {ca : Nat} {p : Option Addr} {cap : Nat} {rs es fs : List (MK × Value)} {v' : Value} (h : PEnd P W2 B S2 x NM pa ca p cap rs) (h1 : ∀ q ∈ es, q ∈ rs) (h2 : ∀ q ∈ fs, q ∈ rs) (hb : Below W2.heap.size W2 w') (hr : w'.ownsRow W2.heap.size 63 3 v' ([] ++ es ++ [(x, (Value.slice pa x.attrs.length ca))] ++ fs).length (mkCells ([] ++ es ++ [(x, (Value.slice pa x.attrs.length ca))] ++ fs))) : RStep W2 B P (es.map (·.1) ++ x :: fs.map (·.1)) (w'.setCell ⟨B, 0, none⟩ v') := by
  have h3 := RefQ.laid h.ref hb hr (fun q hm => by
    rcases List.mem_append.1 hm with hm | hm
    · rcases List.mem_append.1 hm with hm | hm
      · exact (h.ref.below hb).row.attrs q (h1 q (by simpa using hm))
      · rw [List.mem_singleton.1 hm]
        exact h.att.kept (.of_below hb)
    · exact (h.ref.below hb).row.attrs q (h2 q hm))
  rw [show ((([] ++ es ++ [(x, (Value.slice pa x.attrs.length ca))] ++ fs : List (MK × Value))).map (·.1)) = es.map (·.1) ++ x :: fs.map (·.1) by simp] at h3
  exact h3
set_option maxHeartbeats 8000000 in
set_option maxRecDepth 100000 in
theorem rsetA (rs : List (MK × Value)) (B : Nat) (P : Nat → Prop) (w : World) (k : Nat) (x : MK) (pa : Option Addr) (ca cap : Nat) (g o : Nat) (hq0 : RefQ P w B (.slice (some ⟨g, o, none⟩) rs.length cap) rs) (hs : rs.length ≤ 100000000) (ha : AttrsP P w (.slice pa x.attrs.length ca) x.attrs) (hk : k < rs.length) (hne : k + 1 < cap) :
    Calls Try.prog 35 #[.pointer (some ⟨B, 0, none⟩), .int .i64 (k : Int), markV x (.slice pa x.attrs.length ca)] w (fun e w' => e = .returned (.bool true) ∧ RStep w B P ((rs.map (·.1)).set k x) w') := by
  unfold markV
  obtain ⟨NM, hNM⟩ : ∃ NM : ByteArray, NM = (⟨x.name.toArray⟩ : ByteArray) := ⟨_, rfl⟩
  rw [← hNM]
  obtain ⟨W1, hW1⟩ : ∃ W1, W1 = w.alloc (.cells #[.int .i64 x.node, .string NM, .slice pa x.attrs.length ca] 63) := ⟨_, rfl⟩
  have b1 : Below w.heap.size w W1 := by rw [hW1]; exact (Below.refl _ w).alloc (Nat.le_refl _) _
  have hbx : W1.heap[w.heap.size]? = some (.cells #[.int .i64 x.node, .string NM, .slice pa x.attrs.length ca] 63 (0, 0)) := by rw [hW1]; exact heap_alloc_new w _
  have HW1 := Lib.hid hW1
  have HBW := Lib.hid b1
  have hB0 := hq0.lt
  have hq := hq0.below b1
  have HIS := Lib.hid (risP (rs.map (·.1)) B P W1 (k : Int) ⟨_, rs, rfl, hq⟩)
  have HPE : Hid (PEnd P W1 B (rs.map (·.1)) x NM pa ca (some ⟨g, o, none⟩) cap rs) := Lib.hid ⟨rfl, hq, ha.kept (.of_below b1), hNM⟩
  have HT1 := Lib.hid (three W1 (.cells #[.int .i64 x.node, .string NM, .slice pa x.attrs.length ca] 63) 63 #[.int .i64 x.node, .string NM, .slice pa x.attrs.length ca] rfl)
  have hc2 := hq.cell
  have hs2 := hq.lt
  have x0 := (block_cell hbx 0).1
  have x1 := (block_cell hbx 1).1
  have x2 := (block_cell hbx 2).1
  simp at x0 x1 x2
  have xl := heap_lt hbx
  have hzw := b1.size
  have hz1 : W1.heap.size ≤ (W1.alloc (.cells #[] 63)).drew.heap.size := by simp
  have hz2 : W1.heap.size ≤ ((W1.alloc (.cells #[] 63)).alloc (.cells #[.int .i64 x.node, .string NM, .slice pa x.attrs.length ca] 63)).drew.heap.size := by simp; omega
  have hz3 : W1.heap.size ≤ ((W1.alloc (.cells #[.int .i64 x.node, .string NM, .slice pa x.attrs.length ca] 63)).alloc (.cells #[] 63)).drew.heap.size := by simp; omega
  have j0 : (0 : Int) ≤ (k : Int) := by omega
  have hmh : mHas (rs.map (·.1)) (k : Int) = true := by unfold mHas; simp; omega
  rw [hmh] at HIS
  have HTK : Hid (∀ W, Below W1.heap.size W1 W → RowP P W (.slice (some ⟨g, o, none⟩) k cap) (rs.take k)) := Lib.hid fun W b => (HPE.out.ref.below b).row.take (by omega)
  have HDR : Hid (∀ W, Below W1.heap.size W1 W → RowP P W (.slice (some ⟨g, o + (k + 1) * 3, none⟩) (rs.length - (k + 1)) (cap - (k + 1))) (rs.drop (k + 1))) := Lib.hid fun W b => (HPE.out.ref.below b).row.drop
  have HFIN : Hid ((rs.take k).map (·.1) ++ x :: (rs.drop (k + 1)).map (·.1) = (rs.map (·.1)).set k x) := Lib.hid (by rw [List.set_eq_take_append_cons_drop, if_pos (by simpa using hk)]; simp)
  have HSL : Hid (([] : List (MK × Value)).length + ((rs.take k)).length ≤ 4294967296) := Lib.hid (by simp; omega)
  have HSM : Hid (([] ++ (rs.take k) : List (MK × Value)).length + [(x, (Value.slice pa x.attrs.length ca))].length ≤ 4294967296) := Lib.hid (by simp; omega)
  have HSN : Hid (([] ++ (rs.take k) ++ [(x, (Value.slice pa x.attrs.length ca))] : List (MK × Value)).length + (rs.drop (k + 1) : List (MK × Value)).length ≤ 4294967296) := Lib.hid (by simp; omega)
  have HBX := Lib.hid hbx
  clear hq hq0 hW1 b1 hNM ha hbx HT1 hz1 hz2 hz3
  go_enter Try.func35, Try.ntmps35
  go_wp2_with fail
  rw [← HW1.out]
  refine HIS.out.mono ?_
  rintro e w9 ⟨rfl, rfl⟩
  go_upto_region 3 with fail
  refine rset_regA HPE.out HBX.out hk hs hne HTK.out HDR.out HSL HSM HSN ?_
  intro x0 x1 x2 x3 x4 x5 x6 x7 x8 x9 x10 x11 x12 x13 x14 x15 x16 x17 x18 x19 x20 x21 v3 w3 hr3 hb3
  have h := (HPE.out.fin3 (fun q hm => List.mem_of_mem_take hm) (fun q hm => List.mem_of_mem_drop hm) hb3 hr3).from HBW.out hB0
  rw [HFIN.out] at h
  have HFI := Lib.hid h
  clear h hr3 hb3
  go_wp2_with fail
  go_ret
  exact ⟨rfl, HFI.out⟩
set_option maxHeartbeats 8000000 in
set_option maxRecDepth 100000 in
theorem rsetB (rs : List (MK × Value)) (B : Nat) (P : Nat → Prop) (w : World) (k : Nat) (x : MK) (pa : Option Addr) (ca cap : Nat) (g o : Nat) (hq0 : RefQ P w B (.slice (some ⟨g, o, none⟩) rs.length cap) rs) (hs : rs.length ≤ 100000000) (ha : AttrsP P w (.slice pa x.attrs.length ca) x.attrs) (hk : k < rs.length) (hcap : cap = k + 1) (hle : rs.length ≤ cap) :
    Calls Try.prog 35 #[.pointer (some ⟨B, 0, none⟩), .int .i64 (k : Int), markV x (.slice pa x.attrs.length ca)] w (fun e w' => e = .returned (.bool true) ∧ RStep w B P ((rs.map (·.1)).set k x) w') := by
  unfold markV
  obtain ⟨NM, hNM⟩ : ∃ NM : ByteArray, NM = (⟨x.name.toArray⟩ : ByteArray) := ⟨_, rfl⟩
  rw [← hNM]
  obtain ⟨W1, hW1⟩ : ∃ W1, W1 = w.alloc (.cells #[.int .i64 x.node, .string NM, .slice pa x.attrs.length ca] 63) := ⟨_, rfl⟩
  have b1 : Below w.heap.size w W1 := by rw [hW1]; exact (Below.refl _ w).alloc (Nat.le_refl _) _
  have hbx : W1.heap[w.heap.size]? = some (.cells #[.int .i64 x.node, .string NM, .slice pa x.attrs.length ca] 63 (0, 0)) := by rw [hW1]; exact heap_alloc_new w _
  have HW1 := Lib.hid hW1
  have HBW := Lib.hid b1
  have hB0 := hq0.lt
  have hq := hq0.below b1
  have HIS := Lib.hid (risP (rs.map (·.1)) B P W1 (k : Int) ⟨_, rs, rfl, hq⟩)
  have HPE : Hid (PEnd P W1 B (rs.map (·.1)) x NM pa ca (some ⟨g, o, none⟩) cap rs) := Lib.hid ⟨rfl, hq, ha.kept (.of_below b1), hNM⟩
  have HT1 := Lib.hid (three W1 (.cells #[.int .i64 x.node, .string NM, .slice pa x.attrs.length ca] 63) 63 #[.int .i64 x.node, .string NM, .slice pa x.attrs.length ca] rfl)
  have hc2 := hq.cell
  have hs2 := hq.lt
  have x0 := (block_cell hbx 0).1
  have x1 := (block_cell hbx 1).1
  have x2 := (block_cell hbx 2).1
  simp at x0 x1 x2
  have xl := heap_lt hbx
  have hzw := b1.size
  have hz1 : W1.heap.size ≤ (W1.alloc (.cells #[] 63)).drew.heap.size := by simp
  have hz2 : W1.heap.size ≤ ((W1.alloc (.cells #[] 63)).alloc (.cells #[.int .i64 x.node, .string NM, .slice pa x.attrs.length ca] 63)).drew.heap.size := by simp; omega
  have hz3 : W1.heap.size ≤ ((W1.alloc (.cells #[.int .i64 x.node, .string NM, .slice pa x.attrs.length ca] 63)).alloc (.cells #[] 63)).drew.heap.size := by simp; omega
  have j0 : (0 : Int) ≤ (k : Int) := by omega
  have hmh : mHas (rs.map (·.1)) (k : Int) = true := by unfold mHas; simp; omega
  rw [hmh] at HIS
  have HTK : Hid (∀ W, Below W1.heap.size W1 W → RowP P W (.slice (some ⟨g, o, none⟩) k cap) (rs.take k)) := Lib.hid fun W b => (HPE.out.ref.below b).row.take (by omega)
  have HFIN : Hid ((rs.take k).map (·.1) ++ x :: ([] : List (MK × Value)).map (·.1) = (rs.map (·.1)).set k x) := Lib.hid (by rw [List.set_eq_take_append_cons_drop, if_pos (by simpa using hk), List.drop_eq_nil_of_le (by simp; omega)]; simp)
  have HSL : Hid (([] : List (MK × Value)).length + ((rs.take k)).length ≤ 4294967296) := Lib.hid (by simp; omega)
  have HSM : Hid (([] ++ (rs.take k) : List (MK × Value)).length + [(x, (Value.slice pa x.attrs.length ca))].length ≤ 4294967296) := Lib.hid (by simp; omega)
  have HSN : Hid (([] ++ (rs.take k) ++ [(x, (Value.slice pa x.attrs.length ca))] : List (MK × Value)).length + ([] : List (MK × Value)).length ≤ 4294967296) := Lib.hid (by simp; omega)
  have HBX := Lib.hid hbx
  clear hq hq0 hW1 b1 hNM ha hbx HT1 hz1 hz2 hz3
  go_enter Try.func35, Try.ntmps35
  go_wp2_with fail
  rw [← HW1.out]
  refine HIS.out.mono ?_
  rintro e w9 ⟨rfl, rfl⟩
  go_upto_region 3 with fail
  refine rset_regB HPE.out HBX.out hk hs hcap hle HTK.out (fun W _ => RowP.empty P W _ _) HSL HSM HSN ?_
  intro x0 x1 x2 x3 x4 x5 x6 x7 x8 x9 x10 x11 x12 x13 x14 x15 x16 x17 x18 x19 x20 x21 v3 w3 hr3 hb3
  have h := (HPE.out.fin3 (fun q hm => List.mem_of_mem_take hm) (fun q hm => absurd hm (by simp)) hb3 hr3).from HBW.out hB0
  rw [HFIN.out] at h
  have HFI := Lib.hid h
  clear h hr3 hb3
  go_wp2_with fail
  go_ret
  exact ⟨rfl, HFI.out⟩
set_option maxHeartbeats 8000000 in
set_option maxRecDepth 100000 in
theorem rputA1 (rs : List (MK × Value)) (B : Nat) (P : Nat → Prop) (w : World) (k : Nat) (x : MK) (pa : Option Addr) (ca cap : Nat) (g o : Nat) (hq0 : RefQ P w B (.slice (some ⟨g, o, none⟩) rs.length cap) rs) (hs : rs.length ≤ 100000000) (ha : AttrsP P w (.slice pa x.attrs.length ca) x.attrs) (hk : k < rs.length) (hc : k < cap) :
    Calls Try.prog 37 #[.pointer (some ⟨B, 0, none⟩), .int .i64 (k : Int), markV x (.slice pa x.attrs.length ca)] w (fun e w' => e = .returned (.bool true) ∧ RStep w B P (mIns (rs.map (·.1)) k x) w') := by
  unfold markV
  obtain ⟨NM, hNM⟩ : ∃ NM : ByteArray, NM = (⟨x.name.toArray⟩ : ByteArray) := ⟨_, rfl⟩
  rw [← hNM]
  obtain ⟨W1, hW1⟩ : ∃ W1, W1 = w.alloc (.cells #[.int .i64 x.node, .string NM, .slice pa x.attrs.length ca] 63) := ⟨_, rfl⟩
  have b1 : Below w.heap.size w W1 := by rw [hW1]; exact (Below.refl _ w).alloc (Nat.le_refl _) _
  have hbx : W1.heap[w.heap.size]? = some (.cells #[.int .i64 x.node, .string NM, .slice pa x.attrs.length ca] 63 (0, 0)) := by rw [hW1]; exact heap_alloc_new w _
  have HW1 := Lib.hid hW1
  have HBW := Lib.hid b1
  have hB0 := hq0.lt
  have hq := hq0.below b1
  have HIS := Lib.hid (risP (rs.map (·.1)) B P W1 (k : Int) ⟨_, rs, rfl, hq⟩)
  have HPE : Hid (PEnd P W1 B (rs.map (·.1)) x NM pa ca (some ⟨g, o, none⟩) cap rs) := Lib.hid ⟨rfl, hq, ha.kept (.of_below b1), hNM⟩
  have HT1 := Lib.hid (three W1 (.cells #[.int .i64 x.node, .string NM, .slice pa x.attrs.length ca] 63) 63 #[.int .i64 x.node, .string NM, .slice pa x.attrs.length ca] rfl)
  have hc2 := hq.cell
  have hs2 := hq.lt
  have x0 := (block_cell hbx 0).1
  have x1 := (block_cell hbx 1).1
  have x2 := (block_cell hbx 2).1
  simp at x0 x1 x2
  have xl := heap_lt hbx
  have hzw := b1.size
  have hz1 : W1.heap.size ≤ (W1.alloc (.cells #[] 63)).drew.heap.size := by simp
  have hz2 : W1.heap.size ≤ ((W1.alloc (.cells #[] 63)).alloc (.cells #[.int .i64 x.node, .string NM, .slice pa x.attrs.length ca] 63)).drew.heap.size := by simp; omega
  have hz3 : W1.heap.size ≤ ((W1.alloc (.cells #[.int .i64 x.node, .string NM, .slice pa x.attrs.length ca] 63)).alloc (.cells #[] 63)).drew.heap.size := by simp; omega
  have j0 : (0 : Int) ≤ (k : Int) := by omega
  have hmh : mHas (rs.map (·.1)) (k : Int) = true := by unfold mHas; simp; omega
  rw [hmh] at HIS
  have hne1 : ((k : Int) != (rs.length : Int)) = true := by simp; omega
  have HTK : Hid (∀ W, Below W1.heap.size W1 W → RowP P W (.slice (some ⟨g, o, none⟩) k cap) (rs.take k)) := Lib.hid fun W b => (HPE.out.ref.below b).row.take (by omega)
  have HDR : Hid (∀ W, Below W1.heap.size W1 W → RowP P W (.slice (some ⟨g, o + k * 3, none⟩) (rs.length - k) (cap - k)) (rs.drop k)) := Lib.hid fun W b => (HPE.out.ref.below b).row.drop
  have HFIN : Hid ((rs.take k).map (·.1) ++ x :: (rs.drop k).map (·.1) = mIns (rs.map (·.1)) k x) := Lib.hid (by unfold mIns; simp)
  have HSL : Hid (([] : List (MK × Value)).length + ((rs.take k)).length ≤ 4294967296) := Lib.hid (by simp; omega)
  have HSM : Hid (([] ++ (rs.take k) : List (MK × Value)).length + [(x, (Value.slice pa x.attrs.length ca))].length ≤ 4294967296) := Lib.hid (by simp; omega)
  have HSN : Hid (([] ++ (rs.take k) ++ [(x, (Value.slice pa x.attrs.length ca))] : List (MK × Value)).length + (rs.drop k : List (MK × Value)).length ≤ 4294967296) := Lib.hid (by simp; omega)
  have HBX := Lib.hid hbx
  clear hq hq0 hW1 b1 hNM ha hbx HT1 hz1 hz2 hz3
  go_enter Try.func37, Try.ntmps37
  go_upto_region 1 with fail
  rw [← HW1.out]
  go_wp2_with fail
  refine HIS.out.mono ?_
  rintro e w9 ⟨rfl, rfl⟩
  go_upto_region 3 with fail
  refine rput_regA HPE.out HBX.out (by omega) hc HTK.out HDR.out HSL HSM HSN ?_
  intro x0 x1 x2 x3 x4 x5 x6 x7 x8 x9 x10 x11 x12 x13 x14 x15 x16 x17 x18 x19 x20 v3 w3 hr3 hb3
  have h := (HPE.out.fin3 (fun q hm => List.mem_of_mem_take hm) (fun q hm => List.mem_of_mem_drop hm) hb3 hr3).from HBW.out hB0
  rw [HFIN.out] at h
  have HFI := Lib.hid h
  clear h hr3 hb3
  go_wp2_with fail
  go_ret
  exact ⟨rfl, HFI.out⟩
set_option maxHeartbeats 8000000 in
set_option maxRecDepth 100000 in
theorem rputA2 (rs : List (MK × Value)) (B : Nat) (P : Nat → Prop) (w : World) (k : Nat) (x : MK) (pa : Option Addr) (ca cap : Nat) (g o : Nat) (hq0 : RefQ P w B (.slice (some ⟨g, o, none⟩) rs.length cap) rs) (hs : rs.length ≤ 100000000) (ha : AttrsP P w (.slice pa x.attrs.length ca) x.attrs) (hkl : k = rs.length) (hc : k < cap) :
    Calls Try.prog 37 #[.pointer (some ⟨B, 0, none⟩), .int .i64 (k : Int), markV x (.slice pa x.attrs.length ca)] w (fun e w' => e = .returned (.bool true) ∧ RStep w B P (mIns (rs.map (·.1)) k x) w') := by
  unfold markV
  obtain ⟨NM, hNM⟩ : ∃ NM : ByteArray, NM = (⟨x.name.toArray⟩ : ByteArray) := ⟨_, rfl⟩
  rw [← hNM]
  obtain ⟨W1, hW1⟩ : ∃ W1, W1 = w.alloc (.cells #[.int .i64 x.node, .string NM, .slice pa x.attrs.length ca] 63) := ⟨_, rfl⟩
  have b1 : Below w.heap.size w W1 := by rw [hW1]; exact (Below.refl _ w).alloc (Nat.le_refl _) _
  have hbx : W1.heap[w.heap.size]? = some (.cells #[.int .i64 x.node, .string NM, .slice pa x.attrs.length ca] 63 (0, 0)) := by rw [hW1]; exact heap_alloc_new w _
  have HW1 := Lib.hid hW1
  have HBW := Lib.hid b1
  have hB0 := hq0.lt
  have hq := hq0.below b1
  have HIS := Lib.hid (risP (rs.map (·.1)) B P W1 (k : Int) ⟨_, rs, rfl, hq⟩)
  have HPE : Hid (PEnd P W1 B (rs.map (·.1)) x NM pa ca (some ⟨g, o, none⟩) cap rs) := Lib.hid ⟨rfl, hq, ha.kept (.of_below b1), hNM⟩
  have HT1 := Lib.hid (three W1 (.cells #[.int .i64 x.node, .string NM, .slice pa x.attrs.length ca] 63) 63 #[.int .i64 x.node, .string NM, .slice pa x.attrs.length ca] rfl)
  have hc2 := hq.cell
  have hs2 := hq.lt
  have x0 := (block_cell hbx 0).1
  have x1 := (block_cell hbx 1).1
  have x2 := (block_cell hbx 2).1
  simp at x0 x1 x2
  have xl := heap_lt hbx
  have hzw := b1.size
  have hz1 : W1.heap.size ≤ (W1.alloc (.cells #[] 63)).drew.heap.size := by simp
  have hz2 : W1.heap.size ≤ ((W1.alloc (.cells #[] 63)).alloc (.cells #[.int .i64 x.node, .string NM, .slice pa x.attrs.length ca] 63)).drew.heap.size := by simp; omega
  have hz3 : W1.heap.size ≤ ((W1.alloc (.cells #[.int .i64 x.node, .string NM, .slice pa x.attrs.length ca] 63)).alloc (.cells #[] 63)).drew.heap.size := by simp; omega
  have j0 : (0 : Int) ≤ (k : Int) := by omega
  have hne1 : ((k : Int) != (rs.length : Int)) = false := by simp; omega
  have HTK : Hid (∀ W, Below W1.heap.size W1 W → RowP P W (.slice (some ⟨g, o, none⟩) k cap) (rs.take k)) := Lib.hid fun W b => (HPE.out.ref.below b).row.take (by omega)
  have HDR : Hid (∀ W, Below W1.heap.size W1 W → RowP P W (.slice (some ⟨g, o + k * 3, none⟩) (rs.length - k) (cap - k)) (rs.drop k)) := Lib.hid fun W b => (HPE.out.ref.below b).row.drop
  have HFIN : Hid ((rs.take k).map (·.1) ++ x :: (rs.drop k).map (·.1) = mIns (rs.map (·.1)) k x) := Lib.hid (by unfold mIns; simp)
  have HSL : Hid (([] : List (MK × Value)).length + ((rs.take k)).length ≤ 4294967296) := Lib.hid (by simp; omega)
  have HSM : Hid (([] ++ (rs.take k) : List (MK × Value)).length + [(x, (Value.slice pa x.attrs.length ca))].length ≤ 4294967296) := Lib.hid (by simp; omega)
  have HSN : Hid (([] ++ (rs.take k) ++ [(x, (Value.slice pa x.attrs.length ca))] : List (MK × Value)).length + (rs.drop k : List (MK × Value)).length ≤ 4294967296) := Lib.hid (by simp; omega)
  have HKL := Lib.hid hkl
  clear hkl
  have HBX := Lib.hid hbx
  clear hq hq0 hW1 b1 hNM ha hbx HT1 hz1 hz2 hz3
  go_enter Try.func37, Try.ntmps37
  go_upto_region 1 with fail
  rw [← HW1.out]
  go_upto_region 3 with fail
  refine rput_regA HPE.out HBX.out (by have := HKL.out; omega) hc HTK.out HDR.out HSL HSM HSN ?_
  intro x0 x1 x2 x3 x4 x5 x6 x7 x8 x9 x10 x11 x12 x13 x14 x15 x16 x17 x18 x19 x20 v3 w3 hr3 hb3
  have h := (HPE.out.fin3 (fun q hm => List.mem_of_mem_take hm) (fun q hm => List.mem_of_mem_drop hm) hb3 hr3).from HBW.out hB0
  rw [HFIN.out] at h
  have HFI := Lib.hid h
  clear h hr3 hb3
  go_wp2_with fail
  go_ret
  exact ⟨rfl, HFI.out⟩
set_option maxHeartbeats 8000000 in
set_option maxRecDepth 100000 in
theorem rputB (rs : List (MK × Value)) (B : Nat) (P : Nat → Prop) (w : World) (k : Nat) (x : MK) (pa : Option Addr) (ca cap : Nat) (g o : Nat) (hq0 : RefQ P w B (.slice (some ⟨g, o, none⟩) rs.length cap) rs) (hs : rs.length ≤ 100000000) (ha : AttrsP P w (.slice pa x.attrs.length ca) x.attrs) (hkl : k = rs.length) (hcap : k = cap) :
    Calls Try.prog 37 #[.pointer (some ⟨B, 0, none⟩), .int .i64 (k : Int), markV x (.slice pa x.attrs.length ca)] w (fun e w' => e = .returned (.bool true) ∧ RStep w B P (mIns (rs.map (·.1)) k x) w') := by
  unfold markV
  obtain ⟨NM, hNM⟩ : ∃ NM : ByteArray, NM = (⟨x.name.toArray⟩ : ByteArray) := ⟨_, rfl⟩
  rw [← hNM]
  obtain ⟨W1, hW1⟩ : ∃ W1, W1 = w.alloc (.cells #[.int .i64 x.node, .string NM, .slice pa x.attrs.length ca] 63) := ⟨_, rfl⟩
  have b1 : Below w.heap.size w W1 := by rw [hW1]; exact (Below.refl _ w).alloc (Nat.le_refl _) _
  have hbx : W1.heap[w.heap.size]? = some (.cells #[.int .i64 x.node, .string NM, .slice pa x.attrs.length ca] 63 (0, 0)) := by rw [hW1]; exact heap_alloc_new w _
  have HW1 := Lib.hid hW1
  have HBW := Lib.hid b1
  have hB0 := hq0.lt
  have hq := hq0.below b1
  have HIS := Lib.hid (risP (rs.map (·.1)) B P W1 (k : Int) ⟨_, rs, rfl, hq⟩)
  have HPE : Hid (PEnd P W1 B (rs.map (·.1)) x NM pa ca (some ⟨g, o, none⟩) cap rs) := Lib.hid ⟨rfl, hq, ha.kept (.of_below b1), hNM⟩
  have HT1 := Lib.hid (three W1 (.cells #[.int .i64 x.node, .string NM, .slice pa x.attrs.length ca] 63) 63 #[.int .i64 x.node, .string NM, .slice pa x.attrs.length ca] rfl)
  have hc2 := hq.cell
  have hs2 := hq.lt
  have x0 := (block_cell hbx 0).1
  have x1 := (block_cell hbx 1).1
  have x2 := (block_cell hbx 2).1
  simp at x0 x1 x2
  have xl := heap_lt hbx
  have hzw := b1.size
  have hz1 : W1.heap.size ≤ (W1.alloc (.cells #[] 63)).drew.heap.size := by simp
  have hz2 : W1.heap.size ≤ ((W1.alloc (.cells #[] 63)).alloc (.cells #[.int .i64 x.node, .string NM, .slice pa x.attrs.length ca] 63)).drew.heap.size := by simp; omega
  have hz3 : W1.heap.size ≤ ((W1.alloc (.cells #[.int .i64 x.node, .string NM, .slice pa x.attrs.length ca] 63)).alloc (.cells #[] 63)).drew.heap.size := by simp; omega
  have j0 : (0 : Int) ≤ (k : Int) := by omega
  have hne1 : ((k : Int) != (rs.length : Int)) = false := by simp; omega
  have HTK : Hid (∀ W, Below W1.heap.size W1 W → RowP P W (.slice (some ⟨g, o, none⟩) k cap) (rs.take k)) := Lib.hid fun W b => (HPE.out.ref.below b).row.take (by omega)
  have HFIN : Hid ((rs.take k).map (·.1) ++ x :: ([] : List (MK × Value)).map (·.1) = mIns (rs.map (·.1)) k x) := Lib.hid (by rw [mIns, List.drop_eq_nil_of_le (by simp; omega)]; simp)
  have HSL : Hid (([] : List (MK × Value)).length + ((rs.take k)).length ≤ 4294967296) := Lib.hid (by simp; omega)
  have HSM : Hid (([] ++ (rs.take k) : List (MK × Value)).length + [(x, (Value.slice pa x.attrs.length ca))].length ≤ 4294967296) := Lib.hid (by simp; omega)
  have HSN : Hid (([] ++ (rs.take k) ++ [(x, (Value.slice pa x.attrs.length ca))] : List (MK × Value)).length + ([] : List (MK × Value)).length ≤ 4294967296) := Lib.hid (by simp; omega)
  have HKL := Lib.hid hkl
  clear hkl
  have HCP := Lib.hid hcap
  clear hcap
  have HBX := Lib.hid hbx
  clear hq hq0 hW1 b1 hNM ha hbx HT1 hz1 hz2 hz3
  go_enter Try.func37, Try.ntmps37
  go_upto_region 1 with fail
  rw [← HW1.out]
  go_upto_region 3 with fail
  refine rput_regB HPE.out HBX.out HKL.out HCP.out HTK.out (fun W _ => RowP.empty P W _ _) HSL HSM HSN ?_
  intro x0 x1 x2 x3 x4 x5 x6 x7 x8 x9 x10 x11 x12 x13 x14 x15 x16 x17 x18 x19 x20 v3 w3 hr3 hb3
  have h := (HPE.out.fin3 (fun q hm => List.mem_of_mem_take hm) (fun q hm => absurd hm (by simp)) hb3 hr3).from HBW.out hB0
  rw [HFIN.out] at h
  have HFI := Lib.hid h
  clear h hr3 hb3
  go_wp2_with fail
  go_ret
  exact ⟨rfl, HFI.out⟩
set_option maxHeartbeats 8000000 in
set_option maxRecDepth 100000 in
theorem rputN (rs : List (MK × Value)) (B : Nat) (P : Nat → Prop) (w : World) (k : Nat) (x : MK) (pa : Option Addr) (ca cap : Nat) (hq0 : RefQ P w B (.slice none rs.length cap) rs) (hs : rs.length ≤ 100000000) (ha : AttrsP P w (.slice pa x.attrs.length ca) x.attrs) (hkl : k = 0) (hr0 : rs.length = 0) (hcap : cap = 0) :
    Calls Try.prog 37 #[.pointer (some ⟨B, 0, none⟩), .int .i64 (k : Int), markV x (.slice pa x.attrs.length ca)] w (fun e w' => e = .returned (.bool true) ∧ RStep w B P (mIns (rs.map (·.1)) k x) w') := by
  unfold markV
  obtain ⟨NM, hNM⟩ : ∃ NM : ByteArray, NM = (⟨x.name.toArray⟩ : ByteArray) := ⟨_, rfl⟩
  rw [← hNM]
  obtain ⟨W1, hW1⟩ : ∃ W1, W1 = w.alloc (.cells #[.int .i64 x.node, .string NM, .slice pa x.attrs.length ca] 63) := ⟨_, rfl⟩
  have b1 : Below w.heap.size w W1 := by rw [hW1]; exact (Below.refl _ w).alloc (Nat.le_refl _) _
  have hbx : W1.heap[w.heap.size]? = some (.cells #[.int .i64 x.node, .string NM, .slice pa x.attrs.length ca] 63 (0, 0)) := by rw [hW1]; exact heap_alloc_new w _
  have HW1 := Lib.hid hW1
  have HBW := Lib.hid b1
  have hB0 := hq0.lt
  have hq := hq0.below b1
  have HIS := Lib.hid (risP (rs.map (·.1)) B P W1 (k : Int) ⟨_, rs, rfl, hq⟩)
  have HPE : Hid (PEnd P W1 B (rs.map (·.1)) x NM pa ca none cap rs) := Lib.hid ⟨rfl, hq, ha.kept (.of_below b1), hNM⟩
  have HT1 := Lib.hid (three W1 (.cells #[.int .i64 x.node, .string NM, .slice pa x.attrs.length ca] 63) 63 #[.int .i64 x.node, .string NM, .slice pa x.attrs.length ca] rfl)
  have hc2 := hq.cell
  have hs2 := hq.lt
  have x0 := (block_cell hbx 0).1
  have x1 := (block_cell hbx 1).1
  have x2 := (block_cell hbx 2).1
  simp at x0 x1 x2
  have xl := heap_lt hbx
  have hzw := b1.size
  have hz1 : W1.heap.size ≤ (W1.alloc (.cells #[] 63)).drew.heap.size := by simp
  have hz2 : W1.heap.size ≤ ((W1.alloc (.cells #[] 63)).alloc (.cells #[.int .i64 x.node, .string NM, .slice pa x.attrs.length ca] 63)).drew.heap.size := by simp; omega
  have hz3 : W1.heap.size ≤ ((W1.alloc (.cells #[.int .i64 x.node, .string NM, .slice pa x.attrs.length ca] 63)).alloc (.cells #[] 63)).drew.heap.size := by simp; omega
  have j0 : (0 : Int) ≤ (k : Int) := by omega
  have hne1 : ((k : Int) != (rs.length : Int)) = false := by simp; omega
  have HFIN : Hid (([] : List (MK × Value)).map (·.1) ++ x :: ([] : List (MK × Value)).map (·.1) = mIns (rs.map (·.1)) k x) := Lib.hid (by
    have e : rs = [] := List.eq_nil_of_length_eq_zero hr0
    subst e
    simp [mIns])
  have HSL : Hid (([] : List (MK × Value)).length + (([] : List (MK × Value))).length ≤ 4294967296) := Lib.hid (by simp)
  have HSM : Hid (([] ++ ([] : List (MK × Value)) : List (MK × Value)).length + [(x, (Value.slice pa x.attrs.length ca))].length ≤ 4294967296) := Lib.hid (by simp)
  have HSN : Hid (([] ++ ([] : List (MK × Value)) ++ [(x, (Value.slice pa x.attrs.length ca))] : List (MK × Value)).length + ([] : List (MK × Value)).length ≤ 4294967296) := Lib.hid (by simp)
  have HKL := Lib.hid hkl
  clear hkl
  have HCP := Lib.hid hcap
  have HR0 := Lib.hid hr0
  clear hcap hr0
  have HBX := Lib.hid hbx
  clear hq hq0 hW1 b1 hNM ha hbx HT1 hz1 hz2 hz3
  go_enter Try.func37, Try.ntmps37
  go_upto_region 1 with fail
  rw [← HW1.out]
  go_upto_region 3 with fail
  refine rput_regN HPE.out HBX.out HKL.out HCP.out HR0.out (fun W _ => RowP.empty P W _ _) (fun W _ => RowP.empty P W _ _) HSL HSM HSN ?_
  intro x0 x1 x2 x3 x4 x5 x6 x7 x8 x9 x10 x11 x12 x13 x14 x15 x16 x17 x18 x19 x20 v3 w3 hr3 hb3
  have h := (HPE.out.fin3 (fun q hm => absurd hm (by simp)) (fun q hm => absurd hm (by simp)) hb3 hr3).from HBW.out hB0
  rw [HFIN.out] at h
  have HFI := Lib.hid h
  clear h hr3 hb3
  go_wp2_with fail
  go_ret
  exact ⟨rfl, HFI.out⟩
end Go.Proofs.Ytbadckkcjjfnoaa
