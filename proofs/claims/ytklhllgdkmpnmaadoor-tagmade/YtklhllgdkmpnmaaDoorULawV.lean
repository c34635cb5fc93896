/-
  The walk of the law TagValues: true, and nothing old is changed. The library's number MaxLen and the table of package refs are there.
-/
import Derived.Test.YtklhllgdkmpnmaaDoorUTok
import Derived.Test.YtklhllgdkmpnmaaDoorPlainAll
import Derived.Test.YtklhllgdkmpnmaaDoorTexts
namespace Go.Proofs.YtklhllgdkmpnmaaDoor
open Go.RowKit

theorem at_head (c : UInt8) (r : List UInt8) (hc : Plain.isLetter c = true) : atPlace (60 :: c :: r) 0 = true := by
  unfold atPlace Plain.atTag
  simp [hc]
  omega
theorem tag_ahead (c : UInt8) (b : UInt8) (r : List UInt8) (h47 : c.toNat ≠ 47) (hc : Plain.inName c = true) (hb : Plain.inName b = false) : tagKd (60 :: c :: b :: r) 0 = 1 ∧ tagNm (60 :: c :: b :: r) 0 = Plain.clear (Plain.fold [c]) ∧ tagRd (60 :: c :: b :: r) 0 = Plain.readT true (60 :: c :: b :: r) 2 [] := by
  have hst : Plain.tagStart (60 :: c :: b :: r) 0 = true := by
    unfold Plain.tagStart
    simp
    exact h47
  have hn : Plain.tagName (60 :: c :: b :: r) 0 = 1 := by unfold Plain.tagName; rw [hst]; rfl
  have hE : Plain.nameEnd (60 :: c :: b :: r) 1 = 2 := by
    unfold Plain.nameEnd
    show 1 + Plain.runP Plain.inName ([c] ++ b :: r) = 2
    rw [Plain.runP_all Plain.inName [c] b r (fun x hx => by rw [List.mem_singleton.1 hx]; exact hc) hb]
    rfl
  unfold tagKd tagNm tagRd
  rw [hst, hn, hE]
  exact ⟨rfl, rfl, rfl⟩
theorem tk_some {l : List UInt8} {K : Int} {nm : List UInt8} {rs : List (List UInt8 × List UInt8)} {self : Bool} {n : Nat} (h1 : tagKd l 0 = K) (h2 : tagNm l 0 = nm) (h3 : tagRd l 0 = (some (rs, self), n)) : tagT l 0 = ⟨K, nm, rs, self, n⟩ := by
  unfold tagT
  rw [h1, h2, h3]
  rfl
theorem addAttr_first (a : List UInt8 × List UInt8) : Plain.addAttr true [] a = [a] := rfl
theorem quotedT (x : List UInt8) (hx : (39 : UInt8) ∉ x) : ∃ n, tagT (60 :: 97 :: 32 :: 98 :: 61 :: 39 :: (x ++ [39, 62])) 0 = ⟨1, [97], [([98], Plain.clear (Plain.expand x true))], false, n⟩ := by
  obtain ⟨h1, h2, h3⟩ := tag_ahead 97 32 (98 :: 61 :: 39 :: (x ++ [39, 62])) (by decide) (by decide) (by decide)
  obtain ⟨h4, h5⟩ := Plain.read_quoted true (60 :: 97 :: 32 :: 98 :: 61 :: 39 :: (x ++ [39, 62])) [62] 2 [] 98 [] x 39 (by simp) rfl (Or.inr rfl) (by decide) (fun _ h => by cases h) (by decide) hx
  rw [h4, addAttr_first, Plain.read_close _ _ [] _ _ (by simp; omega) h5] at h3
  exact ⟨_, tk_some h1 h2 h3⟩
theorem bareT (x0 : UInt8) (x : List UInt8) (hx : ∀ c ∈ x0 :: x, Plain.inBare c = true) (hq : x0.toNat ≠ 34 ∧ x0.toNat ≠ 39) : ∃ n, tagT (60 :: 97 :: 32 :: 98 :: 61 :: x0 :: (x ++ [32, 62])) 0 = ⟨1, [97], [([98], Plain.clear (Plain.expand (x0 :: x) true))], false, n⟩ := by
  obtain ⟨h1, h2, h3⟩ := tag_ahead 97 32 (98 :: 61 :: x0 :: (x ++ [32, 62])) (by decide) (by decide) (by decide)
  obtain ⟨h4, h5⟩ := Plain.read_bare true (60 :: 97 :: 32 :: 98 :: 61 :: x0 :: (x ++ [32, 62])) [62] 2 [] 98 [] x0 x (by simp) rfl hq (by decide) (fun _ h => by cases h) (by decide) hx
  rw [h4, addAttr_first, Plain.read_blank _ _ [] _ _ (by simp; omega) h5] at h3
  exact ⟨_, tk_some h1 h2 h3⟩
/-- A text of one word, as plain as it is. -/
theorem one_word (l : List UInt8) (h1 : Plain.plain l = l) (h2 : (Plain.words l).length = 1) : ∃ c r, l = c :: r ∧ ∀ x ∈ l, Plain.blankB x = false := by
  obtain ⟨u, hu⟩ := List.length_eq_one_iff.1 h2
  have hw := Plain.words_word l u (by rw [hu]; simp)
  have hp : Plain.plain l = u := by
    unfold Plain.plain
    rw [hu]
    simp [Lib.join]
  rw [h1] at hp
  subst hp
  obtain ⟨hne, hb⟩ := hw
  cases l with
  | nil => exact absurd rfl hne
  | cons c r => exact ⟨c, r, rfl, hb⟩
def TwoAt (B : Nat) (W : World) : Prop := ∀ i, i < 2 → ∃ x : ByteArray, x.size ≤ 1000 ∧ W.cell? ⟨B, i, none⟩ = some (.string x)
theorem TwoAt.mk (W : World) (x0 x1 : ByteArray) (h : x0.size ≤ 1000 ∧ x1.size ≤ 1000) : TwoAt W.heap.size (W.alloc (.cells #[.string x0, .string x1] 9)) := by
  intro i hi
  have c : ∀ j, (W.alloc (.cells #[.string x0, .string x1] 9)).cell? ⟨W.heap.size, j, none⟩ = (#[.string x0, .string x1] : Array Value)[j]? := fun j => World.cell?_alloc_mark W _ 9 (0, 0) j
  rw [c i]
  match i, hi with
  | 0, _ => exact ⟨x0, h.1, rfl⟩
  | 1, _ => exact ⟨x1, h.2, rfl⟩
theorem TwoAt.on {B : Nat} {W W' : World} (h : TwoAt B W) (hb : Below W.heap.size W W') (hB : B < W.heap.size) : TwoAt B W' := fun i hi => by
  obtain ⟨x, hx, hc⟩ := h i hi
  exact ⟨x, hx, (hb.cell (p := ⟨B, i, none⟩) hB).trans hc⟩
theorem findI_none (c : UInt8) (l : List UInt8) (h : c ∉ l) : findI c l 0 = -1 := by
  unfold findI Plain.findB
  rw [List.drop_zero, if_neg (by rw [List.contains_eq_mem]; simpa using h)]
theorem findI_some (c : UInt8) (l : List UInt8) (h : c ∈ l) : 0 ≤ findI c l 0 := by
  unfold findI Plain.findB
  rw [List.drop_zero, if_pos (by rw [List.contains_eq_mem]; simpa using h)]
  simp only
  omega
theorem findV_one (n v : List UInt8) : findV [(n, v)] n = some v := by
  unfold findV
  simp

set_option maxHeartbeats 4000000 in
set_option maxRecDepth 100000 in
theorem tagValues_walk (raw : ByteArray) (v : Value) (n : Nat) (w : World) (hraw : raw.size ≤ maxLen) (hv : IntsIn w v n) (hmax : HasMax w) (hea : HasEarly w) :
    Calls Tryd.prog 10 #[.string raw, v] w (Yes w) := by
  have HK := Lib.hid (known3_yes w hmax hea)
  have HV := Lib.hid hv
  have HMX := Lib.hid hmax
  have HEA := Lib.hid hea
  have hE := hea.size
  unfold maxLen at hraw
  clear hmax hea hv
  by_cases hb : 200 < raw.size
  · go_enter Tryd.func10, Tryd.ntmps10
    go_wp2_with fail
    refine HK.out.mono ?_
    rintro e w1 ⟨rfl, b1⟩
    have hb' : (200 : Int) < (raw.size : Int) := by omega
    go_wp2
    go_ret
    exact ⟨rfl, b1⟩
  · have hb' : ¬ (200 : Int) < (raw.size : Int) := by omega
    go_enter Tryd.func10, Tryd.ntmps10
    go_wp2_with fail
    refine HK.out.mono ?_
    rintro e w1 ⟨rfl, b1⟩
    go_wp2_with fail
    refine (html_any v n w1 (HV.out.below b1)).mono ?_
    rintro e w3 ⟨l, rfl, hl1, hl2, b2⟩
    have B3 := Lib.hid (b1.trans (b2.mono b1.size))
    have hsl : (⟨l.toArray⟩ : ByteArray).size ≤ 1000 := by show l.toArray.size ≤ _; simp; omega
    clear b1 b2 hl1
    generalize (⟨l.toArray⟩ : ByteArray) = s1 at *
    have HS := Lib.hid (TwoAt.mk w3 raw s1 (by omega))
    go_wp2_with fail
    go_loopw [6] (fun x wr => ∃ i : Nat, i ≤ 2 ∧ x = .int .i64 (i : Int) ∧ Below w.heap.size w wr ∧ TwoAt w3.heap.size wr ∧ w3.heap.size < wr.heap.size) (fun x _ => 2 - (intOf x).toNat)
    case atStart => exact ⟨0, by omega, rfl, B3.out.alloc B3.out.size _, HS.out, by simp⟩
    case round =>
      clear HS B3
      obtain ⟨i, hi, rfl, hB, hX, hz⟩ := hrel
      have HB := Lib.hid hB
      have HX := Lib.hid hX
      clear hB hX
      by_cases hlt : i < 2
      · obtain ⟨x, hx, hc⟩ := HX.out i hlt
        have hxl := Plain.expand_len x.data.toList.length x.data.toList true (Nat.le_refl _)
        rw [len_of] at hxl
        have HXP := fun W => Lib.hid (rexpand_any x true W (by omega))
        have HCL := fun W => Lib.hid (rclear_any ⟨(Plain.expand x.data.toList true).toArray⟩ W (by show (Plain.expand x.data.toList true).toArray.size ≤ _; rw [List.size_toArray]; omega))
        rw [show (⟨(Plain.expand x.data.toList true).toArray⟩ : ByteArray).data.toList = Plain.expand x.data.toList true from rfl] at HCL
        have HI := fun W => Lib.hid (rfind_any x 39 0 W (by omega) (by omega))
        have HI2 := fun W => Lib.hid (rfind_any x 62 0 W (by omega) (by omega))
        have HPL := fun W => Lib.hid (rplain_any x W (by omega))
        have HWD := fun W => Lib.hid (rwords_told x W (by omega))
        rw [show ((0 : Nat) : Int) = 0 from rfl] at HI HI2
        clear hxl
        go_wp2_with fail
        refine (HXP _).out.mono ?_
        rintro e w4 ⟨rfl, b4⟩
        go_wp2_with fail
        refine (HCL _).out.mono ?_
        rintro e w5 ⟨rfl, rfl⟩
        generalize hcv : (⟨(Plain.clear (Plain.expand x.data.toList true)).toArray⟩ : ByteArray) = CV
        have HCV := Lib.hid hcv
        clear hcv
        have q9 : (CV.toList != CV.toList) = false := by simp
        have B4 := Lib.hid (HB.out.trans (b4.mono HB.out.size))
        have X4 := Lib.hid (HX.out.on b4 hz)
        have hz4 : w3.heap.size < w4.heap.size := Nat.lt_of_lt_of_le hz b4.size
        have hc4 := (b4.cell (p := ⟨w3.heap.size, i, none⟩) hz).trans hc
        clear hc b4 HXP HCL HB HX
        go_wp2_with fail
        refine (HI _).out.mono ?_
        rintro e w5 ⟨rfl, rfl⟩
        by_cases hq : (39 : UInt8) ∈ x.data.toList
        · have q1 := findI_some 39 x.data.toList hq
          have q2 : ¬ findI 39 x.data.toList 0 < 0 := by omega
          clear hq
          generalize findI 39 x.data.toList 0 = f39 at *
          go_wp2_with fail
          refine (HPL _).out.mono ?_
          rintro e wa ⟨rfl, ba⟩
          have Ba := Lib.hid (B4.out.trans (ba.mono B4.out.size))
          have Xa := Lib.hid (X4.out.on ba hz4)
          have hza := Nat.lt_of_lt_of_le hz4 ba.size
          clear ba B4 X4
          by_cases hpl : Plain.plain x.data.toList = x.data.toList
          · have p1 : ((⟨(Plain.plain x.data.toList).toArray⟩ : ByteArray).toList == x.toList) = true := by rw [Lib.toList_data, Lib.toList_data, beq_iff_eq]; exact hpl
            have HPQ := Lib.hid hpl
            clear hpl
            generalize (⟨(Plain.plain x.data.toList).toArray⟩ : ByteArray) = PL at *
            go_wp2_with fail
            refine (HWD _).out.mono ?_
            rintro e wb ⟨vb, rfl, tb, bb⟩
            have Bb := Lib.hid (Ba.out.trans (bb.mono Ba.out.size))
            have Xb := Lib.hid (Xa.out.on bb hza)
            have hzb := Nat.lt_of_lt_of_le hza bb.size
            have hvb : ∃ pb cb, vb = .slice pb (Plain.words x.data.toList).length cb := by
              rcases tb with ⟨hvb, hwb⟩ | ⟨g, cap, hvb, _⟩
              · exact ⟨none, 0, by rw [hvb, hwb]; rfl⟩
              · exact ⟨_, _, hvb⟩
            obtain ⟨pb, cb, rfl⟩ := hvb
            clear bb tb Ba Xa
            by_cases hone : (Plain.words x.data.toList).length = 1
            · obtain ⟨x0, xr, hxx, hbl⟩ := one_word x.data.toList HPQ.out hone
              have p2 : (((Plain.words x.data.toList).length : Int) == 1) = true := by rw [hone]; rfl
              have hsz : 0 < x.size := by rw [← len_of, hxx]; simp
              have hx0 : x[0] = x0 := by
                have : x.data.toList[0]'(by rw [hxx]; simp) = x0 := by simp [hxx]
                exact this
              have HXX := Lib.hid hxx
              have HX0 := Lib.hid hx0
              have HBL := Lib.hid hbl
              clear hone hxx hx0 hbl
              generalize (Plain.words x.data.toList).length = nw at *
              go_wp2_with fail
              refine (HI2 _).out.mono ?_
              rintro e wc ⟨rfl, rfl⟩
              by_cases hg : (62 : UInt8) ∈ x.data.toList
              · have r1 := findI_some 62 x.data.toList hg
                have r2 : ¬ findI 62 x.data.toList 0 < 0 := by omega
                clear hg
                generalize findI 62 x.data.toList 0 = f62 at *
                go_wp2
                exact ⟨⟨i + 1, by omega, by go_num, Bb.out, Xb.out, hzb⟩, by simp [intOf]; omega⟩
              · have r1 := findI_none 62 x.data.toList hg
                have r2 : findI 62 x.data.toList 0 < 0 := by omega
                generalize findI 62 x.data.toList 0 = f62 at *
                have h8 : x[0].toNat < 256 := x[0].toNat_lt
                by_cases h34 : x[0].toNat = 34
                · have s1 : ((x[0].toNat : Int) != 34) = false := by simp [h34]
                  clear hg h34 r1
                  go_wp2
                  exact ⟨⟨i + 1, by omega, by go_num, Bb.out, Xb.out, hzb⟩, by simp [intOf]; omega⟩
                · have s1 : ((x[0].toNat : Int) != 34) = true := by simp; omega
                  by_cases h39 : x[0].toNat = 39
                  · have s2 : ((x[0].toNat : Int) != 39) = false := by simp [h39]
                    clear hg h34 h39 r1
                    go_wp2
                    exact ⟨⟨i + 1, by omega, by go_num, Bb.out, Xb.out, hzb⟩, by simp [intOf]; omega⟩
                  · have s2 : ((x[0].toNat : Int) != 39) = true := by simp; omega
                    obtain ⟨tm, hT⟩ := bareT x0 xr (fun c hc => by
                      have hm : c ∈ x.data.toList := by rw [HXX.out]; exact hc
                      unfold Plain.inBare
                      rw [HBL.out c hm, decide_eq_true (show c.toNat ≠ 62 from fun e => hg (by rw [show (62 : UInt8) = c from UInt8.toNat_inj.1 e.symm]; exact hm))]
                      rfl) (by rw [← HX0.out]; exact ⟨h34, h39⟩)
                    rw [← HXX.out] at hT
                    have hTl : (⟨#[60, 97, 32, 98, 61]⟩ ++ x ++ ⟨#[32, 62]⟩ : ByteArray).data.toList = 60 :: 97 :: 32 :: 98 :: 61 :: x0 :: (xr ++ [32, 62]) := by simp [ByteArray.data_append, HXX.out]
                    have hTs : (⟨#[60, 97, 32, 98, 61]⟩ ++ x ++ ⟨#[32, 62]⟩ : ByteArray).size ≤ 268435456 := by
                      rw [ByteArray.size_append, ByteArray.size_append]
                      show 5 + x.size + 2 ≤ _
                      omega
                    have HT := Lib.hid (read_tk _ 0 _ (HMX.out.below Bb.out) (HEA.out.below Bb.out hE) (by rw [hTl]; exact at_head 97 _ (by decide)) hTs)
                    rw [hTl, hT] at HT
                    clear hT hTl hTs hg h34 h39 r1
                    go_wp2_with fail
                    refine HT.out.mono ?_
                    rintro e wd ⟨vd, rfl, had, bd⟩
                    simp only at had
                    have HA0d := Lib.hid had
                    obtain ⟨pd, cd, rfl, hqd⟩ := had
                    have HA1d : Hid (AttrsAt wd (.slice pd 1 cd) [([98], Plain.clear (Plain.expand x.data.toList true))]) := HA0d
                    have HAd := Lib.hid (HA1d.out.below ((Below.refl _ wd).alloc (Nat.le_refl _) (.cells #[.int .i64 1, .string ⟨#[97]⟩, .slice pd 1 cd, .bool false, .string ⟨#[]⟩] 31)))
                    have HFd := Lib.hid (rfindattr_any (.slice pd 1 cd) _ ⟨#[98]⟩ _ HAd.out (by simp))
                    rw [show (⟨#[98]⟩ : ByteArray).data.toList = [98] from rfl, findV_one] at HFd
                    have bd7 := bd.alloc bd.size (.cells #[.int .i64 1, .string ⟨#[97]⟩, .slice pd 1 cd, .bool false, .string ⟨#[]⟩] 31)
                    have Bd := Lib.hid (Bb.out.trans (bd7.mono Bb.out.size))
                    have Xd := Lib.hid (Xb.out.on bd7 hzb)
                    have hzd := Nat.lt_of_lt_of_le hzb bd7.size
                    clear hqd bd bd7 HT HA0d HA1d HAd Bb Xb
                    unfold FindOut at HFd
                    simp only [Option.getD_some, Option.isSome_some] at HFd
                    rw [HCV.out] at HFd
                    go_wp2_with fail
                    generalize wd.alloc (.cells #[.int .i64 1, .string ⟨#[97]⟩, .slice pd 1 cd, .bool false, .string ⟨#[]⟩] 31) = Wd at *
                    refine HFd.out.mono ?_
                    rintro e we ⟨rfl, rfl⟩
                    clear HFd
                    go_wp2
                    exact ⟨⟨i + 1, by omega, by go_num, Bd.out, Xd.out, hzd⟩, by simp [intOf]; omega⟩
            · have p2 : (((Plain.words x.data.toList).length : Int) == 1) = false := beq_eq_false_iff_ne.2 (by omega)
              go_wp2
              exact ⟨⟨i + 1, by omega, by go_num, Bb.out, Xb.out, hzb⟩, by simp [intOf]; omega⟩
          · have p1 : ((⟨(Plain.plain x.data.toList).toArray⟩ : ByteArray).toList == x.toList) = false := by rw [Lib.toList_data, Lib.toList_data, beq_eq_false_iff_ne]; exact hpl
            clear hpl
            generalize (⟨(Plain.plain x.data.toList).toArray⟩ : ByteArray) = PL at *
            go_wp2
            exact ⟨⟨i + 1, by omega, by go_num, Ba.out, Xa.out, hza⟩, by simp [intOf]; omega⟩
        · have q1 := findI_none 39 x.data.toList hq
          have q2 : findI 39 x.data.toList 0 < 0 := by omega
          obtain ⟨tn, hT⟩ := quotedT x.data.toList hq
          have hTl : (⟨#[60, 97, 32, 98, 61, 39]⟩ ++ x ++ ⟨#[39, 62]⟩ : ByteArray).data.toList = 60 :: 97 :: 32 :: 98 :: 61 :: 39 :: (x.data.toList ++ [39, 62]) := by simp [ByteArray.data_append]
          have hTs : (⟨#[60, 97, 32, 98, 61, 39]⟩ ++ x ++ ⟨#[39, 62]⟩ : ByteArray).size ≤ 268435456 := by
            rw [ByteArray.size_append, ByteArray.size_append]
            show 6 + x.size + 2 ≤ _
            omega
          have HT := Lib.hid (read_tk _ 0 w4 (HMX.out.below B4.out) (HEA.out.below B4.out hE) (by rw [hTl]; exact at_head 97 _ (by decide)) hTs)
          rw [hTl, hT] at HT
          clear hT hTl hTs q1 hq
          generalize findI 39 x.data.toList 0 = f39 at *
          go_wp2_with fail
          refine HT.out.mono ?_
          rintro e w6 ⟨v6, rfl, ha6, b6⟩
          simp only at ha6
          have HA0 := Lib.hid ha6
          obtain ⟨p6, c6, rfl, hq6⟩ := ha6
          have HA1 : Hid (AttrsAt w6 (.slice p6 1 c6) [([98], Plain.clear (Plain.expand x.data.toList true))]) := HA0
          have HA6 := Lib.hid (HA1.out.below ((Below.refl _ w6).alloc (Nat.le_refl _) (.cells #[.int .i64 1, .string ⟨#[97]⟩, .slice p6 1 c6, .bool false, .string ⟨#[]⟩] 31)))
          have HF := Lib.hid (rfindattr_any (.slice p6 1 c6) _ ⟨#[98]⟩ _ HA6.out (by simp))
          rw [show (⟨#[98]⟩ : ByteArray).data.toList = [98] from rfl, findV_one] at HF
          have b7 := b6.alloc b6.size (.cells #[.int .i64 1, .string ⟨#[97]⟩, .slice p6 1 c6, .bool false, .string ⟨#[]⟩] 31)
          have B7 := Lib.hid (B4.out.trans (b7.mono B4.out.size))
          have X7 := Lib.hid (X4.out.on b7 hz4)
          have hz7 := Nat.lt_of_lt_of_le hz4 b7.size
          clear hq6 b6 b7 HT HA0 HA1 HA6 B4 X4 hc4
          unfold FindOut at HF
          simp only [Option.getD_some, Option.isSome_some] at HF
          rw [HCV.out] at HF
          go_wp2_with fail
          generalize w6.alloc (.cells #[.int .i64 1, .string ⟨#[97]⟩, .slice p6 1 c6, .bool false, .string ⟨#[]⟩] 31) = W7 at *
          refine HF.out.mono ?_
          rintro e w8 ⟨rfl, rfl⟩
          clear HF
          go_wp2_with fail
          refine (HPL _).out.mono ?_
          rintro e wa ⟨rfl, ba⟩
          have Ba := Lib.hid (B7.out.trans (ba.mono B7.out.size))
          have Xa := Lib.hid (X7.out.on ba hz7)
          have hza := Nat.lt_of_lt_of_le hz7 ba.size
          clear ba B7 X7
          by_cases hpl : Plain.plain x.data.toList = x.data.toList
          · have p1 : ((⟨(Plain.plain x.data.toList).toArray⟩ : ByteArray).toList == x.toList) = true := by rw [Lib.toList_data, Lib.toList_data, beq_iff_eq]; exact hpl
            have HPQ := Lib.hid hpl
            clear hpl
            generalize (⟨(Plain.plain x.data.toList).toArray⟩ : ByteArray) = PL at *
            go_wp2_with fail
            refine (HWD _).out.mono ?_
            rintro e wb ⟨vb, rfl, tb, bb⟩
            have Bb := Lib.hid (Ba.out.trans (bb.mono Ba.out.size))
            have Xb := Lib.hid (Xa.out.on bb hza)
            have hzb := Nat.lt_of_lt_of_le hza bb.size
            have hvb : ∃ pb cb, vb = .slice pb (Plain.words x.data.toList).length cb := by
              rcases tb with ⟨hvb, hwb⟩ | ⟨g, cap, hvb, _⟩
              · exact ⟨none, 0, by rw [hvb, hwb]; rfl⟩
              · exact ⟨_, _, hvb⟩
            obtain ⟨pb, cb, rfl⟩ := hvb
            clear bb tb Ba Xa
            by_cases hone : (Plain.words x.data.toList).length = 1
            · obtain ⟨x0, xr, hxx, hbl⟩ := one_word x.data.toList HPQ.out hone
              have p2 : (((Plain.words x.data.toList).length : Int) == 1) = true := by rw [hone]; rfl
              have hsz : 0 < x.size := by rw [← len_of, hxx]; simp
              have hx0 : x[0] = x0 := by
                have : x.data.toList[0]'(by rw [hxx]; simp) = x0 := by simp [hxx]
                exact this
              have HXX := Lib.hid hxx
              have HX0 := Lib.hid hx0
              have HBL := Lib.hid hbl
              clear hone hxx hx0 hbl
              generalize (Plain.words x.data.toList).length = nw at *
              go_wp2_with fail
              refine (HI2 _).out.mono ?_
              rintro e wc ⟨rfl, rfl⟩
              by_cases hg : (62 : UInt8) ∈ x.data.toList
              · have r1 := findI_some 62 x.data.toList hg
                have r2 : ¬ findI 62 x.data.toList 0 < 0 := by omega
                clear hg
                generalize findI 62 x.data.toList 0 = f62 at *
                go_wp2
                exact ⟨⟨i + 1, by omega, by go_num, Bb.out, Xb.out, hzb⟩, by simp [intOf]; omega⟩
              · have r1 := findI_none 62 x.data.toList hg
                have r2 : findI 62 x.data.toList 0 < 0 := by omega
                generalize findI 62 x.data.toList 0 = f62 at *
                have h8 : x[0].toNat < 256 := x[0].toNat_lt
                by_cases h34 : x[0].toNat = 34
                · have s1 : ((x[0].toNat : Int) != 34) = false := by simp [h34]
                  clear hg h34 r1
                  go_wp2
                  exact ⟨⟨i + 1, by omega, by go_num, Bb.out, Xb.out, hzb⟩, by simp [intOf]; omega⟩
                · have s1 : ((x[0].toNat : Int) != 34) = true := by simp; omega
                  by_cases h39 : x[0].toNat = 39
                  · have s2 : ((x[0].toNat : Int) != 39) = false := by simp [h39]
                    clear hg h34 h39 r1
                    go_wp2
                    exact ⟨⟨i + 1, by omega, by go_num, Bb.out, Xb.out, hzb⟩, by simp [intOf]; omega⟩
                  · have s2 : ((x[0].toNat : Int) != 39) = true := by simp; omega
                    obtain ⟨tm, hT⟩ := bareT x0 xr (fun c hc => by
                      have hm : c ∈ x.data.toList := by rw [HXX.out]; exact hc
                      unfold Plain.inBare
                      rw [HBL.out c hm, decide_eq_true (show c.toNat ≠ 62 from fun e => hg (by rw [show (62 : UInt8) = c from UInt8.toNat_inj.1 e.symm]; exact hm))]
                      rfl) (by rw [← HX0.out]; exact ⟨h34, h39⟩)
                    rw [← HXX.out] at hT
                    have hTl : (⟨#[60, 97, 32, 98, 61]⟩ ++ x ++ ⟨#[32, 62]⟩ : ByteArray).data.toList = 60 :: 97 :: 32 :: 98 :: 61 :: x0 :: (xr ++ [32, 62]) := by simp [ByteArray.data_append, HXX.out]
                    have hTs : (⟨#[60, 97, 32, 98, 61]⟩ ++ x ++ ⟨#[32, 62]⟩ : ByteArray).size ≤ 268435456 := by
                      rw [ByteArray.size_append, ByteArray.size_append]
                      show 5 + x.size + 2 ≤ _
                      omega
                    have HT := Lib.hid (read_tk _ 0 _ (HMX.out.below Bb.out) (HEA.out.below Bb.out hE) (by rw [hTl]; exact at_head 97 _ (by decide)) hTs)
                    rw [hTl, hT] at HT
                    clear hT hTl hTs hg h34 h39 r1
                    go_wp2_with fail
                    refine HT.out.mono ?_
                    rintro e wd ⟨vd, rfl, had, bd⟩
                    simp only at had
                    have HA0d := Lib.hid had
                    obtain ⟨pd, cd, rfl, hqd⟩ := had
                    have HA1d : Hid (AttrsAt wd (.slice pd 1 cd) [([98], Plain.clear (Plain.expand x.data.toList true))]) := HA0d
                    have HAd := Lib.hid (HA1d.out.below ((Below.refl _ wd).alloc (Nat.le_refl _) (.cells #[.int .i64 1, .string ⟨#[97]⟩, .slice pd 1 cd, .bool false, .string ⟨#[]⟩] 31)))
                    have HFd := Lib.hid (rfindattr_any (.slice pd 1 cd) _ ⟨#[98]⟩ _ HAd.out (by simp))
                    rw [show (⟨#[98]⟩ : ByteArray).data.toList = [98] from rfl, findV_one] at HFd
                    have bd7 := bd.alloc bd.size (.cells #[.int .i64 1, .string ⟨#[97]⟩, .slice pd 1 cd, .bool false, .string ⟨#[]⟩] 31)
                    have Bd := Lib.hid (Bb.out.trans (bd7.mono Bb.out.size))
                    have Xd := Lib.hid (Xb.out.on bd7 hzb)
                    have hzd := Nat.lt_of_lt_of_le hzb bd7.size
                    clear hqd bd bd7 HT HA0d HA1d HAd Bb Xb
                    unfold FindOut at HFd
                    simp only [Option.getD_some, Option.isSome_some] at HFd
                    rw [HCV.out] at HFd
                    go_wp2_with fail
                    generalize wd.alloc (.cells #[.int .i64 1, .string ⟨#[97]⟩, .slice pd 1 cd, .bool false, .string ⟨#[]⟩] 31) = Wd at *
                    refine HFd.out.mono ?_
                    rintro e we ⟨rfl, rfl⟩
                    clear HFd
                    go_wp2
                    exact ⟨⟨i + 1, by omega, by go_num, Bd.out, Xd.out, hzd⟩, by simp [intOf]; omega⟩
            · have p2 : (((Plain.words x.data.toList).length : Int) == 1) = false := beq_eq_false_iff_ne.2 (by omega)
              go_wp2
              exact ⟨⟨i + 1, by omega, by go_num, Bb.out, Xb.out, hzb⟩, by simp [intOf]; omega⟩
          · have p1 : ((⟨(Plain.plain x.data.toList).toArray⟩ : ByteArray).toList == x.toList) = false := by rw [Lib.toList_data, Lib.toList_data, beq_eq_false_iff_ne]; exact hpl
            clear hpl
            generalize (⟨(Plain.plain x.data.toList).toArray⟩ : ByteArray) = PL at *
            go_wp2
            exact ⟨⟨i + 1, by omega, by go_num, Ba.out, Xa.out, hza⟩, by simp [intOf]; omega⟩
      · go_wp2
        go_ret
        exact ⟨rfl, HB.out⟩
end Go.Proofs.YtklhllgdkmpnmaaDoor
