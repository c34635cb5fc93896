/-
  The walk of the reference's Sound. Any nodes, not too many.
-/
import Derived.Test.YteikhlonccacbaaDOnce
namespace Go.Proofs.Yteikhlonccacbaa
open Go.RowKit

/-- What stands right ahead of the i-th node: is it a text? -/
def PrevP (w : World) (p : Option Addr) (k : Nat) (prev : Bool) : Prop := (k = 0 ∧ prev = false) ∨ ∃ (m g o : Nat) (z : Int), k = m + 1 ∧ p = some ⟨g, o, none⟩ ∧ g < w.heap.size ∧ w.cell? ⟨g, o + m * 7, none⟩ = some (.int .i64 z) ∧ prev = decide (z = 2)
theorem PrevP.below {w w' : World} {p : Option Addr} {k : Nat} {prev : Bool} (h : PrevP w p k prev) (hb : Below w.heap.size w w') : PrevP w' p k prev := by
  rcases h with h | ⟨m, g, o, z, h1, h2, h3, h4, h5⟩
  · exact .inl h
  · exact .inr ⟨m, g, o, z, h1, h2, Nat.lt_of_lt_of_le h3 hb.size, (hb.cell (p := ⟨g, o + m * 7, none⟩) h3).trans h4, h5⟩
theorem emp_yes {l : List UInt8} (h : l = []) : ((⟨l.toArray⟩ : ByteArray).toList.isEmpty) = true := by rw [Lib.toList_data, h]; rfl
theorem emp_no {l : List UInt8} (h : l ≠ []) : ((⟨l.toArray⟩ : ByteArray).toList.isEmpty) = false := by
  rw [Lib.toList_data]
  cases l with
  | nil => exact absurd rfl h
  | cons a r => rfl

set_option maxHeartbeats 2000000 in
set_option maxRecDepth 100000 in
theorem rsound_step (n : Nat) (IH0 : ∀ (f : Fo) (P : Nat → Prop) (v : Value) (w : World), f.wt < n → f.wt ≤ 4294967296 → NodesP P w v f → Calls Try.prog 20 #[v] w (Brings (.bool (f.sound false)) w)) (f : Fo) (P : Nat → Prop) (v : Value) (w : World) (hn : f.wt < n + 1) (hs : f.wt ≤ 4294967296) (h : NodesP P w v f) : Calls Try.prog 20 #[v] w (Brings (.bool (f.sound false)) w) := by
    have IH := Lib.hid IH0
    clear IH0
    obtain ⟨p, cap, rfl, ht⟩ := h
    have HT := Lib.hid ht
    have hl := Fo.len_le f
    clear ht
    go_enter Try.func20, Try.ntmps20
    go_wp2
    go_loopw [3] (fun i wr => ∃ (k : Nat) (r : Fo) (prev : Bool), k + r.len = f.len ∧ r.wt ≤ f.wt ∧ i = .int .i64 (k : Int) ∧ f.sound false = r.sound prev ∧ PrevP wr p k prev ∧ NodesTail P wr p r k ∧ Below w.heap.size w wr) (fun i _ => f.len - (intOf i).toNat)
    case atStart => exact ⟨0, f, false, by omega, Nat.le_refl _, rfl, rfl, .inl ⟨rfl, rfl⟩, HT.out, Below.refl _ _⟩
    case round =>
      obtain ⟨k, r, prev, hk, hr, rfl, hd, hP, hT, hB⟩ := hrel
      have HD := Lib.hid hd
      have HB := Lib.hid hB
      have HP := Lib.hid hP
      clear hd hB hP HT
      cases r with
      | nil =>
        have hk' : k = f.len := by simpa [Fo.len] using hk
        subst hk'
        go_wp2
        go_ret
        refine ⟨?_, HB.out⟩
        rw [HD.out]
        rfl
      | cons d kd r' =>
        obtain ⟨g, o, va, vk, rfl, _, hg, h7, hva, hkd, htl⟩ := hT.head
        obtain ⟨c0, c1, c2, c3, c4, c5, c6⟩ := h7
        have HKD := Lib.hid hkd
        have HVA := Lib.hid hva
        have HTL := Lib.hid htl
        obtain ⟨NM, hNM⟩ : ∃ NM : ByteArray, (⟨d.name.toArray⟩ : ByteArray) = NM := ⟨_, rfl⟩
        obtain ⟨TX, hTX⟩ : ∃ TX : ByteArray, (⟨d.text.toArray⟩ : ByteArray) = TX := ⟨_, rfl⟩
        rw [hNM] at c2
        rw [hTX] at c4
        have HNM := Lib.hid hNM
        have HTX := Lib.hid hTX
        clear hNM hTX
        obtain ⟨pk, ck, hvk, _⟩ := hkd
        obtain ⟨pa, ca, hva', _⟩ := hva
        subst hvk hva'
        simp only [Fo.wt, Fo.len] at hr hk
        have hkl : k < f.len := by omega
        have hkdl := Fo.len_le kd
        have k0 : (0 : Int) ≤ (k : Int) := by omega
        have k1 : (k : Int) < (f.len : Int) := by omega
        have HS : Hid ((Fo.cons d kd r').sound prev = (Fo.okNode d kd.len (kd.sound false) prev && r'.sound (decide (d.kind = 2)))) := Lib.hid rfl
        have HB2 := Lib.hid (HB.out.alloc HB.out.size (.cells #[.int .i64 d.kind, .int .i64 d.space, .string NM, .slice pa d.attrs.length ca, .string TX, .int .i64 d.frm, .slice pk kd.len ck] 49))
        have HON : Hid (∀ W, Below wr.heap.size wr W → Calls Try.prog 56 #[.slice pa d.attrs.length ca] W (Brings (.bool (onceA d.attrs)) W)) := Lib.hid fun W b => ronceP _ d.attrs P W (HVA.out.kept (.of_below b)) (by omega)
        have HSO : Hid (∀ W, Below wr.heap.size wr W → Calls Try.prog 20 #[.slice pk kd.len ck] W (Brings (.bool (kd.sound false)) W)) := Lib.hid fun W b => IH.out kd P _ W (by omega) (by omega) (HKD.out.kept (.of_below b))
        have HC0 := Lib.hid c0
        clear hT htl IH HKD HVA
        by_cases hk1 : d.kind = 1
        · have HK := Lib.hid hk1
          have q1 : (d.kind == 1) = true := by simp [hk1]
          clear hk1
          by_cases s1 : d.space < 1
          · have Hs1 := Lib.hid s1
            have e1 : d.space < 1 := s1
            clear s1
            as_aux_lemma =>
              go_wp2_with fail
              go_ret
              refine ⟨?_, HB2.out⟩
              rw [HD.out, HS.out]
              have : Fo.okNode d kd.len (kd.sound false) prev = false := by simp [Fo.okNode, HK.out, show ¬ (1 : Int) ≤ d.space by have := Hs1.out; omega]
              rw [this]
              rfl
          have e1 : ¬ d.space < 1 := s1
          have Hs1 := Lib.hid s1
          clear s1
          by_cases s2 : 3 < d.space
          · have Hs2 := Lib.hid s2
            have e2 : 3 < d.space := s2
            clear s2
            as_aux_lemma =>
              go_wp2_with fail
              go_ret
              refine ⟨?_, HB2.out⟩
              rw [HD.out, HS.out]
              have : Fo.okNode d kd.len (kd.sound false) prev = false := by simp [Fo.okNode, HK.out, show ¬ d.space ≤ (3 : Int) by have := Hs2.out; omega]
              rw [this]
              rfl
          have e2 : ¬ 3 < d.space := s2
          have Hs2 := Lib.hid s2
          clear s2
          by_cases s3 : d.name = []
          · have Hs3 := Lib.hid s3
            have e3 : NM.toList.isEmpty = true := by rw [← HNM.out]; exact emp_yes s3
            clear s3
            as_aux_lemma =>
              go_wp2_with fail
              go_ret
              refine ⟨?_, HB2.out⟩
              rw [HD.out, HS.out]
              have : Fo.okNode d kd.len (kd.sound false) prev = false := by simp [Fo.okNode, HK.out, show d.name = [] from Hs3.out]
              rw [this]
              rfl
          have e3 : NM.toList.isEmpty = false := by rw [← HNM.out]; exact emp_no s3
          have Hs3 := Lib.hid s3
          clear s3
          by_cases s4 : d.text ≠ []
          · have Hs4 := Lib.hid s4
            have e4 : TX.toList.isEmpty = false := by rw [← HTX.out]; exact emp_no s4
            clear s4
            as_aux_lemma =>
              go_wp2_with fail
              go_ret
              refine ⟨?_, HB2.out⟩
              rw [HD.out, HS.out]
              have : Fo.okNode d kd.len (kd.sound false) prev = false := by simp [Fo.okNode, HK.out, show d.text ≠ [] from Hs4.out]
              rw [this]
              rfl
          have e4 : TX.toList.isEmpty = true := by rw [← HTX.out]; exact emp_yes (Classical.not_not.1 s4)
          have Hs4 := Lib.hid s4
          clear s4
          by_cases s5 : d.frm ≠ 0
          · have Hs5 := Lib.hid s5
            have e5 : (d.frm != 0) = true := by simpa using s5
            clear s5
            as_aux_lemma =>
              go_wp2_with fail
              go_ret
              refine ⟨?_, HB2.out⟩
              rw [HD.out, HS.out]
              have : Fo.okNode d kd.len (kd.sound false) prev = false := by simp [Fo.okNode, HK.out, show d.frm ≠ 0 from Hs5.out]
              rw [this]
              rfl
          have e5 : (d.frm != 0) = false := by simpa using s5
          have Hs5 := Lib.hid s5
          clear s5
          have BA := Lib.hid ((Below.refl wr.heap.size wr).alloc (Nat.le_refl _) (.cells #[.int .i64 d.kind, .int .i64 d.space, .string NM, .slice pa d.attrs.length ca, .string TX, .int .i64 d.frm, .slice pk kd.len ck] 49))
          cases ho : onceA d.attrs
          · have HO2 := Lib.hid ho
            rw [ho] at HON
            clear ho
            as_aux_lemma =>
              go_wp2_with fail
              refine (HON.out _ BA.out).mono ?_
              rintro e w2 ⟨rfl, b2⟩
              have B2 := Lib.hid (BA.out.trans (b2.mono BA.out.size))
              clear b2
              go_wp2_with fail
              go_ret
              refine ⟨?_, HB.out.trans (B2.out.mono HB.out.size)⟩
              rw [HD.out, HS.out]
              have : Fo.okNode d kd.len (kd.sound false) prev = false := by simp [Fo.okNode, HK.out, HO2.out]
              rw [this]
              rfl
          · have HO2 := Lib.hid ho
            rw [ho] at HON
            clear ho
            cases hk2 : kd.sound false
            · have HK2 := Lib.hid hk2
              rw [hk2] at HSO
              clear hk2
              as_aux_lemma =>
                go_wp2_with fail
                refine (HON.out _ BA.out).mono ?_
                rintro e w2 ⟨rfl, b2⟩
                have B2 := Lib.hid (BA.out.trans (b2.mono BA.out.size))
                have n6 : w2.cell? ⟨wr.heap.size, 6, none⟩ = some (.slice pk kd.len ck) := by
                  rw [b2.cell (p := ⟨wr.heap.size, 6, none⟩) (by simp)]
                  exact World.cell?_alloc_mark wr _ 49 (0, 0) 6
                clear b2
                go_wp2_with fail
                refine (HSO.out _ B2.out).mono ?_
                rintro e w3 ⟨rfl, b3⟩
                have B3 := Lib.hid (B2.out.trans (b3.mono B2.out.size))
                clear b3
                go_wp2_with fail
                go_ret
                refine ⟨?_, HB.out.trans (B3.out.mono HB.out.size)⟩
                rw [HD.out, HS.out]
                have : Fo.okNode d kd.len (kd.sound false) prev = false := by simp [Fo.okNode, HK.out, HK2.out]
                rw [this]
                rfl
            · have HK2 := Lib.hid hk2
              rw [hk2] at HSO
              clear hk2
              go_wp2_with fail
              refine (HON.out _ BA.out).mono ?_
              rintro e w2 ⟨rfl, b2⟩
              have B2 := Lib.hid (BA.out.trans (b2.mono BA.out.size))
              have n6 : w2.cell? ⟨wr.heap.size, 6, none⟩ = some (.slice pk kd.len ck) := by
                rw [b2.cell (p := ⟨wr.heap.size, 6, none⟩) (by simp)]
                exact World.cell?_alloc_mark wr _ 49 (0, 0) 6
              clear b2
              go_wp2_with fail
              refine (HSO.out _ B2.out).mono ?_
              rintro e w3 ⟨rfl, b3⟩
              have B3 := Lib.hid (B2.out.trans (b3.mono B2.out.size))
              clear b3
              as_aux_lemma =>
                have HOK : Hid (Fo.okNode d kd.len (kd.sound false) prev = true) := Lib.hid (by simp [Fo.okNode, HK.out, HO2.out, HK2.out, show d.name ≠ [] from Hs3.out, show d.text = [] from Classical.byContradiction Hs4.out, show d.frm = 0 from Classical.byContradiction Hs5.out, show (1 : Int) ≤ d.space by have := Hs1.out; omega, show d.space ≤ (3 : Int) by have := Hs2.out; omega])
                have HBX : Hid (Below wr.heap.size wr _) := Lib.hid B3.out
                go_wp2_with fail
                exact ⟨⟨k + 1, r', decide (d.kind = 2), by omega, by omega, by go_num, by rw [HD.out, HS.out, HOK.out]; rfl, .inr ⟨k, g, o, d.kind, rfl, rfl, Nat.lt_of_lt_of_le hg HBX.out.size, (HBX.out.cell (p := ⟨g, o + k * 7, none⟩) hg).trans HC0.out, rfl⟩, HTL.out.kept (.of_below HBX.out), HB.out.trans (HBX.out.mono HB.out.size)⟩, by simp [intOf]; omega⟩
        · have q1 : (d.kind == 1) = false := by simp [hk1]
          by_cases hk2 : d.kind = 2
          · have HK := Lib.hid hk2
            have q2 : (d.kind == 2) = true := by simp [hk2]
            clear hk1 hk2
            by_cases s1 : d.text = []
            · have Hs1 := Lib.hid s1
              have e1 : TX.toList.isEmpty = true := by rw [← HTX.out]; exact emp_yes s1
              clear s1
              as_aux_lemma =>
                go_wp2_with fail
                go_ret
                refine ⟨?_, HB2.out⟩
                rw [HD.out, HS.out]
                have : Fo.okNode d kd.len (kd.sound false) prev = false := by simp [Fo.okNode, HK.out, show d.text = [] from Hs1.out]
                rw [this]
                rfl
            have e1 : TX.toList.isEmpty = false := by rw [← HTX.out]; exact emp_no s1
            have Hs1 := Lib.hid s1
            clear s1
            by_cases s2 : d.space ≠ 0
            · have Hs2 := Lib.hid s2
              have e2 : (d.space != 0) = true := by simpa using s2
              clear s2
              as_aux_lemma =>
                go_wp2_with fail
                go_ret
                refine ⟨?_, HB2.out⟩
                rw [HD.out, HS.out]
                have : Fo.okNode d kd.len (kd.sound false) prev = false := by simp [Fo.okNode, HK.out, show d.space ≠ 0 from Hs2.out]
                rw [this]
                rfl
            have e2 : (d.space != 0) = false := by simpa using s2
            have Hs2 := Lib.hid s2
            clear s2
            by_cases s3 : d.name ≠ []
            · have Hs3 := Lib.hid s3
              have e3 : NM.toList.isEmpty = false := by rw [← HNM.out]; exact emp_no s3
              clear s3
              as_aux_lemma =>
                go_wp2_with fail
                go_ret
                refine ⟨?_, HB2.out⟩
                rw [HD.out, HS.out]
                have : Fo.okNode d kd.len (kd.sound false) prev = false := by simp [Fo.okNode, HK.out, show d.name ≠ [] from Hs3.out]
                rw [this]
                rfl
            have e3 : NM.toList.isEmpty = true := by rw [← HNM.out]; exact emp_yes (Classical.not_not.1 s3)
            have Hs3 := Lib.hid s3
            clear s3
            by_cases s4 : d.attrs.length + kd.len ≠ 0
            · have Hs4 := Lib.hid s4
              have e4 : (0 : Int) < (d.attrs.length : Int) + (kd.len : Int) := by omega
              clear s4
              as_aux_lemma =>
                go_wp2_with fail
                go_ret
                refine ⟨?_, HB2.out⟩
                rw [HD.out, HS.out]
                have : Fo.okNode d kd.len (kd.sound false) prev = false := by unfold Fo.okNode; simp only [HK.out, decide_eq_false (show ¬ (d.attrs.length + kd.len = 0) from Hs4.out)]; simp
                rw [this]
                rfl
            have e4 : ¬ (0 : Int) < (d.attrs.length : Int) + (kd.len : Int) := by omega
            have Hs4 := Lib.hid s4
            clear s4
            by_cases s5 : d.frm < 0
            · have Hs5 := Lib.hid s5
              have e5 : d.frm < 0 := s5
              clear s5
              as_aux_lemma =>
                go_wp2_with fail
                go_ret
                refine ⟨?_, HB2.out⟩
                rw [HD.out, HS.out]
                have : Fo.okNode d kd.len (kd.sound false) prev = false := by simp [Fo.okNode, HK.out, show ¬ (0 : Int) ≤ d.frm by have := Hs5.out; omega]
                rw [this]
                rfl
            have e5 : ¬ d.frm < 0 := s5
            have Hs5 := Lib.hid s5
            clear s5
            have hpp := HP.out
            rcases hpp with ⟨hk0, rfl⟩ | ⟨m, g1, o1, z, rfl, hp1, hg1, hc1, rfl⟩
            · have e6 : ¬ (0 : Int) < (k : Int) := by omega
              clear hk0
              as_aux_lemma =>
                have HOK : Hid (Fo.okNode d kd.len (kd.sound false) false = true) := Lib.hid (by simp [Fo.okNode, HK.out, show d.text ≠ [] from Hs1.out, show d.space = 0 from Classical.byContradiction Hs2.out, show d.name = [] from Classical.byContradiction Hs3.out, show d.attrs.length + kd.len = 0 from Classical.byContradiction Hs4.out, show (0 : Int) ≤ d.frm by have := Hs5.out; omega])
                have HBX : Hid (Below wr.heap.size wr _) := Lib.hid ((Below.refl wr.heap.size wr).alloc (Nat.le_refl _) (.cells #[.int .i64 d.kind, .int .i64 d.space, .string NM, .slice pa d.attrs.length ca, .string TX, .int .i64 d.frm, .slice pk kd.len ck] 49))
                go_wp2_with fail
                exact ⟨⟨k + 1, r', decide (d.kind = 2), by omega, by omega, by go_num, by rw [HD.out, HS.out, HOK.out]; rfl, .inr ⟨k, g, o, d.kind, rfl, rfl, Nat.lt_of_lt_of_le hg HBX.out.size, (HBX.out.cell (p := ⟨g, o + k * 7, none⟩) hg).trans HC0.out, rfl⟩, HTL.out.kept (.of_below HBX.out), HB.out.trans (HBX.out.mono HB.out.size)⟩, by simp [intOf]; omega⟩
            · have e1 : g = g1 ∧ o = o1 := by injection hp1 with h; injection h with h1 h2; exact ⟨h1, h2⟩
              obtain ⟨rfl, rfl⟩ := e1
              have m0 : (0 : Int) < ((m + 1 : Nat) : Int) := by omega
              by_cases hz : z = 2
              · have HZ := Lib.hid hz
                have qz : (z == 2) = true := by simp [hz]
                clear hz
                as_aux_lemma =>
                  go_wp2_with fail
                  go_ret
                  refine ⟨?_, HB2.out⟩
                  rw [HD.out, HS.out]
                  have : Fo.okNode d kd.len (kd.sound false) (decide (z = 2)) = false := by simp [Fo.okNode, HK.out, show z = 2 from HZ.out]
                  rw [this]
                  rfl
              · have HZ := Lib.hid hz
                have qz : (z == 2) = false := by simp [hz]
                clear hz
                as_aux_lemma =>
                  have HOK : Hid (Fo.okNode d kd.len (kd.sound false) (decide (z = 2)) = true) := Lib.hid (by simp [Fo.okNode, HK.out, show d.text ≠ [] from Hs1.out, show d.space = 0 from Classical.byContradiction Hs2.out, show d.name = [] from Classical.byContradiction Hs3.out, show d.attrs.length + kd.len = 0 from Classical.byContradiction Hs4.out, show (0 : Int) ≤ d.frm by have := Hs5.out; omega, show z ≠ 2 from HZ.out])
                  have HBX : Hid (Below wr.heap.size wr _) := Lib.hid ((Below.refl wr.heap.size wr).alloc (Nat.le_refl _) (.cells #[.int .i64 d.kind, .int .i64 d.space, .string NM, .slice pa d.attrs.length ca, .string TX, .int .i64 d.frm, .slice pk kd.len ck] 49))
                  go_wp2_with fail
                  exact ⟨⟨m + 1 + 1, r', decide (d.kind = 2), by omega, by omega, by go_num, by rw [HD.out, HS.out, HOK.out]; rfl, .inr ⟨m + 1, g, o, d.kind, rfl, rfl, Nat.lt_of_lt_of_le hg HBX.out.size, (HBX.out.cell (p := ⟨g, o + (m + 1) * 7, none⟩) hg).trans HC0.out, rfl⟩, HTL.out.kept (.of_below HBX.out), HB.out.trans (HBX.out.mono HB.out.size)⟩, by simp [intOf]; omega⟩
          · have q2 : (d.kind == 2) = false := by simp [hk2]
            by_cases hk3 : d.kind = 3
            · have HK := Lib.hid hk3
              have q3 : (d.kind == 3) = true := by simp [hk3]
              clear hk1 hk2 hk3
              by_cases s2 : d.space ≠ 0
              · have Hs2 := Lib.hid s2
                have e2 : (d.space != 0) = true := by simpa using s2
                clear s2
                as_aux_lemma =>
                  go_wp2_with fail
                  go_ret
                  refine ⟨?_, HB2.out⟩
                  rw [HD.out, HS.out]
                  have : Fo.okNode d kd.len (kd.sound false) prev = false := by simp [Fo.okNode, HK.out, show d.space ≠ 0 from Hs2.out]
                  rw [this]
                  rfl
              have e2 : (d.space != 0) = false := by simpa using s2
              have Hs2 := Lib.hid s2
              clear s2
              by_cases s3 : d.name ≠ []
              · have Hs3 := Lib.hid s3
                have e3 : NM.toList.isEmpty = false := by rw [← HNM.out]; exact emp_no s3
                clear s3
                as_aux_lemma =>
                  go_wp2_with fail
                  go_ret
                  refine ⟨?_, HB2.out⟩
                  rw [HD.out, HS.out]
                  have : Fo.okNode d kd.len (kd.sound false) prev = false := by simp [Fo.okNode, HK.out, show d.name ≠ [] from Hs3.out]
                  rw [this]
                  rfl
              have e3 : NM.toList.isEmpty = true := by rw [← HNM.out]; exact emp_yes (Classical.not_not.1 s3)
              have Hs3 := Lib.hid s3
              clear s3
              by_cases s4 : d.attrs.length + kd.len ≠ 0
              · have Hs4 := Lib.hid s4
                have e4 : (0 : Int) < (d.attrs.length : Int) + (kd.len : Int) := by omega
                clear s4
                as_aux_lemma =>
                  go_wp2_with fail
                  go_ret
                  refine ⟨?_, HB2.out⟩
                  rw [HD.out, HS.out]
                  have : Fo.okNode d kd.len (kd.sound false) prev = false := by unfold Fo.okNode; simp only [HK.out, decide_eq_false (show ¬ (d.attrs.length + kd.len = 0) from Hs4.out)]; simp
                  rw [this]
                  rfl
              have e4 : ¬ (0 : Int) < (d.attrs.length : Int) + (kd.len : Int) := by omega
              have Hs4 := Lib.hid s4
              clear s4
              by_cases s5 : d.frm ≠ 0
              · have Hs5 := Lib.hid s5
                have e5 : (d.frm != 0) = true := by simpa using s5
                clear s5
                as_aux_lemma =>
                  go_wp2_with fail
                  go_ret
                  refine ⟨?_, HB2.out⟩
                  rw [HD.out, HS.out]
                  have : Fo.okNode d kd.len (kd.sound false) prev = false := by simp [Fo.okNode, HK.out, show d.frm ≠ 0 from Hs5.out]
                  rw [this]
                  rfl
              have e5 : (d.frm != 0) = false := by simpa using s5
              have Hs5 := Lib.hid s5
              clear s5
              as_aux_lemma =>
                have HOK : Hid (Fo.okNode d kd.len (kd.sound false) prev = true) := Lib.hid (by simp [Fo.okNode, HK.out, show d.space = 0 from Classical.byContradiction Hs2.out, show d.name = [] from Classical.byContradiction Hs3.out, show d.attrs.length + kd.len = 0 from Classical.byContradiction Hs4.out, show d.frm = 0 from Classical.byContradiction Hs5.out])
                have HBX : Hid (Below wr.heap.size wr _) := Lib.hid ((Below.refl wr.heap.size wr).alloc (Nat.le_refl _) (.cells #[.int .i64 d.kind, .int .i64 d.space, .string NM, .slice pa d.attrs.length ca, .string TX, .int .i64 d.frm, .slice pk kd.len ck] 49))
                go_wp2_with fail
                exact ⟨⟨k + 1, r', decide (d.kind = 2), by omega, by omega, by go_num, by rw [HD.out, HS.out, HOK.out]; rfl, .inr ⟨k, g, o, d.kind, rfl, rfl, Nat.lt_of_lt_of_le hg HBX.out.size, (HBX.out.cell (p := ⟨g, o + k * 7, none⟩) hg).trans HC0.out, rfl⟩, HTL.out.kept (.of_below HBX.out), HB.out.trans (HBX.out.mono HB.out.size)⟩, by simp [intOf]; omega⟩
            · have q3 : (d.kind == 3) = false := by simp [hk3]
              have HK : Hid (d.kind ≠ 1 ∧ d.kind ≠ 2 ∧ d.kind ≠ 3) := Lib.hid ⟨hk1, hk2, hk3⟩
              clear hk1 hk2 hk3
              as_aux_lemma =>
                go_wp2_with fail
                go_ret
                refine ⟨?_, HB2.out⟩
                rw [HD.out, HS.out]
                have : Fo.okNode d kd.len (kd.sound false) prev = false := by simp [Fo.okNode, HK.out.1, HK.out.2.1, HK.out.2.2]
                rw [this]
                rfl
theorem rsound_all : ∀ (n : Nat) (f : Fo) (P : Nat → Prop) (v : Value) (w : World), f.wt < n → f.wt ≤ 4294967296 → NodesP P w v f → Calls Try.prog 20 #[v] w (Brings (.bool (f.sound false)) w)
  | 0, f, P, v, w, hn, _, _ => absurd hn (by omega)
  | n + 1, f, P, v, w, hn, hs, h => rsound_step n (rsound_all n) f P v w hn hs h
theorem rsoundP (f : Fo) (P : Nat → Prop) (v : Value) (w : World) (hs : f.wt ≤ 4294967296) (h : NodesP P w v f) : Calls Try.prog 20 #[v] w (Brings (.bool (f.sound false)) w) := rsound_all _ f P v w (Nat.lt_succ_self _) hs h
end Go.Proofs.Yteikhlonccacbaa
