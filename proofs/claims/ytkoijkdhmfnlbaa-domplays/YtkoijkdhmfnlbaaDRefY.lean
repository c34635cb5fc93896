/-
  The walk of the reference's Write for nodes by numbers. Any nodes, not too many.
-/
import Derived.Test.YtkoijkdhmfnlbaaDRefX
namespace Go.Proofs.Ytkoijkdhmfnlbaa
open Go.RowKit

theorem writeD_no {S : List Cl} {s : List UInt8} {up ahead : Int} (h : isEl S up = false) : writeD S s up ahead = (S, false) := by
  unfold writeD
  rw [if_neg (by rw [h]; decide)]
theorem writeD_off {S : List Cl} {s : List UInt8} {u : Nat} {ahead : Int} (h : isEl S (u : Int) = true) (hs : spot S u ahead = none) : writeD S s (u : Int) ahead = (S, false) := by
  unfold writeD
  rw [if_pos h, show ((u : Int)).toNat = u from rfl, hs]
theorem writeD_nil {S : List Cl} {u i : Nat} {ahead : Int} (h : isEl S (u : Int) = true) (hs : spot S u ahead = some i) : writeD S [] (u : Int) ahead = (S, true) := by
  unfold writeD
  rw [if_pos h, show ((u : Int)).toNat = u from rfl, hs]
  rfl
theorem writeD_first {S : List Cl} {s : List UInt8} {u : Nat} {ahead : Int} (h : isEl S (u : Int) = true) (hs : spot S u ahead = some 0) (h0 : s ≠ []) : writeD S s (u : Int) ahead = (link (lay S (textNd s)) S.length u 0, true) := by
  unfold writeD
  rw [if_pos h, show ((u : Int)).toNat = u from rfl, hs]
  simp only [if_neg h0]
  rfl
theorem writeD_text {S : List Cl} {s : List UInt8} {u i k : Nat} {ahead : Int} (h : isEl S (u : Int) = true) (hs : spot S u ahead = some (i + 1)) (h0 : s ≠ []) (hk : (rowAt S u)[i]? = some k) (ht : (ndOf S k).kind = 2) : writeD S s (u : Int) ahead = (addText S k s, true) := by
  unfold writeD
  rw [if_pos h, show ((u : Int)).toNat = u from rfl, hs]
  simp only [if_neg h0, Nat.add_sub_cancel, hk, if_pos ht, if_neg (Nat.succ_ne_zero i)]
theorem writeD_more {S : List Cl} {s : List UInt8} {u i k : Nat} {ahead : Int} (h : isEl S (u : Int) = true) (hs : spot S u ahead = some (i + 1)) (h0 : s ≠ []) (hk : (rowAt S u)[i]? = some k) (ht : (ndOf S k).kind ≠ 2) : writeD S s (u : Int) ahead = (link (lay S (textNd s)) S.length u (i + 1), true) := by
  unfold writeD
  rw [if_pos h, show ((u : Int)).toNat = u from rfl, hs]
  simp only [if_neg h0, Nat.add_sub_cancel, hk, if_neg ht, if_neg (Nat.succ_ne_zero i)]
  rfl
theorem wrap_nat {i : Nat} (h : i < 100000) : wrap64 (i : Int) = (i : Int) := by unfold wrap64; omega
theorem wrap_pred {m i : Nat} (e : m = i + 1) (h : i < 100000) : wrap64 ((m : Int) - 1) = (i : Int) := by unfold wrap64; omega
set_option maxHeartbeats 4000000 in
set_option maxRecDepth 100000 in
theorem rwriteP6 (S : List Cl) (B : Nat) (M P : Nat → Prop) (w : World) (s : List UInt8) (up ahead : Int) (h : RefD M P w B S) (hI : Inv S) (hrow : ∀ c ∈ S, c.row.length ≤ 100000) (hs : S.length < 100000) (htx : ∀ c ∈ S, c.d.text.length ≤ 4294967296) (hsl : s.length ≤ 4294967296) :
    Calls Try.prog 23 #[.pointer (some ⟨B, 0, none⟩), .string ⟨s.toArray⟩, .int .i64 up, .int .i64 ahead] w (WriteOut6 S w M P B s up ahead) := by
  have HS := Lib.hid (RStep6.same h)
  have HRD := Lib.hid h.rdoc
  have HEL := Lib.hid (relem_any S B w up h.rdoc)
  cases he : isEl S up
  · rw [he] at HEL
    have HO := Lib.hid (WriteOut6.is (writeD_no (s := s) (ahead := ahead) he) HS.out)
    obtain ⟨Q, hQ⟩ : ∃ Q, Q = WriteOut6 S w M P B s up ahead := ⟨_, rfl⟩
    rw [← hQ] at HO ⊢
    clear h hI hrow hQ HS HRD he
    generalize (⟨s.toArray⟩ : ByteArray) = SB at *
    go_enter Try.func23, Try.ntmps23
    go_wp2_with fail
    refine HEL.out.mono ?_
    rintro e w1 ⟨rfl, rfl⟩
    go_wp2_with fail
    exact HO.out
  · rw [he] at HEL
    have hup : isN S up = true := by
      unfold isEl at he
      rw [Bool.and_eq_true] at he
      exact he.1
    obtain ⟨u0, u1⟩ := (isN_iff S up).1 hup
    obtain ⟨u, rfl⟩ : ∃ u : Nat, up = (u : Int) := ⟨up.toNat, by omega⟩
    have hu : u < S.length := by omega
    have hk1 : S[u].d.kind = 1 := by
      unfold isEl at he
      rw [Bool.and_eq_true, decide_eq_true_eq, show ((u : Int)).toNat = u from rfl, nd_get hu] at he
      exact he.2
    have HPL := Lib.hid (rplace_any S B w u ahead HRD.out hu (by have := hrow S[u] (List.getElem_mem hu); omega))
    cases hsp : spot S u ahead with
    | none =>
      rw [hsp] at HPL
      have p3 : placeI none = -1 := rfl
      rw [p3] at HPL
      have HO := Lib.hid (WriteOut6.is (writeD_off (s := s) he hsp) HS.out)
      obtain ⟨Q, hQ⟩ : ∃ Q, Q = WriteOut6 S w M P B s (u : Int) ahead := ⟨_, rfl⟩
      rw [← hQ] at HO ⊢
      clear h hI hrow hQ HS HRD he hsp hup u0 u1 hk1
      generalize (⟨s.toArray⟩ : ByteArray) = SB at *
      go_enter Try.func23, Try.ntmps23
      go_wp2_with fail
      refine HEL.out.mono ?_
      rintro e w1 ⟨rfl, rfl⟩
      go_wp2_with fail
      refine HPL.out.mono ?_
      rintro e w1 ⟨rfl, rfl⟩
      go_wp2_with fail
      exact HO.out
    | some i =>
      rw [hsp] at HPL
      have p3 : placeI (some i) = (i : Int) := rfl
      rw [p3] at HPL
      have p4 : (0 : Int) ≤ (i : Int) := by omega
      by_cases hs0 : s = []
      · subst hs0
        have q1 : ((⟨([] : List UInt8).toArray⟩ : ByteArray).toList == []) = true := by rw [Lib.toList_data]; rfl
        have HO := Lib.hid (WriteOut6.is (writeD_nil he hsp) HS.out)
        obtain ⟨Q, hQ⟩ : ∃ Q, Q = WriteOut6 S w M P B [] (u : Int) ahead := ⟨_, rfl⟩
        rw [← hQ] at HO ⊢
        clear h hI hrow hQ HS HRD he hsp hup u0 u1 hk1
        generalize (⟨([] : List UInt8).toArray⟩ : ByteArray) = SB at *
        go_enter Try.func23, Try.ntmps23
        go_wp2_with fail
        refine HEL.out.mono ?_
        rintro e w1 ⟨rfl, rfl⟩
        go_wp2_with fail
        refine HPL.out.mono ?_
        rintro e w1 ⟨rfl, rfl⟩
        go_wp2_with fail
        exact HO.out
      · have q1 : ((⟨s.toArray⟩ : ByteArray).toList == []) = false := by
          rw [Lib.toList_data]
          cases s with
          | nil => exact absurd rfl hs0
          | cons _ _ => rfl
        have HLAY := Lib.hid (rlayP S B M P w (textNd s) none 0 h hs (AttrsP.nil _ _ _ _))
        have HPUT : Hid (∀ w1, RStep6 w M P B (lay S (textNd s)) w1 → Calls Try.prog 24 #[.pointer (some ⟨B, 0, none⟩), .int .i64 (S.length : Int), .int .i64 (u : Int), .int .i64 ahead] w1 (fun e w2 => e = .returned (.bool true) ∧ RStep6 w M P B (link (lay S (textNd s)) S.length u i) w2)) := Lib.hid fun w1 k => rput_laid S B M P w w1 (textNd s) u i ahead k hI hrow hu hk1 hsp
        obtain ⟨vN, vU, vR, qs, rv, hq⟩ := h
        obtain ⟨gN, cN, gU, cU, gR, cR, rfl, rfl, rfl⟩ := hq.forms
        have hbk := hq.own.at_ (List.mem_singleton.2 rfl)
        have hB0 := (block_cell6 hbk 0).1
        have hB2 := (block_cell6 hbk 2).1
        simp at hB0 hB2
        cases i with
        | zero =>
          have HO : Hid (∀ w2, RStep6 w M P B (link (lay S (textNd s)) S.length u 0) w2 → WriteOut6 S w M P B s (u : Int) ahead (.returned (.bool true)) w2) := Lib.hid fun w2 k => WriteOut6.is (writeD_first he hsp hs0) k
          obtain ⟨Q, hQ⟩ : ∃ Q, Q = WriteOut6 S w M P B s (u : Int) ahead := ⟨_, rfl⟩
          rw [← hQ] at HO ⊢
          rw [show (textNd s).text = s from rfl] at HLAY
          clear hI hrow hQ HS HRD he hsp hup u0 u1 hk1 hq hbk
          generalize (⟨s.toArray⟩ : ByteArray) = SB at *
          go_enter Try.func23, Try.ntmps23
          go_wp2_with fail
          refine HEL.out.mono ?_
          rintro e w1 ⟨rfl, rfl⟩
          go_wp2_with fail
          refine HPL.out.mono ?_
          rintro e w1 ⟨rfl, rfl⟩
          go_wp2_with fail
          refine HLAY.out.mono ?_
          rintro e w1 ⟨rfl, k1⟩
          have HK1 := Lib.hid k1
          clear k1
          go_wp2_with fail
          refine (HPUT.out w1 HK1.out).mono ?_
          rintro e w2 ⟨rfl, k2⟩
          have HK2 := Lib.hid (HO.out w2 k2)
          clear k2
          go_wp2_with fail
          exact HK2.out
        | succ i =>
          have hil : i < S[u].row.length := by
            have hsp2 := hsp
            unfold spot at hsp2
            rw [row_get hu] at hsp2
            split at hsp2
            · injection hsp2 with hsp2; omega
            · obtain ⟨x, hx, _⟩ := place_at _ _ _ hsp2
              have := lt_of_some hx; omega
          obtain ⟨k, hk⟩ : ∃ k, k = S[u].row[i] := ⟨_, rfl⟩
          have hkr : (rowAt S u)[i]? = some k := by rw [row_get hu, List.getElem?_eq_getElem hil, hk]
          have hkl : k < S.length := by
            obtain ⟨hh, hi⟩ := hI
            exact (hi.row_h (List.getElem?_eq_getElem hu) (hk ▸ List.getElem_mem hil)).1
          obtain ⟨_, hqk⟩ := hq.node k hkl
          have hR := hq.rdoc
          obtain ⟨_, gN', cN', gU', cU', gR', cR', e0, _, e2, hall⟩ := hR
          rw [hB0] at e0
          rw [hB2] at e2
          obtain ⟨rfl, _⟩ : gN = gN' ∧ cN = cN' := by simpa using e0
          obtain ⟨rfl, _⟩ : gR = gR' ∧ cR = cR' := by simpa using e2
          obtain ⟨⟨va, h7, _⟩, _, _⟩ := hall k hkl
          obtain ⟨_, _, v, hv, p, cap, rfl, hrr⟩ := hall u hu
          obtain ⟨g, o, rfl, hglt, hgc⟩ := hrr (by omega)
          have hci : w.cell? ⟨g, o + i, none⟩ = some (.int .i64 (k : Int)) := by rw [hgc i hil, hk]
          have hc0 := h7.c0
          have hc4 := h7.c4
          rw [Nat.zero_add] at hc0 hc4 hv
          have hfr := hq.own.rN.frozenAt (k * 7 + 4)
          have hrl : S[u].row.length ≤ 100000 := hrow S[u] (List.getElem_mem hu)
          have p0 : (0 : Int) ≤ (i : Int) := by omega
          have p7 : (i : Int) < (S[u].row.length : Int) := by omega
          have p8 : (k : Int) < (S.length : Int) := by omega
          have pk : (0 : Int) ≤ (k : Int) := by omega
          obtain ⟨m, hm⟩ : ∃ m : Int, m = ((i + 1 : Nat) : Int) := ⟨_, rfl⟩
          rw [← hm] at HPL
          have pm : (0 : Int) < m := by omega
          have pm2 : (0 : Int) ≤ m := by omega
          have q9 : wrap64 (m - 1) = (i : Int) := by rw [hm]; exact wrap_pred rfl (by omega)
          clear p4 p3
          have HTX := Lib.hid (RStep6.trans (fun _ _ k => k) (fun _ _ k => k) (Turns.of_below ((Below.refl _ w).drew)) ((hq.on ((Below.refl _ w).drew)).texted hkl s))
          have hsz : ¬ (9223372036854775807 < (⟨S[k].d.text.toArray⟩ : ByteArray).size + (⟨s.toArray⟩ : ByteArray).size) := by
            have h1 := htx S[k] (List.getElem_mem hkl)
            show ¬ (9223372036854775807 < S[k].d.text.toArray.size + s.toArray.size)
            rw [List.size_toArray, List.size_toArray]
            omega
          rw [show (⟨(S[k].d.text ++ s).toArray⟩ : ByteArray) = ⟨S[k].d.text.toArray⟩ ++ ⟨s.toArray⟩ by apply ByteArray.ext; simp [ByteArray.data_append]] at HTX
          clear htx hsl
          by_cases hkd : S[k].d.kind = 2
          · have HO : Hid (∀ w2, RStep6 w M P B (addText S k s) w2 → WriteOut6 S w M P B s (u : Int) ahead (.returned (.bool true)) w2) := Lib.hid fun w2 q => WriteOut6.is (writeD_text he hsp hs0 hkr (by rw [nd_get hkl]; exact hkd)) q
            obtain ⟨Q, hQ⟩ : ∃ Q, Q = WriteOut6 S w M P B s (u : Int) ahead := ⟨_, rfl⟩
            rw [← hQ] at HO ⊢
            have q2 : (S[k].d.kind == 2) = true := by rw [beq_iff_eq]; exact hkd
            clear hI hrow hQ HS HRD he hsp hup hk1 hq hbk hqk hall hrr hgc h7 e0 e2 hkr hk hkd hm hil hrl HLAY HPUT
            generalize (⟨s.toArray⟩ : ByteArray) = SB at *
            generalize (⟨S[k].d.text.toArray⟩ : ByteArray) = TX at *
            generalize S[k].d.kind = KD at *
            generalize S[u].row.length = RL at *
            go_enter Try.func23, Try.ntmps23
            go_wp2_with fail
            refine HEL.out.mono ?_
            rintro e w1 ⟨rfl, rfl⟩
            go_wp2_with fail
            refine HPL.out.mono ?_
            rintro e w1 ⟨rfl, rfl⟩
            have HE := Lib.hid (HO.out _ HTX.out)
            clear HO HTX
            go_wp2_with fail
            go_region
            go_wp2_with fail
            exact HE.out
          · have HO : Hid (∀ w2, RStep6 w M P B (link (lay S (textNd s)) S.length u (i + 1)) w2 → WriteOut6 S w M P B s (u : Int) ahead (.returned (.bool true)) w2) := Lib.hid fun w2 q => WriteOut6.is (writeD_more he hsp hs0 hkr (by rw [nd_get hkl]; exact hkd)) q
            obtain ⟨Q, hQ⟩ : ∃ Q, Q = WriteOut6 S w M P B s (u : Int) ahead := ⟨_, rfl⟩
            rw [← hQ] at HO ⊢
            rw [show (textNd s).text = s from rfl] at HLAY
            have q2 : (S[k].d.kind == 2) = false := by rw [beq_eq_false_iff_ne]; exact hkd
            clear hI hrow hQ HS HRD he hsp hup hk1 hq hbk HTX hqk hall hrr hgc h7 e0 e2 hkr hk hfr hkd hm hil hrl hc4 hsz
            generalize (⟨s.toArray⟩ : ByteArray) = SB at *
            generalize S[k].d.kind = KD at *
            generalize S[u].row.length = RL at *
            go_enter Try.func23, Try.ntmps23
            go_wp2_with fail
            refine HEL.out.mono ?_
            rintro e w1 ⟨rfl, rfl⟩
            go_wp2_with fail
            refine HPL.out.mono ?_
            rintro e w1 ⟨rfl, rfl⟩
            go_wp2_with fail
            refine HLAY.out.mono ?_
            rintro e w1 ⟨rfl, k1⟩
            have HK1 := Lib.hid k1
            clear k1
            go_wp2_with fail
            refine (HPUT.out w1 HK1.out).mono ?_
            rintro e w2 ⟨rfl, k2⟩
            have HK2 := Lib.hid (HO.out w2 k2)
            clear k2
            go_wp2_with fail
            exact HK2.out
end Go.Proofs.Ytkoijkdhmfnlbaa
