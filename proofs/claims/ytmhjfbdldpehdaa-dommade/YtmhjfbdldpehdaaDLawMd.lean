/-
  The walk of the law DomMade: true, and nothing old is changed. Any numbers.
-/
import Derived.Test.YtmhjfbdldpehdaaDMFit
import Derived.Test.YtmhjfbdldpehdaaDPKnown
import Derived.Test.YtmhjfbdldpehdaaDPNum
import Derived.Test.YtmhjfbdldpehdaaDPSound2
import Derived.Deep.CutBlock
namespace Go.Proofs.Ytmhjfbdldpehdaa
open Go.RowKit

theorem nodes_made {P : Nat → Prop} {W : World} {g c : Nat} (qs : List ((Nd × Value × Value) × Fo)) {cs : Array Value} {T : TypeId} (h : W.heap[g]? = some (.cells cs T (0, 0))) (hP : P g) (hc : cs.toList = nodeCells (qs.map (·.1)))
    (ha : ∀ q ∈ qs, AttrsP P W q.1.2.1 q.1.1.attrs ∧ NodesP P W q.1.2.2 q.2) : NodesP P W (.slice (some ⟨g, 0, none⟩) qs.length c) (Fo.ofList (qs.map fun q => (q.1.1, q.2))) := by
  have hg : g < W.heap.size := by
    rcases Nat.lt_or_ge g W.heap.size with k | k
    · exact k
    · rw [Array.getElem?_eq_none k] at h; cases h
  refine ⟨some ⟨g, 0, none⟩, c, by rw [Fo.of_len, List.length_map], fun _ => ⟨g, 0, rfl, hP, hg, ?_⟩⟩
  refine nodesFrom_of P W g qs 0 fun j hj => ?_
  have hj2 : j < (qs.map (·.1)).length := by simpa using hj
  have key : ∀ i, i < 7 → W.cell? ⟨g, 0 + (0 + j) * 7 + i, none⟩ = (nodeCell qs[j].1)[i]? := by
    intro i hi
    rw [show 0 + (0 + j) * 7 + i = j * 7 + i by omega, (block_cellZ h _).1, ← Array.getElem?_toList, hc, nodeCells_at (qs.map (·.1)) j i hj2 hi, List.getElem_map]
  exact ⟨⟨key 0 (by omega), key 1 (by omega), key 2 (by omega), key 3 (by omega), key 4 (by omega), key 5 (by omega), key 6 (by omega)⟩, ha _ (List.getElem_mem hj)⟩
theorem number_fits : ∀ (f : Fo) (n : Int), f.fits → (f.number n).1.fits
  | .nil, _, _ => trivial
  | .cons d k r, n, ⟨h1, h2, h3, h4⟩ => by
    show Fo.fits (.cons _ _ _)
    exact ⟨by rw [Fo.numD_attrs]; exact h1, by rw [Fo.number_len]; exact h2, number_fits k _ h3, number_fits r _ h4⟩
def mdX : Nd := ⟨2, 0, [], [], [120], 0⟩
def mdP : Nd := ⟨1, 1, [112], [], [], 0⟩
def mdQ : Nd := ⟨1, 1, [], [], [], 0⟩
def mdR : Nd := ⟨1, 1, [112], [([97], []), ([97], [])], [], 0⟩
def md4 : Nd := ⟨4, 0, [], [], [], 0⟩
theorem made_sounds (f : Fo) (h : f.sound false = true) :
    (Fo.ofList [(mdX, .nil), (mdP, f), (mdX, .nil)]).sound false = true ∧ (Fo.ofList [(mdP, f), (mdX, .nil), (mdX, .nil)]).sound false = false ∧ (Fo.ofList [(mdQ, f)]).sound false = false ∧ (Fo.ofList [(mdP, f), (mdR, .nil)]).sound false = false ∧ (Fo.ofList [(md4, .nil)]).sound false = false := by
  refine ⟨?_, ?_, ?_, ?_, ?_⟩ <;> simp [Fo.ofList, Fo.sound, Fo.okNode, mdX, mdP, mdQ, mdR, md4, h, onceA, Fo.len]
def allocsZ (w : World) : List Obj → World
  | [] => w
  | o :: r => allocsZ (w.alloc o) r
theorem allocsZ_below (w : World) (r : List Obj) : Below w.heap.size w (allocsZ w r) := by
  induction r generalizing w with
  | nil => exact Below.refl _ w
  | cons o r ih => exact ((Below.refl _ w).alloc (Nat.le_refl _) o).trans ((ih (w.alloc o)).mono (by simp))
theorem allocsZ_heap (w : World) (r : List Obj) (i : Nat) (o : Obj) (h : r[i]? = some o) : (allocsZ w r).heap[w.heap.size + i]? = some o := by
  induction r generalizing w i with
  | nil => simp at h
  | cons o' r ih =>
    cases i with
    | zero =>
      rw [List.getElem?_cons_zero] at h
      have := Option.some.inj h
      subst this
      have hb := allocsZ_below (w.alloc o') r
      rw [allocsZ, Nat.add_zero, hb.block w.heap.size (by simp)]
      exact heap_alloc_new w o'
    | succ i =>
      rw [List.getElem?_cons_succ] at h
      have := ih (w.alloc o') i h
      rw [show (w.alloc o').heap.size = w.heap.size + 1 by simp] at this
      rw [allocsZ, show w.heap.size + (i + 1) = w.heap.size + 1 + i by omega]
      exact this
def cX : Array Value := #[.int .i64 2, .int .i64 0, .string ⟨#[]⟩, .slice none 0 0, .string ⟨#[120]⟩, .int .i64 0, .slice none 0 0]
def cP (v : Value) : Array Value := #[.int .i64 1, .int .i64 1, .string ⟨#[112]⟩, .slice none 0 0, .string ⟨#[]⟩, .int .i64 0, v]
def cQ (v : Value) : Array Value := #[.int .i64 1, .int .i64 1, .string ⟨#[]⟩, .slice none 0 0, .string ⟨#[]⟩, .int .i64 0, v]
def cA : Array Value := #[.string ⟨#[97]⟩, .string ⟨#[]⟩, .string ⟨#[97]⟩, .string ⟨#[]⟩]
def cR (v : Value) : Array Value := #[.int .i64 1, .int .i64 1, .string ⟨#[112]⟩, v, .string ⟨#[]⟩, .int .i64 0, .slice none 0 0]
theorem wt_list (b : Nat) : ∀ qs : List ((Nd × Value × Value) × Fo), (∀ q ∈ qs, 1 + q.1.1.attrs.length + q.2.wt ≤ b) → (Fo.ofList (qs.map fun q => (q.1.1, q.2))).wt ≤ qs.length * b
  | [], _ => Nat.zero_le _
  | q :: r, h => by
    have h1 := h q (by simp)
    have h2 := wt_list b r (fun x hx => h x (by simp [hx]))
    show 1 + q.1.1.attrs.length + q.2.wt + (Fo.ofList (r.map fun q => (q.1.1, q.2))).wt ≤ (r.length + 1) * b
    rw [Nat.succ_mul]
    omega
set_option maxHeartbeats 4000000 in
set_option maxRecDepth 100000 in
theorem domMade_walk (v : Value) (n : Nat) (w : World) (hv0 : IntsIn w v n) : Calls Try.prog 4 #[v] w (Yes w) := by
  obtain ⟨zs, _, hv⟩ := hv0.zs
  obtain ⟨hF1, hF2, hF3, hF4⟩ := madeF_ok zs
  have HM := Lib.hid (fun W hb => madeP v zs w W hv hb)
  have HK := Lib.hid (known6_yes w)
  have HNS := Lib.hid (Fo.number_sound (madeF zs) 1 false (by omega) hF1)
  have HFN : Hid ((madeF zs).number 1 = (madeF zs).number 1) := Lib.hid rfl
  have hwn := Fo.number_wt (madeF zs) 1
  have HMS := Lib.hid (made_sounds (madeF zs) hF1)
  have HFF := Lib.hid (And.intro hF1 hF3)
  have HNF : Hid ((((madeF zs).number 1).1).fits) := Lib.hid (number_fits _ 1 hF3)
  clear hv0 hv HFN
  generalize madeF zs = F at *
  clear hF1 hF3
  go_enter Try.func4, Try.ntmps4
  go_wp2_with fail
  refine HK.out.mono ?_
  rintro e w1 ⟨rfl, b1⟩
  have B1 := Lib.hid b1
  clear b1 HK
  go_wp2_with fail
  refine (HM.out w1 B1.out).mono ?_
  rintro e w2 ⟨pl, cl, rfl, hn2, b2⟩
  have B2 := Lib.hid (B1.out.trans (b2.mono B1.out.size))
  have HL2 : Hid (NodesP (fun _ => True) w2 (.slice pl F.len cl) F) := Lib.hid (hn2.mono fun _ _ _ => trivial)
  have HS1 := Lib.hid (dsoundP F _ _ w2 (by omega) HFF.out.2 HL2.out)
  rw [HFF.out.1] at HS1
  clear hn2 b2 B1 HM
  go_wp2_with fail
  refine HS1.out.mono ?_
  rintro e w3 ⟨rfl, b3⟩
  have B3 := Lib.hid (B2.out.trans (b3.mono B2.out.size))
  have HL3 := Lib.hid (HL2.out.kept (.of_below b3))
  have HNU := Lib.hid (dnumberP F _ _ w3 (by omega) HL3.out)
  clear b3 B2 HL2 HS1
  go_wp2_with fail
  refine HNU.out.mono ?_
  rintro e w4 ⟨vn, rfl, hn4, b4⟩
  have B4 := Lib.hid (B3.out.trans (b4.mono B3.out.size))
  have HL4 := Lib.hid (HL3.out.kept (.of_below b4))
  obtain ⟨pn, ln, cn, rfl⟩ := hn4.slice
  have HS4 := Lib.hid (dsoundP (F.number 1).1 _ _ w4 (by omega) HNF.out hn4)
  rw [HNS.out] at HS4
  clear b4 B3 HL3 hn4 HNU
  go_wp2_with fail
  refine HS4.out.mono ?_
  rintro e w5 ⟨rfl, b5⟩
  have B5 := Lib.hid (B4.out.trans (b5.mono B4.out.size))
  have HL5 := Lib.hid (HL4.out.kept (.of_below b5))
  clear b5 B4 HL4 HS4 HNS HNF
  go_upto_region 10 with fail
  obtain ⟨W6, hW6⟩ : ∃ W6, W6 = allocsZ w5 [.cells cX 44, .cells (cP (.slice pl F.len cl)) 44, .cells (cQ (.slice pl F.len cl)) 44, .cells cA 46, .cells (cR (.slice (some ⟨w5.heap.size + 1 + 1 + 1, 0, none⟩) 2 2)) 44 ] := ⟨_, rfl⟩
  change Code.wp _ _ _ _ (allocsZ w5 [.cells cX 44, .cells (cP (.slice pl F.len cl)) 44, .cells (cQ (.slice pl F.len cl)) 44, .cells cA 46, .cells (cR (.slice (some ⟨w5.heap.size + 1 + 1 + 1, 0, none⟩) 2 2)) 44 ])
  rw [← hW6]
  have hb6 : Below w5.heap.size w5 W6 := by rw [hW6]; exact allocsZ_below w5 _
  have hX : W6.heap[w5.heap.size]? = some (.cells cX 44) := by rw [hW6]; exact allocsZ_heap w5 _ 0 _ rfl
  have hP : W6.heap[w5.heap.size + 1]? = some (.cells (cP (.slice pl F.len cl)) 44) := by rw [hW6]; exact allocsZ_heap w5 _ 1 _ rfl
  have hQ : W6.heap[w5.heap.size + 1 + 1]? = some (.cells (cQ (.slice pl F.len cl)) 44) := by rw [hW6]; exact allocsZ_heap w5 _ 2 _ rfl
  have hA : W6.heap[w5.heap.size + 1 + 1 + 1]? = some (.cells cA 46) := by rw [hW6]; exact allocsZ_heap w5 _ 3 _ rfl
  have hR : W6.heap[w5.heap.size + 1 + 1 + 1 + 1]? = some (.cells (cR (.slice (some ⟨w5.heap.size + 1 + 1 + 1, 0, none⟩) 2 2)) 44) := by rw [hW6]; exact allocsZ_heap w5 _ 4 _ rfl
  have hlt : ∀ g o, W6.heap[g]? = some o → g < W6.heap.size := fun g o h => by
    rcases Nat.lt_or_ge g W6.heap.size with k | k
    · exact k
    · rw [Array.getElem?_eq_none k] at h; cases h
  have HX : Hid (W6.heap[w5.heap.size]? = some (.cells cX 44) ∧ w5.heap.size < W6.heap.size) := Lib.hid ⟨hX, hlt _ _ hX⟩
  have HP : Hid (W6.heap[w5.heap.size + 1]? = some (.cells (cP (.slice pl F.len cl)) 44) ∧ w5.heap.size + 1 < W6.heap.size) := Lib.hid ⟨hP, hlt _ _ hP⟩
  have HQ : Hid (W6.heap[w5.heap.size + 1 + 1]? = some (.cells (cQ (.slice pl F.len cl)) 44) ∧ w5.heap.size + 1 + 1 < W6.heap.size) := Lib.hid ⟨hQ, hlt _ _ hQ⟩
  have HR : Hid (W6.heap[w5.heap.size + 1 + 1 + 1 + 1]? = some (.cells (cR (.slice (some ⟨w5.heap.size + 1 + 1 + 1, 0, none⟩) 2 2)) 44) ∧ w5.heap.size + 1 + 1 + 1 + 1 < W6.heap.size) := Lib.hid ⟨hR, hlt _ _ hR⟩
  have B6 := Lib.hid (B5.out.trans (hb6.mono B5.out.size))
  have HL6 : Hid (NodesP (fun _ => True) W6 (.slice pl F.len cl) F) := Lib.hid (HL5.out.kept (.of_below hb6))
  have HA6 : Hid (AttrsP (fun _ => True) W6 (.slice (some ⟨w5.heap.size + 1 + 1 + 1, 0, none⟩) 2 2) mdR.attrs) := Lib.hid ⟨_, _, rfl, fun _ => ⟨w5.heap.size + 1 + 1 + 1, 0, rfl, trivial, hlt _ _ hA, fun j hj => by
    have hj2 : j < 2 := hj
    rcases (by omega : j = 0 ∨ j = 1) with rfl | rfl
    · exact ⟨(block_cellZ hA 0).1, (block_cellZ hA 1).1⟩
    · exact ⟨(block_cellZ hA 2).1, (block_cellZ hA 3).1⟩⟩⟩
  obtain ⟨ALL, hALL⟩ : ∃ ALL : List ((Nd × Value × Value) × Fo), ALL = [((mdX, .slice none 0 0, .slice none 0 0), .nil), ((mdP, .slice none 0 0, .slice pl F.len cl), F), ((mdQ, .slice none 0 0, .slice pl F.len cl), F), ((mdR, .slice (some ⟨w5.heap.size + 1 + 1 + 1, 0, none⟩) 2 2, .slice none 0 0), .nil), ((md4, .slice none 0 0, .slice none 0 0), .nil)] := ⟨_, rfl⟩
  have hall : ∀ q ∈ ALL, (AttrsP (fun _ => True) W6 q.1.2.1 q.1.1.attrs ∧ NodesP (fun _ => True) W6 q.1.2.2 q.2) ∧ NodeFit (q.1.1, q.2) ∧ 1 + q.1.1.attrs.length + q.2.wt ≤ 70000 := by
    intro q hq
    rw [hALL] at hq
    simp only [List.mem_cons, List.not_mem_nil, or_false] at hq
    rcases hq with rfl | rfl | rfl | rfl | rfl
    · exact ⟨⟨AttrsP.nil _ _ _ _, NodesP.nil _ _ _ _⟩, ⟨⟨by simp [mdX], fun _ k => absurd k (by simp [mdX])⟩, Nat.zero_le _, trivial⟩, by simp [mdX, Fo.wt]⟩
    · exact ⟨⟨AttrsP.nil _ _ _ _, HL6.out⟩, ⟨⟨by simp [mdP], fun _ k => absurd k (by simp [mdP])⟩, by show F.len ≤ _; unfold maxLen; omega, HFF.out.2⟩, by show 1 + 0 + F.wt ≤ _; omega⟩
    · exact ⟨⟨AttrsP.nil _ _ _ _, HL6.out⟩, ⟨⟨by simp [mdQ], fun _ k => absurd k (by simp [mdQ])⟩, by show F.len ≤ _; unfold maxLen; omega, HFF.out.2⟩, by show 1 + 0 + F.wt ≤ _; omega⟩
    · exact ⟨⟨HA6.out, NodesP.nil _ _ _ _⟩, ⟨⟨by simp [mdR, maxLen], fun _ k => by simp [mdR] at k; rw [k]; simp [maxLen]⟩, Nat.zero_le _, trivial⟩, by simp [mdR, Fo.wt]⟩
    · exact ⟨⟨AttrsP.nil _ _ _ _, NodesP.nil _ _ _ _⟩, ⟨⟨by simp [md4], fun _ k => absurd k (by simp [md4])⟩, Nat.zero_le _, trivial⟩, by simp [md4, Fo.wt]⟩
  have HS : Hid (∀ (W : World) (qs : List ((Nd × Value × Value) × Fo)) (cs : Array Value) (c n : Nat), n = qs.length → Below W6.heap.size W6 W → cs.toList = nodeCells (qs.map (·.1)) → qs.length ≤ 3 → (∀ q ∈ qs, q ∈ ALL) → Calls Try.prog 17 #[.slice (some ⟨W.heap.size, 0, none⟩) n c] (W.alloc (.cells cs 44)) (Brings (.bool ((Fo.ofList (qs.map fun q => (q.1.1, q.2))).sound false)) (W.alloc (.cells cs 44)))) := Lib.hid (fun W qs cs c n hn hb hc hl hq => by
    subst hn
    have hb2 : Below W6.heap.size W6 (W.alloc (.cells cs 44)) := hb.alloc hb.size _
    have hnp := nodes_made (P := fun _ => True) (W := W.alloc (.cells cs 44)) (c := c) qs (heap_alloc_new W _) trivial hc (fun q k => ⟨((hall q (hq q k)).1.1).kept (.of_below hb2), ((hall q (hq q k)).1.2).kept (.of_below hb2)⟩)
    refine dsoundP _ _ _ _ ?_ ?_ hnp
    · have hwt := wt_list 70000 qs (fun q k => (hall q (hq q k)).2.2)
      omega
    · refine fits_list _ fun x hx => ?_
      obtain ⟨q, k, rfl⟩ := List.mem_map.1 hx
      exact (hall q (hq q k)).2.1)
  have HAL := Lib.hid hALL
  have HSZ : Hid (w.heap.size ≤ W6.heap.size) := Lib.hid B6.out.size
  clear hX hP hQ hA hR hlt hall hb6 hW6 HL5 HL6 HA6 B5 HFF hALL
  have HBW : Hid (Below W6.heap.size W6 W6) := Lib.hid (Below.refl _ W6)
  have x0 : W6.cell? ⟨w5.heap.size, 0, none⟩ = some (.int .i64 2) := (block_cellZ ((HBW.out.block _ HX.out.2).trans HX.out.1) 0).1
  have x1 : W6.cell? ⟨w5.heap.size, 1, none⟩ = some (.int .i64 0) := (block_cellZ ((HBW.out.block _ HX.out.2).trans HX.out.1) 1).1
  have x2 : W6.cell? ⟨w5.heap.size, 2, none⟩ = some (.string ⟨#[]⟩) := (block_cellZ ((HBW.out.block _ HX.out.2).trans HX.out.1) 2).1
  have x3 : W6.cell? ⟨w5.heap.size, 3, none⟩ = some (.slice none 0 0) := (block_cellZ ((HBW.out.block _ HX.out.2).trans HX.out.1) 3).1
  have x4 : W6.cell? ⟨w5.heap.size, 4, none⟩ = some (.string ⟨#[120]⟩) := (block_cellZ ((HBW.out.block _ HX.out.2).trans HX.out.1) 4).1
  have x5 : W6.cell? ⟨w5.heap.size, 5, none⟩ = some (.int .i64 0) := (block_cellZ ((HBW.out.block _ HX.out.2).trans HX.out.1) 5).1
  have x6 : W6.cell? ⟨w5.heap.size, 6, none⟩ = some (.slice none 0 0) := (block_cellZ ((HBW.out.block _ HX.out.2).trans HX.out.1) 6).1
  have p0 : W6.cell? ⟨w5.heap.size + 1, 0, none⟩ = some (.int .i64 1) := (block_cellZ ((HBW.out.block _ HP.out.2).trans HP.out.1) 0).1
  have p1 : W6.cell? ⟨w5.heap.size + 1, 1, none⟩ = some (.int .i64 1) := (block_cellZ ((HBW.out.block _ HP.out.2).trans HP.out.1) 1).1
  have p2 : W6.cell? ⟨w5.heap.size + 1, 2, none⟩ = some (.string ⟨#[112]⟩) := (block_cellZ ((HBW.out.block _ HP.out.2).trans HP.out.1) 2).1
  have p3 : W6.cell? ⟨w5.heap.size + 1, 3, none⟩ = some (.slice none 0 0) := (block_cellZ ((HBW.out.block _ HP.out.2).trans HP.out.1) 3).1
  have p4 : W6.cell? ⟨w5.heap.size + 1, 4, none⟩ = some (.string ⟨#[]⟩) := (block_cellZ ((HBW.out.block _ HP.out.2).trans HP.out.1) 4).1
  have p5 : W6.cell? ⟨w5.heap.size + 1, 5, none⟩ = some (.int .i64 0) := (block_cellZ ((HBW.out.block _ HP.out.2).trans HP.out.1) 5).1
  have p6 : W6.cell? ⟨w5.heap.size + 1, 6, none⟩ = some (.slice pl F.len cl) := (block_cellZ ((HBW.out.block _ HP.out.2).trans HP.out.1) 6).1
  go_wp2_with fail
  refine (HS.out W6 [((mdX, .slice none 0 0, .slice none 0 0), .nil), ((mdP, .slice none 0 0, .slice pl F.len cl), F), ((mdX, .slice none 0 0, .slice none 0 0), .nil)] _ 3 3 rfl HBW.out rfl (by simp) (by intro q k; rw [HAL.out]; simp only [List.mem_cons, List.not_mem_nil, or_false] at k ⊢; rcases k with rfl | rfl | rfl <;> simp)).mono ?_
  rintro e y0 ⟨rfl, hby0⟩
  have e0 : (Fo.ofList (List.map (fun q : (Nd × Value × Value) × Fo => (q.1.1, q.2)) [((mdX, .slice none 0 0, .slice none 0 0), .nil), ((mdP, .slice none 0 0, .slice pl F.len cl), F), ((mdX, .slice none 0 0, .slice none 0 0), .nil)])).sound false = true := HMS.out.1
  simp only [e0]
  clear e0
  have HBy0 : Hid (Below W6.heap.size W6 y0) := Lib.hid ((HBW.out.alloc HBW.out.size _).trans (hby0.mono (HBW.out.alloc HBW.out.size _).size))
  clear hby0
  clear x0 x1 x2 x3 x4 x5 x6 p0 p1 p2 p3 p4 p5 p6
  have x0 : y0.cell? ⟨w5.heap.size, 0, none⟩ = some (.int .i64 2) := (block_cellZ ((HBy0.out.block _ HX.out.2).trans HX.out.1) 0).1
  have x1 : y0.cell? ⟨w5.heap.size, 1, none⟩ = some (.int .i64 0) := (block_cellZ ((HBy0.out.block _ HX.out.2).trans HX.out.1) 1).1
  have x2 : y0.cell? ⟨w5.heap.size, 2, none⟩ = some (.string ⟨#[]⟩) := (block_cellZ ((HBy0.out.block _ HX.out.2).trans HX.out.1) 2).1
  have x3 : y0.cell? ⟨w5.heap.size, 3, none⟩ = some (.slice none 0 0) := (block_cellZ ((HBy0.out.block _ HX.out.2).trans HX.out.1) 3).1
  have x4 : y0.cell? ⟨w5.heap.size, 4, none⟩ = some (.string ⟨#[120]⟩) := (block_cellZ ((HBy0.out.block _ HX.out.2).trans HX.out.1) 4).1
  have x5 : y0.cell? ⟨w5.heap.size, 5, none⟩ = some (.int .i64 0) := (block_cellZ ((HBy0.out.block _ HX.out.2).trans HX.out.1) 5).1
  have x6 : y0.cell? ⟨w5.heap.size, 6, none⟩ = some (.slice none 0 0) := (block_cellZ ((HBy0.out.block _ HX.out.2).trans HX.out.1) 6).1
  have p0 : y0.cell? ⟨w5.heap.size + 1, 0, none⟩ = some (.int .i64 1) := (block_cellZ ((HBy0.out.block _ HP.out.2).trans HP.out.1) 0).1
  have p1 : y0.cell? ⟨w5.heap.size + 1, 1, none⟩ = some (.int .i64 1) := (block_cellZ ((HBy0.out.block _ HP.out.2).trans HP.out.1) 1).1
  have p2 : y0.cell? ⟨w5.heap.size + 1, 2, none⟩ = some (.string ⟨#[112]⟩) := (block_cellZ ((HBy0.out.block _ HP.out.2).trans HP.out.1) 2).1
  have p3 : y0.cell? ⟨w5.heap.size + 1, 3, none⟩ = some (.slice none 0 0) := (block_cellZ ((HBy0.out.block _ HP.out.2).trans HP.out.1) 3).1
  have p4 : y0.cell? ⟨w5.heap.size + 1, 4, none⟩ = some (.string ⟨#[]⟩) := (block_cellZ ((HBy0.out.block _ HP.out.2).trans HP.out.1) 4).1
  have p5 : y0.cell? ⟨w5.heap.size + 1, 5, none⟩ = some (.int .i64 0) := (block_cellZ ((HBy0.out.block _ HP.out.2).trans HP.out.1) 5).1
  have p6 : y0.cell? ⟨w5.heap.size + 1, 6, none⟩ = some (.slice pl F.len cl) := (block_cellZ ((HBy0.out.block _ HP.out.2).trans HP.out.1) 6).1
  go_wp2_with fail
  refine (HS.out y0 [((mdP, .slice none 0 0, .slice pl F.len cl), F), ((mdX, .slice none 0 0, .slice none 0 0), .nil), ((mdX, .slice none 0 0, .slice none 0 0), .nil)] _ 3 3 rfl HBy0.out rfl (by simp) (by intro q k; rw [HAL.out]; simp only [List.mem_cons, List.not_mem_nil, or_false] at k ⊢; rcases k with rfl | rfl | rfl <;> simp)).mono ?_
  rintro e y1 ⟨rfl, hby1⟩
  have e1 : (Fo.ofList (List.map (fun q : (Nd × Value × Value) × Fo => (q.1.1, q.2)) [((mdP, .slice none 0 0, .slice pl F.len cl), F), ((mdX, .slice none 0 0, .slice none 0 0), .nil), ((mdX, .slice none 0 0, .slice none 0 0), .nil)])).sound false = false := HMS.out.2.1
  simp only [e1]
  clear e1
  have HBy1 : Hid (Below W6.heap.size W6 y1) := Lib.hid ((HBy0.out.alloc HBy0.out.size _).trans (hby1.mono (HBy0.out.alloc HBy0.out.size _).size))
  clear hby1
  clear x0 x1 x2 x3 x4 x5 x6 p0 p1 p2 p3 p4 p5 p6
  have q0 : y1.cell? ⟨w5.heap.size + 1 + 1, 0, none⟩ = some (.int .i64 1) := (block_cellZ ((HBy1.out.block _ HQ.out.2).trans HQ.out.1) 0).1
  have q1 : y1.cell? ⟨w5.heap.size + 1 + 1, 1, none⟩ = some (.int .i64 1) := (block_cellZ ((HBy1.out.block _ HQ.out.2).trans HQ.out.1) 1).1
  have q2 : y1.cell? ⟨w5.heap.size + 1 + 1, 2, none⟩ = some (.string ⟨#[]⟩) := (block_cellZ ((HBy1.out.block _ HQ.out.2).trans HQ.out.1) 2).1
  have q3 : y1.cell? ⟨w5.heap.size + 1 + 1, 3, none⟩ = some (.slice none 0 0) := (block_cellZ ((HBy1.out.block _ HQ.out.2).trans HQ.out.1) 3).1
  have q4 : y1.cell? ⟨w5.heap.size + 1 + 1, 4, none⟩ = some (.string ⟨#[]⟩) := (block_cellZ ((HBy1.out.block _ HQ.out.2).trans HQ.out.1) 4).1
  have q5 : y1.cell? ⟨w5.heap.size + 1 + 1, 5, none⟩ = some (.int .i64 0) := (block_cellZ ((HBy1.out.block _ HQ.out.2).trans HQ.out.1) 5).1
  have q6 : y1.cell? ⟨w5.heap.size + 1 + 1, 6, none⟩ = some (.slice pl F.len cl) := (block_cellZ ((HBy1.out.block _ HQ.out.2).trans HQ.out.1) 6).1
  go_wp2_with fail
  refine (HS.out y1 [((mdQ, .slice none 0 0, .slice pl F.len cl), F)] _ 1 1 rfl HBy1.out rfl (by simp) (by intro q k; rw [HAL.out]; simp only [List.mem_cons, List.not_mem_nil, or_false] at k ⊢; rcases k with rfl <;> simp)).mono ?_
  rintro e y2 ⟨rfl, hby2⟩
  have e2 : (Fo.ofList (List.map (fun q : (Nd × Value × Value) × Fo => (q.1.1, q.2)) [((mdQ, .slice none 0 0, .slice pl F.len cl), F)])).sound false = false := HMS.out.2.2.1
  simp only [e2]
  clear e2
  have HBy2 : Hid (Below W6.heap.size W6 y2) := Lib.hid ((HBy1.out.alloc HBy1.out.size _).trans (hby2.mono (HBy1.out.alloc HBy1.out.size _).size))
  clear hby2
  clear q0 q1 q2 q3 q4 q5 q6
  have p0 : y2.cell? ⟨w5.heap.size + 1, 0, none⟩ = some (.int .i64 1) := (block_cellZ ((HBy2.out.block _ HP.out.2).trans HP.out.1) 0).1
  have p1 : y2.cell? ⟨w5.heap.size + 1, 1, none⟩ = some (.int .i64 1) := (block_cellZ ((HBy2.out.block _ HP.out.2).trans HP.out.1) 1).1
  have p2 : y2.cell? ⟨w5.heap.size + 1, 2, none⟩ = some (.string ⟨#[112]⟩) := (block_cellZ ((HBy2.out.block _ HP.out.2).trans HP.out.1) 2).1
  have p3 : y2.cell? ⟨w5.heap.size + 1, 3, none⟩ = some (.slice none 0 0) := (block_cellZ ((HBy2.out.block _ HP.out.2).trans HP.out.1) 3).1
  have p4 : y2.cell? ⟨w5.heap.size + 1, 4, none⟩ = some (.string ⟨#[]⟩) := (block_cellZ ((HBy2.out.block _ HP.out.2).trans HP.out.1) 4).1
  have p5 : y2.cell? ⟨w5.heap.size + 1, 5, none⟩ = some (.int .i64 0) := (block_cellZ ((HBy2.out.block _ HP.out.2).trans HP.out.1) 5).1
  have p6 : y2.cell? ⟨w5.heap.size + 1, 6, none⟩ = some (.slice pl F.len cl) := (block_cellZ ((HBy2.out.block _ HP.out.2).trans HP.out.1) 6).1
  have r0 : y2.cell? ⟨w5.heap.size + 1 + 1 + 1 + 1, 0, none⟩ = some (.int .i64 1) := (block_cellZ ((HBy2.out.block _ HR.out.2).trans HR.out.1) 0).1
  have r1 : y2.cell? ⟨w5.heap.size + 1 + 1 + 1 + 1, 1, none⟩ = some (.int .i64 1) := (block_cellZ ((HBy2.out.block _ HR.out.2).trans HR.out.1) 1).1
  have r2 : y2.cell? ⟨w5.heap.size + 1 + 1 + 1 + 1, 2, none⟩ = some (.string ⟨#[112]⟩) := (block_cellZ ((HBy2.out.block _ HR.out.2).trans HR.out.1) 2).1
  have r3 : y2.cell? ⟨w5.heap.size + 1 + 1 + 1 + 1, 3, none⟩ = some (.slice (some ⟨w5.heap.size + 1 + 1 + 1, 0, none⟩) 2 2) := (block_cellZ ((HBy2.out.block _ HR.out.2).trans HR.out.1) 3).1
  have r4 : y2.cell? ⟨w5.heap.size + 1 + 1 + 1 + 1, 4, none⟩ = some (.string ⟨#[]⟩) := (block_cellZ ((HBy2.out.block _ HR.out.2).trans HR.out.1) 4).1
  have r5 : y2.cell? ⟨w5.heap.size + 1 + 1 + 1 + 1, 5, none⟩ = some (.int .i64 0) := (block_cellZ ((HBy2.out.block _ HR.out.2).trans HR.out.1) 5).1
  have r6 : y2.cell? ⟨w5.heap.size + 1 + 1 + 1 + 1, 6, none⟩ = some (.slice none 0 0) := (block_cellZ ((HBy2.out.block _ HR.out.2).trans HR.out.1) 6).1
  go_wp2_with fail
  refine (HS.out y2 [((mdP, .slice none 0 0, .slice pl F.len cl), F), ((mdR, .slice (some ⟨w5.heap.size + 1 + 1 + 1, 0, none⟩) 2 2, .slice none 0 0), .nil)] _ 2 2 rfl HBy2.out rfl (by simp) (by intro q k; rw [HAL.out]; simp only [List.mem_cons, List.not_mem_nil, or_false] at k ⊢; rcases k with rfl | rfl <;> simp)).mono ?_
  rintro e y3 ⟨rfl, hby3⟩
  have e3 : (Fo.ofList (List.map (fun q : (Nd × Value × Value) × Fo => (q.1.1, q.2)) [((mdP, .slice none 0 0, .slice pl F.len cl), F), ((mdR, .slice (some ⟨w5.heap.size + 1 + 1 + 1, 0, none⟩) 2 2, .slice none 0 0), .nil)])).sound false = false := HMS.out.2.2.2.1
  simp only [e3]
  clear e3
  have HBy3 : Hid (Below W6.heap.size W6 y3) := Lib.hid ((HBy2.out.alloc HBy2.out.size _).trans (hby3.mono (HBy2.out.alloc HBy2.out.size _).size))
  clear hby3
  clear p0 p1 p2 p3 p4 p5 p6 r0 r1 r2 r3 r4 r5 r6
  go_wp2_with fail
  refine (HS.out y3 [((md4, .slice none 0 0, .slice none 0 0), .nil)] _ 1 1 rfl HBy3.out rfl (by simp) (by intro q k; rw [HAL.out]; simp only [List.mem_cons, List.not_mem_nil, or_false] at k ⊢; rcases k with rfl <;> simp)).mono ?_
  rintro e y4 ⟨rfl, hby4⟩
  have e4 : (Fo.ofList (List.map (fun q : (Nd × Value × Value) × Fo => (q.1.1, q.2)) [((md4, .slice none 0 0, .slice none 0 0), .nil)])).sound false = false := HMS.out.2.2.2.2
  simp only [e4]
  clear e4
  have HBy4 : Hid (Below W6.heap.size W6 y4) := Lib.hid ((HBy3.out.alloc HBy3.out.size _).trans (hby4.mono (HBy3.out.alloc HBy3.out.size _).size))
  clear hby4
  go_wp2_with fail
  go_ret
  exact ⟨rfl, B6.out.trans (HBy4.out.mono HSZ.out)⟩
end Go.Proofs.Ytmhjfbdldpehdaa
