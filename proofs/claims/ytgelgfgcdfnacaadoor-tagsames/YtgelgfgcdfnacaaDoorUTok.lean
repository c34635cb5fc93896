/-
  What Read tells, as one token; the program's and the reference's Read tell the same. Any text of at most 2^28 bytes, where a tag begins.
-/
import Derived.Test.YtgelgfgcdfnacaaDoorUKnown
import Derived.Test.YtgelgfgcdfnacaaDoorURead2
import Derived.Test.YtgelgfgcdfnacaaDoorUHtml
import Derived.Test.YtgelgfgcdfnacaaDoorUOne
namespace Go.Proofs.YtgelgfgcdfnacaaDoor
open Go.RowKit

/-- A token and the place behind it. -/
structure Tk where
  kind : Int
  name : List UInt8
  attrs : List (List UInt8 × List UInt8)
  self : Bool
  behind : Nat
def tkOf (K : Int) (nm : List UInt8) (R : Option (List (List UInt8 × List UInt8) × Bool) × Nat) : Tk :=
  match R with
  | (none, m) => ⟨0, [], [], false, m⟩
  | (some (rs, self), m) => ⟨K, nm, rs, self, m⟩
def tagT (l : List UInt8) (k : Nat) : Tk := tkOf (tagKd l k) (tagNm l k) (tagRd l k)
def TkOut (T : Tk) (w : World) (e : Ending) (w' : World) : Prop :=
  ∃ v, e = .returned (.tuple #[.agg #[.int .i64 T.kind, .string ⟨T.name.toArray⟩, v, .bool T.self, .string ⟨#[]⟩], .int .i64 (T.behind : Int)]) ∧ AttrsAt w' v T.attrs ∧ Below w.heap.size w w'
theorem AttrsAt.nil (w : World) : AttrsAt w (.slice none 0 0) [] := ⟨none, 0, rfl, fun j hj => absurd hj (by simp)⟩
theorem ReadOut.tk {K : Int} {nm : List UInt8} {R : Option (List (List UInt8 × List UInt8) × Bool) × Nat} {w : World} {e : Ending} {w' : World} (h : ReadOut K nm R w e w') : TkOut (tkOf K nm R) w e w' := by
  obtain ⟨r, m⟩ := R
  obtain ⟨⟨h1, h2⟩ | ⟨rs, self, v, h1, h2, h3⟩, hb⟩ := h
  · simp only at h1
    subst h1
    exact ⟨_, h2, AttrsAt.nil _, hb⟩
  · simp only at h1
    subst h1
    exact ⟨v, h2, h3, hb⟩
theorem read_tk (s : ByteArray) (k : Nat) (w : World) (hmax : HasMax w) (hea : HasEarly w) (hat : atPlace s.data.toList (k : Int) = true) (hs : s.size ≤ 268435456) :
    Calls Tryd.prog 40 #[.string s, .int .i64 (k : Int)] w (TkOut (tagT s.data.toList k) w) := (read_any s k w hmax hea hat hs).mono fun _ _ h => h.tk
theorem addAttr_len (st : Bool) (rs : List (List UInt8 × List UInt8)) (a : List UInt8 × List UInt8) : (Plain.addAttr st rs a).length ≤ rs.length + 1 := by
  unfold Plain.addAttr
  split
  · simp
  · omega
theorem readR_len (st : Bool) (l : List UInt8) : ∀ (f q : Nat) (qs rs : List (List UInt8 × List UInt8)) (self : Bool) (n : Nat), Plain.readR st l f q qs = (some (rs, self), n) → rs.length ≤ qs.length + f
  | 0, _, _, _, _, _, h => by simp [Plain.readR] at h
  | f + 1, q, qs, rs, self, n, h => by
    rw [Plain.readR] at h
    split at h
    · simp at h
    · split at h
      · simp at h
        obtain ⟨⟨rfl, _⟩, _⟩ := h
        omega
      · have h1 := readR_len st l f _ _ rs self n h
        have h2 := addAttr_len st qs (Plain.attrAt l (q + Plain.gapN l q)).1
        omega
theorem tagT_len (l : List UInt8) (k : Nat) : (tagT l k).attrs.length ≤ l.length + 1 := by
  unfold tagT tkOf
  have : ∀ R, tagRd l k = R → (match R with | (none, m) => (⟨0, [], [], false, m⟩ : Tk) | (some (rs, self), m) => ⟨tagKd l k, tagNm l k, rs, self, m⟩).attrs.length ≤ l.length + 1 := by
    intro R hR
    obtain ⟨r, m⟩ := R
    cases r with
    | none => simp
    | some r =>
      obtain ⟨rs, self⟩ := r
      have h := readR_len _ _ _ _ _ _ _ _ hR
      simpa using h
  exact this _ rfl
end Go.Proofs.YtgelgfgcdfnacaaDoor
