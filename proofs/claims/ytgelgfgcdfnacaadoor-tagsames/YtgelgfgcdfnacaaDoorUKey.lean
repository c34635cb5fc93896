/-
  The key law of the struct api.Attr, for maps that it keys. No program is walked.
-/
import Derived.Test.YtgelgfgcdfnacaaDoorUIn
import Derived.DeepKeys4
import Derived.Maps.Keyed
namespace Go.Proofs.YtgelgfgcdfnacaaDoor
open Go.RowKit Go.Maps Go.WideMaps
theorem lo : laidOutB Tryd.prog = true := by kernel_rfl
theorem law_attr : Keyed Tryd.prog 49 := Keyed.of_law (deep_law_laid lo (m := 4) (by omega) (of_decide_eq_true (by kernel_rfl)) (by kernel_rfl) (by kernel_rfl))
end Go.Proofs.YtgelgfgcdfnacaaDoor
