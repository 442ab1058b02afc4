/-
  What came in, as plain data.
-/
import Derived.Test.YtdfdeppimimoiabRows
import Derived.Test.YtdfdeppimimoiabM38
import Derived.Test.YtdfdeppimimoiabM38
import Derived.Deep.Slices
import Derived.OpenShut
import Derived.SizedLaws
namespace Go.Proofs.Ytdfdeppimimoiab.ab
set_option linter.unusedSimpArgs false
set_option linter.unusedVariables false
open Go Go.ChangeShapes Go.WideShapes Go.RowKit
open mth

/-- All that is there. -/
def AllOf (W : World) : Still := fun b _ => b < W.heap.size
section
variable {H : Type} {enc : TypeId × Value → H} {W : World}
end
end Go.Proofs.Ytdfdeppimimoiab.ab
