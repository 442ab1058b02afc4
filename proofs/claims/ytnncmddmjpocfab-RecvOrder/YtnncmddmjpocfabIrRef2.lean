/-
  Functions as plain code (written by wip/abs/ir.py): lkref1.SameInts, lkref1.Same, lkref1.SameAll, lkref1.Wrong.
-/
import Derived.Test.YtnncmddmjpocfabM21
import Derived.Test.YtnncmddmjpocfabProg
namespace Go.Proofs.Ytnncmddmjpocfab.ab
set_option linter.unusedSimpArgs false
set_option linter.unusedVariables false
set_option maxRecDepth 100000
open Go Go.RowKit

end Go.Proofs.Ytnncmddmjpocfab.ab
