/-
  Several texts in one.
-/
import Derived.Test.YtnncmddmjpocfabM21
import Derived.Test.YtnncmddmjpocfabProg
import Derived.Test.YtnncmddmjpocfabM30

/-
  Functions as plain code (written by wip/abs/ir.py): chunk.WrongMsg.
-/
namespace Go.Proofs.Ytnncmddmjpocfab.ab
set_option linter.unusedSimpArgs false
set_option linter.unusedVariables false
set_option maxRecDepth 100000
open Go Go.RowKit

end Go.Proofs.Ytnncmddmjpocfab.ab

/-
  What the answer's SendHear and SameSender tell.
-/
namespace Go.Proofs.Ytnncmddmjpocfab.ab
set_option linter.unusedVariables false
set_option linter.unusedSimpArgs false
open Go Go.RowKit
open mth

end Go.Proofs.Ytnncmddmjpocfab.ab
