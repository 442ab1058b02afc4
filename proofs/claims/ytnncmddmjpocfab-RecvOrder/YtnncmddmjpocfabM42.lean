/-
  Several texts in one.
-/
import Derived.Test.YtnncmddmjpocfabM21
import Derived.Test.YtnncmddmjpocfabProg
import Derived.Test.YtnncmddmjpocfabM41
import Derived.Test.YtnncmddmjpocfabM33

/-
  Functions as plain code (written by wip/abs/ir.py): lklaw5.build, lklaw5.alive.
-/
namespace Go.Proofs.Ytnncmddmjpocfab.ab
set_option linter.unusedSimpArgs false
set_option linter.unusedVariables false
set_option maxRecDepth 100000
open Go Go.RowKit

end Go.Proofs.Ytnncmddmjpocfab.ab

/-
  What the statements' own function build tells (senders), and the answer's SendSay, of any good sender.
-/
namespace Go.Proofs.Ytnncmddmjpocfab.ab
set_option linter.unusedVariables false
set_option linter.unusedSimpArgs false
open Go Go.RowKit
open mth

end Go.Proofs.Ytnncmddmjpocfab.ab
