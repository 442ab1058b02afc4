/-
  Functions as plain code (written by wip/abs/ir.py): lkref1.Put, lkref1.SendSay, lkref1.SendHear, lkref1.SameSender.
-/
import Derived.Test.YtnncmddmjpocfabM21
import Derived.Test.YtnncmddmjpocfabProg
namespace Go.Proofs.Ytnncmddmjpocfab.ab
set_option linter.unusedSimpArgs false
set_option linter.unusedVariables false
set_option maxRecDepth 100000
open Go Go.RowKit

end Go.Proofs.Ytnncmddmjpocfab.ab
