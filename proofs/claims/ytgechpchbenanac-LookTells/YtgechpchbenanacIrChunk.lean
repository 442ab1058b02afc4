/-
  Functions as plain code (written by wip/abs/ir.py): chunk.rises, chunk.wrongData, chunk.wrongAck, chunk.Wrong, chunk.endsTooSoon, chunk.fromBytes, chunk.Bytes, chunk.Read.
-/
import Derived.Test.YtgechpchbenanacM26
import Derived.Test.YtgechpchbenanacM28
import Derived.Test.YtgechpchbenanacProg
namespace Go.Proofs.Ytgechpchbenanac.ab
set_option linter.unusedSimpArgs false
set_option linter.unusedVariables false
set_option maxRecDepth 100000
open Go Go.RowKit

end Go.Proofs.Ytgechpchbenanac.ab
