/-
  Functions, as plain data, that hand out a row of their caller's own, or are handed one. Nothing of the program.
-/
import Derived.Test.YtgechpchbenanacAbsFunc
namespace Go.Proofs.Ytgechpchbenanac.ab
set_option linter.unusedSimpArgs false
set_option linter.unusedVariables false
open Go Go.RowKit

section
variable {P : Program}
end
end Go.Proofs.Ytgechpchbenanac.ab
