/-
  What the answer's Wrong tells.
-/
import Derived.Test.YtnncmddmjpocfabARef2
namespace Go.Proofs.Ytnncmddmjpocfab.ab
set_option linter.unusedVariables false
set_option linter.unusedSimpArgs false
open Go Go.RowKit
open mth

end Go.Proofs.Ytnncmddmjpocfab.ab
