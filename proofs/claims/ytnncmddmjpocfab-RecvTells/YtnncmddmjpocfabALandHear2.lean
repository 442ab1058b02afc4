/-
  What the library's IndexFunc and DeleteFunc tell of chunks in flight; what the landed Hear tells.
-/
import Derived.Test.YtnncmddmjpocfabM44
namespace Go.Proofs.Ytnncmddmjpocfab.ab
set_option linter.unusedVariables false
set_option linter.unusedSimpArgs false
open Go Go.RowKit
open mth

end Go.Proofs.Ytnncmddmjpocfab.ab
