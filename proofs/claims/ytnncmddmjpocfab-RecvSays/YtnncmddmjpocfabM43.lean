/-
  Several texts in one.
-/
import Derived.Test.YtnncmddmjpocfabM42
import Derived.Test.YtnncmddmjpocfabIrLandSend
import Derived.Test.YtnncmddmjpocfabM41
import Derived.Test.YtnncmddmjpocfabALandOwn

/-
  What the statements' own function build tells (senders).
-/
namespace Go.Proofs.Ytnncmddmjpocfab.ab
set_option linter.unusedVariables false
set_option linter.unusedSimpArgs false
open Go Go.RowKit
open mth

end Go.Proofs.Ytnncmddmjpocfab.ab

/-
  What the functions of package send are held to.
-/
namespace Go.Proofs.Ytnncmddmjpocfab.ab
set_option linter.unusedSimpArgs false
set_option linter.unusedVariables false
open Go Go.RowKit
open mth

/- What the functions of package send are held to: number f of the program. -/
end Go.Proofs.Ytnncmddmjpocfab.ab

/-
  What the landed package send tells: messages that are put, what is said.
-/
namespace Go.Proofs.Ytnncmddmjpocfab.ab
set_option linter.unusedVariables false
set_option linter.unusedSimpArgs false
open Go Go.RowKit
open mth

end Go.Proofs.Ytnncmddmjpocfab.ab
