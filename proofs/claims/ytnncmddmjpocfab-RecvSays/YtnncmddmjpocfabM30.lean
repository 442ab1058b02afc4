/-
  Several texts in one.
-/
import Derived.Test.YtnncmddmjpocfabIrSend
import Derived.Test.YtnncmddmjpocfabM23
import Derived.Test.YtnncmddmjpocfabAWrong
import Derived.Test.YtnncmddmjpocfabM28

/-
  What the answer's functions on senders tell.
-/
namespace Go.Proofs.Ytnncmddmjpocfab.ab
set_option linter.unusedVariables false
set_option linter.unusedSimpArgs false
open Go Go.RowKit
open mth

end Go.Proofs.Ytnncmddmjpocfab.ab

/-
  What the answer's RecvHear tells: what waits is told as long as some of it is its stream's next.
-/
namespace Go.Proofs.Ytnncmddmjpocfab.ab
set_option linter.unusedVariables false
set_option linter.unusedSimpArgs false
open Go Go.RowKit
open mth

end Go.Proofs.Ytnncmddmjpocfab.ab
