/-
  Several texts in one.
-/
import Derived.Test.YtnncmddmjpocfabIrRecv
import Derived.Test.YtnncmddmjpocfabM23
import Derived.Test.YtnncmddmjpocfabAWrong

/-
  What the answer's RecvHear tells: its loops, one by one.
-/
namespace Go.Proofs.Ytnncmddmjpocfab.ab
set_option linter.unusedVariables false
set_option linter.unusedSimpArgs false
open Go Go.RowKit
open mth

def encRv (r : Rv) : List D := [vI r.next, sD 1 (r.early.map vI), vI r.p0, vI r.p1, vI r.p2, sD 6 (encCl r.hold), sD 2 (encMl r.told), vB r.owes]
end Go.Proofs.Ytnncmddmjpocfab.ab

/-
  What the answer's RecvHear tells: up to the next that has not come, and what came early.
-/
namespace Go.Proofs.Ytnncmddmjpocfab.ab
set_option linter.unusedVariables false
set_option linter.unusedSimpArgs false
open Go Go.RowKit
open mth

end Go.Proofs.Ytnncmddmjpocfab.ab
