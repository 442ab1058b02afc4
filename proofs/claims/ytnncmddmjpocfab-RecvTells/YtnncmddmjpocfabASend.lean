/-
  What the answer's functions on senders tell.
-/
import Derived.Test.YtnncmddmjpocfabIrSend
import Derived.Test.YtnncmddmjpocfabM24
import Derived.Test.YtnncmddmjpocfabAWrong
namespace Go.Proofs.Ytnncmddmjpocfab.ab
set_option linter.unusedVariables false
set_option linter.unusedSimpArgs false
open Go Go.RowKit
open mth

theorem cl_snoc (l : List Ch) (c : Ch) : encCl (l ++ [c]) = encCl l ++ [aD [vI c.kind, vI c.number, vI c.stream, vI c.place, sD 1 (c.data.map encB), sD 1 (c.early.map vI)]] := by simp [encCl, encCh]
end Go.Proofs.Ytnncmddmjpocfab.ab
