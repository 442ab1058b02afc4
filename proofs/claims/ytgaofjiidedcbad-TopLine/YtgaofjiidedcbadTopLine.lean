/-
  The statement TopLine holds: for every input.
-/
import Derived.Test.YtgaofjiidedcbadM34
import Derived.Test.YtgaofjiidedcbadM46
import Derived.Test.YtgaofjiidedcbadM50
import Derived.Test.YtgaofjiidedcbadM50
set_option linter.unusedVariables false
set_option linter.unusedSimpArgs false
namespace Go.Proofs.Ytgaofjiidedcbad
theorem topLine_holds : Rows.TopLineSaid:=topLine.over ab.landT_parse ab.landF_playX ab.landF_settleX ab.landK_still ab.all_told
#print axioms topLine_holds
end Go.Proofs.Ytgaofjiidedcbad
