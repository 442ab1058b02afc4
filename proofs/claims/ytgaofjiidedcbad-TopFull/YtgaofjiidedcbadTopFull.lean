/-
  The statement TopFull holds: for every input.
-/
import Derived.Test.YtgaofjiidedcbadM34
import Derived.Test.YtgaofjiidedcbadM47
import Derived.Test.YtgaofjiidedcbadM50
set_option linter.unusedVariables false
set_option linter.unusedSimpArgs false
namespace Go.Proofs.Ytgaofjiidedcbad
theorem topFull_holds : Rows.TopFullSaid:=topFull.over ab.landT_parse ab.landF_playX ab.landF_settleX ab.landK_still
#print axioms topFull_holds
end Go.Proofs.Ytgaofjiidedcbad
