/-
  The statement TopSoon holds: for every input.
-/
import Derived.Test.YtgaofjiidedcbadM34
import Derived.Test.YtgaofjiidedcbadM47
import Derived.Test.YtgaofjiidedcbadM47
import Derived.Test.YtgaofjiidedcbadM50
set_option linter.unusedVariables false
set_option linter.unusedSimpArgs false
namespace Go.Proofs.Ytgaofjiidedcbad
theorem topSoon_holds : Rows.TopSoonSaid:=topSoon.over ab.landT_parse ab.landF_playX ab.landF_roundX ab.landF_settleX ab.landK_still (ab.landV_of ab.landL_own)
#print axioms topSoon_holds
end Go.Proofs.Ytgaofjiidedcbad
