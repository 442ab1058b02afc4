/-
  The statement TopFlood holds: for every input of no more than 1048576 parts together.
-/
import Derived.Test.YtgaofjiidedcbadM33
import Derived.Test.YtgaofjiidedcbadM46
import Derived.Test.YtgaofjiidedcbadM46
import Derived.Test.YtgaofjiidedcbadM50
import Derived.Test.YtgaofjiidedcbadM50
set_option linter.unusedVariables false
set_option linter.unusedSimpArgs false
namespace Go.Proofs.Ytgaofjiidedcbad
theorem topFlood_holds : Rows.TopFloodUptoSaid:=topFlood.over ab.landT_parse ab.landF_playX ab.landF_roundX ab.landF_settleX ab.landK_still (ab.landV_of ab.landL_own) ab.landV_only ab.fits_told
#print axioms topFlood_holds
end Go.Proofs.Ytgaofjiidedcbad
