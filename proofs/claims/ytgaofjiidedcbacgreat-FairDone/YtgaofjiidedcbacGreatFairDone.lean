/-
  The statement FairDone holds: for every input.
-/
import Derived.Test.YtgaofjiidedcbacGreatM38
import Derived.Test.YtgaofjiidedcbacGreatM50
import Derived.Test.YtgaofjiidedcbacGreatM50
set_option linter.unusedVariables false
set_option linter.unusedSimpArgs false
namespace Go.Proofs.YtgaofjiidedcbacGreat
theorem fairDone_holds : Rows.FairDoneSaid:=fairDone.over ab.zam ab.zlo ab.zah ab.z9j
#print axioms fairDone_holds
end Go.Proofs.YtgaofjiidedcbacGreat
