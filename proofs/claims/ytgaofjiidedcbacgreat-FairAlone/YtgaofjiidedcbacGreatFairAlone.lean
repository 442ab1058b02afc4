/-
  The statement FairAlone holds: for every input.
-/
import Derived.Test.YtgaofjiidedcbacGreatM37
import Derived.Test.YtgaofjiidedcbacGreatM50
import Derived.Test.YtgaofjiidedcbacGreatM50
set_option linter.unusedVariables false
set_option linter.unusedSimpArgs false
namespace Go.Proofs.YtgaofjiidedcbacGreat
theorem fairAlone_holds : Rows.FairAloneSaid:=fairAlone.over ab.packet_spoil ab.landF_playX ab.landF_roundX ab.landF_settleX
#print axioms fairAlone_holds
end Go.Proofs.YtgaofjiidedcbacGreat
