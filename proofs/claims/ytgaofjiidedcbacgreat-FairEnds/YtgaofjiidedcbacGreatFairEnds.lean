/-
  The statement FairEnds holds: for every input.
-/
import Derived.Test.YtgaofjiidedcbacGreatM36
import Derived.Test.YtgaofjiidedcbacGreatM50
import Derived.Test.YtgaofjiidedcbacGreatM50
set_option linter.unusedVariables false
set_option linter.unusedSimpArgs false
namespace Go.Proofs.YtgaofjiidedcbacGreat
theorem fairEnds_holds : Rows.FairEndsSaid:=fairEnds.over ab.packet_spoil ab.landF_playX ab.landF_roundX ab.landF_settleX
#print axioms fairEnds_holds
end Go.Proofs.YtgaofjiidedcbacGreat
