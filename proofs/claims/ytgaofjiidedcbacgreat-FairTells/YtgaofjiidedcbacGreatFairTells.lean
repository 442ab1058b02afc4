/-
  The statement FairTells holds: for every input.
-/
import Derived.Test.YtgaofjiidedcbacGreatM39
import Derived.Test.YtgaofjiidedcbacGreatM50
import Derived.Test.YtgaofjiidedcbacGreatM50
set_option linter.unusedVariables false
set_option linter.unusedSimpArgs false
namespace Go.Proofs.YtgaofjiidedcbacGreat
theorem fairTells_holds : Rows.FairTellsSaid:=fairTells.over ab.packet_spoil ab.landF_playX ab.landF_roundX ab.landF_settleX
#print axioms fairTells_holds
end Go.Proofs.YtgaofjiidedcbacGreat
