/-
  The statement RecvTells holds: for every input, with no condition.
-/
import Derived.Test.YtnncmddmjpocfabM36
import Derived.Test.YtnncmddmjpocfabM50
namespace Go.Proofs.Ytnncmddmjpocfab
set_option linter.unusedSimpArgs false
theorem recvTells_holds : Rows.RecvTellsSaid := recvTells.over ab.landR_own ab.landR_say ab.landR_hear
#print axioms recvTells_holds
end Go.Proofs.Ytnncmddmjpocfab
