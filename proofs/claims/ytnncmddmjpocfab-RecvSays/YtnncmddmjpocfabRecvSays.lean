/-
  The statement RecvSays holds: for every input, with no condition.
-/
import Derived.Test.YtnncmddmjpocfabM37
import Derived.Test.YtnncmddmjpocfabM50
namespace Go.Proofs.Ytnncmddmjpocfab
set_option linter.unusedSimpArgs false
theorem recvSays_holds : Rows.RecvSaysSaid := recvSays.over ab.landR_own ab.landR_say ab.landR_hear
#print axioms recvSays_holds
end Go.Proofs.Ytnncmddmjpocfab
