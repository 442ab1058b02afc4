/-
  The statement RecvTwice holds: for every input, with no condition.
-/
import Derived.Test.YtnncmddmjpocfabM36
import Derived.Test.YtnncmddmjpocfabM50
namespace Go.Proofs.Ytnncmddmjpocfab
set_option linter.unusedSimpArgs false
theorem recvTwice_holds : Rows.RecvTwiceSaid := recvTwice.over ab.landR_own ab.landR_say ab.landR_hear
#print axioms recvTwice_holds
end Go.Proofs.Ytnncmddmjpocfab
