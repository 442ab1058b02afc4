/-
  The statement WorldApart holds: for every input, with no condition.
-/
import Derived.Test.YtgfljlmonaifgacM40
import Derived.Test.YtgfljlmonaifgacM50
set_option linter.unusedVariables false
set_option linter.unusedSimpArgs false
namespace Go.Proofs.Ytgfljlmonaifgac
theorem worldApart_holds : Rows.WorldApartSaid:=worldApart.over ab.packet_spoil ab.landW_own ab.landW_new ab.landW_do
#print axioms worldApart_holds
end Go.Proofs.Ytgfljlmonaifgac
