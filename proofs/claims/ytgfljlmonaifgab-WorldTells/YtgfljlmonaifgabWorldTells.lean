/-
  The statement WorldTells holds: for every input, with no condition.
-/
import Derived.Test.YtgfljlmonaifgabM39
import Derived.Test.YtgfljlmonaifgabM50
set_option linter.unusedVariables false
set_option linter.unusedSimpArgs false
namespace Go.Proofs.Ytgfljlmonaifgab
theorem worldTells_holds : Rows.WorldTellsSaid:=worldTells.over ab.packet_spoil ab.landW_own ab.landW_new ab.landW_do
#print axioms worldTells_holds
end Go.Proofs.Ytgfljlmonaifgab
