/-
  The statement LaneFits holds: for every input, with no condition.
-/
import Derived.Test.YtgfljlmonaifgabM39
import Derived.Test.YtgfljlmonaifgabM49
import Derived.Test.YtgfljlmonaifgabM50
import Derived.Test.YtgfljlmonaifgabM47
import Derived.Test.YtgfljlmonaifgabM50
set_option linter.unusedVariables false
set_option linter.unusedSimpArgs false
namespace Go.Proofs.Ytgfljlmonaifgab
theorem laneFits_holds : Rows.LaneFitsSaid:=laneFits.over ab.packet_spoil ab.landL_own ab.landL_speak ab.landL_come ab.landL_lose ab.landL_twice ab.landL_spoil
#print axioms laneFits_holds
end Go.Proofs.Ytgfljlmonaifgab
