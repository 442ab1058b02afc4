import Derived.Test.YtgfljlmonaifgabM39
import Derived.Test.YtgfljlmonaifgabM50
namespace Go.Proofs.Ytgfljlmonaifgab
set_option linter.unusedSimpArgs false
theorem worldTells_holds : Rows.WorldTellsSaid:=worldTells.over ab.packet_spoil ab.landW_own ab.landW_new ab.landW_do
#print axioms worldTells_holds
end Go.Proofs.Ytgfljlmonaifgab
