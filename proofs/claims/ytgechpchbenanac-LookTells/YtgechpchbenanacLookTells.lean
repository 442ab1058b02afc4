/-
  The statement LookTells holds: for every input.
-/
import Derived.Test.YtgechpchbenanacM50
import Derived.Test.YtgechpchbenanacM50
import Derived.Test.YtgechpchbenanacM50
namespace Go.Proofs.Ytgechpchbenanac
set_option linter.unusedSimpArgs false
theorem lookTells_holds : Rows.LookTellsSaid := lookTells.over ab.packet_spoil ab.landK_idle ab.landK_within ab.landK_sent ab.landK_still
#print axioms lookTells_holds
end Go.Proofs.Ytgechpchbenanac
