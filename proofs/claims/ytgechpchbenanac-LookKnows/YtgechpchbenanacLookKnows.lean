/-
  The statement LookKnows holds: for every input.
-/
import Derived.Test.YtgechpchbenanacM50
import Derived.Test.YtgechpchbenanacM50
import Derived.Test.YtgechpchbenanacM50
namespace Go.Proofs.Ytgechpchbenanac
set_option linter.unusedSimpArgs false
theorem lookKnows_holds : Rows.LookKnowsSaid := lookKnows.over ab.packet_spoil ab.landK_idle ab.landK_within ab.landK_sent ab.landK_still
#print axioms lookKnows_holds
end Go.Proofs.Ytgechpchbenanac
