/-
  The statement LookBound holds: for every input.
-/
import Derived.Test.YtgechpchbenanacM50
import Derived.Test.YtgechpchbenanacM50
import Derived.Test.YtgechpchbenanacM50
namespace Go.Proofs.Ytgechpchbenanac
set_option linter.unusedSimpArgs false
theorem lookBound_holds : Rows.LookBoundSaid := lookBound.over ab.packet_spoil ab.landK_idle ab.landK_within ab.landK_sent ab.landK_still
#print axioms lookBound_holds
end Go.Proofs.Ytgechpchbenanac
