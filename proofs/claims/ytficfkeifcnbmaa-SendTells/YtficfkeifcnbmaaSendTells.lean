/-
  The statement SendTells holds: for every input, with no condition.
-/
import Derived.Test.YtficfkeifcnbmaaRowSendTells
import Derived.Test.YtficfkeifcnbmaaLandSend
namespace Go.Proofs.Ytficfkeifcnbmaa
theorem sendTells_holds : Rows.SendTellsSaid := sendTells.over ab.land_own ab.land_put ab.land_say ab.land_hear
#print axioms sendTells_holds
end Go.Proofs.Ytficfkeifcnbmaa
