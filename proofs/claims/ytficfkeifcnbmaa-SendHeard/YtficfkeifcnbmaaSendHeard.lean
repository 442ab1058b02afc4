/-
  The statement SendHeard holds: for every input, with no condition.
-/
import Derived.Test.YtficfkeifcnbmaaM42
import Derived.Test.YtficfkeifcnbmaaLandSend
namespace Go.Proofs.Ytficfkeifcnbmaa
theorem sendHeard_holds : Rows.SendHeardSaid := sendHeard.over ab.land_own ab.land_put ab.land_say ab.land_hear
#print axioms sendHeard_holds
end Go.Proofs.Ytficfkeifcnbmaa
