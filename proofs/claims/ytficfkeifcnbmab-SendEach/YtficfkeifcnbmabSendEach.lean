/-
  The statement SendEach holds: for every input, with no condition.
-/
import Derived.Test.YtficfkeifcnbmabM42
import Derived.Test.YtficfkeifcnbmabLandSend
namespace Go.Proofs.Ytficfkeifcnbmab
theorem sendEach_holds : Rows.SendEachSaid := sendEach.over ab.land_own ab.land_put ab.land_say ab.land_hear
#print axioms sendEach_holds
end Go.Proofs.Ytficfkeifcnbmab
