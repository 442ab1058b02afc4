/-
  The landed package send keeps what it is held to.
-/
import Derived.Test.YtficfkeifcnbmaaALandSay
import Derived.Test.YtficfkeifcnbmaaALandHear2
namespace Go.Proofs.Ytficfkeifcnbmaa.ab
open Go mth
theorem land_own : COwnS 44 := fun s h => ownS_told s (good_small h)
theorem land_put : CPutS 41 := fun s m h => lput_told s m h
theorem land_say : CSayS 45 := fun s h => lsay_told s h
theorem land_hear : CHearS 47 := fun s c h hc => lhear_told s c h hc
end Go.Proofs.Ytficfkeifcnbmaa.ab
