/-
  The landed package send keeps what it is held to.
-/
import Derived.Test.YtficfkeifcnbmabALandSay
import Derived.Test.YtficfkeifcnbmabALandHear2
namespace Go.Proofs.Ytficfkeifcnbmab.ab
open Go mth
theorem land_own : COwnS 12 := fun s h => ownS_told s (good_small h)
theorem land_put : CPutS 10 := fun s m h => lput_told s m h
theorem land_say : CSayS 6 := fun s h => lsay_told s h
theorem land_hear : CHearS 11 := fun s c h hc => lhear_told s c h hc
end Go.Proofs.Ytficfkeifcnbmab.ab
