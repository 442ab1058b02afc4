/-
  The statement LaneSpoilt holds: for every input, with no condition.
-/
import Derived.Test.YtdfdeppimimoiabM39
import Derived.Test.YtdfdeppimimoiabM49
import Derived.Test.YtdfdeppimimoiabM50
import Derived.Test.YtdfdeppimimoiabM46
import Derived.Test.YtdfdeppimimoiabM50
namespace Go.Proofs.Ytdfdeppimimoiab
set_option linter.unusedSimpArgs false
theorem laneSpoilt_holds : Rows.LaneSpoiltSaid:=laneSpoilt.over ab.packet_spoil ab.landL_own ab.landL_speak ab.landL_come ab.landL_lose ab.landL_twice ab.landL_spoil
#print axioms laneSpoilt_holds
end Go.Proofs.Ytdfdeppimimoiab
