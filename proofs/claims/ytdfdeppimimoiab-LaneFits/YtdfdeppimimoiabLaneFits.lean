import Derived.Test.YtdfdeppimimoiabM39
import Derived.Test.YtdfdeppimimoiabM49
import Derived.Test.YtdfdeppimimoiabM50
import Derived.Test.YtdfdeppimimoiabM47
import Derived.Test.YtdfdeppimimoiabM50
namespace Go.Proofs.Ytdfdeppimimoiab
set_option linter.unusedSimpArgs false
theorem laneFits_holds : Rows.LaneFitsSaid:=laneFits.over ab.packet_spoil ab.landL_own ab.landL_speak ab.landL_come ab.landL_lose ab.landL_twice ab.landL_spoil
#print axioms laneFits_holds
end Go.Proofs.Ytdfdeppimimoiab
