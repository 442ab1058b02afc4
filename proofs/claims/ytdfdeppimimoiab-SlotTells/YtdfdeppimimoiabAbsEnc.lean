/-
  Senders, as plain data.
-/
import Derived.Test.YtdfdeppimimoiabM38
import Derived.Test.YtdfdeppimimoiabPSend2
namespace Go.Proofs.Ytdfdeppimimoiab.ab
set_option linter.unusedSimpArgs false
set_option linter.unusedVariables false
open Go mth

end Go.Proofs.Ytdfdeppimimoiab.ab
