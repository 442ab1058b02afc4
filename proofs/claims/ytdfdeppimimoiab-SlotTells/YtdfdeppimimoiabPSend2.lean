/-
  Plain mathematics for lists of chunks. Nothing of the program.
-/
import Derived.Test.YtdfdeppimimoiabPSend
import Derived.Test.YtdfdeppimimoiabPPlain
namespace Go.Proofs.Ytdfdeppimimoiab.mth
set_option linter.unusedSimpArgs false
set_option linter.unusedVariables false

end Go.Proofs.Ytdfdeppimimoiab.mth
