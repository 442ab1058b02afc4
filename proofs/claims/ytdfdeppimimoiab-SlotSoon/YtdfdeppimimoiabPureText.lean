/-
  Plain mathematics for messages as texts. Nothing of the program.
-/
import Derived.Test.YtdfdeppimimoiabPureTurn
namespace Go.Proofs.Ytdfdeppimimoiab.mth
set_option linter.unusedSimpArgs false

end Go.Proofs.Ytdfdeppimimoiab.mth
