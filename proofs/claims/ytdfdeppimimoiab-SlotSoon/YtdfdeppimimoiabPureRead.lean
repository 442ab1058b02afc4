/-
  Plain mathematics: what any bytes are. Nothing of the program.
-/
import Derived.Test.YtdfdeppimimoiabPure
namespace Go.Proofs.Ytdfdeppimimoiab.mth
set_option linter.unusedSimpArgs false
end Go.Proofs.Ytdfdeppimimoiab.mth
