/-
  Plain mathematics for senders. Nothing of the program.
-/
import Derived.Test.YtdfdeppimimoiabPureText
namespace Go.Proofs.Ytdfdeppimimoiab.mth
set_option linter.unusedSimpArgs false
end Go.Proofs.Ytdfdeppimimoiab.mth
