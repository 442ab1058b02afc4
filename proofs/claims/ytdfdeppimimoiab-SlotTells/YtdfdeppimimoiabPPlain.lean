/-
  Plain mathematics for lists of messages: those of a stream, the first ones. Nothing of the program.
-/
import Derived.Test.YtdfdeppimimoiabPureText
namespace Go.Proofs.Ytdfdeppimimoiab.mth
set_option linter.unusedSimpArgs false
set_option linter.unusedVariables false

end Go.Proofs.Ytdfdeppimimoiab.mth
