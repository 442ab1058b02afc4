/-
  Plain mathematics for chunks: there, and back; what is unlike looks unlike; a spoilt one is none. Nothing of the program.
-/
import Derived.Test.YtdfdeppimimoiabPureRead
namespace Go.Proofs.Ytdfdeppimimoiab.mth
set_option linter.unusedSimpArgs false

end Go.Proofs.Ytdfdeppimimoiab.mth
