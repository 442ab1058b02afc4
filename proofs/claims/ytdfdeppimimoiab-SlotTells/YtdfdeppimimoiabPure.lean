/-
  Plain mathematics for chunks: what is wrong with one, its bytes, and what any bytes are. Nothing of the program.
-/
import Derived.Test.YtdfdeppimimoiabMath
namespace Go.Proofs.Ytdfdeppimimoiab.mth
set_option linter.unusedSimpArgs false

end Go.Proofs.Ytdfdeppimimoiab.mth
