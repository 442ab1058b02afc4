/-
  Plain mathematics for the sum of bytes: the sum, what is sealed, what is opened, and that one byte turned is found. Nothing of the program.
-/
namespace Go.Proofs.Ytdfdeppimimoiab.mth
set_option linter.unusedSimpArgs false
set_option linter.unusedVariables false

end Go.Proofs.Ytdfdeppimimoiab.mth
