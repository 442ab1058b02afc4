/-
  Several texts in one.
-/
import Derived.Test.YtdfdeppimimoiabAbsPack
import Derived.Test.YtdfdeppimimoiabPureText
import Derived.Test.YtdfdeppimimoiabProg

/-
  Messages and chunks, as plain data.
-/
namespace Go.Proofs.Ytdfdeppimimoiab.ab
set_option linter.unusedSimpArgs false
set_option linter.unusedVariables false
open Go mth

abbrev vI (n : Int) : D := vD (.int .i64 n)
end Go.Proofs.Ytdfdeppimimoiab.ab

/-
  The program follows what Go leaves open.
-/
namespace Go.Proofs.Ytdfdeppimimoiab.ab
set_option linter.unusedSimpArgs false
open Go
theorem follows : Try.prog.follows .mixedOrders = true := by kernel_rfl
end Go.Proofs.Ytdfdeppimimoiab.ab
