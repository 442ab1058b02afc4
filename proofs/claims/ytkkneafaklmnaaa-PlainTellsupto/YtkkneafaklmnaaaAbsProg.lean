/-
  The program follows what Go leaves open.
-/
import Derived.Test.YtkkneafaklmnaaaAbsEval
import Derived.Test.YtkkneafaklmnaaaProg
namespace Go.Proofs.Ytkkneafaklmnaaa.ab
open Go
theorem follows : Try.prog.follows .mixedOrders = true := by kernel_rfl
end Go.Proofs.Ytkkneafaklmnaaa.ab
