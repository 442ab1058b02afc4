import Derived.Test.YtgaofjiidedcbadM48
import Derived.Test.YtgaofjiidedcbadM47
import Derived.Test.YtgaofjiidedcbadM46
set_option linter.unusedVariables false
set_option linter.unusedSimpArgs false
namespace Go.Proofs.Ytgaofjiidedcbad.leaf
set_option maxRecDepth 10000
open Go.RowKit
open mth
def FreshS (base : Nat) (a : Option Addr) (c : Nat) : Prop:=(∀ p,a = some p → base ≤ p.block ∧ p.spot = none) ∧ c ≤ maxLen
end Go.Proofs.Ytgaofjiidedcbad.leaf
