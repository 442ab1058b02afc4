/-
  Several texts in one.
-/
import Derived.Test.YtgechpchbenanacM27
import Derived.Deep.QuietTactic
import Derived.BigQuiet
import Derived.WalkSmall
import Derived.Test.YtgechpchbenanacM26
import Derived.Test.YtgechpchbenanacProg

/-
  The contracts of the two functions that open what is sealed.
-/
namespace Go.Proofs.Ytgechpchbenanac.leaf
set_option maxRecDepth 10000
set_option linter.unusedSimpArgs false
set_option linter.unusedVariables false
open Go.RowKit
open mth

end Go.Proofs.Ytgechpchbenanac.leaf

/-
  What the landed functions tell that seal bytes, and open them (proved in the older style: Seal, Open), as plain data.
-/
namespace Go.Proofs.Ytgechpchbenanac.ab
set_option linter.unusedVariables false
set_option linter.unusedSimpArgs false
open Go Go.RowKit
open mth

section
variable {I : Still} {w : World}
theorem add_lit (b o i : Nat) : (⟨b, o, none⟩ : Addr).add i = ⟨b, o + i, none⟩ := by
  unfold Addr.add
  split
  · rename_i h; subst h; rfl
  · rfl
end
end Go.Proofs.Ytgechpchbenanac.ab

/-
  Functions as plain code (written by wip/abs/ir.py): chunk.WrongMsg.
-/
namespace Go.Proofs.Ytgechpchbenanac.ab
set_option linter.unusedSimpArgs false
set_option linter.unusedVariables false
set_option maxRecDepth 100000
open Go Go.RowKit

end Go.Proofs.Ytgechpchbenanac.ab
