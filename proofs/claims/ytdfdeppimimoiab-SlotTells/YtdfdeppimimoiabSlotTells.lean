/-
  The statement SlotTells holds: for every input, with no condition.
-/
import Derived.Test.YtdfdeppimimoiabRowSlotTells
namespace Go.Proofs.Ytdfdeppimimoiab
set_option linter.unusedSimpArgs false
theorem slotTells_holds : Rows.SlotTellsSaid := slotTells.over
#print axioms slotTells_holds
end Go.Proofs.Ytdfdeppimimoiab
