/-
  The statement SlotShare holds: for every input, with no condition.
-/
import Derived.Test.YtdfdeppimimoiabRowSlotShare
namespace Go.Proofs.Ytdfdeppimimoiab
set_option linter.unusedSimpArgs false
theorem slotShare_holds : Rows.SlotShareSaid := slotShare.over
#print axioms slotShare_holds
end Go.Proofs.Ytdfdeppimimoiab
