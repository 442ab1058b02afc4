/-
  The statement SlotSoon holds: for every input, with no condition.
-/
import Derived.Test.YtdfdeppimimoiabRowSlotSoon
namespace Go.Proofs.Ytdfdeppimimoiab
set_option linter.unusedSimpArgs false
theorem slotSoon_holds : Rows.SlotSoonSaid := slotSoon.over
#print axioms slotSoon_holds
end Go.Proofs.Ytdfdeppimimoiab
