/-
  The statement ViewSwap holds: for every input of no more than 1048576 parts together.
-/
import Derived.Test.YtngfedhffehkaacM45
import Derived.Test.YtngfedhffehkaacM47
import Derived.Test.YtngfedhffehkaacM50
import Derived.Test.YtngfedhffehkaacM50
namespace Go.Proofs.Ytngfedhffehkaac
set_option linter.unusedSimpArgs false
theorem viewSwap_holds : Rows.ViewSwapUptoSaid := viewSwap.over ab.packet_spoil (ab.landV_of ab.landL_own) ab.landV_only ab.landV_puts
#print axioms viewSwap_holds
end Go.Proofs.Ytngfedhffehkaac
