/-
  The statement ViewAlone holds: for every input of no more than 1048576 parts together.
-/
import Derived.Test.YtngfedhffehkaacM45
import Derived.Test.YtngfedhffehkaacM47
import Derived.Test.YtngfedhffehkaacM50
import Derived.Test.YtngfedhffehkaacM50
namespace Go.Proofs.Ytngfedhffehkaac
set_option linter.unusedSimpArgs false
theorem viewAlone_holds : Rows.ViewAloneUptoSaid := viewAlone.over ab.packet_spoil (ab.landV_of ab.landL_own) ab.landV_only ab.landV_puts
#print axioms viewAlone_holds
end Go.Proofs.Ytngfedhffehkaac
