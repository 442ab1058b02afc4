/-
  Functions as plain code (written by wip/abs/ir.py): send.wrongPut, send.Put, send.sayNew;K, send.sayAgain, send.Say, slices.Index[[]int,int]=slices_Index, slices.Contains[[]int,int]=slices_Contains, send.cameBy$1, send.cameBy, slices.IndexFunc[[]lanekeeper/api.Chunk,lanekeeper/api.Chunk]=slices_IndexFunc, slices.DeleteFunc[[]lanekeeper/api.Chunk,lanekeeper/api.Chunk]=slices_DeleteFunc;R, send.Hear.
-/
import Derived.Test.YtngfedhffehkaacM23
import Derived.Test.YtngfedhffehkaacProg
namespace Go.Proofs.Ytngfedhffehkaac.ab
set_option linter.unusedSimpArgs false
set_option linter.unusedVariables false
set_option maxRecDepth 100000
open Go Go.RowKit

end Go.Proofs.Ytngfedhffehkaac.ab
