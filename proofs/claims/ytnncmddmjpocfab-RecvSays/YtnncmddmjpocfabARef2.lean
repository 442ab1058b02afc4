/-
  What the answer's functions on chunks tell.
-/
import Derived.Test.YtnncmddmjpocfabIrRef2
import Derived.Test.YtnncmddmjpocfabM25
import Derived.Test.YtnncmddmjpocfabM23
namespace Go.Proofs.Ytnncmddmjpocfab.ab
set_option linter.unusedVariables false
set_option linter.unusedSimpArgs false
open Go Go.RowKit
open mth

theorem at_il {l : List Int} {i : Nat} {x : Int} (h : l[i]? = some x) : (l.map vI)[i]? = some (vI x) := by simp [h]
theorem len_cl (l : List Ch) : (encCl l).length = l.length := by simp [encCl]
theorem at_cl {l : List Ch} {i : Nat} {c : Ch} (h : l[i]? = some c) : (encCl l)[i]? = some (aD [vI c.kind, vI c.number, vI c.stream, vI c.place, sD 1 (c.data.map encB), sD 1 (c.early.map vI)]) := by simp [encCl, h, encCh]
end Go.Proofs.Ytnncmddmjpocfab.ab
