/-
  Messages and chunks, as plain data.
-/
import Derived.Test.YtkkneafaklmnaaaAbsEval
import Derived.Test.YtkkneafaklmnaaaPureText
namespace Go.Proofs.Ytkkneafaklmnaaa.ab
set_option linter.unusedVariables false
open Go mth

abbrev vI (n : Int) : D := vD (.int .i64 n)
def encMs (m : Ms) : List D := [vI m.stream, sD 1 (m.data.map encB)]
def encCh (c : Ch) : List D := [vI c.kind, vI c.number, vI c.stream, vI c.place, sD 1 (c.data.map encB), sD 1 (c.early.map vI)]
/-- Lists of them. -/
def encMl (l : List Ms) : List D := l.map fun m => aD (encMs m)
def encCl (l : List Ch) : List D := l.map fun c => aD (encCh c)
theorem len_ml (l : List Ms) : (encMl l).length = l.length := by simp [encMl]
theorem at_ml {l : List Ms} {i : Nat} {m : Ms} (h : l[i]? = some m) : (encMl l)[i]? = some (aD [vI m.stream, sD 1 (m.data.map encB)]) := by
  simp [encMl, h, encMs]
end Go.Proofs.Ytkkneafaklmnaaa.ab
