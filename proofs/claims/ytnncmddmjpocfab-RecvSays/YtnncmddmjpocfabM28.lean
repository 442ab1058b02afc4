/-
  Several texts in one.
-/
import Derived.Test.YtnncmddmjpocfabM22
import Derived.Test.YtnncmddmjpocfabM23
import Derived.Test.YtnncmddmjpocfabAWrong

/-
  What the answer's RecvHear tells: its loops, one by one.
-/
namespace Go.Proofs.Ytnncmddmjpocfab.ab
set_option linter.unusedVariables false
set_option linter.unusedSimpArgs false
open Go Go.RowKit
open mth

def encRv (r : Rv) : List D := [vI r.next, sD 1 (r.early.map vI), vI r.p0, vI r.p1, vI r.p2, sD 6 (encCl r.hold), sD 2 (encMl r.told), vB r.owes]
/-- The entries of the map of those that came. -/
def encS (l : List Int) : List D := l.map fun n => aD [vI n, vB true]
theorem encS_look (l : List Int) (n : Int) : (mlk (encS l) n).getD (.bool false) = .bool (l.contains n) := by
  induction l with
  | nil => rfl
  | cons x r ih =>
    show (mlk (aD [vI x, vB true] :: encS r) n).getD (.bool false) = _
    rw [List.contains_cons]
    unfold mlk
    by_cases h : x = n
    · subst h; simp
    · have h1 : (n == x) = false := by rw [beq_eq_false_iff_ne]; exact fun e => h e.symm
      rw [h1, Bool.false_or, ← ih]
      simp [h]
theorem encS_cons (x : Int) (l : List Int) : aD [vI x, vB true] :: encS l = encS (x :: l) := rfl
theorem len_encS (l : List Int) : (encS l).length = l.length := List.length_map _
end Go.Proofs.Ytnncmddmjpocfab.ab

/-
  What the answer's RecvHear tells: up to the next that has not come, and what came early.
-/
namespace Go.Proofs.Ytnncmddmjpocfab.ab
set_option linter.unusedVariables false
set_option linter.unusedSimpArgs false
open Go Go.RowKit
open mth

end Go.Proofs.Ytnncmddmjpocfab.ab
