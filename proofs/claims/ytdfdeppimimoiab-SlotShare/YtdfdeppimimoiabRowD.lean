/-
  From what a statement's code tells to its row: what is the same for all. 
-/
import Derived.Test.YtdfdeppimimoiabArgsD
import Derived.WalkKit
import Derived.ProofKit
import Derived.OpenShut
import Derived.JoinedCond
import Derived.Below
namespace Go.Proofs.Ytdfdeppimimoiab.ab
set_option linter.unusedSimpArgs false
set_option linter.unusedVariables false
open Go Go.ChangeShapes Go.WideShapes Go.RowKit

theorem own : ownKnob Try.prog.godebug = none := by kernel_rfl
theorem laidOut : laidOutB Try.prog = true := by kernel_rfl
/-- A statement that tells true. -/
theorem Told.yes {f : FuncId} {args : List D} (h : Told Try.prog f args [vB true]) {W : World} {vs : List Value} (hv : Vals (AllOf W) W args vs) : Calls Try.prog f vs.toArray W fun e W' => e = .returned (.bool true) ∧ Below W.heap.size W W' := by
  refine (h W (AllOf W) vs hv (fun b j hb => hb)).mono fun e W' ⟨v, he, hr, hb⟩ => ⟨?_, hb⟩
  have hv : CVRep _ W' (vD (.bool true)) v := hr
  rw [he, (hv.leaf (fun cs e => by cases e)).invV.1]
end Go.Proofs.Ytdfdeppimimoiab.ab
