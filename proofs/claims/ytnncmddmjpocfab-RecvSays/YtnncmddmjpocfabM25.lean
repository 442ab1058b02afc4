/-
  Several texts in one.
-/
import Derived.Test.YtnncmddmjpocfabM21
import Derived.Test.YtnncmddmjpocfabProg
import Derived.Test.YtnncmddmjpocfabM23

/-
  Functions as plain code (written by wip/abs/ir.py): lkref1.WrongMsg, lkref1.SameMsg, lkref1.SameMsgs.
-/
namespace Go.Proofs.Ytnncmddmjpocfab.ab
set_option linter.unusedSimpArgs false
set_option linter.unusedVariables false
set_option maxRecDepth 100000
open Go Go.RowKit

def r1_WrongMsg_r0 : IC := cReg Try.prog [
    ⟨some 1, none, iBox 1 (.tmp 0)⟩,
    ⟨some 2, none, iMov 2 (.const (.int .i64 0)) true⟩] [1] [1]
def r1_WrongMsg_r1 : IC := cReg Try.prog [
    ⟨some 3, none, iFad 3 0 (.tmp 1)⟩,
    ⟨some 4, none, iLoad 4 1 false (.tmp 3) false⟩,
    ⟨some 5, none, iBin 5 .lss (.tmp 4) (.const (.int .i64 0))⟩,
    ⟨some 6, none, iMov 6 (.tmp 5) false⟩,
    ⟨some 7, some (6, false), iFad 7 0 (.tmp 1)⟩,
    ⟨some 8, some (6, false), iLoad 8 1 false (.tmp 7) false⟩,
    ⟨some 9, some (6, false), iBin 9 .gtr (.tmp 8) (.const (.int .i64 2))⟩,
    ⟨some 10, none, iPick 10 (.tmp 6) (.const (.bool true)) (.tmp 9)⟩] [1, 10] [1]
def r1_WrongMsg_r2 : IC := cReg Try.prog [
    ⟨some 2, none, iMov 2 (.const (.int .i64 3)) true⟩] [2] []
def r1_WrongMsg_c1a : IC := (cSeq r1_WrongMsg_r2 cRet)
def r1_WrongMsg_c1 : IC := cCond (.tmp 10) r1_WrongMsg_c1a cSkip
def r1_WrongMsg_r3 : IC := cReg Try.prog [
    ⟨some 11, none, iFad 11 1 (.tmp 1)⟩,
    ⟨some 12, none, iLoad 12 1 false (.tmp 11) false⟩,
    ⟨some 13, none, iLen 13 false (.tmp 12)⟩,
    ⟨some 14, none, iBin 14 .gtr (.tmp 13) (.const (.int .i64 6))⟩] [14] []
def r1_WrongMsg_r4 : IC := cReg Try.prog [
    ⟨some 2, none, iMov 2 (.const (.int .i64 4)) true⟩] [2] []
def r1_WrongMsg_c2a : IC := (cSeq r1_WrongMsg_r4 cRet)
def r1_WrongMsg_c2 : IC := cCond (.tmp 14) r1_WrongMsg_c2a cSkip
def r1_WrongMsg_r5 : IC := cReg Try.prog [
    ⟨some 2, none, iMov 2 (.const (.int .i64 0)) true⟩] [2] []
def r1_WrongMsg : IC := (cSeq r1_WrongMsg_r0 (cSeq (cSeq r1_WrongMsg_r1 r1_WrongMsg_c1) (cSeq (cSeq r1_WrongMsg_r3 r1_WrongMsg_c2) (cSeq r1_WrongMsg_r5 cRet))))
theorem told_r1_WrongMsg {args r : List D} (hl : args.length = 1) (h : r1_WrongMsg (start args) (fin [(2, none)] r)) : Told Try.prog 52 args r :=
  told_of follows Try.func52 rfl (an := [([], [1], [1], []), ([], [1, 10], [1], []), ([], [2], [], []), ([], [14], [], []), ([], [2], [], []), ([], [2], [], [])]) (by kernel_rfl) (by kernel_rfl) (by rw [hl]; decide +kernel) h

end Go.Proofs.Ytnncmddmjpocfab.ab

/-
  What the answer's functions on messages tell.
-/
namespace Go.Proofs.Ytnncmddmjpocfab.ab
set_option linter.unusedVariables false
set_option linter.unusedSimpArgs false
open Go Go.RowKit
open mth

set_option maxHeartbeats 1000000 in
theorem wrongMsg_told (m : Ms) : Told Try.prog 52 [aD (encMs m)] [vI (wrongMsgL m.stream m.data)] := by
  refine told_r1_WrongMsg rfl ?_
  unfold wrongMsgL
  simp only [encMs]
  by_cases h1 : m.stream < 0 ∨ 2 < m.stream
  · rw [if_pos h1]
    by_cases h2 : m.stream < 0
    · repeat (first | refine aw_seq ?_ | refine aw_block ?_ | with_reducible refine aw_ret ?_ | with_reducible refine aw_skip ?_ | with_reducible refine aw_exit ?_ | refine thn_normal ?_ | refine thn_out ?_ | refine blk_normal ?_ | refine blk_ret ?_ | refine blk_exit ?_ | ((first | refine aw_regO ?_ | refine aw_regDO ?_ | refine aw_condO ?_ | refine fin_retO ?_); (conv => (arg 1; simp (maxSteps := 30000) only [ev0, ev1, ev2, look, lookF, cellsFrom, offT, offP, List.tail_nil, List.length_nil, Int.cast_ofNat_Int, Nat.reduceEqDiff, Nat.reduceAdd, Nat.reduceMul, Nat.reduceLeDiff, Nat.reduceLT, ↓reduceIte, reduceCtorEq, Int.reduceBEq, Int.reduceBNe, Int.reduceLT, Int.reduceLE, Int.reduceToNat, h2])); (first | with_reducible refine on_yes ?_ | with_reducible refine on_no ?_ | with_reducible refine on_reg ?_ | (with_reducible refine on_regD (by decide +kernel) ?_) | with_reducible refine on_fin ?_)))
      exact ValsLe.refl _
    · have h3 : 2 < m.stream := by omega
      repeat (first | refine aw_seq ?_ | refine aw_block ?_ | with_reducible refine aw_ret ?_ | with_reducible refine aw_skip ?_ | with_reducible refine aw_exit ?_ | refine thn_normal ?_ | refine thn_out ?_ | refine blk_normal ?_ | refine blk_ret ?_ | refine blk_exit ?_ | ((first | refine aw_regO ?_ | refine aw_regDO ?_ | refine aw_condO ?_ | refine fin_retO ?_); (conv => (arg 1; simp (maxSteps := 30000) only [ev0, ev1, ev2, look, lookF, cellsFrom, offT, offP, List.tail_nil, List.length_nil, Int.cast_ofNat_Int, Nat.reduceEqDiff, Nat.reduceAdd, Nat.reduceMul, Nat.reduceLeDiff, Nat.reduceLT, ↓reduceIte, reduceCtorEq, Int.reduceBEq, Int.reduceBNe, Int.reduceLT, Int.reduceLE, Int.reduceToNat, h2, h3])); (first | with_reducible refine on_yes ?_ | with_reducible refine on_no ?_ | with_reducible refine on_reg ?_ | (with_reducible refine on_regD (by decide +kernel) ?_) | with_reducible refine on_fin ?_)))
      exact ValsLe.refl _
  · have h2 : ¬ m.stream < 0 := by omega
    have h3 : ¬ 2 < m.stream := by omega
    rw [if_neg h1]
    by_cases h4 : 6 < m.data.length
    · have h5 : 6 < ((m.data.length : Int)) := by omega
      rw [if_pos h4]
      repeat (first | refine aw_seq ?_ | refine aw_block ?_ | with_reducible refine aw_ret ?_ | with_reducible refine aw_skip ?_ | with_reducible refine aw_exit ?_ | refine thn_normal ?_ | refine thn_out ?_ | refine blk_normal ?_ | refine blk_ret ?_ | refine blk_exit ?_ | ((first | refine aw_regO ?_ | refine aw_regDO ?_ | refine aw_condO ?_ | refine fin_retO ?_); (conv => (arg 1; simp (maxSteps := 30000) only [ev0, ev1, ev2, look, lookF, cellsFrom, offT, offP, List.tail_nil, List.length_nil, Int.cast_ofNat_Int, Nat.reduceEqDiff, Nat.reduceAdd, Nat.reduceMul, Nat.reduceLeDiff, Nat.reduceLT, ↓reduceIte, reduceCtorEq, Int.reduceBEq, Int.reduceBNe, Int.reduceLT, Int.reduceLE, Int.reduceToNat, h2, h3, h5, List.length_map])); (first | with_reducible refine on_yes ?_ | with_reducible refine on_no ?_ | with_reducible refine on_reg ?_ | (with_reducible refine on_regD (by decide +kernel) ?_) | with_reducible refine on_fin ?_)))
      exact ValsLe.refl _
    · have h5 : ¬ 6 < ((m.data.length : Int)) := by omega
      rw [if_neg h4]
      repeat (first | refine aw_seq ?_ | refine aw_block ?_ | with_reducible refine aw_ret ?_ | with_reducible refine aw_skip ?_ | with_reducible refine aw_exit ?_ | refine thn_normal ?_ | refine thn_out ?_ | refine blk_normal ?_ | refine blk_ret ?_ | refine blk_exit ?_ | ((first | refine aw_regO ?_ | refine aw_regDO ?_ | refine aw_condO ?_ | refine fin_retO ?_); (conv => (arg 1; simp (maxSteps := 30000) only [ev0, ev1, ev2, look, lookF, cellsFrom, offT, offP, List.tail_nil, List.length_nil, Int.cast_ofNat_Int, Nat.reduceEqDiff, Nat.reduceAdd, Nat.reduceMul, Nat.reduceLeDiff, Nat.reduceLT, ↓reduceIte, reduceCtorEq, Int.reduceBEq, Int.reduceBNe, Int.reduceLT, Int.reduceLE, Int.reduceToNat, h2, h3, h5, List.length_map])); (first | with_reducible refine on_yes ?_ | with_reducible refine on_no ?_ | with_reducible refine on_reg ?_ | (with_reducible refine on_regD (by decide +kernel) ?_) | with_reducible refine on_fin ?_)))
      exact ValsLe.refl _
def right (l : List Ms) : Prop := ∀ m ∈ l, wrongMsgL m.stream m.data = 0
end Go.Proofs.Ytnncmddmjpocfab.ab
