/-
  Several texts in one.
-/
import Derived.Test.YtnncmddmjpocfabM33
import Derived.Test.YtnncmddmjpocfabARef2
import Derived.Test.YtnncmddmjpocfabM21
import Derived.Test.YtnncmddmjpocfabProg

/-
  What the answer's RecvSay and SameReceiver tell.
-/
namespace Go.Proofs.Ytnncmddmjpocfab.ab
set_option linter.unusedVariables false
set_option linter.unusedSimpArgs false
open Go Go.RowKit
open mth

set_option maxHeartbeats 4000000 in
theorem recvSay_told (r : Rv) : Told Try.prog 19 [aD (encRv r)] [aD (encRv (sayR r).1), aD (encCh (sayR r).2.1), vB (sayR r).2.2] := by
  obtain ⟨next, early, p0, p1, p2, hold, told, owes⟩ := r
  refine told_r1_RecvSay rfl ?_
  cases owes with
  | true =>
    simp only [encRv, sayR, encCh, if_true]
    repeat (first | refine aw_seq ?_ | refine aw_block ?_ | with_reducible refine aw_ret ?_ | with_reducible refine aw_skip ?_ | with_reducible refine aw_exit ?_ | refine thn_normal ?_ | refine thn_out ?_ | refine blk_normal ?_ | refine blk_ret ?_ | refine blk_exit ?_ | ((first | refine aw_regO ?_ | refine aw_regDO ?_ | refine aw_condO ?_ | refine fin_retO ?_); (conv => (arg 1; simp (maxSteps := 30000) only [ev0, ev1, ev2, look, lookF, cellsFrom, offT, offP, List.tail_nil, List.length_nil, Int.cast_ofNat_Int, Nat.reduceEqDiff, Nat.reduceAdd, Nat.reduceMul, Nat.reduceLeDiff, Nat.reduceLT, ↓reduceIte, reduceCtorEq, Int.reduceBEq, Int.reduceBNe, Int.reduceLT, Int.reduceLE, Int.reduceToNat, Bool.not_true])); (first | with_reducible refine on_yes ?_ | with_reducible refine on_no ?_ | with_reducible refine on_reg ?_ | (with_reducible refine on_regD (by decide +kernel) ?_) | with_reducible refine on_fin ?_)))
    repeat' (first | exact vals_nil | exact row_nil | exact es_nil | exact CVLe.refl _ | exact LfLe.refl _ | exact LfLe.nil _ | exact EsLe.refl _ | refine vals_cons ?_ ?_ | refine row_cons ?_ ?_ | refine es_cons ?_ ?_ | refine EsLe.app ?_ ?_ | refine CVLe.row ?_ | refine CVLe.leafV ?_ | refine CVLe.leafS ?_ | refine LfLe.s ?_)
  | false =>
    simp only [encRv, sayR, encCh, zeroC, Bool.false_eq_true, if_false]
    repeat (first | refine aw_seq ?_ | refine aw_block ?_ | with_reducible refine aw_ret ?_ | with_reducible refine aw_skip ?_ | with_reducible refine aw_exit ?_ | refine thn_normal ?_ | refine thn_out ?_ | refine blk_normal ?_ | refine blk_ret ?_ | refine blk_exit ?_ | ((first | refine aw_regO ?_ | refine aw_regDO ?_ | refine aw_condO ?_ | refine fin_retO ?_); (conv => (arg 1; simp (maxSteps := 30000) only [ev0, ev1, ev2, look, lookF, cellsFrom, offT, offP, List.tail_nil, List.length_nil, Int.cast_ofNat_Int, Nat.reduceEqDiff, Nat.reduceAdd, Nat.reduceMul, Nat.reduceLeDiff, Nat.reduceLT, ↓reduceIte, reduceCtorEq, Int.reduceBEq, Int.reduceBNe, Int.reduceLT, Int.reduceLE, Int.reduceToNat, Bool.not_false])); (first | with_reducible refine on_yes ?_ | with_reducible refine on_no ?_ | with_reducible refine on_reg ?_ | (with_reducible refine on_regD (by decide +kernel) ?_) | with_reducible refine on_fin ?_)))
    repeat' (first | exact vals_nil | exact row_nil | exact es_nil | exact CVLe.refl _ | exact LfLe.refl _ | exact LfLe.nil _ | exact EsLe.refl _ | refine vals_cons ?_ ?_ | refine row_cons ?_ ?_ | refine es_cons ?_ ?_ | refine EsLe.app ?_ ?_ | refine CVLe.row ?_ | refine CVLe.leafV ?_ | refine CVLe.leafS ?_ | refine LfLe.s ?_)
set_option maxHeartbeats 4000000 in
theorem sameRv_told (r : Rv) (he : r.early.length ≤ 9223372036854775807) (hh : r.hold.length ≤ 1048576) (ht : r.told.length ≤ 1048576) (hc : ∀ c ∈ r.hold, c.early.length ≤ 9223372036854775807) : Told Try.prog 20 [aD (encRv r), aD (encRv r)] [vB true] := by
  refine told_r1_SameReceiver rfl ?_
  have h1 := sameInts_told r.early r.early he
  have h2 := sameAll_told r.hold r.hold hh hc
  have h3 := sameMsgs_told r.told r.told ht
  rw [sameL_refl] at h3
  rw [sameCs_refl] at h2
  rw [beq_self_eq_true] at h1
  simp only [encRv]
  repeat (first | refine aw_seq ?_ | refine aw_block ?_ | with_reducible refine aw_ret ?_ | with_reducible refine aw_skip ?_ | with_reducible refine aw_exit ?_ | refine thn_normal ?_ | refine thn_out ?_ | refine blk_normal ?_ | refine blk_ret ?_ | refine blk_exit ?_ | ((first | refine aw_regO ?_ | refine aw_regDO ?_ | refine aw_condO ?_ | refine fin_retO ?_); (conv => (arg 1; simp (maxSteps := 30000) only [ev0, ev1, ev2, look, lookF, cellsFrom, offT, offP, List.tail_nil, List.length_nil, Int.cast_ofNat_Int, Nat.reduceEqDiff, Nat.reduceAdd, Nat.reduceMul, Nat.reduceLeDiff, Nat.reduceLT, ↓reduceIte, reduceCtorEq, Int.reduceBEq, Int.reduceBNe, Int.reduceLT, Int.reduceLE, Int.reduceToNat, beq_self_eq_true])); (first | with_reducible refine on_yes ?_ | with_reducible refine on_no ?_ | with_reducible refine on_reg ?_ | (with_reducible refine on_regD (by decide +kernel) ?_) | with_reducible refine on_fin ?_)))
  refine aw_reg [[vB true]] (by simp only [ev0, ev1, ev2, look, lookF, cellsFrom, offT, offP, List.tail_nil, List.length_nil, Int.cast_ofNat_Int, Nat.reduceEqDiff, Nat.reduceAdd, Nat.reduceMul, Nat.reduceLeDiff, Nat.reduceLT, ↓reduceIte, reduceCtorEq, Int.reduceBEq, Int.reduceBNe, Int.reduceLT, Int.reduceLE, Int.reduceToNat, beq_self_eq_true]; first | rfl | exact ⟨rfl, rfl⟩) ?_ ?_
  · exact obl_cons h1 obl_nil
  repeat (first | refine aw_seq ?_ | refine aw_block ?_ | with_reducible refine aw_ret ?_ | with_reducible refine aw_skip ?_ | with_reducible refine aw_exit ?_ | refine thn_normal ?_ | refine thn_out ?_ | refine blk_normal ?_ | refine blk_ret ?_ | refine blk_exit ?_ | ((first | refine aw_regO ?_ | refine aw_regDO ?_ | refine aw_condO ?_ | refine fin_retO ?_); (conv => (arg 1; simp (maxSteps := 30000) only [ev0, ev1, ev2, look, lookF, cellsFrom, offT, offP, List.tail_nil, List.length_nil, Int.cast_ofNat_Int, Nat.reduceEqDiff, Nat.reduceAdd, Nat.reduceMul, Nat.reduceLeDiff, Nat.reduceLT, ↓reduceIte, reduceCtorEq, Int.reduceBEq, Int.reduceBNe, Int.reduceLT, Int.reduceLE, Int.reduceToNat, beq_self_eq_true, Bool.and_self])); (first | with_reducible refine on_yes ?_ | with_reducible refine on_no ?_ | with_reducible refine on_reg ?_ | (with_reducible refine on_regD (by decide +kernel) ?_) | with_reducible refine on_fin ?_)))
  refine aw_reg [[vB true]] (by simp only [ev0, ev1, ev2, look, lookF, cellsFrom, offT, offP, List.tail_nil, List.length_nil, Int.cast_ofNat_Int, Nat.reduceEqDiff, Nat.reduceAdd, Nat.reduceMul, Nat.reduceLeDiff, Nat.reduceLT, ↓reduceIte, reduceCtorEq, Int.reduceBEq, Int.reduceBNe, Int.reduceLT, Int.reduceLE, Int.reduceToNat, beq_self_eq_true]; first | rfl | exact ⟨rfl, rfl⟩) ?_ ?_
  · exact obl_cons h2 obl_nil
  repeat (first | refine aw_seq ?_ | refine aw_block ?_ | with_reducible refine aw_ret ?_ | with_reducible refine aw_skip ?_ | with_reducible refine aw_exit ?_ | refine thn_normal ?_ | refine thn_out ?_ | refine blk_normal ?_ | refine blk_ret ?_ | refine blk_exit ?_ | ((first | refine aw_regO ?_ | refine aw_regDO ?_ | refine aw_condO ?_ | refine fin_retO ?_); (conv => (arg 1; simp (maxSteps := 30000) only [ev0, ev1, ev2, look, lookF, cellsFrom, offT, offP, List.tail_nil, List.length_nil, Int.cast_ofNat_Int, Nat.reduceEqDiff, Nat.reduceAdd, Nat.reduceMul, Nat.reduceLeDiff, Nat.reduceLT, ↓reduceIte, reduceCtorEq, Int.reduceBEq, Int.reduceBNe, Int.reduceLT, Int.reduceLE, Int.reduceToNat, beq_self_eq_true, Bool.and_self])); (first | with_reducible refine on_yes ?_ | with_reducible refine on_no ?_ | with_reducible refine on_reg ?_ | (with_reducible refine on_regD (by decide +kernel) ?_) | with_reducible refine on_fin ?_)))
  refine aw_reg [[vB true]] (by simp only [ev0, ev1, ev2, look, lookF, cellsFrom, offT, offP, List.tail_nil, List.length_nil, Int.cast_ofNat_Int, Nat.reduceEqDiff, Nat.reduceAdd, Nat.reduceMul, Nat.reduceLeDiff, Nat.reduceLT, ↓reduceIte, reduceCtorEq, Int.reduceBEq, Int.reduceBNe, Int.reduceLT, Int.reduceLE, Int.reduceToNat, beq_self_eq_true]; first | rfl | exact ⟨rfl, rfl⟩) ?_ ?_
  · exact obl_cons h3 obl_nil
  repeat (first | refine aw_seq ?_ | refine aw_block ?_ | with_reducible refine aw_ret ?_ | with_reducible refine aw_skip ?_ | with_reducible refine aw_exit ?_ | refine thn_normal ?_ | refine thn_out ?_ | refine blk_normal ?_ | refine blk_ret ?_ | refine blk_exit ?_ | ((first | refine aw_regO ?_ | refine aw_regDO ?_ | refine aw_condO ?_ | refine fin_retO ?_); (conv => (arg 1; simp (maxSteps := 30000) only [ev0, ev1, ev2, look, lookF, cellsFrom, offT, offP, List.tail_nil, List.length_nil, Int.cast_ofNat_Int, Nat.reduceEqDiff, Nat.reduceAdd, Nat.reduceMul, Nat.reduceLeDiff, Nat.reduceLT, ↓reduceIte, reduceCtorEq, Int.reduceBEq, Int.reduceBNe, Int.reduceLT, Int.reduceLE, Int.reduceToNat, beq_self_eq_true])); (first | with_reducible refine on_yes ?_ | with_reducible refine on_no ?_ | with_reducible refine on_reg ?_ | (with_reducible refine on_regD (by decide +kernel) ?_) | with_reducible refine on_fin ?_)))
  exact ValsLe.refl _
end Go.Proofs.Ytnncmddmjpocfab.ab

/-
  Functions as plain code (written by wip/abs/ir.py): lklaw6.build, lklaw6.alive.
-/
namespace Go.Proofs.Ytnncmddmjpocfab.ab
set_option linter.unusedSimpArgs false
set_option linter.unusedVariables false
set_option maxRecDepth 100000
open Go Go.RowKit

def w6_build_r0 : IC := cReg Try.prog [
    ⟨some 2, none, iAlo 2 [vD (.int .i64 0), vD (.slice none 0 0), vD (.int .i64 0), vD (.int .i64 0), vD (.int .i64 0), vD (.slice none 0 0), vD (.slice none 0 0), vD (.bool false)]⟩,
    ⟨some 3, none, iMov 3 (.const (.bool false)) true⟩] [0, 2] [2]
def w6_build_r1 : IC := cReg Try.prog [
    ⟨some 4, none, iAlo 4 [vD (.int .i64 0), vD (.slice none 0 0), vD (.int .i64 0), vD (.int .i64 0), vD (.int .i64 0), vD (.slice none 0 0), vD (.slice none 0 0), vD (.bool false)]⟩] [0, 2, 4] [2, 4]
def w6_build_r2 : IC := cReg Try.prog [
    ⟨some 7, none, iMov 7 (.tmp 0) false⟩,
    ⟨some 8, none, iLen 8 false (.tmp 7)⟩,
    ⟨some 9, none, iMov 9 (.const (.int .i64 0)) false⟩] [2, 4, 7, 8, 9] [2, 4]
def w6_build_r3 : IC := cReg Try.prog [
    ⟨some 10, none, iBin 10 .lss (.tmp 9) (.tmp 8)⟩] [2, 4, 7, 8, 9, 10] [2, 4]
def w6_build_c3 : IC := cCond (.tmp 10) cSkip (cExit 0)
def w6_build_r4 : IC := cReg Try.prog [
    ⟨some 11, none, iIaS 11 6 (.tmp 7) (.tmp 9)⟩,
    ⟨some 12, none, iLoad 12 6 true (.tmp 11) false⟩,
    ⟨some 6, none, iAlo 6 [vD (.int .i64 0), vD (.int .i64 0), vD (.int .i64 0), vD (.int .i64 0), vD (.slice none 0 0), vD (.slice none 0 0)]⟩,
    ⟨none, none, iStor 6 (.tmp 6) (.tmp 12)⟩] [2, 4, 6, 7, 8, 9] [2, 4, 6]
def w6_build_r5 : IC := cReg Try.prog [
    ⟨some 13, none, iLoad 13 6 true (.tmp 6) false⟩,
    ⟨some 14, none, iCall 14 16 [(.tmp 13)]⟩,
    ⟨some 15, none, iBin 15 .neq (.tmp 14) (.const (.int .i64 0))⟩] [2, 4, 6, 7, 8, 9, 15] [2, 4, 6]
def w6_build_r6 : IC := cReg Try.prog [
    ⟨some 16, none, iLoad 16 8 true (.tmp 4) false⟩,
    ⟨none, none, iStor 8 (.tmp 2) (.tmp 16)⟩,
    ⟨some 3, none, iMov 3 (.const (.bool false)) true⟩] [2, 3] [2]
def w6_build_c5a : IC := (cSeq w6_build_r6 cRet)
def w6_build_c5 : IC := cCond (.tmp 15) w6_build_c5a cSkip
def w6_build_r7 : IC := cReg Try.prog [
    ⟨some 17, none, iLoad 17 8 true (.tmp 4) false⟩,
    ⟨some 18, none, iLoad 18 6 true (.tmp 6) false⟩,
    ⟨some 19, none, iCall 19 23 [(.tmp 17), (.tmp 18)]⟩,
    ⟨none, none, iStor 8 (.tmp 4) (.tmp 19)⟩] [2, 4, 7, 8, 9] [2, 4]
def w6_build_b4 : IC := cBlock 1 (cSeq w6_build_r4 (cSeq (cSeq w6_build_r5 w6_build_c5) w6_build_r7))
def w6_build_r8 : IC := cReg Try.prog [
    ⟨some 20, none, iBin 20 .add (.tmp 9) (.const (.int .i64 1))⟩,
    ⟨some 9, none, iMov 9 (.tmp 20) false⟩] [2, 4, 7, 8, 9] [2, 4]
def w6_build_l2a : IC := (cSeq w6_build_r3 (cSeq w6_build_c3 (cSeq w6_build_b4 w6_build_r8)))
def w6_build_l2 : IC := cLoop w6_build_l2a
def w6_build_b1 : IC := cBlock 0 w6_build_l2
def w6_build_r9 : IC := cReg Try.prog [
    ⟨some 21, none, iLoad 21 8 true (.tmp 4) false⟩,
    ⟨none, none, iStor 8 (.tmp 2) (.tmp 21)⟩,
    ⟨some 3, none, iMov 3 (.const (.bool true)) true⟩] [2, 3] [2]
def w6_build : IC := (cSeq w6_build_r0 (cSeq w6_build_r1 (cSeq (cSeq w6_build_r2 w6_build_b1) (cSeq w6_build_r9 cRet))))
theorem told_w6_build {args r : List D} (hl : args.length = 1) (h : w6_build (start args) (fin [(2, some (8, true)), (3, none)] r)) : Told Try.prog 17 args r :=
  told_of follows Try.func17 rfl (an := [([], [0, 2], [2], []), ([], [0, 2, 4], [2, 4], []), ([], [2, 4, 7, 8, 9], [2, 4], []), ([], [2, 4, 7, 8, 9, 10], [2, 4], []), ([], [2, 4, 6, 7, 8, 9], [2, 4, 6], []), ([], [2, 4, 6, 7, 8, 9, 15], [2, 4, 6], []), ([], [2, 3], [2], []), ([], [2, 4, 7, 8, 9], [2, 4], []), ([], [2, 4, 7, 8, 9], [2, 4], []), ([], [2, 3], [2], [])]) (by kernel_rfl) (by kernel_rfl) (by rw [hl]; decide +kernel) h

end Go.Proofs.Ytnncmddmjpocfab.ab
