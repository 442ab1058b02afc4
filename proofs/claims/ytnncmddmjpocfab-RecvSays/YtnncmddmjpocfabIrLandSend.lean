/-
  Functions as plain code (written by wip/abs/ir.py): send.wrongPut, send.Put, send.sayNew;K, send.sayAgain, send.Say, slices.Index[[]int,int]=slices_Index, slices.Contains[[]int,int]=slices_Contains, send.cameBy$1, send.cameBy, slices.IndexFunc[[]lanekeeper/api.Chunk,lanekeeper/api.Chunk]=slices_IndexFunc, slices.DeleteFunc[[]lanekeeper/api.Chunk,lanekeeper/api.Chunk]=slices_DeleteFunc;R, send.Hear.
-/
import Derived.Test.YtnncmddmjpocfabM21
import Derived.Test.YtnncmddmjpocfabProg
namespace Go.Proofs.Ytnncmddmjpocfab.ab
set_option linter.unusedSimpArgs false
set_option linter.unusedVariables false
set_option maxRecDepth 100000
open Go Go.RowKit

def slices_Index_r0 : IC := cReg Try.prog [
    ⟨some 4, none, iMov 4 (.const (.int .i64 0)) true⟩] [0, 1] []
def slices_Index_r1 : IC := cReg Try.prog [
    ⟨some 6, none, iMov 6 (.tmp 0) false⟩,
    ⟨some 7, none, iLen 7 false (.tmp 6)⟩,
    ⟨some 8, none, iMov 8 (.const (.int .i64 0)) false⟩] [0, 1, 7, 8] []
def slices_Index_r2 : IC := cReg Try.prog [
    ⟨some 9, none, iBin 9 .lss (.tmp 8) (.tmp 7)⟩] [0, 1, 7, 8, 9] []
def slices_Index_c3 : IC := cCond (.tmp 9) cSkip (cExit 0)
def slices_Index_r3 : IC := cReg Try.prog [
    ⟨some 10, none, iMov 10 (.tmp 8) false⟩,
    ⟨some 5, none, iMov 5 (.tmp 10) true⟩] [0, 1, 5, 7, 8] []
def slices_Index_r4 : IC := cReg Try.prog [
    ⟨some 11, none, iMov 11 (.tmp 1) false⟩,
    ⟨some 12, none, iMov 12 (.tmp 0) false⟩,
    ⟨some 13, none, iMov 13 (.tmp 5) false⟩,
    ⟨some 14, none, iIaS 14 1 (.tmp 12) (.tmp 13)⟩,
    ⟨some 15, none, iLoad 15 1 false (.tmp 14) false⟩,
    ⟨some 16, none, iBin 16 .eql (.tmp 11) (.tmp 15)⟩] [0, 1, 5, 7, 8, 16] []
def slices_Index_r5 : IC := cReg Try.prog [
    ⟨some 17, none, iMov 17 (.tmp 5) false⟩,
    ⟨some 4, none, iMov 4 (.tmp 17) true⟩] [4] []
def slices_Index_c5a : IC := (cSeq slices_Index_r5 cRet)
def slices_Index_c5 : IC := cCond (.tmp 16) slices_Index_c5a cSkip
def slices_Index_b4 : IC := cBlock 1 (cSeq slices_Index_r3 (cSeq slices_Index_r4 slices_Index_c5))
def slices_Index_r6 : IC := cReg Try.prog [
    ⟨some 18, none, iBin 18 .add (.tmp 8) (.const (.int .i64 1))⟩,
    ⟨some 8, none, iMov 8 (.tmp 18) false⟩] [0, 1, 7, 8] []
def slices_Index_l2a : IC := (cSeq slices_Index_r2 (cSeq slices_Index_c3 (cSeq slices_Index_b4 slices_Index_r6)))
def slices_Index_l2 : IC := cLoop slices_Index_l2a
def slices_Index_b1 : IC := cBlock 0 slices_Index_l2
def slices_Index_r7 : IC := cReg Try.prog [
    ⟨some 4, none, iMov 4 (.const (.int .i64 (-1))) true⟩] [4] []
def slices_Index : IC := (cSeq slices_Index_r0 (cSeq (cSeq slices_Index_r1 slices_Index_b1) (cSeq slices_Index_r7 cRet)))
theorem told_slices_Index {args r : List D} (hl : args.length = 2) (h : slices_Index (start args) (fin [(4, none)] r)) : Told Try.prog 98 args r :=
  told_of follows Try.func98 rfl (an := [([], [0, 1], [], []), ([], [0, 1, 7, 8], [], []), ([], [0, 1, 7, 8, 9], [], []), ([], [0, 1, 5, 7, 8], [], []), ([], [0, 1, 5, 7, 8, 16], [], []), ([], [4], [], []), ([], [0, 1, 7, 8], [], []), ([], [4], [], [])]) (by kernel_rfl) (by kernel_rfl) (by rw [hl]; decide +kernel) h

def slices_Contains_r0 : IC := cReg Try.prog [
    ⟨some 4, none, iMov 4 (.const (.bool false)) true⟩] [0, 1] []
def slices_Contains_r1 : IC := cReg Try.prog [
    ⟨some 5, none, iMov 5 (.tmp 0) false⟩,
    ⟨some 6, none, iMov 6 (.tmp 1) false⟩,
    ⟨some 7, none, iCall 7 98 [(.tmp 5), (.tmp 6)]⟩,
    ⟨some 8, none, iBin 8 .geq (.tmp 7) (.const (.int .i64 0))⟩,
    ⟨some 4, none, iMov 4 (.tmp 8) true⟩] [4] []
def slices_Contains : IC := (cSeq slices_Contains_r0 (cSeq slices_Contains_r1 cRet))
theorem told_slices_Contains {args r : List D} (hl : args.length = 2) (h : slices_Contains (start args) (fin [(4, none)] r)) : Told Try.prog 82 args r :=
  told_of follows Try.func82 rfl (an := [([], [0, 1], [], []), ([], [4], [], [])]) (by kernel_rfl) (by kernel_rfl) (by rw [hl]; decide +kernel) h

def slices_IndexFunc_r0 : IC := cReg Try.prog [
    ⟨some 4, none, iMov 4 (.const (.int .i64 0)) true⟩] [0, 1] []
def slices_IndexFunc_r1 : IC := cReg Try.prog [
    ⟨some 6, none, iMov 6 (.tmp 0) false⟩,
    ⟨some 7, none, iLen 7 false (.tmp 6)⟩,
    ⟨some 8, none, iMov 8 (.const (.int .i64 0)) false⟩] [0, 1, 7, 8] []
def slices_IndexFunc_r2 : IC := cReg Try.prog [
    ⟨some 9, none, iBin 9 .lss (.tmp 8) (.tmp 7)⟩] [0, 1, 7, 8, 9] []
def slices_IndexFunc_c3 : IC := cCond (.tmp 9) cSkip (cExit 0)
def slices_IndexFunc_r3 : IC := cReg Try.prog [
    ⟨some 10, none, iMov 10 (.tmp 8) false⟩,
    ⟨some 5, none, iMov 5 (.tmp 10) true⟩] [0, 1, 5, 7, 8] []
def slices_IndexFunc_r4 : IC := cReg Try.prog [
    ⟨some 11, none, iMov 11 (.tmp 1) false⟩,
    ⟨some 12, none, iMov 12 (.tmp 0) false⟩,
    ⟨some 13, none, iMov 13 (.tmp 5) false⟩,
    ⟨some 14, none, iIaS 14 6 (.tmp 12) (.tmp 13)⟩,
    ⟨some 15, none, iLoad 15 6 true (.tmp 14) false⟩,
    ⟨some 16, none, iCallV 16 Try.prog 11 [(.tmp 15)]⟩] [0, 1, 5, 7, 8, 16] []
def slices_IndexFunc_r5 : IC := cReg Try.prog [
    ⟨some 17, none, iMov 17 (.tmp 5) false⟩,
    ⟨some 4, none, iMov 4 (.tmp 17) true⟩] [4] []
def slices_IndexFunc_c5a : IC := (cSeq slices_IndexFunc_r5 cRet)
def slices_IndexFunc_c5 : IC := cCond (.tmp 16) slices_IndexFunc_c5a cSkip
def slices_IndexFunc_b4 : IC := cBlock 1 (cSeq slices_IndexFunc_r3 (cSeq slices_IndexFunc_r4 slices_IndexFunc_c5))
def slices_IndexFunc_r6 : IC := cReg Try.prog [
    ⟨some 18, none, iBin 18 .add (.tmp 8) (.const (.int .i64 1))⟩,
    ⟨some 8, none, iMov 8 (.tmp 18) false⟩] [0, 1, 7, 8] []
def slices_IndexFunc_l2a : IC := (cSeq slices_IndexFunc_r2 (cSeq slices_IndexFunc_c3 (cSeq slices_IndexFunc_b4 slices_IndexFunc_r6)))
def slices_IndexFunc_l2 : IC := cLoop slices_IndexFunc_l2a
def slices_IndexFunc_b1 : IC := cBlock 0 slices_IndexFunc_l2
def slices_IndexFunc_r7 : IC := cReg Try.prog [
    ⟨some 4, none, iMov 4 (.const (.int .i64 (-1))) true⟩] [4] []
def slices_IndexFunc : IC := (cSeq slices_IndexFunc_r0 (cSeq (cSeq slices_IndexFunc_r1 slices_IndexFunc_b1) (cSeq slices_IndexFunc_r7 cRet)))
theorem told_slices_IndexFunc {args r : List D} (hl : args.length = 2) (h : slices_IndexFunc (start args) (fin [(4, none)] r)) : Told Try.prog 86 args r :=
  told_of follows Try.func86 rfl (an := [([], [0, 1], [], []), ([], [0, 1, 7, 8], [], []), ([], [0, 1, 7, 8, 9], [], []), ([], [0, 1, 5, 7, 8], [], []), ([], [0, 1, 5, 7, 8, 16], [], []), ([], [4], [], []), ([], [0, 1, 7, 8], [], []), ([], [4], [], [])]) (by kernel_rfl) (by kernel_rfl) (by rw [hl]; decide +kernel) h

end Go.Proofs.Ytnncmddmjpocfab.ab
