/-
  Functions as plain code (written by wip/abs/ir.py): slot.Whose, slot.span, slot.Mine.
-/
import Derived.Test.YtdfdeppimimoiabM38
import Derived.Test.YtdfdeppimimoiabProg
namespace Go.Proofs.Ytdfdeppimimoiab.ab
set_option linter.unusedSimpArgs false
set_option linter.unusedVariables false
set_option maxRecDepth 100000
open Go Go.RowKit

def slot_Whose_r0 : IC := cReg Try.prog [
    ⟨some 4, none, iMov 4 (.const (.int .i64 0)) true⟩,
    ⟨some 5, none, iMov 5 (.const (.int .i64 0)) true⟩] [0, 1] []
def slot_Whose_r1 : IC := cReg Try.prog [
    ⟨some 6, none, iMov 6 (.tmp 0) false⟩,
    ⟨some 7, none, iBin 7 .lss (.tmp 6) (.const (.int .i64 0))⟩,
    ⟨some 8, none, iMov 8 (.tmp 7) false⟩,
    ⟨some 9, some (8, false), iMov 9 (.tmp 1) false⟩,
    ⟨some 10, some (8, false), iBin 10 .lss (.tmp 9) (.const (.int .i64 1))⟩,
    ⟨some 11, none, iPick 11 (.tmp 8) (.const (.bool true)) (.tmp 10)⟩,
    ⟨some 12, none, iMov 12 (.tmp 11) false⟩,
    ⟨some 13, some (12, false), iMov 13 (.tmp 1) false⟩,
    ⟨some 14, some (12, false), iBin 14 .gtr (.tmp 13) (.const (.int .i64 3))⟩,
    ⟨some 15, none, iPick 15 (.tmp 12) (.const (.bool true)) (.tmp 14)⟩] [0, 1, 15] []
def slot_Whose_r2 : IC := cReg Try.prog [
    ⟨some 4, none, iMov 4 (.const (.int .i64 0)) true⟩,
    ⟨some 5, none, iMov 5 (.const (.int .i64 3)) true⟩] [4, 5] []
def slot_Whose_c1a : IC := (cSeq slot_Whose_r2 cRet)
def slot_Whose_c1 : IC := cCond (.tmp 15) slot_Whose_c1a cSkip
def slot_Whose_r3 : IC := cReg Try.prog [
    ⟨some 16, none, iMov 16 (.tmp 0) false⟩,
    ⟨some 17, none, iMov 17 (.tmp 1) false⟩,
    ⟨some 18, none, iBin 18 .rem (.tmp 16) (.tmp 17)⟩,
    ⟨some 4, none, iMov 4 (.tmp 18) true⟩,
    ⟨some 5, none, iMov 5 (.const (.int .i64 0)) true⟩] [4, 5] []
def slot_Whose : IC := (cSeq slot_Whose_r0 (cSeq (cSeq slot_Whose_r1 slot_Whose_c1) (cSeq slot_Whose_r3 cRet)))
theorem told_slot_Whose {args r : List D} (hl : args.length = 2) (h : slot_Whose (start args) (fin [(4, none), (5, none)] r)) : Told Try.prog 45 args r :=
  told_of follows Try.func45 rfl (an := [([], [0, 1], [], []), ([], [0, 1, 15], [], []), ([], [4, 5], [], []), ([], [4, 5], [], [])]) (by kernel_rfl) (by kernel_rfl) (by rw [hl]; decide +kernel) h

def slot_span_r0 : IC := cReg Try.prog [
    ⟨some 4, none, iMov 4 (.const (.int .i64 0)) true⟩,
    ⟨some 5, none, iMov 5 (.const (.int .i64 0)) true⟩] [0, 1] []
def slot_span_r1 : IC := cReg Try.prog [
    ⟨some 6, none, iMov 6 (.tmp 1) false⟩,
    ⟨some 7, none, iBin 7 .leq (.tmp 6) (.const (.int .i64 0))⟩] [0, 1, 7] []
def slot_span_r2 : IC := cReg Try.prog [
    ⟨some 4, none, iMov 4 (.const (.int .i64 0)) true⟩,
    ⟨some 5, none, iMov 5 (.const (.int .i64 0)) true⟩] [4, 5] []
def slot_span_c1a : IC := (cSeq slot_span_r2 cRet)
def slot_span_c1 : IC := cCond (.tmp 7) slot_span_c1a cSkip
def slot_span_r3 : IC := cReg Try.prog [
    ⟨some 8, none, iMov 8 (.tmp 0) false⟩,
    ⟨some 9, none, iBin 9 .lss (.tmp 8) (.const (.int .i64 0))⟩] [0, 1, 9] []
def slot_span_r4 : IC := cReg Try.prog [
    ⟨some 10, none, iMov 10 (.tmp 1) false⟩,
    ⟨some 11, none, iMov 11 (.tmp 0) false⟩,
    ⟨some 12, none, iBin 12 .add (.tmp 10) (.tmp 11)⟩,
    ⟨some 13, none, iMm 13 true (.tmp 12) (.const (.int .i64 0))⟩,
    ⟨some 4, none, iMov 4 (.const (.int .i64 0)) true⟩,
    ⟨some 5, none, iMov 5 (.tmp 13) true⟩] [4, 5] []
def slot_span_c2a : IC := (cSeq slot_span_r4 cRet)
def slot_span_c2 : IC := cCond (.tmp 9) slot_span_c2a cSkip
def slot_span_r5 : IC := cReg Try.prog [
    ⟨some 14, none, iMov 14 (.tmp 0) false⟩,
    ⟨some 15, none, iMov 15 (.tmp 1) false⟩,
    ⟨some 16, none, iBin 16 .sub (.tmp 15) (.const (.int .i64 1))⟩,
    ⟨some 17, none, iMov 17 (.tmp 0) false⟩,
    ⟨some 18, none, iBin 18 .sub (.const (.int .i64 9223372036854775807)) (.tmp 17)⟩,
    ⟨some 19, none, iMm 19 false (.tmp 16) (.tmp 18)⟩,
    ⟨some 20, none, iBin 20 .add (.tmp 19) (.const (.int .i64 1))⟩,
    ⟨some 4, none, iMov 4 (.tmp 14) true⟩,
    ⟨some 5, none, iMov 5 (.tmp 20) true⟩] [4, 5] []
def slot_span : IC := (cSeq slot_span_r0 (cSeq (cSeq slot_span_r1 slot_span_c1) (cSeq (cSeq slot_span_r3 slot_span_c2) (cSeq slot_span_r5 cRet))))
theorem told_slot_span {args r : List D} (hl : args.length = 2) (h : slot_span (start args) (fin [(4, none), (5, none)] r)) : Told Try.prog 84 args r :=
  told_of follows Try.func84 rfl (an := [([], [0, 1], [], []), ([], [0, 1, 7], [], []), ([], [4, 5], [], []), ([], [0, 1, 9], [], []), ([], [4, 5], [], []), ([], [4, 5], [], [])]) (by kernel_rfl) (by kernel_rfl) (by rw [hl]; decide +kernel) h

def slot_Mine_r0 : IC := cReg Try.prog [
    ⟨some 8, none, iMov 8 (.const (.slice none 0 0)) true⟩] [0, 1, 2, 3] []
def slot_Mine_r1 : IC := cReg Try.prog [
    ⟨some 18, none, iMov 18 (.tmp 0) false⟩,
    ⟨some 19, none, iMov 19 (.tmp 1) false⟩,
    ⟨some 20, none, iCall 20 84 [(.tmp 18), (.tmp 19)]⟩,
    ⟨some 17, none, iMov 17 (.tmp 20) false⟩,
    ⟨some 21, none, iExt 21 (.tmp 17) 0⟩,
    ⟨some 22, none, iExt 22 (.tmp 17) 1⟩,
    ⟨some 9, none, iMov 9 (.tmp 21) true⟩,
    ⟨some 10, none, iMov 10 (.tmp 22) true⟩] [2, 3, 9, 10] []
def slot_Mine_r2 : IC := cReg Try.prog [
    ⟨some 24, none, iMov 24 (.tmp 9) false⟩,
    ⟨some 25, none, iMov 25 (.tmp 2) false⟩,
    ⟨some 26, none, iCall 26 45 [(.tmp 24), (.tmp 25)]⟩,
    ⟨some 23, none, iMov 23 (.tmp 26) false⟩,
    ⟨some 27, none, iExt 27 (.tmp 23) 0⟩,
    ⟨some 28, none, iExt 28 (.tmp 23) 1⟩,
    ⟨some 11, none, iMov 11 (.tmp 27) true⟩,
    ⟨some 12, none, iMov 12 (.tmp 28) true⟩] [2, 3, 9, 10, 11, 12] []
def slot_Mine_r3 : IC := cReg Try.prog [
    ⟨some 29, none, iMov 29 (.tmp 12) false⟩,
    ⟨some 30, none, iBin 30 .neq (.tmp 29) (.const (.int .i64 0))⟩,
    ⟨some 31, none, iMov 31 (.tmp 30) false⟩,
    ⟨some 32, some (31, false), iMov 32 (.tmp 3) false⟩,
    ⟨some 33, some (31, false), iBin 33 .lss (.tmp 32) (.const (.int .i64 0))⟩,
    ⟨some 34, none, iPick 34 (.tmp 31) (.const (.bool true)) (.tmp 33)⟩,
    ⟨some 35, none, iMov 35 (.tmp 34) false⟩,
    ⟨some 36, some (35, false), iMov 36 (.tmp 3) false⟩,
    ⟨some 37, some (35, false), iMov 37 (.tmp 2) false⟩,
    ⟨some 38, some (35, false), iBin 38 .geq (.tmp 36) (.tmp 37)⟩,
    ⟨some 39, none, iPick 39 (.tmp 35) (.const (.bool true)) (.tmp 38)⟩] [2, 3, 9, 10, 11, 39] []
def slot_Mine_r4 : IC := cReg Try.prog [
    ⟨some 8, none, iMov 8 (.const (.slice none 0 0)) true⟩] [8] []
def slot_Mine_c1a : IC := (cSeq slot_Mine_r4 cRet)
def slot_Mine_c1 : IC := cCond (.tmp 39) slot_Mine_c1a cSkip
def slot_Mine_r5 : IC := cReg Try.prog [
    ⟨some 40, none, iMov 40 (.tmp 3) false⟩,
    ⟨some 41, none, iMov 41 (.tmp 11) false⟩,
    ⟨some 42, none, iBin 42 .sub (.tmp 40) (.tmp 41)⟩,
    ⟨some 43, none, iMov 43 (.tmp 2) false⟩,
    ⟨some 44, none, iBin 44 .add (.tmp 42) (.tmp 43)⟩,
    ⟨some 45, none, iMov 45 (.tmp 2) false⟩,
    ⟨some 46, none, iBin 46 .rem (.tmp 44) (.tmp 45)⟩,
    ⟨some 13, none, iMov 13 (.tmp 46) true⟩] [2, 9, 10, 13] []
def slot_Mine_r6 : IC := cReg Try.prog [
    ⟨some 47, none, iMov 47 (.tmp 13) false⟩,
    ⟨some 48, none, iMov 48 (.tmp 10) false⟩,
    ⟨some 49, none, iBin 49 .geq (.tmp 47) (.tmp 48)⟩] [2, 9, 10, 13, 49] []
def slot_Mine_r7 : IC := cReg Try.prog [
    ⟨some 8, none, iMov 8 (.const (.slice none 0 0)) true⟩] [8] []
def slot_Mine_c2a : IC := (cSeq slot_Mine_r7 cRet)
def slot_Mine_c2 : IC := cCond (.tmp 49) slot_Mine_c2a cSkip
def slot_Mine_r8 : IC := cReg Try.prog [
    ⟨some 50, none, iMov 50 (.tmp 10) false⟩,
    ⟨some 51, none, iMov 51 (.tmp 13) false⟩,
    ⟨some 52, none, iBin 52 .sub (.tmp 50) (.tmp 51)⟩,
    ⟨some 53, none, iBin 53 .sub (.tmp 52) (.const (.int .i64 1))⟩,
    ⟨some 54, none, iMov 54 (.tmp 2) false⟩,
    ⟨some 55, none, iBin 55 .quo (.tmp 53) (.tmp 54)⟩,
    ⟨some 56, none, iBin 56 .add (.tmp 55) (.const (.int .i64 1))⟩,
    ⟨some 14, none, iMov 14 (.tmp 56) true⟩] [2, 9, 13, 14] []
def slot_Mine_r9 : IC := cReg Try.prog [
    ⟨some 57, none, iMov 57 (.tmp 14) false⟩,
    ⟨some 58, none, iBin 58 .gtr (.tmp 57) (.const (.int .i64 2147483647))⟩] [2, 9, 13, 14, 58] []
def slot_Mine_r10 : IC := cReg Try.prog [
    ⟨some 8, none, iMov 8 (.const (.slice none 0 0)) true⟩] [8] []
def slot_Mine_c3a : IC := (cSeq slot_Mine_r10 cRet)
def slot_Mine_c3 : IC := cCond (.tmp 58) slot_Mine_c3a cSkip
def slot_Mine_r11 : IC := cReg Try.prog [
    ⟨some 59, none, iMov 59 (.tmp 14) false⟩,
    ⟨some 60, none, iMkS 60 1 8 (vD (.int .i64 0)) (.tmp 59) (.tmp 59)⟩,
    ⟨some 15, none, iMov 15 (.tmp 60) true⟩] [2, 9, 13, 15] [100060]
def slot_Mine_r12 : IC := cReg Try.prog [
    ⟨some 61, none, iMov 61 (.tmp 15) false⟩,
    ⟨some 62, none, iLen 62 false (.tmp 61)⟩,
    ⟨some 63, none, iMov 63 (.const (.int .i64 0)) false⟩] [2, 9, 13, 15, 62, 63] [100060]
def slot_Mine_r13 : IC := cReg Try.prog [
    ⟨some 64, none, iBin 64 .lss (.tmp 63) (.tmp 62)⟩] [2, 9, 13, 15, 62, 63, 64] [100060]
def slot_Mine_c6 : IC := cCond (.tmp 64) cSkip (cExit 0)
def slot_Mine_r14 : IC := cReg Try.prog [
    ⟨some 65, none, iMov 65 (.tmp 63) false⟩,
    ⟨some 16, none, iMov 16 (.tmp 65) true⟩] [2, 9, 13, 15, 16, 62, 63] [100060]
def slot_Mine_r15 : IC := cReg Try.prog [
    ⟨some 66, none, iMov 66 (.tmp 15) false⟩,
    ⟨some 67, none, iMov 67 (.tmp 16) false⟩,
    ⟨some 68, none, iMov 68 (.tmp 9) false⟩,
    ⟨some 69, none, iMov 69 (.tmp 13) false⟩,
    ⟨some 70, none, iBin 70 .add (.tmp 68) (.tmp 69)⟩,
    ⟨some 71, none, iMov 71 (.tmp 16) false⟩,
    ⟨some 72, none, iMov 72 (.tmp 2) false⟩,
    ⟨some 73, none, iBin 73 .mul (.tmp 71) (.tmp 72)⟩,
    ⟨some 74, none, iBin 74 .add (.tmp 70) (.tmp 73)⟩,
    ⟨some 75, none, iIaS 75 1 (.tmp 66) (.tmp 67)⟩,
    ⟨none, none, iStor 1 (.tmp 75) (.tmp 74)⟩] [2, 9, 13, 15, 62, 63] [100060]
def slot_Mine_b7 : IC := cBlock 1 (cSeq slot_Mine_r14 slot_Mine_r15)
def slot_Mine_r16 : IC := cReg Try.prog [
    ⟨some 76, none, iBin 76 .add (.tmp 63) (.const (.int .i64 1))⟩,
    ⟨some 63, none, iMov 63 (.tmp 76) false⟩] [2, 9, 13, 15, 62, 63] [100060]
def slot_Mine_l5a : IC := (cSeq slot_Mine_r13 (cSeq slot_Mine_c6 (cSeq slot_Mine_b7 slot_Mine_r16)))
def slot_Mine_l5 : IC := cLoop slot_Mine_l5a
def slot_Mine_b4 : IC := cBlock 0 slot_Mine_l5
def slot_Mine_r17 : IC := cReg Try.prog [
    ⟨some 77, none, iMov 77 (.tmp 15) false⟩,
    ⟨some 8, none, iMov 8 (.tmp 77) true⟩] [8] []
def slot_Mine : IC := (cSeq slot_Mine_r0 (cSeq slot_Mine_r1 (cSeq slot_Mine_r2 (cSeq (cSeq slot_Mine_r3 slot_Mine_c1) (cSeq slot_Mine_r5 (cSeq (cSeq slot_Mine_r6 slot_Mine_c2) (cSeq slot_Mine_r8 (cSeq (cSeq slot_Mine_r9 slot_Mine_c3) (cSeq slot_Mine_r11 (cSeq (cSeq slot_Mine_r12 slot_Mine_b4) (cSeq slot_Mine_r17 cRet)))))))))))
theorem told_slot_Mine {args r : List D} (hl : args.length = 4) (h : slot_Mine (start args) (fin [(8, none)] r)) : Told Try.prog 46 args r :=
  told_of follows Try.func46 rfl (an := [([], [0, 1, 2, 3], [], []), ([], [2, 3, 9, 10], [], []), ([], [2, 3, 9, 10, 11, 12], [], []), ([], [2, 3, 9, 10, 11, 39], [], []), ([], [8], [], []), ([], [2, 9, 10, 13], [], []), ([], [2, 9, 10, 13, 49], [], []), ([], [8], [], []), ([], [2, 9, 13, 14], [], []), ([], [2, 9, 13, 14, 58], [], []), ([], [8], [], []), ([], [2, 9, 13, 15], [100060], []), ([], [2, 9, 13, 15, 62, 63], [100060], []), ([], [2, 9, 13, 15, 62, 63, 64], [100060], []), ([], [2, 9, 13, 15, 16, 62, 63], [100060], []), ([], [2, 9, 13, 15, 62, 63], [100060], []), ([], [2, 9, 13, 15, 62, 63], [100060], []), ([], [8], [], [])]) (by kernel_rfl) (by kernel_rfl) (by rw [hl]; decide +kernel) h

end Go.Proofs.Ytdfdeppimimoiab.ab
