/-
  Functions as plain code (written by wip/abs/ir.py): lkref1.SameInts, lkref1.Same, lkref1.SameAll, lkref1.Wrong.
-/
import Derived.Test.YtnncmddmjpocfabM21
import Derived.Test.YtnncmddmjpocfabProg
namespace Go.Proofs.Ytnncmddmjpocfab.ab
set_option linter.unusedSimpArgs false
set_option linter.unusedVariables false
set_option maxRecDepth 100000
open Go Go.RowKit

def r1_Wrong_r0 : IC := cReg Try.prog [
    ⟨some 1, none, iBox 1 (.tmp 0)⟩,
    ⟨some 2, none, iMov 2 (.const (.int .i64 0)) true⟩] [1] [1]
def r1_Wrong_r1 : IC := cReg Try.prog [
    ⟨some 6, none, iFad 6 0 (.tmp 1)⟩,
    ⟨some 7, none, iLoad 7 1 false (.tmp 6) false⟩,
    ⟨some 8, none, iBin 8 .neq (.tmp 7) (.const (.int .i64 1))⟩,
    ⟨some 9, none, iMov 9 (.tmp 8) false⟩,
    ⟨some 10, some (9, true), iFad 10 0 (.tmp 1)⟩,
    ⟨some 11, some (9, true), iLoad 11 1 false (.tmp 10) false⟩,
    ⟨some 12, some (9, true), iBin 12 .neq (.tmp 11) (.const (.int .i64 2))⟩,
    ⟨some 13, none, iPick 13 (.tmp 9) (.tmp 12) (.const (.bool false))⟩] [1, 13] [1]
def r1_Wrong_r2 : IC := cReg Try.prog [
    ⟨some 2, none, iMov 2 (.const (.int .i64 1)) true⟩] [2] []
def r1_Wrong_c1a : IC := (cSeq r1_Wrong_r2 cRet)
def r1_Wrong_c1 : IC := cCond (.tmp 13) r1_Wrong_c1a cSkip
def r1_Wrong_r3 : IC := cReg Try.prog [
    ⟨some 14, none, iFad 14 1 (.tmp 1)⟩,
    ⟨some 15, none, iLoad 15 1 false (.tmp 14) false⟩,
    ⟨some 16, none, iBin 16 .lss (.tmp 15) (.const (.int .i64 0))⟩,
    ⟨some 17, none, iMov 17 (.tmp 16) false⟩,
    ⟨some 18, some (17, false), iFad 18 1 (.tmp 1)⟩,
    ⟨some 19, some (17, false), iLoad 19 1 false (.tmp 18) false⟩,
    ⟨some 20, some (17, false), iBin 20 .gtr (.tmp 19) (.const (.int .i64 40))⟩,
    ⟨some 21, none, iPick 21 (.tmp 17) (.const (.bool true)) (.tmp 20)⟩] [1, 21] [1]
def r1_Wrong_r4 : IC := cReg Try.prog [
    ⟨some 2, none, iMov 2 (.const (.int .i64 3)) true⟩] [2] []
def r1_Wrong_c2a : IC := (cSeq r1_Wrong_r4 cRet)
def r1_Wrong_c2 : IC := cCond (.tmp 21) r1_Wrong_c2a cSkip
def r1_Wrong_r5 : IC := cReg Try.prog [
    ⟨some 22, none, iFad 22 0 (.tmp 1)⟩,
    ⟨some 23, none, iLoad 23 1 false (.tmp 22) false⟩,
    ⟨some 24, none, iBin 24 .eql (.tmp 23) (.const (.int .i64 1))⟩] [1, 24] [1]
def r1_Wrong_r6_0 : IC := cReg Try.prog [
    ⟨some 25, none, iFad 25 1 (.tmp 1)⟩,
    ⟨some 26, none, iLoad 26 1 false (.tmp 25) false⟩,
    ⟨some 27, none, iBin 27 .gtr (.tmp 26) (.const (.int .i64 39))⟩,
    ⟨some 28, none, iMov 28 (.tmp 27) false⟩,
    ⟨some 29, some (28, false), iFad 29 3 (.tmp 1)⟩,
    ⟨some 30, some (28, false), iLoad 30 1 false (.tmp 29) false⟩,
    ⟨some 31, some (28, false), iBin 31 .lss (.tmp 30) (.const (.int .i64 0))⟩,
    ⟨some 32, none, iPick 32 (.tmp 28) (.const (.bool true)) (.tmp 31)⟩,
    ⟨some 33, none, iMov 33 (.tmp 32) false⟩,
    ⟨some 34, some (33, false), iFad 34 3 (.tmp 1)⟩] [1, 33, 34] [1]
def r1_Wrong_r6_1 : IC := cReg Try.prog [
    ⟨some 35, some (33, false), iLoad 35 1 false (.tmp 34) false⟩,
    ⟨some 36, some (33, false), iFad 36 1 (.tmp 1)⟩,
    ⟨some 37, some (33, false), iLoad 37 1 false (.tmp 36) false⟩,
    ⟨some 38, some (33, false), iBin 38 .gtr (.tmp 35) (.tmp 37)⟩,
    ⟨some 39, none, iPick 39 (.tmp 33) (.const (.bool true)) (.tmp 38)⟩] [1, 39] [1]
def r1_Wrong_r6 : IC := (cSeq r1_Wrong_r6_0 r1_Wrong_r6_1)
def r1_Wrong_r7 : IC := cReg Try.prog [
    ⟨some 2, none, iMov 2 (.const (.int .i64 3)) true⟩] [2] []
def r1_Wrong_c4a : IC := (cSeq r1_Wrong_r7 cRet)
def r1_Wrong_c4 : IC := cCond (.tmp 39) r1_Wrong_c4a cSkip
def r1_Wrong_r8 : IC := cReg Try.prog [
    ⟨some 40, none, iFad 40 5 (.tmp 1)⟩,
    ⟨some 41, none, iLoad 41 1 false (.tmp 40) false⟩,
    ⟨some 42, none, iLen 42 false (.tmp 41)⟩,
    ⟨some 43, none, iBin 43 .neq (.tmp 42) (.const (.int .i64 0))⟩] [1, 43] [1]
def r1_Wrong_r9 : IC := cReg Try.prog [
    ⟨some 2, none, iMov 2 (.const (.int .i64 5)) true⟩] [2] []
def r1_Wrong_c5a : IC := (cSeq r1_Wrong_r9 cRet)
def r1_Wrong_c5 : IC := cCond (.tmp 43) r1_Wrong_c5a cSkip
def r1_Wrong_r10 : IC := cReg Try.prog [
    ⟨some 44, none, iFad 44 2 (.tmp 1)⟩,
    ⟨some 45, none, iLoad 45 1 false (.tmp 44) false⟩,
    ⟨some 46, none, iFad 46 4 (.tmp 1)⟩,
    ⟨some 47, none, iLoad 47 1 false (.tmp 46) false⟩,
    ⟨some 48, none, iBld 48 [vD (.int .i64 0), vD (.slice none 0 0)] [(0, 1), (1, 1)] [(.tmp 45), (.tmp 47)]⟩,
    ⟨some 49, none, iCall 49 52 [(.tmp 48)]⟩,
    ⟨some 2, none, iMov 2 (.tmp 49) true⟩] [2] []
def r1_Wrong_c3a : IC := (cSeq (cSeq r1_Wrong_r6 r1_Wrong_c4) (cSeq (cSeq r1_Wrong_r8 r1_Wrong_c5) (cSeq r1_Wrong_r10 cRet)))
def r1_Wrong_c3 : IC := cCond (.tmp 24) r1_Wrong_c3a cSkip
def r1_Wrong_r11 : IC := cReg Try.prog [
    ⟨some 50, none, iFad 50 2 (.tmp 1)⟩,
    ⟨some 51, none, iLoad 51 1 false (.tmp 50) false⟩,
    ⟨some 52, none, iBin 52 .neq (.tmp 51) (.const (.int .i64 0))⟩,
    ⟨some 53, none, iMov 53 (.tmp 52) false⟩,
    ⟨some 54, some (53, false), iFad 54 3 (.tmp 1)⟩,
    ⟨some 55, some (53, false), iLoad 55 1 false (.tmp 54) false⟩,
    ⟨some 56, some (53, false), iBin 56 .neq (.tmp 55) (.const (.int .i64 0))⟩,
    ⟨some 57, none, iPick 57 (.tmp 53) (.const (.bool true)) (.tmp 56)⟩] [1, 57] [1]
def r1_Wrong_r12 : IC := cReg Try.prog [
    ⟨some 2, none, iMov 2 (.const (.int .i64 3)) true⟩] [2] []
def r1_Wrong_c6a : IC := (cSeq r1_Wrong_r12 cRet)
def r1_Wrong_c6 : IC := cCond (.tmp 57) r1_Wrong_c6a cSkip
def r1_Wrong_r13 : IC := cReg Try.prog [
    ⟨some 58, none, iFad 58 4 (.tmp 1)⟩,
    ⟨some 59, none, iLoad 59 1 false (.tmp 58) false⟩,
    ⟨some 60, none, iLen 60 false (.tmp 59)⟩,
    ⟨some 61, none, iBin 61 .neq (.tmp 60) (.const (.int .i64 0))⟩,
    ⟨some 62, none, iMov 62 (.tmp 61) false⟩,
    ⟨some 63, some (62, false), iFad 63 5 (.tmp 1)⟩,
    ⟨some 64, some (62, false), iLoad 64 1 false (.tmp 63) false⟩,
    ⟨some 65, some (62, false), iLen 65 false (.tmp 64)⟩,
    ⟨some 66, some (62, false), iBin 66 .gtr (.tmp 65) (.const (.int .i64 3))⟩,
    ⟨some 67, none, iPick 67 (.tmp 62) (.const (.bool true)) (.tmp 66)⟩] [1, 67] [1]
def r1_Wrong_r14 : IC := cReg Try.prog [
    ⟨some 2, none, iMov 2 (.const (.int .i64 5)) true⟩] [2] []
def r1_Wrong_c7a : IC := (cSeq r1_Wrong_r14 cRet)
def r1_Wrong_c7 : IC := cCond (.tmp 67) r1_Wrong_c7a cSkip
def r1_Wrong_r15 : IC := cReg Try.prog [
    ⟨some 68, none, iFad 68 1 (.tmp 1)⟩,
    ⟨some 69, none, iLoad 69 1 false (.tmp 68) false⟩,
    ⟨some 3, none, iMov 3 (.tmp 69) true⟩] [1, 3] [1]
def r1_Wrong_r16 : IC := cReg Try.prog [
    ⟨some 70, none, iFad 70 5 (.tmp 1)⟩,
    ⟨some 71, none, iLoad 71 1 false (.tmp 70) false⟩,
    ⟨some 72, none, iLen 72 false (.tmp 71)⟩,
    ⟨some 73, none, iMov 73 (.const (.int .i64 0)) false⟩] [3, 71, 72, 73] []
def r1_Wrong_r17 : IC := cReg Try.prog [
    ⟨some 74, none, iBin 74 .lss (.tmp 73) (.tmp 72)⟩] [3, 71, 72, 73, 74] []
def r1_Wrong_c10 : IC := cCond (.tmp 74) cSkip (cExit 0)
def r1_Wrong_r18 : IC := cReg Try.prog [
    ⟨some 75, none, iIaS 75 1 (.tmp 71) (.tmp 73)⟩,
    ⟨some 76, none, iLoad 76 1 false (.tmp 75) false⟩,
    ⟨some 5, none, iMov 5 (.tmp 76) true⟩] [3, 5, 71, 72, 73] []
def r1_Wrong_r19 : IC := cReg Try.prog [
    ⟨some 77, none, iMov 77 (.tmp 5) false⟩,
    ⟨some 78, none, iMov 78 (.tmp 3) false⟩,
    ⟨some 79, none, iBin 79 .leq (.tmp 77) (.tmp 78)⟩,
    ⟨some 80, none, iMov 80 (.tmp 79) false⟩,
    ⟨some 81, some (80, false), iMov 81 (.tmp 5) false⟩,
    ⟨some 82, some (80, false), iBin 82 .gtr (.tmp 81) (.const (.int .i64 39))⟩,
    ⟨some 83, none, iPick 83 (.tmp 80) (.const (.bool true)) (.tmp 82)⟩] [5, 71, 72, 73, 83] []
def r1_Wrong_r20 : IC := cReg Try.prog [
    ⟨some 2, none, iMov 2 (.const (.int .i64 3)) true⟩] [2] []
def r1_Wrong_c12a : IC := (cSeq r1_Wrong_r20 cRet)
def r1_Wrong_c12 : IC := cCond (.tmp 83) r1_Wrong_c12a cSkip
def r1_Wrong_r21 : IC := cReg Try.prog [
    ⟨some 84, none, iMov 84 (.tmp 5) false⟩,
    ⟨some 3, none, iMov 3 (.tmp 84) true⟩] [3, 71, 72, 73] []
def r1_Wrong_b11 : IC := cBlock 1 (cSeq r1_Wrong_r18 (cSeq (cSeq r1_Wrong_r19 r1_Wrong_c12) r1_Wrong_r21))
def r1_Wrong_r22 : IC := cReg Try.prog [
    ⟨some 85, none, iBin 85 .add (.tmp 73) (.const (.int .i64 1))⟩,
    ⟨some 73, none, iMov 73 (.tmp 85) false⟩] [3, 71, 72, 73] []
def r1_Wrong_l9a : IC := (cSeq r1_Wrong_r17 (cSeq r1_Wrong_c10 (cSeq r1_Wrong_b11 r1_Wrong_r22)))
def r1_Wrong_l9 : IC := cLoop r1_Wrong_l9a
def r1_Wrong_b8 : IC := cBlock 0 r1_Wrong_l9
def r1_Wrong_r23 : IC := cReg Try.prog [
    ⟨some 2, none, iMov 2 (.const (.int .i64 0)) true⟩] [2] []
def r1_Wrong : IC := (cSeq r1_Wrong_r0 (cSeq (cSeq r1_Wrong_r1 r1_Wrong_c1) (cSeq (cSeq r1_Wrong_r3 r1_Wrong_c2) (cSeq (cSeq r1_Wrong_r5 r1_Wrong_c3) (cSeq (cSeq r1_Wrong_r11 r1_Wrong_c6) (cSeq (cSeq r1_Wrong_r13 r1_Wrong_c7) (cSeq r1_Wrong_r15 (cSeq (cSeq r1_Wrong_r16 r1_Wrong_b8) (cSeq r1_Wrong_r23 cRet)))))))))
theorem told_r1_Wrong {args r : List D} (hl : args.length = 1) (h : r1_Wrong (start args) (fin [(2, none)] r)) : Told Try.prog 16 args r :=
  told_of follows Try.func16 rfl (an := [([], [1], [1], []), ([], [1, 13], [1], []), ([], [2], [], []), ([], [1, 21], [1], []), ([], [2], [], []), ([], [1, 24], [1], []), ([(10, [1, 33, 34], [1])], [1, 39], [1], []), ([], [2], [], []), ([], [1, 43], [1], []), ([], [2], [], []), ([], [2], [], []), ([], [1, 57], [1], []), ([], [2], [], []), ([], [1, 67], [1], []), ([], [2], [], []), ([], [1, 3], [1], []), ([], [3, 71, 72, 73], [], []), ([], [3, 71, 72, 73, 74], [], []), ([], [3, 5, 71, 72, 73], [], []), ([], [5, 71, 72, 73, 83], [], []), ([], [2], [], []), ([], [3, 71, 72, 73], [], []), ([], [3, 71, 72, 73], [], []), ([], [2], [], [])]) (by kernel_rfl) (by kernel_rfl) (by rw [hl]; decide +kernel) h

end Go.Proofs.Ytnncmddmjpocfab.ab
