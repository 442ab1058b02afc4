/-
  Functions as plain code (written by wip/abs/ir.py): lklaw5.SendHeard.
-/
import Derived.Test.YtficfkeifcnbmaaM27
import Derived.Test.YtficfkeifcnbmaaProg
namespace Go.Proofs.Ytficfkeifcnbmaa.ab
set_option linter.unusedVariables false
set_option maxRecDepth 100000
open Go Go.RowKit

def w5_SendHeard_r0 : IC := cReg Try.prog [
    ⟨some 6, none, iBox 6 (.tmp 2)⟩,
    ⟨some 8, none, iMov 8 (.const (.bool false)) true⟩] [0, 1, 3, 6] [6]
def w5_SendHeard_r1 : IC := cReg Try.prog [
    ⟨some 18, none, iCall 18 49 []⟩,
    ⟨some 19, none, iNot 19 (.tmp 18)⟩] [0, 1, 3, 6, 19] [6]
def w5_SendHeard_r2 : IC := cReg Try.prog [
    ⟨some 8, none, iMov 8 (.const (.bool false)) true⟩] [8] []
def w5_SendHeard_c1a : IC := (cSeq w5_SendHeard_r2 cRet)
def w5_SendHeard_c1 : IC := cCond (.tmp 19) w5_SendHeard_c1a cSkip
def w5_SendHeard_r3_0 : IC := cReg Try.prog [
    ⟨some 20, none, iMov 20 (.tmp 0) false⟩,
    ⟨some 21, none, iLen 21 false (.tmp 20)⟩,
    ⟨some 22, none, iBin 22 .gtr (.tmp 21) (.const (.int .i64 100))⟩,
    ⟨some 23, none, iMov 23 (.tmp 22) false⟩,
    ⟨some 24, some (23, false), iMov 24 (.tmp 3) false⟩,
    ⟨some 25, some (23, false), iBin 25 .lss (.tmp 24) (.const (.int .i64 0))⟩,
    ⟨some 26, none, iPick 26 (.tmp 23) (.const (.bool true)) (.tmp 25)⟩,
    ⟨some 27, none, iMov 27 (.tmp 26) false⟩,
    ⟨some 28, some (27, false), iMov 28 (.tmp 3) false⟩,
    ⟨some 29, some (27, false), iBin 29 .gtr (.tmp 28) (.const (.int .i64 40))⟩] [0, 1, 3, 6, 27, 29] [6]
def w5_SendHeard_r3_1 : IC := cReg Try.prog [
    ⟨some 30, none, iPick 30 (.tmp 27) (.const (.bool true)) (.tmp 29)⟩,
    ⟨some 31, none, iMov 31 (.tmp 30) false⟩,
    ⟨some 32, some (31, false), iLoad 32 6 true (.tmp 6) false⟩,
    ⟨some 33, some (31, false), iCall 33 21 [(.tmp 32)]⟩,
    ⟨some 34, some (31, false), iBin 34 .neq (.tmp 33) (.const (.int .i64 0))⟩,
    ⟨some 35, none, iPick 35 (.tmp 31) (.const (.bool true)) (.tmp 34)⟩,
    ⟨some 36, none, iMov 36 (.tmp 35) false⟩,
    ⟨some 37, some (36, false), iFad 37 0 (.tmp 6)⟩,
    ⟨some 38, some (36, false), iLoad 38 1 false (.tmp 37) false⟩,
    ⟨some 39, some (36, false), iBin 39 .neq (.tmp 38) (.const (.int .i64 2))⟩,
    ⟨some 40, none, iPick 40 (.tmp 36) (.const (.bool true)) (.tmp 39)⟩] [0, 1, 3, 6, 40] [6]
def w5_SendHeard_r3 : IC := (cSeq w5_SendHeard_r3_0 w5_SendHeard_r3_1)
def w5_SendHeard_r4 : IC := cReg Try.prog [
    ⟨some 8, none, iMov 8 (.const (.bool true)) true⟩] [8] []
def w5_SendHeard_c2a : IC := (cSeq w5_SendHeard_r4 cRet)
def w5_SendHeard_c2 : IC := cCond (.tmp 40) w5_SendHeard_c2a cSkip
def w5_SendHeard_r5 : IC := cReg Try.prog [
    ⟨some 41, none, iMov 41 (.tmp 0) false⟩,
    ⟨some 42, none, iMov 42 (.tmp 1) false⟩,
    ⟨some 43, none, iCall 43 40 [(.tmp 41), (.tmp 42)]⟩,
    ⟨some 9, none, iAlo 9 [vD (.slice none 0 0), vD (.int .i64 0), vD (.int .i64 0), vD (.int .i64 0), vD (.int .i64 0), vD (.slice none 0 0), vD (.int .i64 0)]⟩,
    ⟨none, none, iStor 7 (.tmp 9) (.tmp 43)⟩] [3, 6, 9] [6, 9]
def w5_SendHeard_r6 : IC := cReg Try.prog [
    ⟨some 44, none, iLoad 44 7 true (.tmp 9) false⟩,
    ⟨some 45, none, iLoad 45 6 true (.tmp 6) false⟩,
    ⟨some 46, none, iCall 46 47 [(.tmp 44), (.tmp 45)]⟩,
    ⟨some 10, none, iAlo 10 [vD (.slice none 0 0), vD (.int .i64 0), vD (.int .i64 0), vD (.int .i64 0), vD (.int .i64 0), vD (.slice none 0 0), vD (.int .i64 0)]⟩,
    ⟨none, none, iStor 7 (.tmp 10) (.tmp 46)⟩] [3, 6, 9, 10] [6, 9, 10]
def w5_SendHeard_r7_0 : IC := cReg Try.prog [
    ⟨some 47, none, iFad 47 0 (.tmp 10)⟩,
    ⟨some 48, none, iLoad 48 1 false (.tmp 47) false⟩,
    ⟨some 49, none, iFad 49 0 (.tmp 9)⟩,
    ⟨some 50, none, iLoad 50 1 false (.tmp 49) false⟩,
    ⟨some 51, none, iCall 51 33 [(.tmp 48), (.tmp 50)]⟩,
    ⟨some 52, none, iNot 52 (.tmp 51)⟩,
    ⟨some 53, none, iMov 53 (.tmp 52) false⟩,
    ⟨some 54, some (53, false), iFad 54 1 (.tmp 10)⟩,
    ⟨some 55, some (53, false), iLoad 55 1 false (.tmp 54) false⟩,
    ⟨some 56, some (53, false), iFad 56 1 (.tmp 9)⟩] [3, 6, 9, 10, 53, 55, 56] [6, 9, 10]
def w5_SendHeard_r7_1 : IC := cReg Try.prog [
    ⟨some 57, some (53, false), iLoad 57 1 false (.tmp 56) false⟩,
    ⟨some 58, some (53, false), iBin 58 .neq (.tmp 55) (.tmp 57)⟩,
    ⟨some 59, none, iPick 59 (.tmp 53) (.const (.bool true)) (.tmp 58)⟩,
    ⟨some 60, none, iMov 60 (.tmp 59) false⟩,
    ⟨some 61, some (60, false), iFad 61 2 (.tmp 10)⟩,
    ⟨some 62, some (60, false), iLoad 62 3 true (.tmp 61) false⟩,
    ⟨some 63, some (60, false), iFad 63 2 (.tmp 9)⟩,
    ⟨some 64, some (60, false), iLoad 64 3 true (.tmp 63) false⟩,
    ⟨some 65, some (60, false), iEqA 65 false (.tmp 62) (.tmp 64)⟩,
    ⟨some 66, none, iPick 66 (.tmp 60) (.const (.bool true)) (.tmp 65)⟩] [3, 6, 9, 10, 66] [6, 9, 10]
def w5_SendHeard_r7_2 : IC := cReg Try.prog [
    ⟨some 67, none, iMov 67 (.tmp 66) false⟩,
    ⟨some 68, some (67, false), iFad 68 5 (.tmp 10)⟩,
    ⟨some 69, some (67, false), iLoad 69 1 false (.tmp 68) false⟩,
    ⟨some 70, some (67, false), iLen 70 false (.tmp 69)⟩,
    ⟨some 71, some (67, false), iFad 71 5 (.tmp 9)⟩,
    ⟨some 72, some (67, false), iLoad 72 1 false (.tmp 71) false⟩,
    ⟨some 73, some (67, false), iLen 73 false (.tmp 72)⟩,
    ⟨some 74, some (67, false), iBin 74 .gtr (.tmp 70) (.tmp 73)⟩,
    ⟨some 75, none, iPick 75 (.tmp 67) (.const (.bool true)) (.tmp 74)⟩] [3, 6, 9, 10, 75] [6, 9, 10]
def w5_SendHeard_r7 : IC := (cSeq w5_SendHeard_r7_0 (cSeq w5_SendHeard_r7_1 w5_SendHeard_r7_2))
def w5_SendHeard_r8 : IC := cReg Try.prog [
    ⟨some 8, none, iMov 8 (.const (.bool false)) true⟩] [8] []
def w5_SendHeard_c3a : IC := (cSeq w5_SendHeard_r8 cRet)
def w5_SendHeard_c3 : IC := cCond (.tmp 75) w5_SendHeard_c3a cSkip
def w5_SendHeard_r9 : IC := cReg Try.prog [
    ⟨some 76, none, iFad 76 1 (.tmp 9)⟩,
    ⟨some 77, none, iLoad 77 1 false (.tmp 76) false⟩,
    ⟨some 11, none, iMov 11 (.tmp 77) true⟩] [3, 6, 10, 11] [6, 10]
def w5_SendHeard_r10 : IC := cReg Try.prog [
    ⟨some 78, none, iMov 78 (.tmp 3) false⟩,
    ⟨some 79, none, iMov 79 (.const (.int .i64 0)) false⟩] [6, 10, 11, 78, 79] [6, 10]
def w5_SendHeard_r11 : IC := cReg Try.prog [
    ⟨some 80, none, iBin 80 .lss (.tmp 79) (.tmp 78)⟩] [6, 10, 11, 78, 79, 80] [6, 10]
def w5_SendHeard_c6 : IC := cCond (.tmp 80) cSkip (cExit 0)
def w5_SendHeard_r12 : IC := cReg Try.prog [
    ⟨some 82, none, iLoad 82 7 true (.tmp 10) false⟩,
    ⟨some 83, none, iCall 83 45 [(.tmp 82)]⟩,
    ⟨some 81, none, iMov 81 (.tmp 83) false⟩,
    ⟨some 84, none, iExt 84 (.tmp 81) 0⟩,
    ⟨some 85, none, iExt 85 (.tmp 81) 1⟩,
    ⟨some 86, none, iExt 86 (.tmp 81) 2⟩,
    ⟨some 12, none, iAlo 12 [vD (.slice none 0 0), vD (.int .i64 0), vD (.int .i64 0), vD (.int .i64 0), vD (.int .i64 0), vD (.slice none 0 0), vD (.int .i64 0)]⟩,
    ⟨some 13, none, iAlo 13 [vD (.int .i64 0), vD (.int .i64 0), vD (.int .i64 0), vD (.int .i64 0), vD (.slice none 0 0), vD (.slice none 0 0)]⟩,
    ⟨none, none, iStor 7 (.tmp 12) (.tmp 84)⟩,
    ⟨none, none, iStor 6 (.tmp 13) (.tmp 85)⟩,
    ⟨some 14, none, iMov 14 (.tmp 86) true⟩] [6, 10, 11, 12, 13, 14, 78, 79] [6, 10, 12, 13]
def w5_SendHeard_r13 : IC := cReg Try.prog [
    ⟨some 87, none, iMov 87 (.tmp 14) false⟩,
    ⟨some 88, none, iNot 88 (.tmp 87)⟩] [6, 10, 11, 12, 13, 78, 79, 88] [6, 10, 12, 13]
def w5_SendHeard_r14 : IC := cReg Try.prog [
    ⟨some 8, none, iMov 8 (.const (.bool true)) true⟩] [8] []
def w5_SendHeard_c8a : IC := (cSeq w5_SendHeard_r14 cRet)
def w5_SendHeard_c8 : IC := cCond (.tmp 88) w5_SendHeard_c8a cSkip
def w5_SendHeard_r15 : IC := cReg Try.prog [
    ⟨some 89, none, iFad 89 1 (.tmp 13)⟩,
    ⟨some 90, none, iLoad 90 1 false (.tmp 89) false⟩,
    ⟨some 91, none, iFad 91 1 (.tmp 6)⟩,
    ⟨some 92, none, iLoad 92 1 false (.tmp 91) false⟩,
    ⟨some 93, none, iBin 93 .lss (.tmp 90) (.tmp 92)⟩,
    ⟨some 15, none, iMov 15 (.tmp 93) true⟩] [6, 10, 11, 12, 13, 15, 78, 79] [6, 10, 12, 13]
def w5_SendHeard_r16 : IC := cReg Try.prog [
    ⟨some 94, none, iFad 94 5 (.tmp 6)⟩,
    ⟨some 95, none, iLoad 95 1 false (.tmp 94) false⟩,
    ⟨some 96, none, iLen 96 false (.tmp 95)⟩,
    ⟨some 97, none, iMov 97 (.const (.int .i64 0)) false⟩] [6, 10, 11, 12, 13, 15, 78, 79, 95, 96, 97] [6, 10, 12, 13]
def w5_SendHeard_r17 : IC := cReg Try.prog [
    ⟨some 98, none, iBin 98 .lss (.tmp 97) (.tmp 96)⟩] [6, 10, 11, 12, 13, 15, 78, 79, 95, 96, 97, 98] [6, 10, 12, 13]
def w5_SendHeard_c11 : IC := cCond (.tmp 98) cSkip (cExit 2)
def w5_SendHeard_r18 : IC := cReg Try.prog [
    ⟨some 99, none, iIaS 99 1 (.tmp 95) (.tmp 97)⟩,
    ⟨some 100, none, iLoad 100 1 false (.tmp 99) false⟩,
    ⟨some 17, none, iMov 17 (.tmp 100) true⟩] [6, 10, 11, 12, 13, 15, 17, 78, 79, 95, 96, 97] [6, 10, 12, 13]
def w5_SendHeard_r19 : IC := cReg Try.prog [
    ⟨some 101, none, iMov 101 (.tmp 15) false⟩,
    ⟨some 102, none, iMov 102 (.tmp 101) false⟩,
    ⟨some 103, some (102, false), iMov 103 (.tmp 17) false⟩,
    ⟨some 104, some (102, false), iFad 104 1 (.tmp 13)⟩,
    ⟨some 105, some (102, false), iLoad 105 1 false (.tmp 104) false⟩,
    ⟨some 106, some (102, false), iBin 106 .eql (.tmp 103) (.tmp 105)⟩,
    ⟨some 107, none, iPick 107 (.tmp 102) (.const (.bool true)) (.tmp 106)⟩,
    ⟨some 15, none, iMov 15 (.tmp 107) true⟩] [6, 10, 11, 12, 13, 15, 78, 79, 95, 96, 97] [6, 10, 12, 13]
def w5_SendHeard_b12 : IC := cBlock 3 (cSeq w5_SendHeard_r18 w5_SendHeard_r19)
def w5_SendHeard_r20 : IC := cReg Try.prog [
    ⟨some 108, none, iBin 108 .add (.tmp 97) (.const (.int .i64 1))⟩,
    ⟨some 97, none, iMov 97 (.tmp 108) false⟩] [6, 10, 11, 12, 13, 15, 78, 79, 95, 96, 97] [6, 10, 12, 13]
def w5_SendHeard_l10a : IC := (cSeq w5_SendHeard_r17 (cSeq w5_SendHeard_c11 (cSeq w5_SendHeard_b12 w5_SendHeard_r20)))
def w5_SendHeard_l10 : IC := cLoop w5_SendHeard_l10a
def w5_SendHeard_b9 : IC := cBlock 2 w5_SendHeard_l10
def w5_SendHeard_r21 : IC := cReg Try.prog [
    ⟨some 109, none, iMov 109 (.tmp 15) false⟩,
    ⟨some 110, none, iMov 110 (.tmp 109) false⟩,
    ⟨some 111, some (110, true), iFad 111 1 (.tmp 13)⟩,
    ⟨some 112, some (110, true), iLoad 112 1 false (.tmp 111) false⟩,
    ⟨some 113, some (110, true), iMov 113 (.tmp 11) false⟩,
    ⟨some 114, some (110, true), iBin 114 .lss (.tmp 112) (.tmp 113)⟩,
    ⟨some 115, none, iPick 115 (.tmp 110) (.tmp 114) (.const (.bool false))⟩] [6, 10, 11, 12, 78, 79, 115] [6, 10, 12]
def w5_SendHeard_r22 : IC := cReg Try.prog [
    ⟨some 8, none, iMov 8 (.const (.bool false)) true⟩] [8] []
def w5_SendHeard_c13a : IC := (cSeq w5_SendHeard_r22 cRet)
def w5_SendHeard_c13 : IC := cCond (.tmp 115) w5_SendHeard_c13a cSkip
def w5_SendHeard_r23 : IC := cReg Try.prog [
    ⟨some 116, none, iLoad 116 7 true (.tmp 12) false⟩,
    ⟨none, none, iStor 7 (.tmp 10) (.tmp 116)⟩] [6, 10, 11, 78, 79] [6, 10]
def w5_SendHeard_b7 : IC := cBlock 1 (cSeq w5_SendHeard_r12 (cSeq (cSeq w5_SendHeard_r13 w5_SendHeard_c8) (cSeq w5_SendHeard_r15 (cSeq (cSeq w5_SendHeard_r16 w5_SendHeard_b9) (cSeq (cSeq w5_SendHeard_r21 w5_SendHeard_c13) w5_SendHeard_r23)))))
def w5_SendHeard_r24 : IC := cReg Try.prog [
    ⟨some 117, none, iBin 117 .add (.tmp 79) (.const (.int .i64 1))⟩,
    ⟨some 79, none, iMov 79 (.tmp 117) false⟩] [6, 10, 11, 78, 79] [6, 10]
def w5_SendHeard_l5a : IC := (cSeq w5_SendHeard_r11 (cSeq w5_SendHeard_c6 (cSeq w5_SendHeard_b7 w5_SendHeard_r24)))
def w5_SendHeard_l5 : IC := cLoop w5_SendHeard_l5a
def w5_SendHeard_b4 : IC := cBlock 0 w5_SendHeard_l5
def w5_SendHeard_r25 : IC := cReg Try.prog [
    ⟨some 8, none, iMov 8 (.const (.bool true)) true⟩] [8] []
def w5_SendHeard : IC := (cSeq w5_SendHeard_r0 (cSeq (cSeq w5_SendHeard_r1 w5_SendHeard_c1) (cSeq (cSeq w5_SendHeard_r3 w5_SendHeard_c2) (cSeq w5_SendHeard_r5 (cSeq w5_SendHeard_r6 (cSeq (cSeq w5_SendHeard_r7 w5_SendHeard_c3) (cSeq w5_SendHeard_r9 (cSeq (cSeq w5_SendHeard_r10 w5_SendHeard_b4) (cSeq w5_SendHeard_r25 cRet)))))))))
theorem told_w5_SendHeard {args r : List D} (hl : args.length = 4) (h : w5_SendHeard (start args) (fin [(8, none)] r)) : Told Try.prog 12 args r :=
  told_of follows Try.func12 rfl (an := [([], [0, 1, 3, 6], [6], []), ([], [0, 1, 3, 6, 19], [6], []), ([], [8], [], []), ([(10, [0, 1, 3, 6, 27, 29], [6])], [0, 1, 3, 6, 40], [6], []), ([], [8], [], []), ([], [3, 6, 9], [6, 9], []), ([], [3, 6, 9, 10], [6, 9, 10], []), ([(10, [3, 6, 9, 10, 53, 55, 56], [6, 9, 10]), (10, [3, 6, 9, 10, 66], [6, 9, 10])], [3, 6, 9, 10, 75], [6, 9, 10], []), ([], [8], [], []), ([], [3, 6, 10, 11], [6, 10], []), ([], [6, 10, 11, 78, 79], [6, 10], []), ([], [6, 10, 11, 78, 79, 80], [6, 10], []), ([], [6, 10, 11, 12, 13, 14, 78, 79], [6, 10, 12, 13], []), ([], [6, 10, 11, 12, 13, 78, 79, 88], [6, 10, 12, 13], []), ([], [8], [], []), ([], [6, 10, 11, 12, 13, 15, 78, 79], [6, 10, 12, 13], []), ([], [6, 10, 11, 12, 13, 15, 78, 79, 95, 96, 97], [6, 10, 12, 13], []), ([], [6, 10, 11, 12, 13, 15, 78, 79, 95, 96, 97, 98], [6, 10, 12, 13], []), ([], [6, 10, 11, 12, 13, 15, 17, 78, 79, 95, 96, 97], [6, 10, 12, 13], []), ([], [6, 10, 11, 12, 13, 15, 78, 79, 95, 96, 97], [6, 10, 12, 13], []), ([], [6, 10, 11, 12, 13, 15, 78, 79, 95, 96, 97], [6, 10, 12, 13], []), ([], [6, 10, 11, 12, 78, 79, 115], [6, 10, 12], []), ([], [8], [], []), ([], [6, 10, 11, 78, 79], [6, 10], []), ([], [6, 10, 11, 78, 79], [6, 10], []), ([], [8], [], [])]) (by kernel_rfl) (by kernel_rfl) (by rw [hl]; decide +kernel) h

end Go.Proofs.Ytficfkeifcnbmaa.ab
