/-
  Functions as plain code (written by wip/abs/ir.py): lklaw5.SendEach.
-/
import Derived.Test.YtficfkeifcnbmabM27
import Derived.Test.YtficfkeifcnbmabProg
namespace Go.Proofs.Ytficfkeifcnbmab.ab
set_option linter.unusedVariables false
set_option maxRecDepth 100000
open Go Go.RowKit

def w5_SendEach_r0 : IC := cReg Try.prog [
    ⟨some 6, none, iMov 6 (.const (.bool false)) true⟩] [0, 1, 2] []
def w5_SendEach_r1 : IC := cReg Try.prog [
    ⟨some 14, none, iCall 14 4 []⟩,
    ⟨some 15, none, iNot 15 (.tmp 14)⟩] [0, 1, 2, 15] []
def w5_SendEach_r2 : IC := cReg Try.prog [
    ⟨some 6, none, iMov 6 (.const (.bool false)) true⟩] [6] []
def w5_SendEach_c1a : IC := (cSeq w5_SendEach_r2 cRet)
def w5_SendEach_c1 : IC := cCond (.tmp 15) w5_SendEach_c1a cSkip
def w5_SendEach_r3 : IC := cReg Try.prog [
    ⟨some 16, none, iMov 16 (.tmp 0) false⟩,
    ⟨some 17, none, iLen 17 false (.tmp 16)⟩,
    ⟨some 18, none, iBin 18 .gtr (.tmp 17) (.const (.int .i64 100))⟩,
    ⟨some 19, none, iMov 19 (.tmp 18) false⟩,
    ⟨some 20, some (19, false), iMov 20 (.tmp 2) false⟩,
    ⟨some 21, some (19, false), iBin 21 .lss (.tmp 20) (.const (.int .i64 0))⟩,
    ⟨some 22, none, iPick 22 (.tmp 19) (.const (.bool true)) (.tmp 21)⟩,
    ⟨some 23, none, iMov 23 (.tmp 22) false⟩,
    ⟨some 24, some (23, false), iMov 24 (.tmp 2) false⟩,
    ⟨some 25, some (23, false), iBin 25 .gtr (.tmp 24) (.const (.int .i64 40))⟩,
    ⟨some 26, none, iPick 26 (.tmp 23) (.const (.bool true)) (.tmp 25)⟩] [0, 1, 2, 26] []
def w5_SendEach_r4 : IC := cReg Try.prog [
    ⟨some 6, none, iMov 6 (.const (.bool true)) true⟩] [6] []
def w5_SendEach_c2a : IC := (cSeq w5_SendEach_r4 cRet)
def w5_SendEach_c2 : IC := cCond (.tmp 26) w5_SendEach_c2a cSkip
def w5_SendEach_r5 : IC := cReg Try.prog [
    ⟨some 27, none, iMov 27 (.tmp 0) false⟩,
    ⟨some 28, none, iMov 28 (.tmp 1) false⟩,
    ⟨some 29, none, iCall 29 5 [(.tmp 27), (.tmp 28)]⟩,
    ⟨some 7, none, iAlo 7 [vD (.slice none 0 0), vD (.int .i64 0), vD (.int .i64 0), vD (.int .i64 0), vD (.int .i64 0), vD (.slice none 0 0), vD (.int .i64 0)]⟩,
    ⟨none, none, iStor 7 (.tmp 7) (.tmp 29)⟩] [2, 7] [7]
def w5_SendEach_r6 : IC := cReg Try.prog [
    ⟨some 30, none, iMov 30 (.tmp 2) false⟩,
    ⟨some 31, none, iMov 31 (.const (.int .i64 0)) false⟩] [7, 30, 31] [7]
def w5_SendEach_r7 : IC := cReg Try.prog [
    ⟨some 32, none, iBin 32 .lss (.tmp 31) (.tmp 30)⟩] [7, 30, 31, 32] [7]
def w5_SendEach_c5 : IC := cCond (.tmp 32) cSkip (cExit 0)
def w5_SendEach_r8 : IC := cReg Try.prog [
    ⟨some 34, none, iLoad 34 7 true (.tmp 7) false⟩,
    ⟨some 35, none, iCall 35 6 [(.tmp 34)]⟩,
    ⟨some 33, none, iMov 33 (.tmp 35) false⟩,
    ⟨some 36, none, iExt 36 (.tmp 33) 0⟩,
    ⟨some 37, none, iExt 37 (.tmp 33) 1⟩,
    ⟨some 38, none, iExt 38 (.tmp 33) 2⟩,
    ⟨some 8, none, iAlo 8 [vD (.slice none 0 0), vD (.int .i64 0), vD (.int .i64 0), vD (.int .i64 0), vD (.int .i64 0), vD (.slice none 0 0), vD (.int .i64 0)]⟩,
    ⟨some 9, none, iAlo 9 [vD (.int .i64 0), vD (.int .i64 0), vD (.int .i64 0), vD (.int .i64 0), vD (.slice none 0 0), vD (.slice none 0 0)]⟩,
    ⟨none, none, iStor 7 (.tmp 8) (.tmp 36)⟩,
    ⟨none, none, iStor 6 (.tmp 9) (.tmp 37)⟩,
    ⟨some 10, none, iMov 10 (.tmp 38) true⟩] [7, 8, 9, 10, 30, 31] [7, 8, 9]
def w5_SendEach_r9 : IC := cReg Try.prog [
    ⟨some 39, none, iMov 39 (.tmp 10) false⟩,
    ⟨some 40, none, iNot 40 (.tmp 39)⟩] [7, 8, 9, 30, 31, 40] [7, 8, 9]
def w5_SendEach_r10 : IC := cReg Try.prog [
    ⟨some 41, none, iFad 41 0 (.tmp 7)⟩,
    ⟨some 42, none, iLoad 42 1 false (.tmp 41) false⟩,
    ⟨some 43, none, iLen 43 false (.tmp 42)⟩,
    ⟨some 44, none, iFad 44 5 (.tmp 7)⟩,
    ⟨some 45, none, iLoad 45 1 false (.tmp 44) false⟩,
    ⟨some 46, none, iLen 46 false (.tmp 45)⟩,
    ⟨some 47, none, iBin 47 .add (.tmp 43) (.tmp 46)⟩,
    ⟨some 48, none, iBin 48 .eql (.tmp 47) (.const (.int .i64 0))⟩,
    ⟨some 49, none, iMov 49 (.tmp 48) false⟩,
    ⟨some 50, some (49, true), iLoad 50 7 true (.tmp 7) false⟩,
    ⟨some 51, some (49, true), iLoad 51 7 true (.tmp 8) false⟩,
    ⟨some 52, some (49, true), iCall 52 7 [(.tmp 50), (.tmp 51)]⟩,
    ⟨some 53, none, iPick 53 (.tmp 49) (.tmp 52) (.const (.bool false))⟩,
    ⟨some 6, none, iMov 6 (.tmp 53) true⟩] [6] []
def w5_SendEach_c7a : IC := (cSeq w5_SendEach_r10 cRet)
def w5_SendEach_c7 : IC := cCond (.tmp 40) w5_SendEach_c7a cSkip
def w5_SendEach_r11 : IC := cReg Try.prog [
    ⟨some 54, none, iFad 54 1 (.tmp 9)⟩,
    ⟨some 55, none, iLoad 55 1 false (.tmp 54) false⟩,
    ⟨some 56, none, iFad 56 1 (.tmp 7)⟩,
    ⟨some 57, none, iLoad 57 1 false (.tmp 56) false⟩,
    ⟨some 58, none, iBin 58 .eql (.tmp 55) (.tmp 57)⟩] [7, 8, 9, 30, 31, 58] [7, 8, 9]
def w5_SendEach_r12 : IC := cRegD Try.prog [
    ⟨some 59, none, iFad 59 3 (.tmp 9)⟩,
    ⟨some 60, none, iLoad 60 1 false (.tmp 59) false⟩,
    ⟨some 61, none, iFad 61 2 (.tmp 9)⟩,
    ⟨some 62, none, iLoad 62 1 false (.tmp 61) false⟩,
    ⟨some 63, none, iFad 63 2 (.tmp 7)⟩,
    ⟨some 64, none, iIaA 64 3 1 (.tmp 63) (.tmp 62)⟩,
    ⟨some 65, none, iLoad 65 1 false (.tmp 64) false⟩,
    ⟨some 66, none, iBin 66 .neq (.tmp 60) (.tmp 65)⟩,
    ⟨some 67, none, iMov 67 (.tmp 66) false⟩,
    ⟨some 68, some (67, false), iFad 68 1 (.tmp 8)⟩,
    ⟨some 69, some (67, false), iLoad 69 1 false (.tmp 68) false⟩,
    ⟨some 70, some (67, false), iFad 70 1 (.tmp 7)⟩,
    ⟨some 71, some (67, false), iLoad 71 1 false (.tmp 70) false⟩,
    ⟨some 72, some (67, false), iBin 72 .add (.tmp 71) (.const (.int .i64 1))⟩,
    ⟨some 73, some (67, false), iBin 73 .neq (.tmp 69) (.tmp 72)⟩,
    ⟨some 74, none, iPick 74 (.tmp 67) (.const (.bool true)) (.tmp 73)⟩,
    ⟨some 75, none, iMov 75 (.tmp 74) false⟩,
    ⟨some 76, some (75, false), iFad 76 0 (.tmp 8)⟩,
    ⟨some 77, some (75, false), iLoad 77 1 false (.tmp 76) false⟩,
    ⟨some 78, some (75, false), iLen 78 false (.tmp 77)⟩,
    ⟨some 79, some (75, false), iFad 79 0 (.tmp 7)⟩,
    ⟨some 80, some (75, false), iLoad 80 1 false (.tmp 79) false⟩,
    ⟨some 81, some (75, false), iLen 81 false (.tmp 80)⟩,
    ⟨some 82, some (75, false), iBin 82 .sub (.tmp 81) (.const (.int .i64 1))⟩,
    ⟨some 83, some (75, false), iBin 83 .neq (.tmp 78) (.tmp 82)⟩,
    ⟨some 84, none, iPick 84 (.tmp 75) (.const (.bool true)) (.tmp 83)⟩] [[], [0], [], [2], [], [4, 3, 2], [5, 4, 3, 2], [1, 6, 0, 5, 4, 3, 2], [7, 1, 6, 0, 5, 4, 3, 2], [8, 7, 1, 6, 0, 5, 4, 3, 2], [9, 8, 7, 1, 6, 0, 5, 4, 3, 2], [8, 7, 1, 6, 0, 5, 4, 3, 2], [11, 8, 7, 1, 6, 0, 5, 4, 3, 2], [12, 8, 11, 7, 1, 6, 0, 5, 4, 3, 2], [10, 13, 8, 9, 7, 1, 6, 0, 5, 4, 3, 2, 12, 11], [8, 14, 7, 1, 6, 0, 5, 4, 3, 2, 10, 13, 9, 12, 11], [15, 8, 14, 7, 1, 6, 0, 5, 4, 3, 2, 10, 13, 9, 12, 11], [16, 15, 8, 14, 7, 1, 6, 0, 5, 4, 3, 2, 10, 13, 9, 12, 11], [17, 16, 15, 8, 14, 7, 1, 6, 0, 5, 4, 3, 2, 10, 13, 9, 12, 11], [18, 16, 17, 15, 8, 14, 7, 1, 6, 0, 5, 4, 3, 2, 10, 13, 9, 12, 11], [16, 15, 8, 14, 7, 1, 6, 0, 5, 4, 3, 2, 10, 13, 9, 12, 11], [20, 16, 15, 8, 14, 7, 1, 6, 0, 5, 4, 3, 2, 10, 13, 9, 12, 11], [21, 16, 20, 15, 8, 14, 7, 1, 6, 0, 5, 4, 3, 2, 10, 13, 9, 12, 11], [22, 16, 21, 20, 15, 8, 14, 7, 1, 6, 0, 5, 4, 3, 2, 10, 13, 9, 12, 11], [19, 23, 16, 18, 17, 15, 8, 14, 7, 1, 6, 0, 5, 4, 3, 2, 10, 13, 9, 12, 11, 22, 21, 20], [16, 24, 15, 8, 14, 7, 1, 6, 0, 5, 4, 3, 2, 10, 13, 9, 12, 11, 19, 23, 18, 17, 22, 21, 20]] [7, 8, 9, 30, 31, 84] [7, 8, 9]
def w5_SendEach_r13 : IC := cReg Try.prog [
    ⟨some 6, none, iMov 6 (.const (.bool false)) true⟩] [6] []
def w5_SendEach_c9a : IC := (cSeq w5_SendEach_r13 cRet)
def w5_SendEach_c9 : IC := cCond (.tmp 84) w5_SendEach_c9a cSkip
def w5_SendEach_r14 : IC := cReg Try.prog [
    ⟨some 11, none, iMov 11 (.const (.bool false)) true⟩] [7, 8, 9, 11, 30, 31] [7, 8, 9]
def w5_SendEach_r15 : IC := cReg Try.prog [
    ⟨some 85, none, iFad 85 5 (.tmp 7)⟩,
    ⟨some 86, none, iLoad 86 1 false (.tmp 85) false⟩,
    ⟨some 87, none, iLen 87 false (.tmp 86)⟩,
    ⟨some 88, none, iMov 88 (.const (.int .i64 0)) false⟩] [7, 8, 9, 11, 30, 31, 86, 87, 88] [7, 8, 9]
def w5_SendEach_r16 : IC := cReg Try.prog [
    ⟨some 89, none, iBin 89 .lss (.tmp 88) (.tmp 87)⟩] [7, 8, 9, 11, 30, 31, 86, 87, 88, 89] [7, 8, 9]
def w5_SendEach_c12 : IC := cCond (.tmp 89) cSkip (cExit 2)
def w5_SendEach_r17 : IC := cReg Try.prog [
    ⟨some 90, none, iIaS 90 6 (.tmp 86) (.tmp 88)⟩,
    ⟨some 91, none, iLoad 91 6 true (.tmp 90) false⟩,
    ⟨some 13, none, iAlo 13 [vD (.int .i64 0), vD (.int .i64 0), vD (.int .i64 0), vD (.int .i64 0), vD (.slice none 0 0), vD (.slice none 0 0)]⟩,
    ⟨none, none, iStor 6 (.tmp 13) (.tmp 91)⟩] [7, 8, 9, 11, 13, 30, 31, 86, 87, 88] [7, 8, 9, 13]
def w5_SendEach_r18 : IC := cReg Try.prog [
    ⟨some 92, none, iMov 92 (.tmp 11) false⟩,
    ⟨some 93, none, iMov 93 (.tmp 92) false⟩,
    ⟨some 94, some (93, false), iLoad 94 6 true (.tmp 13) false⟩,
    ⟨some 95, some (93, false), iLoad 95 6 true (.tmp 9) false⟩,
    ⟨some 96, some (93, false), iCall 96 8 [(.tmp 94), (.tmp 95)]⟩,
    ⟨some 97, none, iPick 97 (.tmp 93) (.const (.bool true)) (.tmp 96)⟩,
    ⟨some 11, none, iMov 11 (.tmp 97) true⟩] [7, 8, 9, 11, 30, 31, 86, 87, 88] [7, 8, 9]
def w5_SendEach_b13 : IC := cBlock 3 (cSeq w5_SendEach_r17 w5_SendEach_r18)
def w5_SendEach_r19 : IC := cReg Try.prog [
    ⟨some 98, none, iBin 98 .add (.tmp 88) (.const (.int .i64 1))⟩,
    ⟨some 88, none, iMov 88 (.tmp 98) false⟩] [7, 8, 9, 11, 30, 31, 86, 87, 88] [7, 8, 9]
def w5_SendEach_l11a : IC := (cSeq w5_SendEach_r16 (cSeq w5_SendEach_c12 (cSeq w5_SendEach_b13 w5_SendEach_r19)))
def w5_SendEach_l11 : IC := cLoop w5_SendEach_l11a
def w5_SendEach_b10 : IC := cBlock 2 w5_SendEach_l11
def w5_SendEach_r20_0 : IC := cReg Try.prog [
    ⟨some 99, none, iMov 99 (.tmp 11) false⟩,
    ⟨some 100, none, iNot 100 (.tmp 99)⟩,
    ⟨some 101, none, iMov 101 (.tmp 100) false⟩,
    ⟨some 102, some (101, false), iFad 102 1 (.tmp 8)⟩,
    ⟨some 103, some (101, false), iLoad 103 1 false (.tmp 102) false⟩,
    ⟨some 104, some (101, false), iFad 104 1 (.tmp 7)⟩,
    ⟨some 105, some (101, false), iLoad 105 1 false (.tmp 104) false⟩,
    ⟨some 106, some (101, false), iBin 106 .neq (.tmp 103) (.tmp 105)⟩,
    ⟨some 107, none, iPick 107 (.tmp 101) (.const (.bool true)) (.tmp 106)⟩,
    ⟨some 108, none, iMov 108 (.tmp 107) false⟩] [7, 8, 9, 30, 31, 108] [7, 8, 9]
def w5_SendEach_r20_1 : IC := cReg Try.prog [
    ⟨some 109, some (108, false), iFad 109 5 (.tmp 8)⟩,
    ⟨some 110, some (108, false), iLoad 110 1 false (.tmp 109) false⟩,
    ⟨some 111, some (108, false), iLen 111 false (.tmp 110)⟩,
    ⟨some 112, some (108, false), iFad 112 5 (.tmp 7)⟩,
    ⟨some 113, some (108, false), iLoad 113 1 false (.tmp 112) false⟩,
    ⟨some 114, some (108, false), iLen 114 false (.tmp 113)⟩,
    ⟨some 115, some (108, false), iBin 115 .neq (.tmp 111) (.tmp 114)⟩,
    ⟨some 116, none, iPick 116 (.tmp 108) (.const (.bool true)) (.tmp 115)⟩] [7, 8, 9, 30, 31, 116] [7, 8, 9]
def w5_SendEach_r20 : IC := (cSeq w5_SendEach_r20_0 w5_SendEach_r20_1)
def w5_SendEach_r21 : IC := cReg Try.prog [
    ⟨some 6, none, iMov 6 (.const (.bool false)) true⟩] [6] []
def w5_SendEach_c14a : IC := (cSeq w5_SendEach_r21 cRet)
def w5_SendEach_c14 : IC := cCond (.tmp 116) w5_SendEach_c14a cSkip
def w5_SendEach_c8a : IC := (cSeq w5_SendEach_r12 w5_SendEach_c9)
def w5_SendEach_c8b : IC := (cSeq w5_SendEach_r14 (cSeq (cSeq w5_SendEach_r15 w5_SendEach_b10) (cSeq w5_SendEach_r20 w5_SendEach_c14)))
def w5_SendEach_c8 : IC := cCond (.tmp 58) w5_SendEach_c8a w5_SendEach_c8b
def w5_SendEach_r22 : IC := cReg Try.prog [
    ⟨some 117, none, iLoad 117 6 true (.tmp 9) false⟩,
    ⟨some 118, none, iCall 118 9 [(.tmp 117)]⟩,
    ⟨some 119, none, iBin 119 .neq (.tmp 118) (.const (.int .i64 0))⟩,
    ⟨some 120, none, iMov 120 (.tmp 119) false⟩,
    ⟨some 121, some (120, false), iFad 121 5 (.tmp 8)⟩,
    ⟨some 122, some (120, false), iLoad 122 1 false (.tmp 121) false⟩,
    ⟨some 123, some (120, false), iLen 123 false (.tmp 122)⟩,
    ⟨some 124, some (120, false), iBin 124 .gtr (.tmp 123) (.const (.int .i64 4))⟩,
    ⟨some 125, none, iPick 125 (.tmp 120) (.const (.bool true)) (.tmp 124)⟩] [7, 8, 30, 31, 125] [7, 8]
def w5_SendEach_r23 : IC := cReg Try.prog [
    ⟨some 6, none, iMov 6 (.const (.bool false)) true⟩] [6] []
def w5_SendEach_c15a : IC := (cSeq w5_SendEach_r23 cRet)
def w5_SendEach_c15 : IC := cCond (.tmp 125) w5_SendEach_c15a cSkip
def w5_SendEach_r24 : IC := cReg Try.prog [
    ⟨some 126, none, iLoad 126 7 true (.tmp 8) false⟩,
    ⟨none, none, iStor 7 (.tmp 7) (.tmp 126)⟩] [7, 30, 31] [7]
def w5_SendEach_b6 : IC := cBlock 1 (cSeq w5_SendEach_r8 (cSeq (cSeq w5_SendEach_r9 w5_SendEach_c7) (cSeq (cSeq w5_SendEach_r11 w5_SendEach_c8) (cSeq (cSeq w5_SendEach_r22 w5_SendEach_c15) w5_SendEach_r24))))
def w5_SendEach_r25 : IC := cReg Try.prog [
    ⟨some 127, none, iBin 127 .add (.tmp 31) (.const (.int .i64 1))⟩,
    ⟨some 31, none, iMov 31 (.tmp 127) false⟩] [7, 30, 31] [7]
def w5_SendEach_l4a : IC := (cSeq w5_SendEach_r7 (cSeq w5_SendEach_c5 (cSeq w5_SendEach_b6 w5_SendEach_r25)))
def w5_SendEach_l4 : IC := cLoop w5_SendEach_l4a
def w5_SendEach_b3 : IC := cBlock 0 w5_SendEach_l4
def w5_SendEach_r26 : IC := cReg Try.prog [
    ⟨some 6, none, iMov 6 (.const (.bool true)) true⟩] [6] []
def w5_SendEach : IC := (cSeq w5_SendEach_r0 (cSeq (cSeq w5_SendEach_r1 w5_SendEach_c1) (cSeq (cSeq w5_SendEach_r3 w5_SendEach_c2) (cSeq w5_SendEach_r5 (cSeq (cSeq w5_SendEach_r6 w5_SendEach_b3) (cSeq w5_SendEach_r26 cRet))))))
theorem told_w5_SendEach {args r : List D} (hl : args.length = 3) (h : w5_SendEach (start args) (fin [(6, none)] r)) : Told Try.prog 3 args r :=
  told_of follows Try.func3 rfl (an := [([], [0, 1, 2], [], []), ([], [0, 1, 2, 15], [], []), ([], [6], [], []), ([], [0, 1, 2, 26], [], []), ([], [6], [], []), ([], [2, 7], [7], []), ([], [7, 30, 31], [7], []), ([], [7, 30, 31, 32], [7], []), ([], [7, 8, 9, 10, 30, 31], [7, 8, 9], []), ([], [7, 8, 9, 30, 31, 40], [7, 8, 9], []), ([], [6], [], []), ([], [7, 8, 9, 30, 31, 58], [7, 8, 9], []), ([], [7, 8, 9, 30, 31, 84], [7, 8, 9], []), ([], [6], [], []), ([], [7, 8, 9, 11, 30, 31], [7, 8, 9], []), ([], [7, 8, 9, 11, 30, 31, 86, 87, 88], [7, 8, 9], []), ([], [7, 8, 9, 11, 30, 31, 86, 87, 88, 89], [7, 8, 9], []), ([], [7, 8, 9, 11, 13, 30, 31, 86, 87, 88], [7, 8, 9, 13], []), ([], [7, 8, 9, 11, 30, 31, 86, 87, 88], [7, 8, 9], []), ([], [7, 8, 9, 11, 30, 31, 86, 87, 88], [7, 8, 9], []), ([(10, [7, 8, 9, 30, 31, 108], [7, 8, 9])], [7, 8, 9, 30, 31, 116], [7, 8, 9], []), ([], [6], [], []), ([], [7, 8, 30, 31, 125], [7, 8], []), ([], [6], [], []), ([], [7, 30, 31], [7], []), ([], [7, 30, 31], [7], []), ([], [6], [], [])]) (by kernel_rfl) (by kernel_rfl) (by rw [hl]; decide +kernel) h

end Go.Proofs.Ytficfkeifcnbmab.ab
