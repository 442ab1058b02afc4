/-
  Functions as plain code (written by wip/abs/ir.py): lkref1.RecvHear, lkref1.RecvSay, lkref1.SameReceiver.
-/
import Derived.Test.YtngfedhffehkaacM23
import Derived.Test.YtngfedhffehkaacProg
namespace Go.Proofs.Ytngfedhffehkaac.ab
set_option linter.unusedSimpArgs false
set_option linter.unusedVariables false
set_option maxRecDepth 100000
open Go Go.RowKit

def r1_RecvHear_r0 : IC := cReg Try.prog [
    ⟨some 2, none, iBox 2 (.tmp 0)⟩,
    ⟨some 3, none, iBox 3 (.tmp 1)⟩,
    ⟨some 4, none, iAlo 4 [vD (.int .i64 0), vD (.slice none 0 0), vD (.int .i64 0), vD (.int .i64 0), vD (.int .i64 0), vD (.slice none 0 0), vD (.slice none 0 0), vD (.bool false)]⟩] [2, 3, 4] [2, 3, 4]
def r1_RecvHear_r1 : IC := cReg Try.prog [
    ⟨some 13, none, iFad 13 0 (.tmp 3)⟩,
    ⟨some 14, none, iLoad 14 1 false (.tmp 13) false⟩,
    ⟨some 15, none, iBin 15 .neq (.tmp 14) (.const (.int .i64 1))⟩] [2, 3, 4, 15] [2, 3, 4]
def r1_RecvHear_r2 : IC := cReg Try.prog [
    ⟨some 16, none, iLoad 16 8 true (.tmp 2) false⟩,
    ⟨none, none, iStor 8 (.tmp 4) (.tmp 16)⟩] [4] [4]
def r1_RecvHear_c1a : IC := (cSeq r1_RecvHear_r2 cRet)
def r1_RecvHear_c1 : IC := cCond (.tmp 15) r1_RecvHear_c1a cSkip
def r1_RecvHear_r3 : IC := cReg Try.prog [
    ⟨some 17, none, iFad 17 7 (.tmp 2)⟩,
    ⟨none, none, iStor 1 (.tmp 17) (.const (.bool true))⟩] [2, 3, 4] [2, 3, 4]
def r1_RecvHear_r4 : IC := cReg Try.prog [
    ⟨some 18, none, iMkM 18⟩,
    ⟨some 19, none, iFad 19 1 (.tmp 3)⟩,
    ⟨some 20, none, iLoad 20 1 false (.tmp 19) false⟩,
    ⟨none, none, iUpd (.tmp 18) (.tmp 20) (.const (.bool true))⟩,
    ⟨some 21, none, iMov 21 (.tmp 18) false⟩,
    ⟨some 5, none, iMov 5 (.tmp 21) true⟩] [2, 3, 4, 5] [2, 3, 4, 200018]
def r1_RecvHear_r5 : IC := cReg Try.prog [
    ⟨some 22, none, iFad 22 1 (.tmp 2)⟩,
    ⟨some 23, none, iLoad 23 1 false (.tmp 22) false⟩,
    ⟨some 24, none, iLen 24 false (.tmp 23)⟩,
    ⟨some 25, none, iMov 25 (.const (.int .i64 0)) false⟩] [2, 3, 4, 5, 23, 24, 25] [2, 3, 4, 200018]
def r1_RecvHear_r6 : IC := cReg Try.prog [
    ⟨some 26, none, iBin 26 .lss (.tmp 25) (.tmp 24)⟩] [2, 3, 4, 5, 23, 24, 25, 26] [2, 3, 4, 200018]
def r1_RecvHear_c4 : IC := cCond (.tmp 26) cSkip (cExit 0)
def r1_RecvHear_r7 : IC := cReg Try.prog [
    ⟨some 27, none, iIaS 27 1 (.tmp 23) (.tmp 25)⟩,
    ⟨some 28, none, iLoad 28 1 false (.tmp 27) false⟩,
    ⟨some 7, none, iMov 7 (.tmp 28) true⟩] [2, 3, 4, 5, 7, 23, 24, 25] [2, 3, 4, 200018]
def r1_RecvHear_r8 : IC := cReg Try.prog [
    ⟨some 29, none, iMov 29 (.tmp 7) false⟩,
    ⟨some 30, none, iFad 30 1 (.tmp 3)⟩,
    ⟨some 31, none, iLoad 31 1 false (.tmp 30) false⟩,
    ⟨some 32, none, iBin 32 .eql (.tmp 29) (.tmp 31)⟩] [2, 3, 4, 5, 7, 23, 24, 25, 32] [2, 3, 4, 200018]
def r1_RecvHear_r9 : IC := cReg Try.prog [
    ⟨some 33, none, iLoad 33 8 true (.tmp 2) false⟩,
    ⟨none, none, iStor 8 (.tmp 4) (.tmp 33)⟩] [4] [4]
def r1_RecvHear_c6a : IC := (cSeq r1_RecvHear_r9 cRet)
def r1_RecvHear_c6 : IC := cCond (.tmp 32) r1_RecvHear_c6a cSkip
def r1_RecvHear_r10 : IC := cReg Try.prog [
    ⟨some 34, none, iMov 34 (.tmp 5) false⟩,
    ⟨some 35, none, iMov 35 (.tmp 7) false⟩,
    ⟨none, none, iUpd (.tmp 34) (.tmp 35) (.const (.bool true))⟩] [2, 3, 4, 5, 23, 24, 25] [2, 3, 4, 200018]
def r1_RecvHear_b5 : IC := cBlock 1 (cSeq r1_RecvHear_r7 (cSeq (cSeq r1_RecvHear_r8 r1_RecvHear_c6) r1_RecvHear_r10))
def r1_RecvHear_r11 : IC := cReg Try.prog [
    ⟨some 36, none, iBin 36 .add (.tmp 25) (.const (.int .i64 1))⟩,
    ⟨some 25, none, iMov 25 (.tmp 36) false⟩] [2, 3, 4, 5, 23, 24, 25] [2, 3, 4, 200018]
def r1_RecvHear_l3a : IC := (cSeq r1_RecvHear_r6 (cSeq r1_RecvHear_c4 (cSeq r1_RecvHear_b5 r1_RecvHear_r11)))
def r1_RecvHear_l3 : IC := cLoop r1_RecvHear_l3a
def r1_RecvHear_b2 : IC := cBlock 0 r1_RecvHear_l3
def r1_RecvHear_r12_0 : IC := cReg Try.prog [
    ⟨some 37, none, iFad 37 1 (.tmp 3)⟩,
    ⟨some 38, none, iLoad 38 1 false (.tmp 37) false⟩,
    ⟨some 39, none, iFad 39 0 (.tmp 2)⟩,
    ⟨some 40, none, iLoad 40 1 false (.tmp 39) false⟩,
    ⟨some 41, none, iBin 41 .lss (.tmp 38) (.tmp 40)⟩,
    ⟨some 42, none, iMov 42 (.tmp 41) false⟩,
    ⟨some 43, some (42, false), iFad 43 1 (.tmp 3)⟩,
    ⟨some 44, some (42, false), iLoad 44 1 false (.tmp 43) false⟩,
    ⟨some 45, some (42, false), iFad 45 0 (.tmp 2)⟩,
    ⟨some 46, some (42, false), iLoad 46 1 false (.tmp 45) false⟩] [2, 3, 4, 5, 42, 44, 46] [2, 3, 4, 200018]
def r1_RecvHear_r12_1 : IC := cReg Try.prog [
    ⟨some 47, some (42, false), iBin 47 .gtr (.tmp 44) (.tmp 46)⟩,
    ⟨some 48, some (42, false), iMov 48 (.tmp 47) false⟩,
    ⟨some 49, some (48, true), iFad 49 1 (.tmp 2)⟩,
    ⟨some 50, some (48, true), iLoad 50 1 false (.tmp 49) false⟩,
    ⟨some 51, some (48, true), iLen 51 false (.tmp 50)⟩,
    ⟨some 52, some (48, true), iBin 52 .gtr (.tmp 51) (.const (.int .i64 2))⟩,
    ⟨some 53, some (42, false), iPick 53 (.tmp 48) (.tmp 52) (.const (.bool false))⟩,
    ⟨some 54, none, iPick 54 (.tmp 42) (.const (.bool true)) (.tmp 53)⟩] [2, 3, 4, 5, 54] [2, 3, 4, 200018]
def r1_RecvHear_r12 : IC := (cSeq r1_RecvHear_r12_0 r1_RecvHear_r12_1)
def r1_RecvHear_r13 : IC := cReg Try.prog [
    ⟨some 55, none, iLoad 55 8 true (.tmp 2) false⟩,
    ⟨none, none, iStor 8 (.tmp 4) (.tmp 55)⟩] [4] [4]
def r1_RecvHear_c7a : IC := (cSeq r1_RecvHear_r13 cRet)
def r1_RecvHear_c7 : IC := cCond (.tmp 54) r1_RecvHear_c7a cSkip
def r1_RecvHear_r14 : IC := cReg Try.prog [
    ⟨some 56, none, iMov 56 (.tmp 5) false⟩,
    ⟨some 57, none, iFad 57 0 (.tmp 2)⟩,
    ⟨some 58, none, iLoad 58 1 false (.tmp 57) false⟩,
    ⟨some 59, none, iLku 59 (.bool false) (.tmp 56) (.tmp 58)⟩] [2, 3, 4, 5, 59] [2, 3, 4, 200018]
def r1_RecvHear_c10 : IC := cCond (.tmp 59) cSkip (cExit 2)
def r1_RecvHear_r15 : IC := cReg Try.prog [
    ⟨some 60, none, iFad 60 0 (.tmp 2)⟩,
    ⟨some 61, none, iLoad 61 1 false (.tmp 60) false⟩,
    ⟨some 62, none, iBin 62 .add (.tmp 61) (.const (.int .i64 1))⟩,
    ⟨some 63, none, iFad 63 0 (.tmp 2)⟩,
    ⟨none, none, iStor 1 (.tmp 63) (.tmp 62)⟩] [2, 3, 4, 5] [2, 3, 4, 200018]
def r1_RecvHear_b11 : IC := cBlock 3 r1_RecvHear_r15
def r1_RecvHear_l9a : IC := (cSeq (cSeq r1_RecvHear_r14 r1_RecvHear_c10) r1_RecvHear_b11)
def r1_RecvHear_l9 : IC := cLoop r1_RecvHear_l9a
def r1_RecvHear_b8 : IC := cBlock 2 r1_RecvHear_l9
def r1_RecvHear_r16 : IC := cReg Try.prog [
    ⟨some 64, none, iFad 64 1 (.tmp 2)⟩,
    ⟨none, none, iStor 1 (.tmp 64) (.const (.slice none 0 0))⟩] [2, 3, 4, 5] [2, 3, 4, 200018]
def r1_RecvHear_r17 : IC := cReg Try.prog [
    ⟨some 65, none, iFad 65 0 (.tmp 2)⟩,
    ⟨some 66, none, iLoad 66 1 false (.tmp 65) false⟩,
    ⟨some 8, none, iMov 8 (.tmp 66) true⟩] [2, 3, 4, 5, 8] [2, 3, 4, 200018]
def r1_RecvHear_r18 : IC := cReg Try.prog [
    ⟨some 67, none, iMov 67 (.tmp 8) false⟩,
    ⟨some 68, none, iBin 68 .lss (.tmp 67) (.const (.int .i64 40))⟩] [2, 3, 4, 5, 8, 68] [2, 3, 4, 200018]
def r1_RecvHear_c14 : IC := cCond (.tmp 68) cSkip (cExit 4)
def r1_RecvHear_r20 : IC := cReg Try.prog [
    ⟨some 71, none, iMov 71 (.tmp 5) false⟩,
    ⟨some 72, none, iMov 72 (.tmp 8) false⟩,
    ⟨some 73, none, iLku 73 (.bool false) (.tmp 71) (.tmp 72)⟩] [2, 3, 4, 5, 8, 73] [2, 3, 4, 200018]
def r1_RecvHear_r21 : IC := cReg Try.prog [
    ⟨some 74, none, iFad 74 1 (.tmp 2)⟩,
    ⟨some 75, none, iLoad 75 1 false (.tmp 74) true⟩,
    ⟨some 76, none, iMov 76 (.tmp 8) false⟩,
    ⟨some 77, none, iRow 77 3 1 [(.tmp 76)]⟩,
    ⟨some 78, none, iApp 78 3 1 8 (.tmp 75) (.tmp 77)⟩,
    ⟨some 79, none, iFad 79 1 (.tmp 2)⟩,
    ⟨none, none, iStor 1 (.tmp 79) (.tmp 78)⟩] [2, 3, 4, 5, 8] [2, 3, 4, 200018]
def r1_RecvHear_c16 : IC := cCond (.tmp 73) r1_RecvHear_r21 cSkip
def r1_RecvHear_b15 : IC := cBlock 5 (cSeq r1_RecvHear_r20 r1_RecvHear_c16)
def r1_RecvHear_r19 : IC := cReg Try.prog [
    ⟨some 69, none, iMov 69 (.tmp 8) false⟩,
    ⟨some 70, none, iBin 70 .add (.tmp 69) (.const (.int .i64 1))⟩,
    ⟨some 8, none, iMov 8 (.tmp 70) true⟩] [2, 3, 4, 5, 8] [2, 3, 4, 200018]
def r1_RecvHear_l13a : IC := (cSeq (cSeq r1_RecvHear_r18 r1_RecvHear_c14) (cSeq r1_RecvHear_b15 r1_RecvHear_r19))
def r1_RecvHear_l13 : IC := cLoop r1_RecvHear_l13a
def r1_RecvHear_b12 : IC := cBlock 4 r1_RecvHear_l13
def r1_RecvHear_r22 : IC := cRegD Try.prog [
    ⟨some 80, none, iRow 80 86 6 []⟩,
    ⟨some 81, none, iFad 81 5 (.tmp 2)⟩,
    ⟨some 82, none, iLoad 82 1 false (.tmp 81) false⟩,
    ⟨some 83, none, iApp 83 86 6 80 (.tmp 80) (.tmp 82)⟩,
    ⟨some 84, none, iLoad 84 6 true (.tmp 3) false⟩,
    ⟨some 85, none, iRow 85 86 6 [(.tmp 84)]⟩,
    ⟨some 86, none, iApp 86 86 6 80 (.tmp 83) (.tmp 85)⟩,
    ⟨some 9, none, iMov 9 (.tmp 86) true⟩] [[], [], [1], [0, 2, 1], [], [4], [3, 5, 0, 2, 1, 4], [6, 0, 1, 2, 3, 4, 5]] [2, 4, 9] [2, 4]
def r1_RecvHear_r23 : IC := cReg Try.prog [
    ⟨some 10, none, iMov 10 (.const (.bool true)) true⟩] [2, 4, 9, 10] [2, 4]
def r1_RecvHear_r24 : IC := cReg Try.prog [
    ⟨some 87, none, iMov 87 (.tmp 10) false⟩] [2, 4, 9, 87] [2, 4]
def r1_RecvHear_c19 : IC := cCond (.tmp 87) cSkip (cExit 6)
def r1_RecvHear_r25 : IC := cReg Try.prog [
    ⟨some 10, none, iMov 10 (.const (.bool false)) true⟩] [2, 4, 9, 10] [2, 4]
def r1_RecvHear_r26 : IC := cReg Try.prog [
    ⟨some 88, none, iMov 88 (.tmp 9) false⟩,
    ⟨some 89, none, iLen 89 false (.tmp 88)⟩,
    ⟨some 90, none, iMov 90 (.const (.int .i64 0)) false⟩] [2, 4, 9, 10, 88, 89, 90] [2, 4]
def r1_RecvHear_r27 : IC := cReg Try.prog [
    ⟨some 91, none, iBin 91 .lss (.tmp 90) (.tmp 89)⟩] [2, 4, 9, 10, 88, 89, 90, 91] [2, 4]
def r1_RecvHear_c23 : IC := cCond (.tmp 91) cSkip (cExit 8)
def r1_RecvHear_r28 : IC := cReg Try.prog [
    ⟨some 92, none, iMov 92 (.tmp 90) false⟩,
    ⟨some 93, none, iIaS 93 6 (.tmp 88) (.tmp 90)⟩,
    ⟨some 94, none, iLoad 94 6 true (.tmp 93) false⟩,
    ⟨some 12, none, iAlo 12 [vD (.int .i64 0), vD (.int .i64 0), vD (.int .i64 0), vD (.int .i64 0), vD (.slice none 0 0), vD (.slice none 0 0)]⟩,
    ⟨some 11, none, iMov 11 (.tmp 92) true⟩,
    ⟨none, none, iStor 6 (.tmp 12) (.tmp 94)⟩] [2, 4, 9, 10, 11, 12, 88, 89, 90] [2, 4, 12]
def r1_RecvHear_r29 : IC := cRegD Try.prog [
    ⟨some 95, none, iFad 95 3 (.tmp 12)⟩,
    ⟨some 96, none, iLoad 96 1 false (.tmp 95) false⟩,
    ⟨some 97, none, iFad 97 2 (.tmp 12)⟩,
    ⟨some 98, none, iLoad 98 1 false (.tmp 97) false⟩,
    ⟨some 99, none, iFad 99 2 (.tmp 2)⟩,
    ⟨some 100, none, iIaA 100 3 1 (.tmp 99) (.tmp 98)⟩,
    ⟨some 101, none, iLoad 101 1 false (.tmp 100) false⟩,
    ⟨some 102, none, iBin 102 .eql (.tmp 96) (.tmp 101)⟩] [[], [0], [], [2], [], [4, 3, 2], [5, 4, 3, 2], [1, 6, 0, 5, 4, 3, 2]] [2, 4, 9, 10, 11, 12, 88, 89, 90, 102] [2, 4, 12]
def r1_RecvHear_r30 : IC := cRegD Try.prog [
    ⟨some 103, none, iRow 103 25 2 []⟩,
    ⟨some 104, none, iFad 104 6 (.tmp 2)⟩,
    ⟨some 105, none, iLoad 105 1 false (.tmp 104) false⟩,
    ⟨some 106, none, iApp 106 25 2 32 (.tmp 103) (.tmp 105)⟩,
    ⟨some 107, none, iFad 107 2 (.tmp 12)⟩,
    ⟨some 108, none, iLoad 108 1 false (.tmp 107) false⟩,
    ⟨some 109, none, iFad 109 4 (.tmp 12)⟩,
    ⟨some 110, none, iLoad 110 1 false (.tmp 109) false⟩,
    ⟨some 111, none, iBld 111 [vD (.int .i64 0), vD (.slice none 0 0)] [(0, 1), (1, 1)] [(.tmp 108), (.tmp 110)]⟩,
    ⟨some 112, none, iRow 112 25 2 [(.tmp 111)]⟩,
    ⟨some 113, none, iApp 113 25 2 32 (.tmp 106) (.tmp 112)⟩,
    ⟨some 114, none, iFad 114 6 (.tmp 2)⟩,
    ⟨none, none, iStor 1 (.tmp 114) (.tmp 113)⟩] [[], [], [1], [0, 2, 1], [], [4], [], [6], [5, 7, 4, 6], [8, 5, 7, 4, 6], [3, 9, 0, 2, 1, 8, 5, 7, 4, 6], [0, 1, 2, 3, 4, 5, 6, 7, 8, 9, 10], [11, 10, 0, 1, 2, 3, 4, 5, 6, 7, 8, 9]] [2, 4, 9, 11, 12] [2, 4, 12]
def r1_RecvHear_r31 : IC := cRegD Try.prog [
    ⟨some 115, none, iFad 115 2 (.tmp 12)⟩,
    ⟨some 116, none, iLoad 116 1 false (.tmp 115) false⟩,
    ⟨some 117, none, iFad 117 2 (.tmp 12)⟩,
    ⟨some 118, none, iLoad 118 1 false (.tmp 117) false⟩,
    ⟨some 119, none, iFad 119 2 (.tmp 2)⟩,
    ⟨some 120, none, iIaA 120 3 1 (.tmp 119) (.tmp 118)⟩,
    ⟨some 121, none, iLoad 121 1 false (.tmp 120) false⟩,
    ⟨some 122, none, iBin 122 .add (.tmp 121) (.const (.int .i64 1))⟩,
    ⟨some 123, none, iFad 123 2 (.tmp 2)⟩,
    ⟨some 124, none, iIaA 124 3 1 (.tmp 123) (.tmp 116)⟩,
    ⟨none, none, iStor 1 (.tmp 124) (.tmp 122)⟩] [[], [0], [], [2], [], [4, 3, 2], [5, 4, 3, 2], [6, 5, 4, 3, 2], [], [8, 1, 0, 2, 3, 4, 5, 6, 7], [9, 7, 0, 1, 2, 3, 4, 5, 6, 8]] [2, 4, 9, 11] [2, 4]
def r1_RecvHear_r32 : IC := cRegD Try.prog [
    ⟨some 125, none, iRow 125 86 6 []⟩,
    ⟨some 126, none, iMov 126 (.tmp 9) false⟩,
    ⟨some 127, none, iMov 127 (.tmp 11) false⟩,
    ⟨some 128, none, iSlc 128 6 (.tmp 126) none (some (.tmp 127))⟩,
    ⟨some 129, none, iApp 129 86 6 80 (.tmp 125) (.tmp 128)⟩,
    ⟨some 130, none, iMov 130 (.tmp 9) false⟩,
    ⟨some 131, none, iMov 131 (.tmp 11) false⟩,
    ⟨some 132, none, iBin 132 .add (.tmp 131) (.const (.int .i64 1))⟩,
    ⟨some 133, none, iSlc 133 6 (.tmp 130) (some (.tmp 132)) none⟩,
    ⟨some 134, none, iApp 134 86 6 80 (.tmp 129) (.tmp 133)⟩,
    ⟨some 9, none, iMov 9 (.tmp 134) true⟩] [[], [], [], [1, 2], [0, 3, 1, 2], [], [], [6], [5, 7, 6], [4, 8, 0, 3, 1, 2, 5, 7, 6], [9, 0, 1, 2, 3, 4, 5, 6, 7, 8]] [2, 4, 9] [2, 4]
def r1_RecvHear_r33 : IC := cReg Try.prog [
    ⟨some 10, none, iMov 10 (.const (.bool true)) true⟩] [2, 4, 9, 10] [2, 4]
def r1_RecvHear_c25a : IC := (cSeq r1_RecvHear_r30 (cSeq r1_RecvHear_r31 (cSeq r1_RecvHear_r32 (cSeq r1_RecvHear_r33 (cExit 8)))))
def r1_RecvHear_c25 : IC := cCond (.tmp 102) r1_RecvHear_c25a cSkip
def r1_RecvHear_b24 : IC := cBlock 9 (cSeq r1_RecvHear_r28 (cSeq r1_RecvHear_r29 r1_RecvHear_c25))
def r1_RecvHear_r34 : IC := cReg Try.prog [
    ⟨some 135, none, iBin 135 .add (.tmp 90) (.const (.int .i64 1))⟩,
    ⟨some 90, none, iMov 90 (.tmp 135) false⟩] [2, 4, 9, 10, 88, 89, 90] [2, 4]
def r1_RecvHear_l22a : IC := (cSeq r1_RecvHear_r27 (cSeq r1_RecvHear_c23 (cSeq r1_RecvHear_b24 r1_RecvHear_r34)))
def r1_RecvHear_l22 : IC := cLoop r1_RecvHear_l22a
def r1_RecvHear_b21 : IC := cBlock 8 r1_RecvHear_l22
def r1_RecvHear_b20 : IC := cBlock 7 (cSeq r1_RecvHear_r25 (cSeq r1_RecvHear_r26 r1_RecvHear_b21))
def r1_RecvHear_l18a : IC := (cSeq (cSeq r1_RecvHear_r24 r1_RecvHear_c19) r1_RecvHear_b20)
def r1_RecvHear_l18 : IC := cLoop r1_RecvHear_l18a
def r1_RecvHear_b17 : IC := cBlock 6 r1_RecvHear_l18
def r1_RecvHear_r35 : IC := cReg Try.prog [
    ⟨some 136, none, iMov 136 (.tmp 9) false⟩,
    ⟨some 137, none, iFad 137 5 (.tmp 2)⟩,
    ⟨none, none, iStor 1 (.tmp 137) (.tmp 136)⟩] [2, 4] [2, 4]
def r1_RecvHear_r36 : IC := cReg Try.prog [
    ⟨some 138, none, iLoad 138 8 true (.tmp 2) false⟩,
    ⟨none, none, iStor 8 (.tmp 4) (.tmp 138)⟩] [4] [4]
def r1_RecvHear : IC := (cSeq r1_RecvHear_r0 (cSeq (cSeq r1_RecvHear_r1 r1_RecvHear_c1) (cSeq r1_RecvHear_r3 (cSeq r1_RecvHear_r4 (cSeq (cSeq r1_RecvHear_r5 r1_RecvHear_b2) (cSeq (cSeq r1_RecvHear_r12 r1_RecvHear_c7) (cSeq r1_RecvHear_b8 (cSeq r1_RecvHear_r16 (cSeq (cSeq r1_RecvHear_r17 r1_RecvHear_b12) (cSeq r1_RecvHear_r22 (cSeq (cSeq r1_RecvHear_r23 r1_RecvHear_b17) (cSeq r1_RecvHear_r35 (cSeq r1_RecvHear_r36 cRet)))))))))))))
theorem told_r1_RecvHear {args r : List D} (hl : args.length = 2) (h : r1_RecvHear (start args) (fin [(4, some (8, true))] r)) : Told Try.prog 58 args r :=
  told_of follows Try.func58 rfl (an := [([], [2, 3, 4], [2, 3, 4], []), ([], [2, 3, 4, 15], [2, 3, 4], []), ([], [4], [4], []), ([], [2, 3, 4], [2, 3, 4], []), ([], [2, 3, 4, 5], [2, 3, 4, 200018], []), ([], [2, 3, 4, 5, 23, 24, 25], [2, 3, 4, 200018], []), ([], [2, 3, 4, 5, 23, 24, 25, 26], [2, 3, 4, 200018], []), ([], [2, 3, 4, 5, 7, 23, 24, 25], [2, 3, 4, 200018], []), ([], [2, 3, 4, 5, 7, 23, 24, 25, 32], [2, 3, 4, 200018], []), ([], [4], [4], []), ([], [2, 3, 4, 5, 23, 24, 25], [2, 3, 4, 200018], []), ([], [2, 3, 4, 5, 23, 24, 25], [2, 3, 4, 200018], []), ([(10, [2, 3, 4, 5, 42, 44, 46], [2, 3, 4, 200018])], [2, 3, 4, 5, 54], [2, 3, 4, 200018], []), ([], [4], [4], []), ([], [2, 3, 4, 5, 59], [2, 3, 4, 200018], []), ([], [2, 3, 4, 5], [2, 3, 4, 200018], []), ([], [2, 3, 4, 5], [2, 3, 4, 200018], []), ([], [2, 3, 4, 5, 8], [2, 3, 4, 200018], []), ([], [2, 3, 4, 5, 8, 68], [2, 3, 4, 200018], []), ([], [2, 3, 4, 5, 8, 73], [2, 3, 4, 200018], []), ([], [2, 3, 4, 5, 8], [2, 3, 4, 200018], []), ([], [2, 3, 4, 5, 8], [2, 3, 4, 200018], []), ([], [2, 4, 9], [2, 4], []), ([], [2, 4, 9, 10], [2, 4], []), ([], [2, 4, 9, 87], [2, 4], []), ([], [2, 4, 9, 10], [2, 4], []), ([], [2, 4, 9, 10, 88, 89, 90], [2, 4], []), ([], [2, 4, 9, 10, 88, 89, 90, 91], [2, 4], []), ([], [2, 4, 9, 10, 11, 12, 88, 89, 90], [2, 4, 12], []), ([], [2, 4, 9, 10, 11, 12, 88, 89, 90, 102], [2, 4, 12], []), ([], [2, 4, 9, 11, 12], [2, 4, 12], []), ([], [2, 4, 9, 11], [2, 4], []), ([], [2, 4, 9], [2, 4], []), ([], [2, 4, 9, 10], [2, 4], []), ([], [2, 4, 9, 10, 88, 89, 90], [2, 4], []), ([], [2, 4], [2, 4], []), ([], [4], [4], [])]) (by kernel_rfl) (by kernel_rfl) (by rw [hl]; decide +kernel) h

def r1_RecvSay_r0 : IC := cReg Try.prog [
    ⟨some 1, none, iBox 1 (.tmp 0)⟩,
    ⟨some 2, none, iAlo 2 [vD (.int .i64 0), vD (.slice none 0 0), vD (.int .i64 0), vD (.int .i64 0), vD (.int .i64 0), vD (.slice none 0 0), vD (.slice none 0 0), vD (.bool false)]⟩,
    ⟨some 3, none, iAlo 3 [vD (.int .i64 0), vD (.int .i64 0), vD (.int .i64 0), vD (.int .i64 0), vD (.slice none 0 0), vD (.slice none 0 0)]⟩,
    ⟨some 4, none, iMov 4 (.const (.bool false)) true⟩] [1, 2, 3] [1, 2, 3]
def r1_RecvSay_r1 : IC := cReg Try.prog [
    ⟨some 5, none, iFad 5 7 (.tmp 1)⟩,
    ⟨some 6, none, iLoad 6 1 false (.tmp 5) false⟩,
    ⟨some 7, none, iNot 7 (.tmp 6)⟩] [1, 2, 3, 7] [1, 2, 3]
def r1_RecvSay_r2 : IC := cReg Try.prog [
    ⟨some 8, none, iLoad 8 8 true (.tmp 1) false⟩,
    ⟨some 9, none, iBld 9 [vD (.int .i64 0), vD (.int .i64 0), vD (.int .i64 0), vD (.int .i64 0), vD (.slice none 0 0), vD (.slice none 0 0)] [] []⟩,
    ⟨none, none, iStor 8 (.tmp 2) (.tmp 8)⟩,
    ⟨none, none, iStor 6 (.tmp 3) (.tmp 9)⟩,
    ⟨some 4, none, iMov 4 (.const (.bool false)) true⟩] [2, 3, 4] [2, 3]
def r1_RecvSay_c1a : IC := (cSeq r1_RecvSay_r2 cRet)
def r1_RecvSay_c1 : IC := cCond (.tmp 7) r1_RecvSay_c1a cSkip
def r1_RecvSay_r3 : IC := cReg Try.prog [
    ⟨some 10, none, iFad 10 7 (.tmp 1)⟩,
    ⟨none, none, iStor 1 (.tmp 10) (.const (.bool false))⟩] [1, 2, 3] [1, 2, 3]
def r1_RecvSay_r4 : IC := cRegD Try.prog [
    ⟨some 11, none, iLoad 11 8 true (.tmp 1) false⟩,
    ⟨some 12, none, iFad 12 0 (.tmp 1)⟩,
    ⟨some 13, none, iLoad 13 1 false (.tmp 12) false⟩,
    ⟨some 14, none, iFad 14 1 (.tmp 1)⟩,
    ⟨some 15, none, iLoad 15 1 false (.tmp 14) false⟩,
    ⟨some 16, none, iBld 16 [vD (.int .i64 0), vD (.int .i64 0), vD (.int .i64 0), vD (.int .i64 0), vD (.slice none 0 0), vD (.slice none 0 0)] [(0, 1), (1, 1), (5, 1)] [(.const (.int .i64 2)), (.tmp 13), (.tmp 15)]⟩,
    ⟨none, none, iStor 8 (.tmp 2) (.tmp 11)⟩,
    ⟨none, none, iStor 6 (.tmp 3) (.tmp 16)⟩,
    ⟨some 4, none, iMov 4 (.const (.bool true)) true⟩] [[], [], [1], [], [3], [2, 4, 1, 3], [0], [5, 6, 0, 1, 2, 3, 4], [7, 0, 1, 2, 3, 4, 5, 6]] [2, 3, 4] [2, 3]
def r1_RecvSay : IC := (cSeq r1_RecvSay_r0 (cSeq (cSeq r1_RecvSay_r1 r1_RecvSay_c1) (cSeq r1_RecvSay_r3 (cSeq r1_RecvSay_r4 cRet))))
theorem told_r1_RecvSay {args r : List D} (hl : args.length = 1) (h : r1_RecvSay (start args) (fin [(2, some (8, true)), (3, some (6, true)), (4, none)] r)) : Told Try.prog 51 args r :=
  told_of follows Try.func51 rfl (an := [([], [1, 2, 3], [1, 2, 3], []), ([], [1, 2, 3, 7], [1, 2, 3], []), ([], [2, 3, 4], [2, 3], []), ([], [1, 2, 3], [1, 2, 3], []), ([], [2, 3, 4], [2, 3], [])]) (by kernel_rfl) (by kernel_rfl) (by rw [hl]; decide +kernel) h

def r1_SameReceiver_r0 : IC := cReg Try.prog [
    ⟨some 2, none, iBox 2 (.tmp 0)⟩,
    ⟨some 3, none, iBox 3 (.tmp 1)⟩,
    ⟨some 4, none, iMov 4 (.const (.bool false)) true⟩] [2, 3] [2, 3]
def r1_SameReceiver_r1_0 : IC := cReg Try.prog [
    ⟨some 5, none, iFad 5 0 (.tmp 2)⟩,
    ⟨some 6, none, iLoad 6 1 false (.tmp 5) false⟩,
    ⟨some 7, none, iFad 7 0 (.tmp 3)⟩,
    ⟨some 8, none, iLoad 8 1 false (.tmp 7) false⟩,
    ⟨some 9, none, iBin 9 .eql (.tmp 6) (.tmp 8)⟩,
    ⟨some 10, none, iMov 10 (.tmp 9) false⟩,
    ⟨some 11, some (10, true), iFad 11 1 (.tmp 2)⟩,
    ⟨some 12, some (10, true), iLoad 12 1 false (.tmp 11) false⟩,
    ⟨some 13, some (10, true), iFad 13 1 (.tmp 3)⟩,
    ⟨some 14, some (10, true), iLoad 14 1 false (.tmp 13) false⟩] [2, 3, 10, 12, 14] [2, 3]
def r1_SameReceiver_r1_1 : IC := cReg Try.prog [
    ⟨some 15, some (10, true), iCall 15 43 [(.tmp 12), (.tmp 14)]⟩,
    ⟨some 16, none, iPick 16 (.tmp 10) (.tmp 15) (.const (.bool false))⟩,
    ⟨some 17, none, iMov 17 (.tmp 16) false⟩,
    ⟨some 18, some (17, true), iFad 18 2 (.tmp 2)⟩,
    ⟨some 19, some (17, true), iLoad 19 3 true (.tmp 18) false⟩,
    ⟨some 20, some (17, true), iFad 20 2 (.tmp 3)⟩,
    ⟨some 21, some (17, true), iLoad 21 3 true (.tmp 20) false⟩,
    ⟨some 22, some (17, true), iEqA 22 true (.tmp 19) (.tmp 21)⟩,
    ⟨some 23, none, iPick 23 (.tmp 17) (.tmp 22) (.const (.bool false))⟩,
    ⟨some 24, none, iMov 24 (.tmp 23) false⟩] [2, 3, 24] [2, 3]
def r1_SameReceiver_r1_2 : IC := cReg Try.prog [
    ⟨some 25, some (24, true), iFad 25 5 (.tmp 2)⟩,
    ⟨some 26, some (24, true), iLoad 26 1 false (.tmp 25) false⟩,
    ⟨some 27, some (24, true), iFad 27 5 (.tmp 3)⟩,
    ⟨some 28, some (24, true), iLoad 28 1 false (.tmp 27) false⟩,
    ⟨some 29, some (24, true), iCall 29 42 [(.tmp 26), (.tmp 28)]⟩,
    ⟨some 30, none, iPick 30 (.tmp 24) (.tmp 29) (.const (.bool false))⟩,
    ⟨some 31, none, iMov 31 (.tmp 30) false⟩,
    ⟨some 32, some (31, true), iFad 32 6 (.tmp 2)⟩,
    ⟨some 33, some (31, true), iLoad 33 1 false (.tmp 32) false⟩,
    ⟨some 34, some (31, true), iFad 34 6 (.tmp 3)⟩] [2, 3, 31, 33, 34] [2, 3]
def r1_SameReceiver_r1_3 : IC := cReg Try.prog [
    ⟨some 35, some (31, true), iLoad 35 1 false (.tmp 34) false⟩,
    ⟨some 36, some (31, true), iCall 36 16 [(.tmp 33), (.tmp 35)]⟩,
    ⟨some 37, none, iPick 37 (.tmp 31) (.tmp 36) (.const (.bool false))⟩,
    ⟨some 38, none, iMov 38 (.tmp 37) false⟩,
    ⟨some 39, some (38, true), iFad 39 7 (.tmp 2)⟩,
    ⟨some 40, some (38, true), iLoad 40 1 false (.tmp 39) false⟩,
    ⟨some 41, some (38, true), iFad 41 7 (.tmp 3)⟩,
    ⟨some 42, some (38, true), iLoad 42 1 false (.tmp 41) false⟩,
    ⟨some 43, some (38, true), iBinB 43 true (.tmp 40) (.tmp 42)⟩,
    ⟨some 44, none, iPick 44 (.tmp 38) (.tmp 43) (.const (.bool false))⟩,
    ⟨some 4, none, iMov 4 (.tmp 44) true⟩] [4] []
def r1_SameReceiver_r1 : IC := (cSeq r1_SameReceiver_r1_0 (cSeq r1_SameReceiver_r1_1 (cSeq r1_SameReceiver_r1_2 r1_SameReceiver_r1_3)))
def r1_SameReceiver : IC := (cSeq r1_SameReceiver_r0 (cSeq r1_SameReceiver_r1 cRet))
theorem told_r1_SameReceiver {args r : List D} (hl : args.length = 2) (h : r1_SameReceiver (start args) (fin [(4, none)] r)) : Told Try.prog 27 args r :=
  told_of follows Try.func27 rfl (an := [([], [2, 3], [2, 3], []), ([(10, [2, 3, 10, 12, 14], [2, 3]), (10, [2, 3, 24], [2, 3]), (10, [2, 3, 31, 33, 34], [2, 3])], [4], [], [])]) (by kernel_rfl) (by kernel_rfl) (by rw [hl]; decide +kernel) h

end Go.Proofs.Ytngfedhffehkaac.ab
