/-
  Functions as plain code (written by wip/abs/ir.py): lkref1.Put, lkref1.SendSay, lkref1.SendHear, lkref1.SameSender.
-/
import Derived.Test.YtngfedhffehkaacM23
import Derived.Test.YtngfedhffehkaacProg
namespace Go.Proofs.Ytngfedhffehkaac.ab
set_option linter.unusedSimpArgs false
set_option linter.unusedVariables false
set_option maxRecDepth 100000
open Go Go.RowKit

def r1_Put_r0 : IC := cReg Try.prog [
    ⟨some 2, none, iBox 2 (.tmp 0)⟩,
    ⟨some 3, none, iBox 3 (.tmp 1)⟩,
    ⟨some 4, none, iAlo 4 [vD (.slice none 0 0), vD (.int .i64 0), vD (.int .i64 0), vD (.int .i64 0), vD (.int .i64 0), vD (.slice none 0 0), vD (.int .i64 0)]⟩,
    ⟨some 5, none, iMov 5 (.const (.int .i64 0)) true⟩] [2, 3, 4] [2, 3, 4]
def r1_Put_r1 : IC := cReg Try.prog [
    ⟨some 7, none, iLoad 7 2 true (.tmp 3) false⟩,
    ⟨some 8, none, iCall 8 52 [(.tmp 7)]⟩,
    ⟨some 6, none, iMov 6 (.tmp 8) true⟩] [2, 3, 4, 6] [2, 3, 4]
def r1_Put_r2 : IC := cReg Try.prog [
    ⟨some 9, none, iMov 9 (.tmp 6) false⟩,
    ⟨some 10, none, iBin 10 .neq (.tmp 9) (.const (.int .i64 0))⟩] [2, 3, 4, 6, 10] [2, 3, 4]
def r1_Put_r3 : IC := cReg Try.prog [
    ⟨some 11, none, iLoad 11 7 true (.tmp 2) false⟩,
    ⟨some 12, none, iMov 12 (.tmp 6) false⟩,
    ⟨none, none, iStor 7 (.tmp 4) (.tmp 11)⟩,
    ⟨some 5, none, iMov 5 (.tmp 12) true⟩] [4, 5] [4]
def r1_Put_c1a : IC := (cSeq r1_Put_r3 cRet)
def r1_Put_c1 : IC := cCond (.tmp 10) r1_Put_c1a cSkip
def r1_Put_r4 : IC := cReg Try.prog [
    ⟨some 13, none, iFad 13 0 (.tmp 2)⟩,
    ⟨some 14, none, iLoad 14 1 false (.tmp 13) false⟩,
    ⟨some 15, none, iLen 15 false (.tmp 14)⟩,
    ⟨some 16, none, iBin 16 .gtr (.tmp 15) (.const (.int .i64 5))⟩] [2, 3, 4, 16] [2, 3, 4]
def r1_Put_r5 : IC := cReg Try.prog [
    ⟨some 17, none, iLoad 17 7 true (.tmp 2) false⟩,
    ⟨none, none, iStor 7 (.tmp 4) (.tmp 17)⟩,
    ⟨some 5, none, iMov 5 (.const (.int .i64 9)) true⟩] [4, 5] [4]
def r1_Put_c2a : IC := (cSeq r1_Put_r5 cRet)
def r1_Put_c2 : IC := cCond (.tmp 16) r1_Put_c2a cSkip
def r1_Put_r6 : IC := cReg Try.prog [
    ⟨some 18, none, iFad 18 1 (.tmp 2)⟩,
    ⟨some 19, none, iLoad 19 1 false (.tmp 18) false⟩,
    ⟨some 20, none, iFad 20 0 (.tmp 2)⟩,
    ⟨some 21, none, iLoad 21 1 false (.tmp 20) false⟩,
    ⟨some 22, none, iLen 22 false (.tmp 21)⟩,
    ⟨some 23, none, iBin 23 .add (.tmp 19) (.tmp 22)⟩,
    ⟨some 24, none, iBin 24 .gtr (.tmp 23) (.const (.int .i64 39))⟩] [2, 3, 4, 24] [2, 3, 4]
def r1_Put_r7 : IC := cReg Try.prog [
    ⟨some 25, none, iLoad 25 7 true (.tmp 2) false⟩,
    ⟨none, none, iStor 7 (.tmp 4) (.tmp 25)⟩,
    ⟨some 5, none, iMov 5 (.const (.int .i64 4)) true⟩] [4, 5] [4]
def r1_Put_c3a : IC := (cSeq r1_Put_r7 cRet)
def r1_Put_c3 : IC := cCond (.tmp 24) r1_Put_c3a cSkip
def r1_Put_r8 : IC := cRegD Try.prog [
    ⟨some 26, none, iRow 26 25 2 []⟩,
    ⟨some 27, none, iFad 27 0 (.tmp 2)⟩,
    ⟨some 28, none, iLoad 28 1 false (.tmp 27) false⟩,
    ⟨some 29, none, iApp 29 25 2 32 (.tmp 26) (.tmp 28)⟩,
    ⟨some 30, none, iLoad 30 2 true (.tmp 3) false⟩,
    ⟨some 31, none, iRow 31 25 2 [(.tmp 30)]⟩,
    ⟨some 32, none, iApp 32 25 2 32 (.tmp 29) (.tmp 31)⟩,
    ⟨some 33, none, iFad 33 0 (.tmp 2)⟩,
    ⟨none, none, iStor 1 (.tmp 33) (.tmp 32)⟩] [[], [], [1], [0, 2, 1], [], [4], [3, 5, 0, 2, 1, 4], [0, 1, 2, 3, 4, 5, 6], [7, 6, 0, 1, 2, 3, 4, 5]] [2, 4] [2, 4]
def r1_Put_r9 : IC := cReg Try.prog [
    ⟨some 34, none, iLoad 34 7 true (.tmp 2) false⟩,
    ⟨none, none, iStor 7 (.tmp 4) (.tmp 34)⟩,
    ⟨some 5, none, iMov 5 (.const (.int .i64 0)) true⟩] [4, 5] [4]
def r1_Put : IC := (cSeq r1_Put_r0 (cSeq (cSeq r1_Put_r1 (cSeq r1_Put_r2 r1_Put_c1)) (cSeq (cSeq r1_Put_r4 r1_Put_c2) (cSeq (cSeq r1_Put_r6 r1_Put_c3) (cSeq r1_Put_r8 (cSeq r1_Put_r9 cRet))))))
theorem told_r1_Put {args r : List D} (hl : args.length = 2) (h : r1_Put (start args) (fin [(4, some (7, true)), (5, none)] r)) : Told Try.prog 33 args r :=
  told_of follows Try.func33 rfl (an := [([], [2, 3, 4], [2, 3, 4], []), ([], [2, 3, 4, 6], [2, 3, 4], []), ([], [2, 3, 4, 6, 10], [2, 3, 4], []), ([], [4, 5], [4], []), ([], [2, 3, 4, 16], [2, 3, 4], []), ([], [4, 5], [4], []), ([], [2, 3, 4, 24], [2, 3, 4], []), ([], [4, 5], [4], []), ([], [2, 4], [2, 4], []), ([], [4, 5], [4], [])]) (by kernel_rfl) (by kernel_rfl) (by rw [hl]; decide +kernel) h

def r1_SendSay_r0 : IC := cReg Try.prog [
    ⟨some 1, none, iBox 1 (.tmp 0)⟩,
    ⟨some 2, none, iAlo 2 [vD (.slice none 0 0), vD (.int .i64 0), vD (.int .i64 0), vD (.int .i64 0), vD (.int .i64 0), vD (.slice none 0 0), vD (.int .i64 0)]⟩,
    ⟨some 3, none, iAlo 3 [vD (.int .i64 0), vD (.int .i64 0), vD (.int .i64 0), vD (.int .i64 0), vD (.slice none 0 0), vD (.slice none 0 0)]⟩,
    ⟨some 4, none, iMov 4 (.const (.bool false)) true⟩] [1, 2, 3] [1, 2, 3]
def r1_SendSay_r1 : IC := cReg Try.prog [
    ⟨some 8, none, iFad 8 0 (.tmp 1)⟩,
    ⟨some 9, none, iLoad 9 1 false (.tmp 8) false⟩,
    ⟨some 10, none, iLen 10 false (.tmp 9)⟩,
    ⟨some 11, none, iBin 11 .eql (.tmp 10) (.const (.int .i64 0))⟩,
    ⟨some 12, none, iMov 12 (.tmp 11) false⟩,
    ⟨some 13, some (12, true), iFad 13 5 (.tmp 1)⟩,
    ⟨some 14, some (12, true), iLoad 14 1 false (.tmp 13) false⟩,
    ⟨some 15, some (12, true), iLen 15 false (.tmp 14)⟩,
    ⟨some 16, some (12, true), iBin 16 .eql (.tmp 15) (.const (.int .i64 0))⟩,
    ⟨some 17, none, iPick 17 (.tmp 12) (.tmp 16) (.const (.bool false))⟩] [1, 2, 3, 17] [1, 2, 3]
def r1_SendSay_r2 : IC := cReg Try.prog [
    ⟨some 18, none, iLoad 18 7 true (.tmp 1) false⟩,
    ⟨some 19, none, iBld 19 [vD (.int .i64 0), vD (.int .i64 0), vD (.int .i64 0), vD (.int .i64 0), vD (.slice none 0 0), vD (.slice none 0 0)] [] []⟩,
    ⟨none, none, iStor 7 (.tmp 2) (.tmp 18)⟩,
    ⟨none, none, iStor 6 (.tmp 3) (.tmp 19)⟩,
    ⟨some 4, none, iMov 4 (.const (.bool false)) true⟩] [2, 3, 4] [2, 3]
def r1_SendSay_c1a : IC := (cSeq r1_SendSay_r2 cRet)
def r1_SendSay_c1 : IC := cCond (.tmp 17) r1_SendSay_c1a cSkip
def r1_SendSay_r3 : IC := cReg Try.prog [
    ⟨some 20, none, iFad 20 0 (.tmp 1)⟩,
    ⟨some 21, none, iLoad 21 1 false (.tmp 20) false⟩,
    ⟨some 22, none, iLen 22 false (.tmp 21)⟩,
    ⟨some 23, none, iBin 23 .eql (.tmp 22) (.const (.int .i64 0))⟩,
    ⟨some 24, none, iMov 24 (.tmp 23) false⟩,
    ⟨some 25, some (24, false), iFad 25 5 (.tmp 1)⟩,
    ⟨some 26, some (24, false), iLoad 26 1 false (.tmp 25) false⟩,
    ⟨some 27, some (24, false), iLen 27 false (.tmp 26)⟩,
    ⟨some 28, some (24, false), iBin 28 .gtr (.tmp 27) (.const (.int .i64 3))⟩,
    ⟨some 29, none, iPick 29 (.tmp 24) (.const (.bool true)) (.tmp 28)⟩] [1, 2, 3, 29] [1, 2, 3]
def r1_SendSay_r4 : IC := cRegD Try.prog [
    ⟨some 30, none, iFad 30 6 (.tmp 1)⟩,
    ⟨some 31, none, iLoad 31 1 false (.tmp 30) false⟩,
    ⟨some 32, none, iFad 32 6 (.tmp 1)⟩,
    ⟨some 33, none, iLoad 33 1 false (.tmp 32) false⟩,
    ⟨some 34, none, iFad 34 5 (.tmp 1)⟩,
    ⟨some 35, none, iLoad 35 1 false (.tmp 34) false⟩,
    ⟨some 36, none, iLen 36 false (.tmp 35)⟩,
    ⟨some 37, none, iBin 37 .quo (.tmp 33) (.tmp 36)⟩,
    ⟨some 38, none, iFad 38 5 (.tmp 1)⟩,
    ⟨some 39, none, iLoad 39 1 false (.tmp 38) false⟩,
    ⟨some 40, none, iLen 40 false (.tmp 39)⟩,
    ⟨some 41, none, iBin 41 .mul (.tmp 37) (.tmp 40)⟩,
    ⟨some 42, none, iBin 42 .sub (.tmp 31) (.tmp 41)⟩,
    ⟨some 5, none, iMov 5 (.tmp 42) true⟩] [[], [0], [], [2], [], [4], [5, 4], [3, 6, 2, 5, 4], [], [8], [9, 8], [7, 10, 3, 6, 2, 5, 4, 9, 8], [1, 11, 0, 7, 10, 3, 6, 2, 5, 4, 9, 8], [12, 0, 1, 2, 3, 4, 5, 6, 7, 8, 9, 10, 11]] [1, 2, 3, 5] [1, 2, 3]
def r1_SendSay_r5 : IC := cReg Try.prog [
    ⟨some 43, none, iMov 43 (.tmp 5) false⟩,
    ⟨some 44, none, iBin 44 .add (.tmp 43) (.const (.int .i64 1))⟩,
    ⟨some 45, none, iFad 45 6 (.tmp 1)⟩,
    ⟨none, none, iStor 1 (.tmp 45) (.tmp 44)⟩] [1, 2, 3, 5] [1, 2, 3]
def r1_SendSay_r6 : IC := cRegD Try.prog [
    ⟨some 46, none, iLoad 46 7 true (.tmp 1) false⟩,
    ⟨some 47, none, iFad 47 5 (.tmp 1)⟩,
    ⟨some 48, none, iLoad 48 1 false (.tmp 47) false⟩,
    ⟨some 49, none, iMov 49 (.tmp 5) false⟩,
    ⟨some 50, none, iIaS 50 6 (.tmp 48) (.tmp 49)⟩,
    ⟨some 51, none, iLoad 51 6 true (.tmp 50) false⟩,
    ⟨none, none, iStor 7 (.tmp 2) (.tmp 46)⟩,
    ⟨none, none, iStor 6 (.tmp 3) (.tmp 51)⟩,
    ⟨some 4, none, iMov 4 (.const (.bool true)) true⟩] [[], [], [1], [], [2, 3, 1], [4, 2, 3, 1], [0], [5, 6, 0, 1, 2, 3, 4], [7, 0, 1, 2, 3, 4, 5, 6]] [2, 3, 4] [2, 3]
def r1_SendSay_c2a : IC := (cSeq r1_SendSay_r4 (cSeq r1_SendSay_r5 (cSeq r1_SendSay_r6 cRet)))
def r1_SendSay_c2 : IC := cCond (.tmp 29) r1_SendSay_c2a cSkip
def r1_SendSay_r7 : IC := cReg Try.prog [
    ⟨some 52, none, iFad 52 0 (.tmp 1)⟩,
    ⟨some 53, none, iLoad 53 1 false (.tmp 52) false⟩,
    ⟨some 54, none, iIaS 54 2 (.tmp 53) (.const (.int .i64 0))⟩,
    ⟨some 55, none, iLoad 55 2 true (.tmp 54) false⟩,
    ⟨some 6, none, iAlo 6 [vD (.int .i64 0), vD (.slice none 0 0)]⟩,
    ⟨none, none, iStor 2 (.tmp 6) (.tmp 55)⟩] [1, 2, 3, 6] [1, 2, 3, 6]
def r1_SendSay_r8 : IC := cRegD Try.prog [
    ⟨some 56, none, iFad 56 1 (.tmp 1)⟩,
    ⟨some 57, none, iLoad 57 1 false (.tmp 56) false⟩,
    ⟨some 58, none, iFad 58 0 (.tmp 6)⟩,
    ⟨some 59, none, iLoad 59 1 false (.tmp 58) false⟩,
    ⟨some 60, none, iFad 60 0 (.tmp 6)⟩,
    ⟨some 61, none, iLoad 61 1 false (.tmp 60) false⟩,
    ⟨some 62, none, iFad 62 2 (.tmp 1)⟩,
    ⟨some 63, none, iIaA 63 3 1 (.tmp 62) (.tmp 61)⟩,
    ⟨some 64, none, iLoad 64 1 false (.tmp 63) false⟩,
    ⟨some 65, none, iFad 65 1 (.tmp 6)⟩,
    ⟨some 66, none, iLoad 66 1 false (.tmp 65) false⟩,
    ⟨some 67, none, iBld 67 [vD (.int .i64 0), vD (.int .i64 0), vD (.int .i64 0), vD (.int .i64 0), vD (.slice none 0 0), vD (.slice none 0 0)] [(0, 1), (1, 1), (2, 1), (3, 1), (4, 1)] [(.const (.int .i64 1)), (.tmp 57), (.tmp 59), (.tmp 64), (.tmp 66)]⟩,
    ⟨some 7, none, iAlo 7 [vD (.int .i64 0), vD (.int .i64 0), vD (.int .i64 0), vD (.int .i64 0), vD (.slice none 0 0), vD (.slice none 0 0)]⟩,
    ⟨none, none, iStor 6 (.tmp 7) (.tmp 67)⟩] [[], [0], [], [2], [], [4], [], [6, 5, 4], [7, 6, 5, 4], [], [9], [1, 3, 8, 10, 0, 2, 7, 6, 5, 4, 9], [], [12, 11, 0, 1, 2, 3, 4, 5, 6, 7, 8, 9, 10]] [1, 2, 3, 6, 7] [1, 2, 3, 6, 7]
def r1_SendSay_r9 : IC := cReg Try.prog [
    ⟨some 68, none, iFad 68 0 (.tmp 1)⟩,
    ⟨some 69, none, iLoad 69 1 false (.tmp 68) false⟩,
    ⟨some 70, none, iSlc 70 2 (.tmp 69) (some (.const (.int .i64 1))) none⟩,
    ⟨some 71, none, iFad 71 0 (.tmp 1)⟩,
    ⟨none, none, iStor 1 (.tmp 71) (.tmp 70)⟩] [1, 2, 3, 6, 7] [1, 2, 3, 6, 7]
def r1_SendSay_r10 : IC := cReg Try.prog [
    ⟨some 72, none, iFad 72 1 (.tmp 1)⟩,
    ⟨some 73, none, iLoad 73 1 false (.tmp 72) false⟩,
    ⟨some 74, none, iBin 74 .add (.tmp 73) (.const (.int .i64 1))⟩,
    ⟨some 75, none, iFad 75 1 (.tmp 1)⟩,
    ⟨none, none, iStor 1 (.tmp 75) (.tmp 74)⟩] [1, 2, 3, 6, 7] [1, 2, 3, 6, 7]
def r1_SendSay_r11 : IC := cRegD Try.prog [
    ⟨some 76, none, iFad 76 0 (.tmp 6)⟩,
    ⟨some 77, none, iLoad 77 1 false (.tmp 76) false⟩,
    ⟨some 78, none, iFad 78 0 (.tmp 6)⟩,
    ⟨some 79, none, iLoad 79 1 false (.tmp 78) false⟩,
    ⟨some 80, none, iFad 80 2 (.tmp 1)⟩,
    ⟨some 81, none, iIaA 81 3 1 (.tmp 80) (.tmp 79)⟩,
    ⟨some 82, none, iLoad 82 1 false (.tmp 81) false⟩,
    ⟨some 83, none, iBin 83 .add (.tmp 82) (.const (.int .i64 1))⟩,
    ⟨some 84, none, iFad 84 2 (.tmp 1)⟩,
    ⟨some 85, none, iIaA 85 3 1 (.tmp 84) (.tmp 77)⟩,
    ⟨none, none, iStor 1 (.tmp 85) (.tmp 83)⟩] [[], [0], [], [2], [], [4, 3, 2], [5, 4, 3, 2], [6, 5, 4, 3, 2], [], [8, 1, 0, 2, 3, 4, 5, 6, 7], [9, 7, 0, 1, 2, 3, 4, 5, 6, 8]] [1, 2, 3, 7] [1, 2, 3, 7]
def r1_SendSay_r12 : IC := cRegD Try.prog [
    ⟨some 86, none, iRow 86 86 6 []⟩,
    ⟨some 87, none, iFad 87 5 (.tmp 1)⟩,
    ⟨some 88, none, iLoad 88 1 false (.tmp 87) false⟩,
    ⟨some 89, none, iApp 89 86 6 80 (.tmp 86) (.tmp 88)⟩,
    ⟨some 90, none, iLoad 90 6 true (.tmp 7) false⟩,
    ⟨some 91, none, iRow 91 86 6 [(.tmp 90)]⟩,
    ⟨some 92, none, iApp 92 86 6 80 (.tmp 89) (.tmp 91)⟩,
    ⟨some 93, none, iFad 93 5 (.tmp 1)⟩,
    ⟨none, none, iStor 1 (.tmp 93) (.tmp 92)⟩] [[], [], [1], [0, 2, 1], [], [4], [3, 5, 0, 2, 1, 4], [0, 1, 2, 3, 4, 5, 6], [7, 6, 0, 1, 2, 3, 4, 5]] [1, 2, 3, 7] [1, 2, 3, 7]
def r1_SendSay_r13 : IC := cRegD Try.prog [
    ⟨some 94, none, iLoad 94 7 true (.tmp 1) false⟩,
    ⟨some 95, none, iLoad 95 6 true (.tmp 7) false⟩,
    ⟨none, none, iStor 7 (.tmp 2) (.tmp 94)⟩,
    ⟨none, none, iStor 6 (.tmp 3) (.tmp 95)⟩,
    ⟨some 4, none, iMov 4 (.const (.bool true)) true⟩] [[], [], [0], [1, 2, 0], [3, 0, 1, 2]] [2, 3, 4] [2, 3]
def r1_SendSay : IC := (cSeq r1_SendSay_r0 (cSeq (cSeq r1_SendSay_r1 r1_SendSay_c1) (cSeq (cSeq r1_SendSay_r3 r1_SendSay_c2) (cSeq r1_SendSay_r7 (cSeq r1_SendSay_r8 (cSeq r1_SendSay_r9 (cSeq r1_SendSay_r10 (cSeq r1_SendSay_r11 (cSeq r1_SendSay_r12 (cSeq r1_SendSay_r13 cRet))))))))))
theorem told_r1_SendSay {args r : List D} (hl : args.length = 1) (h : r1_SendSay (start args) (fin [(2, some (7, true)), (3, some (6, true)), (4, none)] r)) : Told Try.prog 48 args r :=
  told_of follows Try.func48 rfl (an := [([], [1, 2, 3], [1, 2, 3], []), ([], [1, 2, 3, 17], [1, 2, 3], []), ([], [2, 3, 4], [2, 3], []), ([], [1, 2, 3, 29], [1, 2, 3], []), ([], [1, 2, 3, 5], [1, 2, 3], []), ([], [1, 2, 3, 5], [1, 2, 3], []), ([], [2, 3, 4], [2, 3], []), ([], [1, 2, 3, 6], [1, 2, 3, 6], []), ([], [1, 2, 3, 6, 7], [1, 2, 3, 6, 7], []), ([], [1, 2, 3, 6, 7], [1, 2, 3, 6, 7], []), ([], [1, 2, 3, 6, 7], [1, 2, 3, 6, 7], []), ([], [1, 2, 3, 7], [1, 2, 3, 7], []), ([], [1, 2, 3, 7], [1, 2, 3, 7], []), ([], [2, 3, 4], [2, 3], [])]) (by kernel_rfl) (by kernel_rfl) (by rw [hl]; decide +kernel) h

def r1_SendHear_r0 : IC := cReg Try.prog [
    ⟨some 2, none, iBox 2 (.tmp 0)⟩,
    ⟨some 3, none, iBox 3 (.tmp 1)⟩,
    ⟨some 4, none, iAlo 4 [vD (.slice none 0 0), vD (.int .i64 0), vD (.int .i64 0), vD (.int .i64 0), vD (.int .i64 0), vD (.slice none 0 0), vD (.int .i64 0)]⟩] [2, 3, 4] [2, 3, 4]
def r1_SendHear_r1 : IC := cReg Try.prog [
    ⟨some 11, none, iFad 11 0 (.tmp 3)⟩,
    ⟨some 12, none, iLoad 12 1 false (.tmp 11) false⟩,
    ⟨some 13, none, iBin 13 .neq (.tmp 12) (.const (.int .i64 2))⟩] [2, 3, 4, 13] [2, 3, 4]
def r1_SendHear_r2 : IC := cReg Try.prog [
    ⟨some 14, none, iLoad 14 7 true (.tmp 2) false⟩,
    ⟨none, none, iStor 7 (.tmp 4) (.tmp 14)⟩] [4] [4]
def r1_SendHear_c1a : IC := (cSeq r1_SendHear_r2 cRet)
def r1_SendHear_c1 : IC := cCond (.tmp 13) r1_SendHear_c1a cSkip
def r1_SendHear_r3 : IC := cReg Try.prog [
    ⟨some 5, none, iMov 5 (.const (.slice none 0 0)) true⟩] [2, 3, 4, 5] [2, 3, 4]
def r1_SendHear_r4 : IC := cReg Try.prog [
    ⟨some 15, none, iFad 15 5 (.tmp 2)⟩,
    ⟨some 16, none, iLoad 16 1 false (.tmp 15) false⟩,
    ⟨some 17, none, iLen 17 false (.tmp 16)⟩,
    ⟨some 18, none, iMov 18 (.const (.int .i64 0)) false⟩] [2, 3, 4, 5, 16, 17, 18] [2, 3, 4]
def r1_SendHear_r5 : IC := cReg Try.prog [
    ⟨some 19, none, iBin 19 .lss (.tmp 18) (.tmp 17)⟩] [2, 3, 4, 5, 16, 17, 18, 19] [2, 3, 4]
def r1_SendHear_c4 : IC := cCond (.tmp 19) cSkip (cExit 0)
def r1_SendHear_r6 : IC := cReg Try.prog [
    ⟨some 20, none, iIaS 20 6 (.tmp 16) (.tmp 18)⟩,
    ⟨some 21, none, iLoad 21 6 true (.tmp 20) false⟩,
    ⟨some 7, none, iAlo 7 [vD (.int .i64 0), vD (.int .i64 0), vD (.int .i64 0), vD (.int .i64 0), vD (.slice none 0 0), vD (.slice none 0 0)]⟩,
    ⟨none, none, iStor 6 (.tmp 7) (.tmp 21)⟩] [2, 3, 4, 5, 7, 16, 17, 18] [2, 3, 4, 7]
def r1_SendHear_r7 : IC := cReg Try.prog [
    ⟨some 22, none, iFad 22 1 (.tmp 7)⟩,
    ⟨some 23, none, iLoad 23 1 false (.tmp 22) false⟩,
    ⟨some 24, none, iFad 24 1 (.tmp 3)⟩,
    ⟨some 25, none, iLoad 25 1 false (.tmp 24) false⟩,
    ⟨some 26, none, iBin 26 .lss (.tmp 23) (.tmp 25)⟩,
    ⟨some 8, none, iMov 8 (.tmp 26) true⟩] [2, 3, 4, 5, 7, 8, 16, 17, 18] [2, 3, 4, 7]
def r1_SendHear_r8 : IC := cReg Try.prog [
    ⟨some 27, none, iFad 27 5 (.tmp 3)⟩,
    ⟨some 28, none, iLoad 28 1 false (.tmp 27) false⟩,
    ⟨some 29, none, iLen 29 false (.tmp 28)⟩,
    ⟨some 30, none, iMov 30 (.const (.int .i64 0)) false⟩] [2, 3, 4, 5, 7, 8, 16, 17, 18, 28, 29, 30] [2, 3, 4, 7]
def r1_SendHear_r9 : IC := cReg Try.prog [
    ⟨some 31, none, iBin 31 .lss (.tmp 30) (.tmp 29)⟩] [2, 3, 4, 5, 7, 8, 16, 17, 18, 28, 29, 30, 31] [2, 3, 4, 7]
def r1_SendHear_c8 : IC := cCond (.tmp 31) cSkip (cExit 2)
def r1_SendHear_r10 : IC := cReg Try.prog [
    ⟨some 32, none, iIaS 32 1 (.tmp 28) (.tmp 30)⟩,
    ⟨some 33, none, iLoad 33 1 false (.tmp 32) false⟩,
    ⟨some 10, none, iMov 10 (.tmp 33) true⟩] [2, 3, 4, 5, 7, 8, 10, 16, 17, 18, 28, 29, 30] [2, 3, 4, 7]
def r1_SendHear_r11 : IC := cReg Try.prog [
    ⟨some 34, none, iMov 34 (.tmp 8) false⟩,
    ⟨some 35, none, iMov 35 (.tmp 34) false⟩,
    ⟨some 36, some (35, false), iMov 36 (.tmp 10) false⟩,
    ⟨some 37, some (35, false), iFad 37 1 (.tmp 7)⟩,
    ⟨some 38, some (35, false), iLoad 38 1 false (.tmp 37) false⟩,
    ⟨some 39, some (35, false), iBin 39 .eql (.tmp 36) (.tmp 38)⟩,
    ⟨some 40, none, iPick 40 (.tmp 35) (.const (.bool true)) (.tmp 39)⟩,
    ⟨some 8, none, iMov 8 (.tmp 40) true⟩] [2, 3, 4, 5, 7, 8, 16, 17, 18, 28, 29, 30] [2, 3, 4, 7]
def r1_SendHear_b9 : IC := cBlock 3 (cSeq r1_SendHear_r10 r1_SendHear_r11)
def r1_SendHear_r12 : IC := cReg Try.prog [
    ⟨some 41, none, iBin 41 .add (.tmp 30) (.const (.int .i64 1))⟩,
    ⟨some 30, none, iMov 30 (.tmp 41) false⟩] [2, 3, 4, 5, 7, 8, 16, 17, 18, 28, 29, 30] [2, 3, 4, 7]
def r1_SendHear_l7a : IC := (cSeq r1_SendHear_r9 (cSeq r1_SendHear_c8 (cSeq r1_SendHear_b9 r1_SendHear_r12)))
def r1_SendHear_l7 : IC := cLoop r1_SendHear_l7a
def r1_SendHear_b6 : IC := cBlock 2 r1_SendHear_l7
def r1_SendHear_r13 : IC := cReg Try.prog [
    ⟨some 42, none, iMov 42 (.tmp 8) false⟩,
    ⟨some 43, none, iNot 43 (.tmp 42)⟩] [2, 3, 4, 5, 7, 16, 17, 18, 43] [2, 3, 4, 7]
def r1_SendHear_r14 : IC := cReg Try.prog [
    ⟨some 44, none, iMov 44 (.tmp 5) true⟩,
    ⟨some 45, none, iLoad 45 6 true (.tmp 7) false⟩,
    ⟨some 46, none, iRow 46 86 6 [(.tmp 45)]⟩,
    ⟨some 47, none, iApp 47 86 6 80 (.tmp 44) (.tmp 46)⟩,
    ⟨some 5, none, iMov 5 (.tmp 47) true⟩] [2, 3, 4, 5, 16, 17, 18] [2, 3, 4]
def r1_SendHear_c10 : IC := cCond (.tmp 43) r1_SendHear_r14 cSkip
def r1_SendHear_b5 : IC := cBlock 1 (cSeq r1_SendHear_r6 (cSeq r1_SendHear_r7 (cSeq (cSeq r1_SendHear_r8 r1_SendHear_b6) (cSeq r1_SendHear_r13 r1_SendHear_c10))))
def r1_SendHear_r15 : IC := cReg Try.prog [
    ⟨some 48, none, iBin 48 .add (.tmp 18) (.const (.int .i64 1))⟩,
    ⟨some 18, none, iMov 18 (.tmp 48) false⟩] [2, 3, 4, 5, 16, 17, 18] [2, 3, 4]
def r1_SendHear_l3a : IC := (cSeq r1_SendHear_r5 (cSeq r1_SendHear_c4 (cSeq r1_SendHear_b5 r1_SendHear_r15)))
def r1_SendHear_l3 : IC := cLoop r1_SendHear_l3a
def r1_SendHear_b2 : IC := cBlock 0 r1_SendHear_l3
def r1_SendHear_r16 : IC := cReg Try.prog [
    ⟨some 49, none, iMov 49 (.tmp 5) false⟩,
    ⟨some 50, none, iFad 50 5 (.tmp 2)⟩,
    ⟨none, none, iStor 1 (.tmp 50) (.tmp 49)⟩] [2, 4] [2, 4]
def r1_SendHear_r17 : IC := cReg Try.prog [
    ⟨some 51, none, iLoad 51 7 true (.tmp 2) false⟩,
    ⟨none, none, iStor 7 (.tmp 4) (.tmp 51)⟩] [4] [4]
def r1_SendHear : IC := (cSeq r1_SendHear_r0 (cSeq (cSeq r1_SendHear_r1 r1_SendHear_c1) (cSeq r1_SendHear_r3 (cSeq (cSeq r1_SendHear_r4 r1_SendHear_b2) (cSeq r1_SendHear_r16 (cSeq r1_SendHear_r17 cRet))))))
theorem told_r1_SendHear {args r : List D} (hl : args.length = 2) (h : r1_SendHear (start args) (fin [(4, some (7, true))] r)) : Told Try.prog 57 args r :=
  told_of follows Try.func57 rfl (an := [([], [2, 3, 4], [2, 3, 4], []), ([], [2, 3, 4, 13], [2, 3, 4], []), ([], [4], [4], []), ([], [2, 3, 4, 5], [2, 3, 4], []), ([], [2, 3, 4, 5, 16, 17, 18], [2, 3, 4], []), ([], [2, 3, 4, 5, 16, 17, 18, 19], [2, 3, 4], []), ([], [2, 3, 4, 5, 7, 16, 17, 18], [2, 3, 4, 7], []), ([], [2, 3, 4, 5, 7, 8, 16, 17, 18], [2, 3, 4, 7], []), ([], [2, 3, 4, 5, 7, 8, 16, 17, 18, 28, 29, 30], [2, 3, 4, 7], []), ([], [2, 3, 4, 5, 7, 8, 16, 17, 18, 28, 29, 30, 31], [2, 3, 4, 7], []), ([], [2, 3, 4, 5, 7, 8, 10, 16, 17, 18, 28, 29, 30], [2, 3, 4, 7], []), ([], [2, 3, 4, 5, 7, 8, 16, 17, 18, 28, 29, 30], [2, 3, 4, 7], []), ([], [2, 3, 4, 5, 7, 8, 16, 17, 18, 28, 29, 30], [2, 3, 4, 7], []), ([], [2, 3, 4, 5, 7, 16, 17, 18, 43], [2, 3, 4, 7], []), ([], [2, 3, 4, 5, 16, 17, 18], [2, 3, 4], []), ([], [2, 3, 4, 5, 16, 17, 18], [2, 3, 4], []), ([], [2, 4], [2, 4], []), ([], [4], [4], [])]) (by kernel_rfl) (by kernel_rfl) (by rw [hl]; decide +kernel) h

def r1_SameSender_r0 : IC := cReg Try.prog [
    ⟨some 2, none, iBox 2 (.tmp 0)⟩,
    ⟨some 3, none, iBox 3 (.tmp 1)⟩,
    ⟨some 4, none, iMov 4 (.const (.bool false)) true⟩] [2, 3] [2, 3]
def r1_SameSender_r1_0 : IC := cReg Try.prog [
    ⟨some 5, none, iFad 5 0 (.tmp 2)⟩,
    ⟨some 6, none, iLoad 6 1 false (.tmp 5) false⟩,
    ⟨some 7, none, iFad 7 0 (.tmp 3)⟩,
    ⟨some 8, none, iLoad 8 1 false (.tmp 7) false⟩,
    ⟨some 9, none, iCall 9 16 [(.tmp 6), (.tmp 8)]⟩,
    ⟨some 10, none, iMov 10 (.tmp 9) false⟩,
    ⟨some 11, some (10, true), iFad 11 1 (.tmp 2)⟩,
    ⟨some 12, some (10, true), iLoad 12 1 false (.tmp 11) false⟩,
    ⟨some 13, some (10, true), iFad 13 1 (.tmp 3)⟩,
    ⟨some 14, some (10, true), iLoad 14 1 false (.tmp 13) false⟩] [2, 3, 10, 12, 14] [2, 3]
def r1_SameSender_r1_1 : IC := cReg Try.prog [
    ⟨some 15, some (10, true), iBin 15 .eql (.tmp 12) (.tmp 14)⟩,
    ⟨some 16, none, iPick 16 (.tmp 10) (.tmp 15) (.const (.bool false))⟩,
    ⟨some 17, none, iMov 17 (.tmp 16) false⟩,
    ⟨some 18, some (17, true), iFad 18 2 (.tmp 2)⟩,
    ⟨some 19, some (17, true), iLoad 19 3 true (.tmp 18) false⟩,
    ⟨some 20, some (17, true), iFad 20 2 (.tmp 3)⟩,
    ⟨some 21, some (17, true), iLoad 21 3 true (.tmp 20) false⟩,
    ⟨some 22, some (17, true), iEqA 22 true (.tmp 19) (.tmp 21)⟩,
    ⟨some 23, none, iPick 23 (.tmp 17) (.tmp 22) (.const (.bool false))⟩,
    ⟨some 24, none, iMov 24 (.tmp 23) false⟩] [2, 3, 24] [2, 3]
def r1_SameSender_r1_2 : IC := cReg Try.prog [
    ⟨some 25, some (24, true), iFad 25 5 (.tmp 2)⟩,
    ⟨some 26, some (24, true), iLoad 26 1 false (.tmp 25) false⟩,
    ⟨some 27, some (24, true), iFad 27 5 (.tmp 3)⟩,
    ⟨some 28, some (24, true), iLoad 28 1 false (.tmp 27) false⟩,
    ⟨some 29, some (24, true), iCall 29 42 [(.tmp 26), (.tmp 28)]⟩,
    ⟨some 30, none, iPick 30 (.tmp 24) (.tmp 29) (.const (.bool false))⟩,
    ⟨some 31, none, iMov 31 (.tmp 30) false⟩,
    ⟨some 32, some (31, true), iFad 32 6 (.tmp 2)⟩,
    ⟨some 33, some (31, true), iLoad 33 1 false (.tmp 32) false⟩,
    ⟨some 34, some (31, true), iFad 34 6 (.tmp 3)⟩] [31, 33, 34] [3]
def r1_SameSender_r1_3 : IC := cReg Try.prog [
    ⟨some 35, some (31, true), iLoad 35 1 false (.tmp 34) false⟩,
    ⟨some 36, some (31, true), iBin 36 .eql (.tmp 33) (.tmp 35)⟩,
    ⟨some 37, none, iPick 37 (.tmp 31) (.tmp 36) (.const (.bool false))⟩,
    ⟨some 4, none, iMov 4 (.tmp 37) true⟩] [4] []
def r1_SameSender_r1 : IC := (cSeq r1_SameSender_r1_0 (cSeq r1_SameSender_r1_1 (cSeq r1_SameSender_r1_2 r1_SameSender_r1_3)))
def r1_SameSender : IC := (cSeq r1_SameSender_r0 (cSeq r1_SameSender_r1 cRet))
theorem told_r1_SameSender {args r : List D} (hl : args.length = 2) (h : r1_SameSender (start args) (fin [(4, none)] r)) : Told Try.prog 26 args r :=
  told_of follows Try.func26 rfl (an := [([], [2, 3], [2, 3], []), ([(10, [2, 3, 10, 12, 14], [2, 3]), (10, [2, 3, 24], [2, 3]), (10, [31, 33, 34], [3])], [4], [], [])]) (by kernel_rfl) (by kernel_rfl) (by rw [hl]; decide +kernel) h

end Go.Proofs.Ytngfedhffehkaac.ab
