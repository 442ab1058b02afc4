/-
  Several texts in one.
-/
import Derived.Test.YtngfedhffehkaacM23
import Derived.Test.YtngfedhffehkaacProg
import Derived.Test.YtngfedhffehkaacM38
import Derived.Test.YtngfedhffehkaacM39

/-
  Functions as plain code (written by wip/abs/ir.py): lkref6.Do, lkref6.Play.
-/
namespace Go.Proofs.Ytngfedhffehkaac.ab
set_option linter.unusedSimpArgs false
set_option linter.unusedVariables false
set_option maxRecDepth 100000
open Go Go.RowKit

def r6_Do_r0 : IC := cReg Try.prog [
    ⟨some 2, none, iBox 2 (.tmp 0)⟩,
    ⟨some 3, none, iBox 3 (.tmp 1)⟩,
    ⟨some 4, none, iAlo 4 [vD (.slice none 0 0), vD (.int .i64 0)]⟩,
    ⟨some 5, none, iMov 5 (.const (.int .i64 0)) true⟩] [2, 3, 4] [2, 3, 4]
def r6_Do_r1 : IC := cReg Try.prog [
    ⟨some 9, none, iFad 9 0 (.tmp 3)⟩,
    ⟨some 10, none, iLoad 10 1 false (.tmp 9) false⟩,
    ⟨some 11, none, iBin 11 .lss (.tmp 10) (.const (.int .i64 1))⟩,
    ⟨some 12, none, iMov 12 (.tmp 11) false⟩,
    ⟨some 13, some (12, false), iFad 13 0 (.tmp 3)⟩,
    ⟨some 14, some (12, false), iLoad 14 1 false (.tmp 13) false⟩,
    ⟨some 15, some (12, false), iBin 15 .gtr (.tmp 14) (.const (.int .i64 6))⟩,
    ⟨some 16, none, iPick 16 (.tmp 12) (.const (.bool true)) (.tmp 15)⟩] [2, 3, 4, 16] [2, 3, 4]
def r6_Do_r2 : IC := cReg Try.prog [
    ⟨some 17, none, iLoad 17 2 true (.tmp 2) false⟩,
    ⟨none, none, iStor 2 (.tmp 4) (.tmp 17)⟩,
    ⟨some 5, none, iMov 5 (.const (.int .i64 1)) true⟩] [4, 5] [4]
def r6_Do_c1a : IC := (cSeq r6_Do_r2 cRet)
def r6_Do_c1 : IC := cCond (.tmp 16) r6_Do_c1a cSkip
def r6_Do_r3 : IC := cReg Try.prog [
    ⟨some 18, none, iFad 18 1 (.tmp 3)⟩,
    ⟨some 19, none, iLoad 19 1 false (.tmp 18) false⟩,
    ⟨some 6, none, iMov 6 (.tmp 19) true⟩] [2, 3, 4, 6] [2, 3, 4]
def r6_Do_r4 : IC := cReg Try.prog [
    ⟨some 20, none, iFad 20 0 (.tmp 3)⟩,
    ⟨some 21, none, iLoad 21 1 false (.tmp 20) false⟩,
    ⟨some 22, none, iBin 22 .eql (.tmp 21) (.const (.int .i64 1))⟩] [2, 3, 4, 6, 22] [2, 3, 4]
def r6_Do_r5 : IC := cReg Try.prog [
    ⟨some 23, none, iFad 23 1 (.tmp 2)⟩,
    ⟨some 24, none, iLoad 24 1 false (.tmp 23) false⟩,
    ⟨some 25, none, iFad 25 0 (.tmp 2)⟩,
    ⟨some 26, none, iLoad 26 1 false (.tmp 25) false⟩,
    ⟨some 27, none, iLen 27 false (.tmp 26)⟩,
    ⟨some 28, none, iBin 28 .rem (.tmp 24) (.tmp 27)⟩,
    ⟨some 6, none, iMov 6 (.tmp 28) true⟩] [2, 3, 4, 6] [2, 3, 4]
def r6_Do_r6 : IC := cReg Try.prog [
    ⟨some 29, none, iFad 29 1 (.tmp 2)⟩,
    ⟨some 30, none, iLoad 30 1 false (.tmp 29) false⟩,
    ⟨some 31, none, iBin 31 .add (.tmp 30) (.const (.int .i64 1))⟩,
    ⟨some 32, none, iFad 32 1 (.tmp 2)⟩,
    ⟨none, none, iStor 1 (.tmp 32) (.tmp 31)⟩] [2, 3, 4, 6] [2, 3, 4]
def r6_Do_c2a : IC := (cSeq r6_Do_r5 r6_Do_r6)
def r6_Do_c2 : IC := cCond (.tmp 22) r6_Do_c2a cSkip
def r6_Do_r7 : IC := cReg Try.prog [
    ⟨some 33, none, iMov 33 (.tmp 6) false⟩,
    ⟨some 34, none, iBin 34 .lss (.tmp 33) (.const (.int .i64 0))⟩,
    ⟨some 35, none, iMov 35 (.tmp 34) false⟩,
    ⟨some 36, some (35, false), iMov 36 (.tmp 6) false⟩,
    ⟨some 37, some (35, false), iFad 37 0 (.tmp 2)⟩,
    ⟨some 38, some (35, false), iLoad 38 1 false (.tmp 37) false⟩,
    ⟨some 39, some (35, false), iLen 39 false (.tmp 38)⟩,
    ⟨some 40, some (35, false), iBin 40 .geq (.tmp 36) (.tmp 39)⟩,
    ⟨some 41, none, iPick 41 (.tmp 35) (.const (.bool true)) (.tmp 40)⟩] [2, 3, 4, 6, 41] [2, 3, 4]
def r6_Do_r8 : IC := cReg Try.prog [
    ⟨some 42, none, iLoad 42 2 true (.tmp 2) false⟩,
    ⟨none, none, iStor 2 (.tmp 4) (.tmp 42)⟩,
    ⟨some 5, none, iMov 5 (.const (.int .i64 6)) true⟩] [4, 5] [4]
def r6_Do_c3a : IC := (cSeq r6_Do_r8 cRet)
def r6_Do_c3 : IC := cCond (.tmp 41) r6_Do_c3a cSkip
def r6_Do_r9 : IC := cReg Try.prog [
    ⟨some 43, none, iFad 43 0 (.tmp 2)⟩,
    ⟨some 44, none, iLoad 44 1 false (.tmp 43) false⟩,
    ⟨some 45, none, iMov 45 (.tmp 6) false⟩,
    ⟨some 46, none, iIaS 46 17 (.tmp 44) (.tmp 45)⟩,
    ⟨some 47, none, iLoad 47 17 true (.tmp 46) false⟩,
    ⟨some 7, none, iAlo 7 [vD (.slice none 0 0), vD (.int .i64 0), vD (.int .i64 0), vD (.int .i64 0), vD (.int .i64 0), vD (.slice none 0 0), vD (.int .i64 0), vD (.int .i64 0), vD (.slice none 0 0), vD (.int .i64 0), vD (.int .i64 0), vD (.int .i64 0), vD (.slice none 0 0), vD (.slice none 0 0), vD (.bool false), vD (.slice none 0 0), vD (.slice none 0 0)]⟩,
    ⟨none, none, iStor 17 (.tmp 7) (.tmp 47)⟩,
    ⟨some 8, none, iMov 8 (.const (.int .i64 0)) true⟩] [2, 3, 4, 6, 7, 8] [2, 3, 4, 7]
def r6_Do_r10 : IC := cReg Try.prog [
    ⟨some 48, none, iFad 48 0 (.tmp 3)⟩,
    ⟨some 49, none, iLoad 49 1 false (.tmp 48) false⟩] [2, 3, 4, 6, 7, 8, 49] [2, 3, 4, 7]
def r6_Do_r12 : IC := cReg Try.prog [
    ⟨some 64, none, iBin 64 .eql (.tmp 49) (.const (.int .i64 1))⟩,
    ⟨some 63, none, iMov 63 (.tmp 64) true⟩] [2, 3, 4, 6, 7, 8, 49, 63] [2, 3, 4, 7]
def r6_Do_r13 : IC := cReg Try.prog [
    ⟨some 65, none, iLoad 65 17 true (.tmp 7) false⟩,
    ⟨some 66, none, iCall 66 32 [(.tmp 65)]⟩,
    ⟨none, none, iStor 17 (.tmp 7) (.tmp 66)⟩] [2, 4, 6, 7, 8] [2, 4, 7]
def r6_Do_r14 : IC := cReg Try.prog [
    ⟨some 68, none, iBin 68 .eql (.tmp 49) (.const (.int .i64 2))⟩,
    ⟨some 67, none, iMov 67 (.tmp 68) true⟩] [2, 3, 4, 6, 7, 67] [2, 3, 4, 7]
def r6_Do_r15 : IC := cReg Try.prog [
    ⟨some 70, none, iFad 70 0 (.tmp 7)⟩,
    ⟨some 71, none, iLoad 71 7 true (.tmp 70) false⟩,
    ⟨some 72, none, iFad 72 5 (.tmp 3)⟩,
    ⟨some 73, none, iLoad 73 2 true (.tmp 72) false⟩,
    ⟨some 74, none, iCall 74 33 [(.tmp 71), (.tmp 73)]⟩,
    ⟨some 69, none, iMov 69 (.tmp 74) false⟩,
    ⟨some 75, none, iExt 75 (.tmp 69) 0⟩,
    ⟨some 76, none, iExt 76 (.tmp 69) 1⟩,
    ⟨some 77, none, iFad 77 0 (.tmp 7)⟩,
    ⟨none, none, iStor 7 (.tmp 77) (.tmp 75)⟩,
    ⟨some 8, none, iMov 8 (.tmp 76) true⟩] [2, 4, 6, 7, 8] [2, 4, 7]
def r6_Do_r11_0 : IC := cReg Try.prog [
    ⟨some 51, none, iLoad 51 17 true (.tmp 7) false⟩,
    ⟨some 52, none, iFad 52 0 (.tmp 3)⟩,
    ⟨some 53, none, iLoad 53 1 false (.tmp 52) false⟩,
    ⟨some 54, none, iFad 54 2 (.tmp 3)⟩,
    ⟨some 55, none, iLoad 55 1 false (.tmp 54) false⟩,
    ⟨some 56, none, iFad 56 3 (.tmp 3)⟩,
    ⟨some 57, none, iLoad 57 1 false (.tmp 56) false⟩,
    ⟨some 58, none, iFad 58 4 (.tmp 3)⟩,
    ⟨some 59, none, iLoad 59 1 false (.tmp 58) false⟩,
    ⟨some 60, none, iCall 60 34 [(.tmp 51), (.tmp 53), (.tmp 55), (.tmp 57), (.tmp 59)]⟩] [2, 4, 6, 7, 60] [2, 4, 7, 100081]
def r6_Do_r11_1 : IC := cReg Try.prog [
    ⟨some 50, none, iMov 50 (.tmp 60) false⟩,
    ⟨some 61, none, iExt 61 (.tmp 50) 0⟩,
    ⟨some 62, none, iExt 62 (.tmp 50) 1⟩,
    ⟨none, none, iStor 17 (.tmp 7) (.tmp 61)⟩,
    ⟨some 8, none, iMov 8 (.tmp 62) true⟩] [2, 4, 6, 7, 8] [2, 4, 7]
def r6_Do_r11 : IC := (cSeq r6_Do_r11_0 r6_Do_r11_1)
def r6_Do_c6 : IC := cCond (.tmp 67) r6_Do_r15 r6_Do_r11
def r6_Do_c5b : IC := (cSeq r6_Do_r14 r6_Do_c6)
def r6_Do_c5 : IC := cCond (.tmp 63) r6_Do_r13 r6_Do_c5b
def r6_Do_b4 : IC := cBlock 0 (cSeq r6_Do_r12 r6_Do_c5)
def r6_Do_r16 : IC := cReg Try.prog [
    ⟨some 78, none, iRow 78 51 17 []⟩,
    ⟨some 79, none, iFad 79 0 (.tmp 2)⟩,
    ⟨some 80, none, iLoad 80 1 false (.tmp 79) false⟩,
    ⟨some 81, none, iApr 81 51 17 248 78 (.tmp 80)⟩,
    ⟨some 82, none, iFad 82 0 (.tmp 2)⟩,
    ⟨none, none, iStor 1 (.tmp 82) (.tmp 81)⟩] [2, 4, 6, 7, 8] [2, 4, 7, 100081]
def r6_Do_r17 : IC := cReg Try.prog [
    ⟨some 83, none, iFad 83 0 (.tmp 2)⟩,
    ⟨some 84, none, iLoad 84 1 false (.tmp 83) false⟩,
    ⟨some 85, none, iMov 85 (.tmp 6) false⟩,
    ⟨some 86, none, iLoad 86 17 true (.tmp 7) false⟩,
    ⟨some 87, none, iIaS 87 17 (.tmp 84) (.tmp 85)⟩,
    ⟨none, none, iStor 17 (.tmp 87) (.tmp 86)⟩] [2, 4, 8] [2, 4]
def r6_Do_r18 : IC := cReg Try.prog [
    ⟨some 88, none, iLoad 88 2 true (.tmp 2) false⟩,
    ⟨some 89, none, iMov 89 (.tmp 8) false⟩,
    ⟨none, none, iStor 2 (.tmp 4) (.tmp 88)⟩,
    ⟨some 5, none, iMov 5 (.tmp 89) true⟩] [4, 5] [4]
def r6_Do : IC := (cSeq r6_Do_r0 (cSeq (cSeq r6_Do_r1 r6_Do_c1) (cSeq r6_Do_r3 (cSeq (cSeq r6_Do_r4 r6_Do_c2) (cSeq (cSeq r6_Do_r7 r6_Do_c3) (cSeq r6_Do_r9 (cSeq (cSeq r6_Do_r10 r6_Do_b4) (cSeq r6_Do_r16 (cSeq r6_Do_r17 (cSeq r6_Do_r18 cRet))))))))))
theorem told_r6_Do {args r : List D} (hl : args.length = 2) (h : r6_Do (start args) (fin [(4, some (2, true)), (5, none)] r)) : Told Try.prog 23 args r :=
  told_of follows Try.func23 rfl (an := [([], [2, 3, 4], [2, 3, 4], []), ([], [2, 3, 4, 16], [2, 3, 4], []), ([], [4, 5], [4], []), ([], [2, 3, 4, 6], [2, 3, 4], []), ([], [2, 3, 4, 6, 22], [2, 3, 4], []), ([], [2, 3, 4, 6], [2, 3, 4], []), ([], [2, 3, 4, 6], [2, 3, 4], []), ([], [2, 3, 4, 6, 41], [2, 3, 4], []), ([], [4, 5], [4], []), ([], [2, 3, 4, 6, 7, 8], [2, 3, 4, 7], []), ([], [2, 3, 4, 6, 7, 8, 49], [2, 3, 4, 7], []), ([], [2, 3, 4, 6, 7, 8, 49, 63], [2, 3, 4, 7], []), ([], [2, 4, 6, 7, 8], [2, 4, 7], []), ([], [2, 3, 4, 6, 7, 67], [2, 3, 4, 7], []), ([], [2, 4, 6, 7, 8], [2, 4, 7], []), ([(10, [2, 4, 6, 7, 60], [2, 4, 7, 100081])], [2, 4, 6, 7, 8], [2, 4, 7], []), ([], [2, 4, 6, 7, 8], [2, 4, 7, 100081], [81]), ([], [2, 4, 8], [2, 4], []), ([], [4, 5], [4], [])]) (by kernel_rfl) (by kernel_rfl) (by rw [hl]; decide +kernel) h

def r6_Play_r0 : IC := cReg Try.prog [
    ⟨some 4, none, iAlo 4 [vD (.slice none 0 0), vD (.int .i64 0)]⟩,
    ⟨some 5, none, iMov 5 (.const (.slice none 0 0)) true⟩] [0, 1, 4] [4]
def r6_Play_r1 : IC := cReg Try.prog [
    ⟨some 14, none, iMov 14 (.tmp 0) false⟩,
    ⟨some 15, none, iCall 15 22 [(.tmp 14)]⟩,
    ⟨some 13, none, iMov 13 (.tmp 15) false⟩,
    ⟨some 16, none, iExt 16 (.tmp 13) 0⟩,
    ⟨some 17, none, iExt 17 (.tmp 13) 1⟩,
    ⟨some 6, none, iAlo 6 [vD (.slice none 0 0), vD (.int .i64 0)]⟩,
    ⟨none, none, iStor 2 (.tmp 6) (.tmp 16)⟩,
    ⟨some 7, none, iMov 7 (.tmp 17) true⟩] [1, 4, 6] [4, 6]
def r6_Play_r2 : IC := cReg Try.prog [
    ⟨some 8, none, iMov 8 (.const (.slice none 0 0)) true⟩] [1, 4, 6, 8] [4, 6]
def r6_Play_r3 : IC := cReg Try.prog [
    ⟨some 18, none, iMov 18 (.tmp 1) false⟩,
    ⟨some 19, none, iLen 19 false (.tmp 18)⟩,
    ⟨some 20, none, iMov 20 (.const (.int .i64 0)) false⟩] [4, 6, 8, 18, 19, 20] [4, 6]
def r6_Play_r4 : IC := cReg Try.prog [
    ⟨some 21, none, iBin 21 .lss (.tmp 20) (.tmp 19)⟩] [4, 6, 8, 18, 19, 20, 21] [4, 6]
def r6_Play_c3 : IC := cCond (.tmp 21) cSkip (cExit 0)
def r6_Play_r5 : IC := cReg Try.prog [
    ⟨some 22, none, iMov 22 (.tmp 20) false⟩,
    ⟨some 23, none, iIaS 23 7 (.tmp 18) (.tmp 20)⟩,
    ⟨some 24, none, iLoad 24 7 true (.tmp 23) false⟩,
    ⟨some 10, none, iAlo 10 [vD (.int .i64 0), vD (.int .i64 0), vD (.int .i64 0), vD (.int .i64 0), vD (.bool false), vD (.int .i64 0), vD (.slice none 0 0)]⟩,
    ⟨some 9, none, iMov 9 (.tmp 22) true⟩,
    ⟨none, none, iStor 7 (.tmp 10) (.tmp 24)⟩] [4, 6, 8, 9, 10, 18, 19, 20] [4, 6, 10]
def r6_Play_r6 : IC := cReg Try.prog [
    ⟨some 25, none, iMov 25 (.tmp 9) false⟩,
    ⟨some 26, none, iBin 26 .eql (.tmp 25) (.const (.int .i64 160))⟩] [4, 6, 8, 10, 18, 19, 20, 26] [4, 6, 10]
def r6_Play_c5 : IC := cCond (.tmp 26) (cExit 0) cSkip
def r6_Play_r7 : IC := cReg Try.prog [
    ⟨some 28, none, iLoad 28 2 true (.tmp 6) false⟩,
    ⟨some 29, none, iLoad 29 7 true (.tmp 10) false⟩,
    ⟨some 30, none, iCall 30 23 [(.tmp 28), (.tmp 29)]⟩,
    ⟨some 27, none, iMov 27 (.tmp 30) false⟩,
    ⟨some 31, none, iExt 31 (.tmp 27) 0⟩,
    ⟨some 32, none, iExt 32 (.tmp 27) 1⟩,
    ⟨some 11, none, iAlo 11 [vD (.slice none 0 0), vD (.int .i64 0)]⟩,
    ⟨none, none, iStor 2 (.tmp 11) (.tmp 31)⟩,
    ⟨some 12, none, iMov 12 (.tmp 32) true⟩] [4, 6, 8, 11, 12, 18, 19, 20] [4, 6, 11]
def r6_Play_r8 : IC := cReg Try.prog [
    ⟨some 33, none, iLoad 33 2 true (.tmp 11) false⟩,
    ⟨none, none, iStor 2 (.tmp 6) (.tmp 33)⟩] [4, 6, 8, 12, 18, 19, 20] [4, 6]
def r6_Play_r9 : IC := cReg Try.prog [
    ⟨some 34, none, iMov 34 (.tmp 8) true⟩,
    ⟨some 35, none, iMov 35 (.tmp 12) false⟩,
    ⟨some 36, none, iRow 36 35 1 [(.tmp 35)]⟩,
    ⟨some 37, none, iApp 37 35 1 8 (.tmp 34) (.tmp 36)⟩,
    ⟨some 8, none, iMov 8 (.tmp 37) true⟩] [4, 6, 8, 18, 19, 20] [4, 6]
def r6_Play_b4 : IC := cBlock 1 (cSeq r6_Play_r5 (cSeq (cSeq r6_Play_r6 r6_Play_c5) (cSeq r6_Play_r7 (cSeq r6_Play_r8 r6_Play_r9))))
def r6_Play_r10 : IC := cReg Try.prog [
    ⟨some 38, none, iBin 38 .add (.tmp 20) (.const (.int .i64 1))⟩,
    ⟨some 20, none, iMov 20 (.tmp 38) false⟩] [4, 6, 8, 18, 19, 20] [4, 6]
def r6_Play_l2a : IC := (cSeq r6_Play_r4 (cSeq r6_Play_c3 (cSeq r6_Play_b4 r6_Play_r10)))
def r6_Play_l2 : IC := cLoop r6_Play_l2a
def r6_Play_b1 : IC := cBlock 0 r6_Play_l2
def r6_Play_r11 : IC := cReg Try.prog [
    ⟨some 39, none, iLoad 39 2 true (.tmp 6) false⟩,
    ⟨some 40, none, iMov 40 (.tmp 8) false⟩,
    ⟨none, none, iStor 2 (.tmp 4) (.tmp 39)⟩,
    ⟨some 5, none, iMov 5 (.tmp 40) true⟩] [4, 5] [4]
def r6_Play : IC := (cSeq r6_Play_r0 (cSeq r6_Play_r1 (cSeq r6_Play_r2 (cSeq (cSeq r6_Play_r3 r6_Play_b1) (cSeq r6_Play_r11 cRet)))))
theorem told_r6_Play {args r : List D} (hl : args.length = 2) (h : r6_Play (start args) (fin [(4, some (2, true)), (5, none)] r)) : Told Try.prog 9 args r :=
  told_of follows Try.func9 rfl (an := [([], [0, 1, 4], [4], []), ([], [1, 4, 6], [4, 6], []), ([], [1, 4, 6, 8], [4, 6], []), ([], [4, 6, 8, 18, 19, 20], [4, 6], []), ([], [4, 6, 8, 18, 19, 20, 21], [4, 6], []), ([], [4, 6, 8, 9, 10, 18, 19, 20], [4, 6, 10], []), ([], [4, 6, 8, 10, 18, 19, 20, 26], [4, 6, 10], []), ([], [4, 6, 8, 11, 12, 18, 19, 20], [4, 6, 11], []), ([], [4, 6, 8, 12, 18, 19, 20], [4, 6], []), ([], [4, 6, 8, 18, 19, 20], [4, 6], []), ([], [4, 6, 8, 18, 19, 20], [4, 6], []), ([], [4, 5], [4], [])]) (by kernel_rfl) (by kernel_rfl) (by rw [hl]; decide +kernel) h

end Go.Proofs.Ytngfedhffehkaac.ab

/-
  Plain mathematics for worlds. Nothing of the program.
-/
namespace Go.Proofs.Ytngfedhffehkaac.mth
set_option linter.unusedSimpArgs false
set_option linter.unusedVariables false
structure Sp where
  kind : Int
  tenant : Int
  n : Int
  m : Int
  back : Bool
  msg : Ms
structure Wd where
  lanes : List Ln
  ticks : Int
def zeroL : Ln := ⟨zeroS, zeroR, [], []⟩
def whoW (w : Wd) (s : Sp) : Int := if s.kind = 1 then w.ticks.tmod w.lanes.length else s.tenant
def ticksW (w : Wd) (s : Sp) : Int := if s.kind = 1 then w.ticks + 1 else w.ticks
def laneW (l : Ln) (s : Sp) : Ln × Int :=
  if s.kind = 1 then (speakL l, 0) else if s.kind = 2 then ({ l with s := putS l.s s.msg }, putE l.s s.msg) else packetL l s.kind s.n s.m s.back
/-- A step. -/
def doW (w : Wd) (s : Sp) : Wd × Int :=
  if s.kind < 1 ∨ 6 < s.kind then (w, 1) else
  if whoW w s < 0 ∨ (w.lanes.length : Int) ≤ whoW w s then (⟨w.lanes, ticksW w s⟩, 6) else
  (⟨w.lanes.set (whoW w s).toNat (laneW (w.lanes.getD (whoW w s).toNat zeroL) s).1, ticksW w s⟩, (laneW (w.lanes.getD (whoW w s).toNat zeroL) s).2)
/-- A world that came of steps. -/
structure GoodW (w : Wd) : Prop where
  n : 1 ≤ w.lanes.length ∧ w.lanes.length ≤ 3
  t : 0 ≤ w.ticks
  l : ∀ l ∈ w.lanes, GoodL l
theorem good_zeroL : GoodL zeroL := ⟨good_zero, good_zeroR, by simp [zeroL], by simp [zeroL], by simp [zeroL], by simp [zeroL]⟩
theorem GoodL.lane {l : Ln} (h : GoodL l) (s : Sp) : GoodL (laneW l s).1 := by
  unfold laneW
  split
  · exact h.speak
  split
  · exact ⟨h.s.put _, h.r, h.t, h.b, h.tn, h.bn⟩
  · exact h.packet _ _ _ _
theorem GoodW.step {w : Wd} (h : GoodW w) (s : Sp) : GoodW (doW w s).1 := by
  have ht : 0 ≤ ticksW w s := by have := h.t; unfold ticksW; split <;> omega
  unfold doW
  split
  · exact h
  split
  · exact ⟨h.n, ht, h.l⟩
  · refine ⟨by simpa using h.n, ht, fun l hl => ?_⟩
    rcases List.mem_or_eq_of_mem_set hl with q | q
    · exact h.l l q
    · rw [q]
      refine GoodL.lane ?_ s
      rw [List.getD_eq_getElem?_getD]
      cases hq : w.lanes[(whoW w s).toNat]? with
      | none => exact good_zeroL
      | some y => exact h.l y (List.mem_of_getElem? hq)
def newW (n : Nat) : Wd := ⟨List.replicate n zeroL, 0⟩
/-- Steps, one behind another: the world, the errors. -/
def runW (w : Wd) (l : List Sp) : Wd × List Int := l.foldl (fun x s => ((doW x.1 s).1, x.2 ++ [(doW x.1 s).2])) (w, [])
theorem runW_nil (w : Wd) : runW w [] = (w, []) := rfl
theorem runW_snoc (w : Wd) (l : List Sp) (s : Sp) : runW w (l ++ [s]) = ((doW (runW w l).1 s).1, (runW w l).2 ++ [(doW (runW w l).1 s).2]) := by simp [runW, List.foldl_append]
theorem good_new {n : Nat} (h : 1 ≤ n ∧ n ≤ 3) : GoodW (newW n) := ⟨by simpa [newW] using h, by simp [newW], fun l hl => by
  rw [(List.mem_replicate.1 hl).2]; exact good_zeroL⟩
theorem ticks_do (w : Wd) (s : Sp) : (doW w s).1.ticks ≤ w.ticks + 1 := by
  have h : ticksW w s ≤ w.ticks + 1 := by unfold ticksW; split <;> omega
  unfold doW
  split
  · simp only; omega
  · split
    · exact h
    · exact h
theorem good_run {w : Wd} (h : GoodW w) (l : List Sp) : ∀ k, GoodW (runW w (l.take k)).1 ∧ (runW w (l.take k)).1.ticks ≤ w.ticks + k ∧ (runW w (l.take k)).2.length ≤ k := by
  intro k
  induction k with
  | zero => simp [runW_nil, h]
  | succ k ih =>
    by_cases hk : k < l.length
    · rw [List.take_add_one, List.getElem?_eq_getElem hk, Option.toList_some, runW_snoc]
      refine ⟨ih.1.step _, ?_, ?_⟩
      · have := ticks_do (runW w (l.take k)).1 l[k]
        simp only
        omega
      · simp only [List.length_append, List.length_singleton]
        omega
    · rw [List.take_of_length_le (by omega)] at ih ⊢
      exact ⟨ih.1, by omega, by omega⟩
end Go.Proofs.Ytngfedhffehkaac.mth

/-
  Functions as plain code (written by wip/abs/ir.py): lkref6.New=r6_NewQ;Q3.2.
-/
namespace Go.Proofs.Ytngfedhffehkaac.ab
set_option linter.unusedSimpArgs false
set_option linter.unusedVariables false
set_option maxRecDepth 100000
open Go Go.RowKit

def r6_NewQ_r0 : IC := cReg Try.prog [
    ⟨some 2, none, iAlo 2 [vD (.slice none 0 0), vD (.int .i64 0)]⟩,
    ⟨some 3, none, iMov 3 (.const (.int .i64 0)) true⟩] [0, 2] [2]
def r6_NewQ_r1 : IC := cReg Try.prog [
    ⟨some 4, none, iMov 4 (.tmp 0) false⟩,
    ⟨some 5, none, iBin 5 .lss (.tmp 4) (.const (.int .i64 1))⟩,
    ⟨some 6, none, iMov 6 (.tmp 5) false⟩,
    ⟨some 7, some (6, false), iMov 7 (.tmp 0) false⟩,
    ⟨some 8, some (6, false), iBin 8 .gtr (.tmp 7) (.const (.int .i64 3))⟩,
    ⟨some 9, none, iPick 9 (.tmp 6) (.const (.bool true)) (.tmp 8)⟩] [0, 2, 9] [2]
def r6_NewQ_r2 : IC := cReg Try.prog [
    ⟨some 10, none, iBld 10 [vD (.slice none 0 0), vD (.int .i64 0)] [] []⟩,
    ⟨none, none, iStor 2 (.tmp 2) (.tmp 10)⟩,
    ⟨some 3, none, iMov 3 (.const (.int .i64 3)) true⟩] [2, 3] [2]
def r6_NewQ_c1a : IC := (cSeq r6_NewQ_r2 cRet)
def r6_NewQ_c1 : IC := cCond (.tmp 9) r6_NewQ_c1a cSkip
def r6_NewQ_r3_0 : IC := cReg Try.prog [
    ⟨some 11, none, iMov 11 (.tmp 0) false⟩,
    ⟨some 12, none, iMkS 12 17 248 (aD [vD (.slice none 0 0), vD (.int .i64 0), vD (.int .i64 0), vD (.int .i64 0), vD (.int .i64 0), vD (.slice none 0 0), vD (.int .i64 0), vD (.int .i64 0), vD (.slice none 0 0), vD (.int .i64 0), vD (.int .i64 0), vD (.int .i64 0), vD (.slice none 0 0), vD (.slice none 0 0), vD (.bool false), vD (.slice none 0 0), vD (.slice none 0 0)]) (.tmp 11) (.tmp 11)⟩] [2, 12] [2]
def r6_NewQ_r3_1 : IC := cReg Try.prog [
    ⟨some 13, none, iBld 13 [vD (.slice none 0 0), vD (.int .i64 0)] [(0, 1)] [(.tmp 12)]⟩,
    ⟨none, none, iStor 2 (.tmp 2) (.tmp 13)⟩,
    ⟨some 3, none, iMov 3 (.const (.int .i64 0)) true⟩] [2, 3] [2]
def r6_NewQ_r3 : IC := (cSeq r6_NewQ_r3_0 r6_NewQ_r3_1)
def r6_NewQ : IC := (cSeq r6_NewQ_r0 (cSeq (cSeq r6_NewQ_r1 r6_NewQ_c1) (cSeq r6_NewQ_r3 cRet)))
theorem told_r6_NewQ {args r : List D} (hl : args.length = 1) (h : r6_NewQ (start args) (fin [(2, some (2, true)), (3, none)] r)) : Told Try.prog 22 args r :=
  told_of follows Try.func22 rfl (an := [([], [0, 2], [2], []), ([], [0, 2, 9], [2], []), ([], [2, 3], [2], []), ([(2, [2, 12], [2])], [2, 3], [2], [])]) (by kernel_rfl) (by kernel_rfl) (by rw [hl]; decide +kernel) h

end Go.Proofs.Ytngfedhffehkaac.ab

/-
  What the answer's step tells.
-/
namespace Go.Proofs.Ytngfedhffehkaac.ab
set_option linter.unusedVariables false
set_option linter.unusedSimpArgs false
open Go Go.RowKit
open mth

def encLl (l : List Ln) : List D := l.map fun x => aD (encLn x)
def encWd (w : Wd) : List D := [sD 17 (encLl w.lanes), vI w.ticks]
def encSp (s : Sp) : List D := [vI s.kind, vI s.tenant, vI s.n, vI s.m, vB s.back, vI s.msg.stream, sD 1 (s.msg.data.map encB)]
theorem len_ll (l : List Ln) : (encLl l).length = l.length := by simp [encLl]
theorem at_ll {l : List Ln} {i : Nat} {x : Ln} (h : l[i]? = some x) : (encLl l)[i]? = some (aD (encLn x)) := by simp [encLl, h]
set_option maxHeartbeats 4000000 in
theorem do_kind (w : Wd) (s : Sp) (h : s.kind < 1 ∨ 6 < s.kind) : Told Try.prog 23 [aD (encWd w), aD (encSp s)] [aD (encWd w), vI 1] := by
  refine told_r6_Do rfl ?_
  obtain ⟨kind, tenant, n, m, back, msg⟩ := s
  simp only at h
  simp only [encWd, encSp]
  by_cases h1 : kind < 1
  · refine wk @h1 ?_
    exact ValsLe.refl _
  · have h2 : 6 < kind := by omega
    refine wk (an2 @h1 @h2) ?_
    exact ValsLe.refl _
set_option maxHeartbeats 4000000 in
theorem do_none (w : Wd) (s : Sp) (h : 2 ≤ s.kind ∧ s.kind ≤ 6) (hw : s.tenant < 0 ∨ (w.lanes.length : Int) ≤ s.tenant) : Told Try.prog 23 [aD (encWd w), aD (encSp s)] [aD (encWd w), vI 6] := by
  refine told_r6_Do rfl ?_
  obtain ⟨kind, tenant, n, m, back, msg⟩ := s
  simp only at h hw
  have h1 : ¬ kind < 1 := by omega
  have h2 : ¬ 6 < kind := by omega
  have h3 : (kind == 1) = false := by rw [beq_eq_false_iff_ne]; omega
  simp only [encWd, encSp]
  by_cases h4 : tenant < 0
  · refine wk (an4 @h1 @h2 @h3 @h4) ?_
    exact ValsLe.refl _
  · have h5 : (w.lanes.length : Int) ≤ tenant := by omega
    refine wk (an6 @h1 @h2 @h3 @h4 @h5 @len_ll) ?_
    exact ValsLe.refl _
theorem set_ll (l : List Ln) (j : Nat) (x : Ln) : encLl (l.set j x) = (encLl l).set j (aD (encLn x)) := by simp [encLl, List.map_set]
set_option maxHeartbeats 8000000 in
theorem do_put (w : Wd) (s : Sp) (h : s.kind = 2) (j : Nat) (hj : s.tenant = j) (l : Ln) (hl : w.lanes[j]? = some l) (hg : GoodL l) (hn : w.lanes.length ≤ 3) : Told Try.prog 23 [aD (encWd w), aD (encSp s)] [aD (encWd ⟨w.lanes.set j { l with s := putS l.s s.msg }, w.ticks⟩), vI (putE l.s s.msg)] := by
  refine told_r6_Do rfl ?_
  obtain ⟨kind, tenant, n, m, back, msg⟩ := s
  simp only at h hj ⊢
  subst h hj
  have h1 := refPut_told hg.s msg
  have hlt : j < w.lanes.length := (List.getElem?_eq_some_iff.1 hl).1
  have g1 : ¬ (j : Int) < 0 := by omega
  have g2 : ¬ (w.lanes.length : Int) ≤ (j : Int) := by omega
  have g3 : (0 : Int) ≤ (j : Int) := by omega
  have g4 : (j : Int) < (w.lanes.length : Int) := by omega
  have g5 := at_ll hl
  have b1 : w.lanes.length * 248 ≤ 140737488355328 := by omega
  obtain ⟨lanes, ticks⟩ := w
  obtain ⟨s', r', t', k'⟩ := l
  simp only at *
  generalize putS s' msg = q at *
  generalize putE s' msg = e at *
  have b0 : 0 < lanes.length := by omega
  simp only [encWd, encSp, set_ll, encLn, encSd, encMs] at h1 g5 ⊢
  refine wk (an7 @g1 @g2 @g3 @g4 @g5 @len_ll @Int.toNat_natCast) ?_
  refine cg [[aD (encSd q), vI e]] (an8 @encSd.eq_1 @g1 @g2 @g3 @g4 @g5 @len_ll @Int.toNat_natCast) ?_ ?_
  · exact obl_cons h1 obl_nil
  refine wk (an10 @g1 @g2 @g3 @g4 @g5 @b0 @b1 @len_ll @Int.toNat_natCast @zset) ?_
  exact ValsLe.refl _
set_option maxHeartbeats 8000000 in
theorem do_packet (hS : CSpoilR 34) (w : Wd) (s : Sp) (h : 3 ≤ s.kind ∧ s.kind ≤ 6) (j : Nat) (hj : s.tenant = j) (l : Ln) (hl : w.lanes[j]? = some l) (hg : GoodL l) (hn : w.lanes.length ≤ 3) : Told Try.prog 23 [aD (encWd w), aD (encSp s)] [aD (encWd ⟨w.lanes.set j (packetL l s.kind s.n s.m s.back).1, w.ticks⟩), vI (packetL l s.kind s.n s.m s.back).2] := by
  refine told_r6_Do rfl ?_
  have h1 := packet_told hS l hg s.kind s.n s.m h s.back
  generalize packetL l s.kind s.n s.m s.back = R at *
  obtain ⟨l', e⟩ := R
  obtain ⟨kind, tenant, n, m, back, msg⟩ := s
  simp only at h hj h1 ⊢
  subst hj
  have hlt : j < w.lanes.length := (List.getElem?_eq_some_iff.1 hl).1
  have g1 : ¬ (j : Int) < 0 := by omega
  have g2 : ¬ (w.lanes.length : Int) ≤ (j : Int) := by omega
  have g3 : (0 : Int) ≤ (j : Int) := by omega
  have g4 : (j : Int) < (w.lanes.length : Int) := by omega
  have g5 := at_ll hl
  have b1 : w.lanes.length * 248 ≤ 140737488355328 := by omega
  have k1 : ¬ kind < 1 := by omega
  have k2 : ¬ 6 < kind := by omega
  have k3 : (kind == 1) = false := by rw [beq_eq_false_iff_ne]; omega
  have k4 : (kind == 2) = false := by rw [beq_eq_false_iff_ne]; omega
  obtain ⟨lanes, ticks⟩ := w
  simp only at *
  have b0 : 0 < lanes.length := by omega
  simp only [encWd, encSp, set_ll, encLn] at h1 g5 ⊢
  refine wk (an11 @g1 @g2 @g3 @g4 @g5 @k1 @k2 @k3 @k4 @len_ll @Int.toNat_natCast) ?_
  refine cg [[aD (encLn l'), vI e]] (an12 @encLn.eq_1 @g1 @g2 @g3 @g4 @g5 @k1 @k2 @k3 @k4 @len_ll @Int.toNat_natCast) ?_ ?_
  · exact obl_cons h1 obl_nil
  refine wk (an10 @g1 @g2 @g3 @g4 @g5 @b0 @b1 @len_ll @Int.toNat_natCast @zset) ?_
  exact ValsLe.refl _
set_option maxHeartbeats 8000000 in
theorem do_tick (w : Wd) (s : Sp) (h : s.kind = 1) (j : Nat) (hj : w.ticks.tmod w.lanes.length = j) (l : Ln) (hl : w.lanes[j]? = some l) (hg : GoodL l) (hn : w.lanes.length ≤ 3) (ht : 0 ≤ w.ticks ∧ w.ticks ≤ 1000000) : Told Try.prog 23 [aD (encWd w), aD (encSp s)] [aD (encWd ⟨w.lanes.set j (speakL l), w.ticks + 1⟩), vI 0] := by
  refine told_r6_Do rfl ?_
  have h1 := refSpeak_told l hg.s hg.r
  generalize speakL l = l' at *
  obtain ⟨kind, tenant, n, m, back, msg⟩ := s
  simp only at h ⊢
  subst h
  have hlt : j < w.lanes.length := (List.getElem?_eq_some_iff.1 hl).1
  have g1 : ¬ (j : Int) < 0 := by omega
  have g2 : ¬ (w.lanes.length : Int) ≤ (j : Int) := by omega
  have g3 : (0 : Int) ≤ (j : Int) := by omega
  have g4 : (j : Int) < (w.lanes.length : Int) := by omega
  have g5 := at_ll hl
  have b1 : w.lanes.length * 248 ≤ 140737488355328 := by omega
  have g6 : inR .i64 (w.ticks + 1) = true := inR_of (by omega)
  obtain ⟨lanes, ticks⟩ := w
  simp only at *
  have b0 : 0 < lanes.length := by omega
  have g7 : ((lanes.length : Int) == 0) = false := by rw [beq_eq_false_iff_ne]; omega
  have g8 : ¬ (lanes.length : Int) = 0 := by omega
  have g9 : inR .i64 (j : Int) = true := inR_of (by omega)
  simp only [encWd, encSp, set_ll, encLn] at h1 g5 ⊢
  refine wk (an12 @hj @g1 @g2 @g3 @g4 @g5 @g6 @g7 @g8 @g9 @len_ll @Int.toNat_natCast) ?_
  refine cg [[aD (encLn l')]] (an10 @encLn.eq_1 @hj @g1 @g2 @g3 @g4 @g5 @g6 @len_ll @Int.toNat_natCast) ?_ ?_
  · exact obl_cons h1 obl_nil
  refine wk (an10 @g1 @g2 @g3 @g4 @g5 @b0 @b1 @len_ll @Int.toNat_natCast @zset) ?_
  exact ValsLe.refl _
theorem do_told (hS : CSpoilR 34) (w : Wd) (hw : GoodW w) (ht : w.ticks ≤ 1000000) (s : Sp) : Told Try.prog 23 [aD (encWd w), aD (encSp s)] [aD (encWd (doW w s).1), vI (doW w s).2] := by
  unfold doW
  by_cases hk : s.kind < 1 ∨ 6 < s.kind
  · rw [if_pos hk]; exact do_kind w s hk
  rw [if_neg hk]
  have hn := hw.n
  have ht0 := hw.t
  by_cases h1 : s.kind = 1
  · have hwho : whoW w s = w.ticks.tmod w.lanes.length := by unfold whoW; rw [if_pos h1]
    have htk : ticksW w s = w.ticks + 1 := by unfold ticksW; rw [if_pos h1]
    rw [hwho, htk]
    have q0 : 0 ≤ w.ticks.tmod w.lanes.length := Int.tmod_nonneg _ ht0
    have q1 : w.ticks.tmod w.lanes.length < w.lanes.length := by
      have := Int.tmod_lt_of_pos w.ticks (b := (w.lanes.length : Int)) (by omega)
      omega
    obtain ⟨j, hj⟩ : ∃ j : Nat, w.ticks.tmod w.lanes.length = j := ⟨(w.ticks.tmod w.lanes.length).toNat, by omega⟩
    rw [hj] at q0 q1 ⊢
    rw [if_neg (by omega)]
    obtain ⟨l, hl⟩ : ∃ l, w.lanes[j]? = some l := ⟨_, List.getElem?_eq_getElem (by omega)⟩
    have e0 : w.lanes.getD j zeroL = l := by rw [List.getD_eq_getElem?_getD, hl]; rfl
    have := do_tick w s h1 j hj l hl (hw.l l (List.mem_of_getElem? hl)) hn.2 ⟨ht0, ht⟩
    simpa only [Int.toNat_natCast, e0, laneW, h1, if_true] using this
  · have hwho : whoW w s = s.tenant := by unfold whoW; rw [if_neg h1]
    have htk : ticksW w s = w.ticks := by unfold ticksW; rw [if_neg h1]
    rw [hwho, htk]
    by_cases hr : s.tenant < 0 ∨ (w.lanes.length : Int) ≤ s.tenant
    · rw [if_pos hr]
      exact do_none w s (by omega) hr
    rw [if_neg hr]
    obtain ⟨j, hj⟩ : ∃ j : Nat, s.tenant = j := ⟨s.tenant.toNat, by omega⟩
    rw [hj]
    obtain ⟨l, hl⟩ : ∃ l, w.lanes[j]? = some l := ⟨_, List.getElem?_eq_getElem (by omega)⟩
    have e0 : w.lanes.getD j zeroL = l := by rw [List.getD_eq_getElem?_getD, hl]; rfl
    have hg := hw.l l (List.mem_of_getElem? hl)
    by_cases h2 : s.kind = 2
    · have := do_put w s h2 j hj l hl hg hn.2
      have hL : laneW l s = ({ l with s := putS l.s s.msg }, putE l.s s.msg) := by unfold laneW; rw [if_neg h1, if_pos h2]
      rw [Int.toNat_natCast, e0, hL]
      exact this
    · have := do_packet hS w s (by omega) j hj l hl hg hn.2
      have hL : laneW l s = packetL l s.kind s.n s.m s.back := by unfold laneW; rw [if_neg h1, if_neg h2]
      rw [Int.toNat_natCast, e0, hL]
      exact this
set_option maxHeartbeats 4000000 in
theorem new_told (n : Nat) (h : 1 ≤ n ∧ n ≤ 3) : Told Try.prog 22 [vI n] [aD (encWd (newW n)), vI 0] := by
  refine told_r6_NewQ rfl ?_
  have h3 : n = 1 ∨ n = 2 ∨ n = 3 := by omega
  rcases h3 with rfl | rfl | rfl
  · simp only [newW, encWd, encLl, List.replicate, List.map_cons, List.map_nil, encLn, zeroL, zeroS, zeroR, encMl, encCl, encPk]
    refine wk (an4 @Int.toNat_natCast @zrs @zr0 @zcons) ?_
    repeat' (first | exact vals_nil | exact row_nil | exact es_nil | exact CVLe.refl _ | exact LfLe.refl _ | exact LfLe.nil _ | exact EsLe.refl _ | refine vals_cons ?_ ?_ | refine row_cons ?_ ?_ | refine es_cons ?_ ?_ | refine EsLe.app ?_ ?_ | refine CVLe.row ?_ | refine CVLe.leafV ?_ | refine CVLe.leafS ?_ | refine LfLe.s ?_)
  · simp only [newW, encWd, encLl, List.replicate, List.map_cons, List.map_nil, encLn, zeroL, zeroS, zeroR, encMl, encCl, encPk]
    refine wk (an4 @Int.toNat_natCast @zrs @zr0 @zcons) ?_
    repeat' (first | exact vals_nil | exact row_nil | exact es_nil | exact CVLe.refl _ | exact LfLe.refl _ | exact LfLe.nil _ | exact EsLe.refl _ | refine vals_cons ?_ ?_ | refine row_cons ?_ ?_ | refine es_cons ?_ ?_ | refine EsLe.app ?_ ?_ | refine CVLe.row ?_ | refine CVLe.leafV ?_ | refine CVLe.leafS ?_ | refine LfLe.s ?_)
  · simp only [newW, encWd, encLl, List.replicate, List.map_cons, List.map_nil, encLn, zeroL, zeroS, zeroR, encMl, encCl, encPk]
    refine wk (an4 @Int.toNat_natCast @zrs @zr0 @zcons) ?_
    repeat' (first | exact vals_nil | exact row_nil | exact es_nil | exact CVLe.refl _ | exact LfLe.refl _ | exact LfLe.nil _ | exact EsLe.refl _ | refine vals_cons ?_ ?_ | refine row_cons ?_ ?_ | refine es_cons ?_ ?_ | refine EsLe.app ?_ ?_ | refine CVLe.row ?_ | refine CVLe.leafV ?_ | refine CVLe.leafS ?_ | refine LfLe.s ?_)
end Go.Proofs.Ytngfedhffehkaac.ab
