/-
  Several texts in one.
-/
import Derived.Test.YtnncmddmjpocfabM31
import Derived.Test.YtnncmddmjpocfabARef2
import Derived.Test.YtnncmddmjpocfabM21
import Derived.Test.YtnncmddmjpocfabProg

/-
  What the answer's RecvSay and SameReceiver tell.
-/
namespace Go.Proofs.Ytnncmddmjpocfab.ab
set_option linter.unusedVariables false
set_option linter.unusedSimpArgs false
open Go Go.RowKit
open mth

end Go.Proofs.Ytnncmddmjpocfab.ab

/-
  Functions as plain code (written by wip/abs/ir.py): lklaw6.build, lklaw6.alive.
-/
namespace Go.Proofs.Ytnncmddmjpocfab.ab
set_option linter.unusedSimpArgs false
set_option linter.unusedVariables false
set_option maxRecDepth 100000
open Go Go.RowKit

def w6_alive_r0 : IC := cReg Try.prog [
    ⟨some 0, none, iMov 0 (.const (.bool false)) true⟩] [] []
def w6_alive_r1 : IC := cReg Try.prog [
    ⟨some 8, none, iRow 8 5 1 [(.const (.int .u8 98))]⟩,
    ⟨some 9, none, iCst 9 8⟩,
    ⟨some 10, none, iBld 10 [vD (.int .i64 0), vD (.int .i64 0), vD (.int .i64 0), vD (.int .i64 0), vD (.slice none 0 0), vD (.slice none 0 0)] [(0, 1), (1, 1), (2, 1), (3, 1), (4, 1)] [(.const (.int .i64 1)), (.const (.int .i64 1)), (.const (.int .i64 1)), (.const (.int .i64 1)), (.tmp 9)]⟩,
    ⟨some 1, none, iAlo 1 [vD (.int .i64 0), vD (.int .i64 0), vD (.int .i64 0), vD (.int .i64 0), vD (.slice none 0 0), vD (.slice none 0 0)]⟩,
    ⟨none, none, iStor 6 (.tmp 1) (.tmp 10)⟩] [1] [1]
def w6_alive_r2 : IC := cReg Try.prog [
    ⟨some 11, none, iRow 11 5 1 [(.const (.int .u8 97))]⟩,
    ⟨some 12, none, iCst 12 11⟩,
    ⟨some 13, none, iBld 13 [vD (.int .i64 0), vD (.int .i64 0), vD (.int .i64 0), vD (.int .i64 0), vD (.slice none 0 0), vD (.slice none 0 0)] [(0, 1), (2, 1), (4, 1)] [(.const (.int .i64 1)), (.const (.int .i64 1)), (.tmp 12)]⟩,
    ⟨some 2, none, iAlo 2 [vD (.int .i64 0), vD (.int .i64 0), vD (.int .i64 0), vD (.int .i64 0), vD (.slice none 0 0), vD (.slice none 0 0)]⟩,
    ⟨none, none, iStor 6 (.tmp 2) (.tmp 13)⟩] [1, 2] [1, 2]
def w6_alive_r3 : IC := cReg Try.prog [
    ⟨some 14, none, iBld 14 [vD (.int .i64 0), vD (.slice none 0 0), vD (.int .i64 0), vD (.int .i64 0), vD (.int .i64 0), vD (.slice none 0 0), vD (.slice none 0 0), vD (.bool false)] [] []⟩,
    ⟨some 15, none, iLoad 15 6 true (.tmp 1) false⟩,
    ⟨some 16, none, iCall 16 22 [(.tmp 14), (.tmp 15)]⟩,
    ⟨some 3, none, iAlo 3 [vD (.int .i64 0), vD (.slice none 0 0), vD (.int .i64 0), vD (.int .i64 0), vD (.int .i64 0), vD (.slice none 0 0), vD (.slice none 0 0), vD (.bool false)]⟩,
    ⟨none, none, iStor 8 (.tmp 3) (.tmp 16)⟩] [2, 3] [2, 3]
def w6_alive_r4 : IC := cReg Try.prog [
    ⟨some 17, none, iLoad 17 8 true (.tmp 3) false⟩,
    ⟨some 18, none, iLoad 18 6 true (.tmp 2) false⟩,
    ⟨some 19, none, iCall 19 22 [(.tmp 17), (.tmp 18)]⟩,
    ⟨some 4, none, iAlo 4 [vD (.int .i64 0), vD (.slice none 0 0), vD (.int .i64 0), vD (.int .i64 0), vD (.int .i64 0), vD (.slice none 0 0), vD (.slice none 0 0), vD (.bool false)]⟩,
    ⟨none, none, iStor 8 (.tmp 4) (.tmp 19)⟩] [3, 4] [3, 4]
def w6_alive_r5 : IC := cReg Try.prog [
    ⟨some 21, none, iLoad 21 8 true (.tmp 4) false⟩,
    ⟨some 22, none, iCall 22 18 [(.tmp 21)]⟩,
    ⟨some 20, none, iMov 20 (.tmp 22) false⟩,
    ⟨some 23, none, iExt 23 (.tmp 20) 0⟩,
    ⟨some 24, none, iExt 24 (.tmp 20) 1⟩,
    ⟨some 25, none, iExt 25 (.tmp 20) 2⟩,
    ⟨some 5, none, iAlo 5 [vD (.int .i64 0), vD (.slice none 0 0), vD (.int .i64 0), vD (.int .i64 0), vD (.int .i64 0), vD (.slice none 0 0), vD (.slice none 0 0), vD (.bool false)]⟩,
    ⟨some 6, none, iAlo 6 [vD (.int .i64 0), vD (.int .i64 0), vD (.int .i64 0), vD (.int .i64 0), vD (.slice none 0 0), vD (.slice none 0 0)]⟩,
    ⟨none, none, iStor 8 (.tmp 5) (.tmp 23)⟩,
    ⟨none, none, iStor 6 (.tmp 6) (.tmp 24)⟩,
    ⟨some 7, none, iMov 7 (.tmp 25) true⟩] [3, 4, 5, 6, 7] [3, 4, 5, 6]
def w6_alive_r6_0 : IC := cReg Try.prog [
    ⟨some 26, none, iFad 26 6 (.tmp 3)⟩,
    ⟨some 27, none, iLoad 27 1 false (.tmp 26) false⟩,
    ⟨some 28, none, iLen 28 false (.tmp 27)⟩,
    ⟨some 29, none, iBin 29 .eql (.tmp 28) (.const (.int .i64 0))⟩,
    ⟨some 30, none, iMov 30 (.tmp 29) false⟩,
    ⟨some 31, some (30, true), iFad 31 1 (.tmp 3)⟩,
    ⟨some 32, some (30, true), iLoad 32 1 false (.tmp 31) false⟩,
    ⟨some 33, some (30, true), iLen 33 false (.tmp 32)⟩,
    ⟨some 34, some (30, true), iBin 34 .eql (.tmp 33) (.const (.int .i64 1))⟩,
    ⟨some 35, none, iPick 35 (.tmp 30) (.tmp 34) (.const (.bool false))⟩] [4, 5, 6, 7, 35] [4, 5, 6]
def w6_alive_r6_1 : IC := cReg Try.prog [
    ⟨some 36, none, iMov 36 (.tmp 35) false⟩,
    ⟨some 37, some (36, true), iFad 37 6 (.tmp 4)⟩,
    ⟨some 38, some (36, true), iLoad 38 1 false (.tmp 37) false⟩,
    ⟨some 39, some (36, true), iLen 39 false (.tmp 38)⟩,
    ⟨some 40, some (36, true), iBin 40 .eql (.tmp 39) (.const (.int .i64 2))⟩,
    ⟨some 41, none, iPick 41 (.tmp 36) (.tmp 40) (.const (.bool false))⟩,
    ⟨some 42, none, iMov 42 (.tmp 41) false⟩,
    ⟨some 43, some (42, true), iFad 43 0 (.tmp 4)⟩,
    ⟨some 44, some (42, true), iLoad 44 1 false (.tmp 43) false⟩,
    ⟨some 45, some (42, true), iBin 45 .eql (.tmp 44) (.const (.int .i64 2))⟩] [4, 5, 6, 7, 42, 45] [4, 5, 6]
def w6_alive_r6_2 : IC := cReg Try.prog [
    ⟨some 46, none, iPick 46 (.tmp 42) (.tmp 45) (.const (.bool false))⟩,
    ⟨some 47, none, iMov 47 (.tmp 46) false⟩,
    ⟨some 48, some (47, true), iMov 48 (.tmp 7) false⟩,
    ⟨some 49, none, iPick 49 (.tmp 47) (.tmp 48) (.const (.bool false))⟩,
    ⟨some 50, none, iMov 50 (.tmp 49) false⟩,
    ⟨some 51, some (50, true), iFad 51 1 (.tmp 6)⟩,
    ⟨some 52, some (50, true), iLoad 52 1 false (.tmp 51) false⟩,
    ⟨some 53, some (50, true), iBin 53 .eql (.tmp 52) (.const (.int .i64 2))⟩,
    ⟨some 54, none, iPick 54 (.tmp 50) (.tmp 53) (.const (.bool false))⟩,
    ⟨some 55, none, iMov 55 (.tmp 54) false⟩] [4, 5, 55] [4, 5]
def w6_alive_r6_3 : IC := cReg Try.prog [
    ⟨some 56, some (55, true), iFad 56 7 (.tmp 5)⟩,
    ⟨some 57, some (55, true), iLoad 57 1 false (.tmp 56) false⟩,
    ⟨some 58, some (55, true), iNot 58 (.tmp 57)⟩,
    ⟨some 59, none, iPick 59 (.tmp 55) (.tmp 58) (.const (.bool false))⟩,
    ⟨some 60, none, iMov 60 (.tmp 59) false⟩,
    ⟨some 61, some (60, true), iLoad 61 8 true (.tmp 4) false⟩,
    ⟨some 62, some (60, true), iCall 62 21 [(.tmp 61)]⟩,
    ⟨some 63, some (60, true), iFld 63 6 1 false (.tmp 62)⟩,
    ⟨some 64, some (60, true), iLen 64 false (.tmp 63)⟩,
    ⟨some 65, some (60, true), iBin 65 .eql (.tmp 64) (.const (.int .i64 2))⟩,
    ⟨some 66, none, iPick 66 (.tmp 60) (.tmp 65) (.const (.bool false))⟩,
    ⟨some 0, none, iMov 0 (.tmp 66) true⟩] [0] []
def w6_alive_r6 : IC := (cSeq w6_alive_r6_0 (cSeq w6_alive_r6_1 (cSeq w6_alive_r6_2 w6_alive_r6_3)))
def w6_alive : IC := (cSeq w6_alive_r0 (cSeq w6_alive_r1 (cSeq w6_alive_r2 (cSeq w6_alive_r3 (cSeq w6_alive_r4 (cSeq w6_alive_r5 (cSeq w6_alive_r6 cRet)))))))
theorem told_w6_alive {args r : List D} (hl : args.length = 0) (h : w6_alive (start args) (fin [(0, none)] r)) : Told Try.prog 24 args r :=
  told_of follows Try.func24 rfl (an := [([], [], [], []), ([], [1], [1], []), ([], [1, 2], [1, 2], []), ([], [2, 3], [2, 3], []), ([], [3, 4], [3, 4], []), ([], [3, 4, 5, 6, 7], [3, 4, 5, 6], []), ([(10, [4, 5, 6, 7, 35], [4, 5, 6]), (10, [4, 5, 6, 7, 42, 45], [4, 5, 6]), (10, [4, 5, 55], [4, 5])], [0], [], [])]) (by kernel_rfl) (by kernel_rfl) (by rw [hl]; decide +kernel) h

end Go.Proofs.Ytnncmddmjpocfab.ab
