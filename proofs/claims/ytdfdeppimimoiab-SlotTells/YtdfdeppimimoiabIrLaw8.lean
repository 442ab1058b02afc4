/-
  Functions as plain code (written by wip/abs/ir.py): lklaw8.alive, lklaw8.SlotTells, lklaw8.SlotSoon, lklaw8.SlotShare.
-/
import Derived.Test.YtdfdeppimimoiabM38
import Derived.Test.YtdfdeppimimoiabProg
namespace Go.Proofs.Ytdfdeppimimoiab.ab
set_option linter.unusedSimpArgs false
set_option linter.unusedVariables false
set_option maxRecDepth 100000
open Go Go.RowKit

def w8_SlotTells_r0 : IC := cReg Try.prog [
    ⟨some 8, none, iMov 8 (.const (.bool false)) true⟩] [0, 1, 2, 3] []
def w8_SlotTells_r1 : IC := cReg Try.prog [
    ⟨some 15, none, iMov 15 (.tmp 0) false⟩,
    ⟨some 16, none, iMov 16 (.tmp 2) false⟩,
    ⟨some 17, none, iCall 17 45 [(.tmp 15), (.tmp 16)]⟩,
    ⟨some 14, none, iMov 14 (.tmp 17) false⟩,
    ⟨some 18, none, iExt 18 (.tmp 14) 0⟩,
    ⟨some 19, none, iExt 19 (.tmp 14) 1⟩,
    ⟨some 9, none, iMov 9 (.tmp 18) true⟩,
    ⟨some 10, none, iMov 10 (.tmp 19) true⟩] [0, 1, 2, 3, 9, 10] []
def w8_SlotTells_r2 : IC := cReg Try.prog [
    ⟨some 20, none, iMov 20 (.tmp 0) false⟩,
    ⟨some 21, none, iBin 21 .lss (.tmp 20) (.const (.int .i64 0))⟩,
    ⟨some 22, none, iMov 22 (.tmp 21) false⟩,
    ⟨some 23, some (22, false), iMov 23 (.tmp 2) false⟩,
    ⟨some 24, some (22, false), iBin 24 .lss (.tmp 23) (.const (.int .i64 1))⟩,
    ⟨some 25, none, iPick 25 (.tmp 22) (.const (.bool true)) (.tmp 24)⟩,
    ⟨some 26, none, iMov 26 (.tmp 25) false⟩,
    ⟨some 27, some (26, false), iMov 27 (.tmp 2) false⟩,
    ⟨some 28, some (26, false), iBin 28 .gtr (.tmp 27) (.const (.int .i64 3))⟩,
    ⟨some 29, none, iPick 29 (.tmp 26) (.const (.bool true)) (.tmp 28)⟩] [0, 1, 2, 3, 9, 10, 29] []
def w8_SlotTells_r3 : IC := cReg Try.prog [
    ⟨some 30, none, iMov 30 (.tmp 9) false⟩,
    ⟨some 31, none, iBin 31 .eql (.tmp 30) (.const (.int .i64 0))⟩,
    ⟨some 32, none, iMov 32 (.tmp 31) false⟩,
    ⟨some 33, some (32, true), iMov 33 (.tmp 10) false⟩,
    ⟨some 34, some (32, true), iBin 34 .eql (.tmp 33) (.const (.int .i64 3))⟩,
    ⟨some 35, none, iPick 35 (.tmp 32) (.tmp 34) (.const (.bool false))⟩,
    ⟨some 8, none, iMov 8 (.tmp 35) true⟩] [8] []
def w8_SlotTells_c1a : IC := (cSeq w8_SlotTells_r3 cRet)
def w8_SlotTells_c1 : IC := cCond (.tmp 29) w8_SlotTells_c1a cSkip
def w8_SlotTells_r4 : IC := cReg Try.prog [
    ⟨some 36, none, iMov 36 (.tmp 10) false⟩,
    ⟨some 37, none, iBin 37 .neq (.tmp 36) (.const (.int .i64 0))⟩,
    ⟨some 38, none, iMov 38 (.tmp 37) false⟩,
    ⟨some 39, some (38, false), iMov 39 (.tmp 9) false⟩,
    ⟨some 40, some (38, false), iMov 40 (.tmp 0) false⟩,
    ⟨some 41, some (38, false), iMov 41 (.tmp 0) false⟩,
    ⟨some 42, some (38, false), iMov 42 (.tmp 2) false⟩,
    ⟨some 43, some (38, false), iBin 43 .quo (.tmp 41) (.tmp 42)⟩,
    ⟨some 44, some (38, false), iMov 44 (.tmp 2) false⟩,
    ⟨some 45, some (38, false), iBin 45 .mul (.tmp 43) (.tmp 44)⟩,
    ⟨some 46, some (38, false), iBin 46 .sub (.tmp 40) (.tmp 45)⟩,
    ⟨some 47, some (38, false), iBin 47 .neq (.tmp 39) (.tmp 46)⟩,
    ⟨some 48, none, iPick 48 (.tmp 38) (.const (.bool true)) (.tmp 47)⟩] [0, 1, 2, 3, 48] []
def w8_SlotTells_r5 : IC := cReg Try.prog [
    ⟨some 8, none, iMov 8 (.const (.bool false)) true⟩] [8] []
def w8_SlotTells_c2a : IC := (cSeq w8_SlotTells_r5 cRet)
def w8_SlotTells_c2 : IC := cCond (.tmp 48) w8_SlotTells_c2a cSkip
def w8_SlotTells_r6 : IC := cReg Try.prog [
    ⟨some 49, none, iMov 49 (.tmp 1) false⟩,
    ⟨some 50, none, iBin 50 .lss (.tmp 49) (.const (.int .i64 0))⟩,
    ⟨some 51, none, iMov 51 (.tmp 50) false⟩,
    ⟨some 52, some (51, false), iMov 52 (.tmp 1) false⟩,
    ⟨some 53, some (51, false), iBin 53 .gtr (.tmp 52) (.const (.int .i64 1000))⟩,
    ⟨some 54, none, iPick 54 (.tmp 51) (.const (.bool true)) (.tmp 53)⟩,
    ⟨some 55, none, iMov 55 (.tmp 54) false⟩,
    ⟨some 56, some (55, false), iMov 56 (.tmp 0) false⟩,
    ⟨some 57, some (55, false), iBin 57 .gtr (.tmp 56) (.const (.int .i64 1000000))⟩,
    ⟨some 58, none, iPick 58 (.tmp 55) (.const (.bool true)) (.tmp 57)⟩] [0, 1, 2, 3, 58] []
def w8_SlotTells_r7 : IC := cReg Try.prog [
    ⟨some 8, none, iMov 8 (.const (.bool true)) true⟩] [8] []
def w8_SlotTells_c3a : IC := (cSeq w8_SlotTells_r7 cRet)
def w8_SlotTells_c3 : IC := cCond (.tmp 58) w8_SlotTells_c3a cSkip
def w8_SlotTells_r8 : IC := cReg Try.prog [
    ⟨some 59, none, iMov 59 (.tmp 0) false⟩,
    ⟨some 60, none, iMov 60 (.tmp 1) false⟩,
    ⟨some 61, none, iMov 61 (.tmp 2) false⟩,
    ⟨some 62, none, iMov 62 (.tmp 3) false⟩,
    ⟨some 63, none, iCall 63 46 [(.tmp 59), (.tmp 60), (.tmp 61), (.tmp 62)]⟩,
    ⟨some 11, none, iMov 11 (.tmp 63) true⟩] [0, 1, 2, 3, 11] []
def w8_SlotTells_r9 : IC := cReg Try.prog [
    ⟨some 12, none, iMov 12 (.const (.int .i64 0)) true⟩] [0, 1, 2, 3, 11, 12] []
def w8_SlotTells_r10 : IC := cReg Try.prog [
    ⟨some 64, none, iMov 64 (.tmp 0) false⟩,
    ⟨some 13, none, iMov 13 (.tmp 64) true⟩] [0, 1, 2, 3, 11, 12, 13] []
def w8_SlotTells_r11 : IC := cReg Try.prog [
    ⟨some 65, none, iMov 65 (.tmp 13) false⟩,
    ⟨some 66, none, iMov 66 (.tmp 0) false⟩,
    ⟨some 67, none, iMov 67 (.tmp 1) false⟩,
    ⟨some 68, none, iBin 68 .add (.tmp 66) (.tmp 67)⟩,
    ⟨some 69, none, iBin 69 .lss (.tmp 65) (.tmp 68)⟩] [0, 1, 2, 3, 11, 12, 13, 69] []
def w8_SlotTells_c6 : IC := cCond (.tmp 69) cSkip (cExit 0)
def w8_SlotTells_r13 : IC := cReg Try.prog [
    ⟨some 72, none, iMov 72 (.tmp 13) false⟩,
    ⟨some 73, none, iMov 73 (.tmp 2) false⟩,
    ⟨some 74, none, iBin 74 .rem (.tmp 72) (.tmp 73)⟩,
    ⟨some 75, none, iMov 75 (.tmp 3) false⟩,
    ⟨some 76, none, iBin 76 .neq (.tmp 74) (.tmp 75)⟩] [0, 1, 2, 3, 11, 12, 13, 76] []
def w8_SlotTells_c8 : IC := cCond (.tmp 76) (cExit 1) cSkip
def w8_SlotTells_r14 : IC := cReg Try.prog [
    ⟨some 77, none, iMov 77 (.tmp 12) false⟩,
    ⟨some 78, none, iMov 78 (.tmp 11) false⟩,
    ⟨some 79, none, iLen 79 false (.tmp 78)⟩,
    ⟨some 80, none, iBin 80 .geq (.tmp 77) (.tmp 79)⟩,
    ⟨some 81, none, iMov 81 (.tmp 80) false⟩,
    ⟨some 82, some (81, false), iMov 82 (.tmp 11) false⟩,
    ⟨some 83, some (81, false), iMov 83 (.tmp 12) false⟩,
    ⟨some 84, some (81, false), iIaS 84 1 (.tmp 82) (.tmp 83)⟩,
    ⟨some 85, some (81, false), iLoad 85 1 false (.tmp 84) false⟩,
    ⟨some 86, some (81, false), iMov 86 (.tmp 13) false⟩,
    ⟨some 87, some (81, false), iBin 87 .neq (.tmp 85) (.tmp 86)⟩,
    ⟨some 88, none, iPick 88 (.tmp 81) (.const (.bool true)) (.tmp 87)⟩] [0, 1, 2, 3, 11, 12, 13, 88] []
def w8_SlotTells_r15 : IC := cReg Try.prog [
    ⟨some 8, none, iMov 8 (.const (.bool false)) true⟩] [8] []
def w8_SlotTells_c9a : IC := (cSeq w8_SlotTells_r15 cRet)
def w8_SlotTells_c9 : IC := cCond (.tmp 88) w8_SlotTells_c9a cSkip
def w8_SlotTells_r16 : IC := cReg Try.prog [
    ⟨some 89, none, iMov 89 (.tmp 12) false⟩,
    ⟨some 90, none, iBin 90 .add (.tmp 89) (.const (.int .i64 1))⟩,
    ⟨some 12, none, iMov 12 (.tmp 90) true⟩] [0, 1, 2, 3, 11, 12, 13] []
def w8_SlotTells_b7 : IC := cBlock 1 (cSeq (cSeq w8_SlotTells_r13 w8_SlotTells_c8) (cSeq (cSeq w8_SlotTells_r14 w8_SlotTells_c9) w8_SlotTells_r16))
def w8_SlotTells_r12 : IC := cReg Try.prog [
    ⟨some 70, none, iMov 70 (.tmp 13) false⟩,
    ⟨some 71, none, iBin 71 .add (.tmp 70) (.const (.int .i64 1))⟩,
    ⟨some 13, none, iMov 13 (.tmp 71) true⟩] [0, 1, 2, 3, 11, 12, 13] []
def w8_SlotTells_l5a : IC := (cSeq (cSeq w8_SlotTells_r11 w8_SlotTells_c6) (cSeq w8_SlotTells_b7 w8_SlotTells_r12))
def w8_SlotTells_l5 : IC := cLoop w8_SlotTells_l5a
def w8_SlotTells_b4 : IC := cBlock 0 w8_SlotTells_l5
def w8_SlotTells_r17 : IC := cReg Try.prog [
    ⟨some 91, none, iMov 91 (.tmp 12) false⟩,
    ⟨some 92, none, iMov 92 (.tmp 11) false⟩,
    ⟨some 93, none, iLen 93 false (.tmp 92)⟩,
    ⟨some 94, none, iBin 94 .eql (.tmp 91) (.tmp 93)⟩,
    ⟨some 8, none, iMov 8 (.tmp 94) true⟩] [8] []
def w8_SlotTells : IC := (cSeq w8_SlotTells_r0 (cSeq w8_SlotTells_r1 (cSeq (cSeq w8_SlotTells_r2 w8_SlotTells_c1) (cSeq (cSeq w8_SlotTells_r4 w8_SlotTells_c2) (cSeq (cSeq w8_SlotTells_r6 w8_SlotTells_c3) (cSeq w8_SlotTells_r8 (cSeq w8_SlotTells_r9 (cSeq (cSeq w8_SlotTells_r10 w8_SlotTells_b4) (cSeq w8_SlotTells_r17 cRet)))))))))
theorem told_w8_SlotTells {args r : List D} (hl : args.length = 4) (h : w8_SlotTells (start args) (fin [(8, none)] r)) : Told Try.prog 11 args r :=
  told_of follows Try.func11 rfl (an := [([], [0, 1, 2, 3], [], []), ([], [0, 1, 2, 3, 9, 10], [], []), ([], [0, 1, 2, 3, 9, 10, 29], [], []), ([], [8], [], []), ([], [0, 1, 2, 3, 48], [], []), ([], [8], [], []), ([], [0, 1, 2, 3, 58], [], []), ([], [8], [], []), ([], [0, 1, 2, 3, 11], [], []), ([], [0, 1, 2, 3, 11, 12], [], []), ([], [0, 1, 2, 3, 11, 12, 13], [], []), ([], [0, 1, 2, 3, 11, 12, 13, 69], [], []), ([], [0, 1, 2, 3, 11, 12, 13, 76], [], []), ([], [0, 1, 2, 3, 11, 12, 13, 88], [], []), ([], [8], [], []), ([], [0, 1, 2, 3, 11, 12, 13], [], []), ([], [0, 1, 2, 3, 11, 12, 13], [], []), ([], [8], [], [])]) (by kernel_rfl) (by kernel_rfl) (by rw [hl]; decide +kernel) h

end Go.Proofs.Ytdfdeppimimoiab.ab
