/-
  Functions as plain code (written by wip/abs/ir.py): lklaw8.alive, lklaw8.SlotTells, lklaw8.SlotSoon, lklaw8.SlotShare.
-/
import Derived.Test.YtdfdeppimimoiabM38
import Derived.Test.YtdfdeppimimoiabProg
namespace Go.Proofs.Ytdfdeppimimoiab.ab
set_option linter.unusedSimpArgs false
set_option linter.unusedVariables false
set_option maxRecDepth 100000
open Go Go.RowKit

def w8_alive_r0 : IC := cReg Try.prog [
    ⟨some 0, none, iMov 0 (.const (.bool false)) true⟩] [] []
def w8_alive_r1 : IC := cReg Try.prog [
    ⟨some 6, none, iCall 6 45 [(.const (.int .i64 7)), (.const (.int .i64 3))]⟩,
    ⟨some 5, none, iMov 5 (.tmp 6) false⟩,
    ⟨some 7, none, iExt 7 (.tmp 5) 0⟩,
    ⟨some 8, none, iExt 8 (.tmp 5) 1⟩,
    ⟨some 1, none, iMov 1 (.tmp 7) true⟩,
    ⟨some 2, none, iMov 2 (.tmp 8) true⟩] [1, 2] []
def w8_alive_r2 : IC := cReg Try.prog [
    ⟨some 10, none, iCall 10 45 [(.const (.int .i64 0)), (.const (.int .i64 0))]⟩,
    ⟨some 9, none, iMov 9 (.tmp 10) false⟩,
    ⟨some 11, none, iExt 11 (.tmp 9) 0⟩,
    ⟨some 12, none, iExt 12 (.tmp 9) 1⟩,
    ⟨some 3, none, iMov 3 (.tmp 11) true⟩,
    ⟨some 4, none, iMov 4 (.tmp 12) true⟩] [1, 2, 4] []
def w8_alive_r3_0 : IC := cReg Try.prog [
    ⟨some 13, none, iMov 13 (.tmp 1) false⟩,
    ⟨some 14, none, iBin 14 .eql (.tmp 13) (.const (.int .i64 1))⟩,
    ⟨some 15, none, iMov 15 (.tmp 14) false⟩,
    ⟨some 16, some (15, true), iMov 16 (.tmp 2) false⟩,
    ⟨some 17, some (15, true), iBin 17 .eql (.tmp 16) (.const (.int .i64 0))⟩,
    ⟨some 18, none, iPick 18 (.tmp 15) (.tmp 17) (.const (.bool false))⟩,
    ⟨some 19, none, iMov 19 (.tmp 18) false⟩,
    ⟨some 20, some (19, true), iMov 20 (.tmp 4) false⟩,
    ⟨some 21, some (19, true), iBin 21 .eql (.tmp 20) (.const (.int .i64 3))⟩,
    ⟨some 22, none, iPick 22 (.tmp 19) (.tmp 21) (.const (.bool false))⟩] [22] []
def w8_alive_r3_1 : IC := cReg Try.prog [
    ⟨some 23, none, iMov 23 (.tmp 22) false⟩,
    ⟨some 24, some (23, true), iCall 24 46 [(.const (.int .i64 0)), (.const (.int .i64 7)), (.const (.int .i64 3)), (.const (.int .i64 0))]⟩,
    ⟨some 25, some (23, true), iLen 25 false (.tmp 24)⟩,
    ⟨some 26, some (23, true), iBin 26 .eql (.tmp 25) (.const (.int .i64 3))⟩,
    ⟨some 27, none, iPick 27 (.tmp 23) (.tmp 26) (.const (.bool false))⟩,
    ⟨some 0, none, iMov 0 (.tmp 27) true⟩] [0] []
def w8_alive_r3 : IC := (cSeq w8_alive_r3_0 w8_alive_r3_1)
def w8_alive : IC := (cSeq w8_alive_r0 (cSeq w8_alive_r1 (cSeq w8_alive_r2 (cSeq w8_alive_r3 cRet))))
theorem told_w8_alive {args r : List D} (hl : args.length = 0) (h : w8_alive (start args) (fin [(0, none)] r)) : Told Try.prog 47 args r :=
  told_of follows Try.func47 rfl (an := [([], [], [], []), ([], [1, 2], [], []), ([], [1, 2, 4], [], []), ([(10, [22], [])], [0], [], [])]) (by kernel_rfl) (by kernel_rfl) (by rw [hl]; decide +kernel) h

def w8_SlotSoon_r0 : IC := cReg Try.prog [
    ⟨some 6, none, iMov 6 (.const (.bool false)) true⟩] [0, 1, 2] []
def w8_SlotSoon_r1 : IC := cReg Try.prog [
    ⟨some 12, none, iCall 12 47 []⟩,
    ⟨some 13, none, iNot 13 (.tmp 12)⟩] [0, 1, 2, 13] []
def w8_SlotSoon_r2 : IC := cReg Try.prog [
    ⟨some 6, none, iMov 6 (.const (.bool false)) true⟩] [6] []
def w8_SlotSoon_c1a : IC := (cSeq w8_SlotSoon_r2 cRet)
def w8_SlotSoon_c1 : IC := cCond (.tmp 13) w8_SlotSoon_c1a cSkip
def w8_SlotSoon_r3_0 : IC := cReg Try.prog [
    ⟨some 14, none, iMov 14 (.tmp 0) false⟩,
    ⟨some 15, none, iBin 15 .lss (.tmp 14) (.const (.int .i64 0))⟩,
    ⟨some 16, none, iMov 16 (.tmp 15) false⟩,
    ⟨some 17, some (16, false), iMov 17 (.tmp 0) false⟩,
    ⟨some 18, some (16, false), iBin 18 .gtr (.tmp 17) (.const (.int .i64 1000000))⟩,
    ⟨some 19, none, iPick 19 (.tmp 16) (.const (.bool true)) (.tmp 18)⟩,
    ⟨some 20, none, iMov 20 (.tmp 19) false⟩,
    ⟨some 21, some (20, false), iMov 21 (.tmp 1) false⟩,
    ⟨some 22, some (20, false), iBin 22 .lss (.tmp 21) (.const (.int .i64 1))⟩,
    ⟨some 23, none, iPick 23 (.tmp 20) (.const (.bool true)) (.tmp 22)⟩] [0, 1, 2, 23] []
def w8_SlotSoon_r3_1 : IC := cReg Try.prog [
    ⟨some 24, none, iMov 24 (.tmp 23) false⟩,
    ⟨some 25, some (24, false), iMov 25 (.tmp 1) false⟩,
    ⟨some 26, some (24, false), iBin 26 .gtr (.tmp 25) (.const (.int .i64 3))⟩,
    ⟨some 27, none, iPick 27 (.tmp 24) (.const (.bool true)) (.tmp 26)⟩,
    ⟨some 28, none, iMov 28 (.tmp 27) false⟩,
    ⟨some 29, some (28, false), iMov 29 (.tmp 2) false⟩,
    ⟨some 30, some (28, false), iBin 30 .lss (.tmp 29) (.const (.int .i64 0))⟩,
    ⟨some 31, none, iPick 31 (.tmp 28) (.const (.bool true)) (.tmp 30)⟩,
    ⟨some 32, none, iMov 32 (.tmp 31) false⟩,
    ⟨some 33, some (32, false), iMov 33 (.tmp 2) false⟩,
    ⟨some 34, some (32, false), iMov 34 (.tmp 1) false⟩,
    ⟨some 35, some (32, false), iBin 35 .geq (.tmp 33) (.tmp 34)⟩,
    ⟨some 36, none, iPick 36 (.tmp 32) (.const (.bool true)) (.tmp 35)⟩] [0, 1, 2, 36] []
def w8_SlotSoon_r3 : IC := (cSeq w8_SlotSoon_r3_0 w8_SlotSoon_r3_1)
def w8_SlotSoon_r4 : IC := cReg Try.prog [
    ⟨some 6, none, iMov 6 (.const (.bool true)) true⟩] [6] []
def w8_SlotSoon_c2a : IC := (cSeq w8_SlotSoon_r4 cRet)
def w8_SlotSoon_c2 : IC := cCond (.tmp 36) w8_SlotSoon_c2a cSkip
def w8_SlotSoon_r5 : IC := cReg Try.prog [
    ⟨some 37, none, iMov 37 (.tmp 1) false⟩,
    ⟨some 38, none, iMov 38 (.const (.int .i64 0)) false⟩] [0, 1, 2, 37, 38] []
def w8_SlotSoon_r6 : IC := cReg Try.prog [
    ⟨some 39, none, iBin 39 .lss (.tmp 38) (.tmp 37)⟩] [0, 1, 2, 37, 38, 39] []
def w8_SlotSoon_c5 : IC := cCond (.tmp 39) cSkip (cExit 0)
def w8_SlotSoon_r7 : IC := cReg Try.prog [
    ⟨some 40, none, iMov 40 (.tmp 38) false⟩,
    ⟨some 7, none, iMov 7 (.tmp 40) true⟩] [0, 1, 2, 7, 37, 38] []
def w8_SlotSoon_r8 : IC := cReg Try.prog [
    ⟨some 42, none, iMov 42 (.tmp 0) false⟩,
    ⟨some 43, none, iMov 43 (.tmp 7) false⟩,
    ⟨some 44, none, iBin 44 .add (.tmp 42) (.tmp 43)⟩,
    ⟨some 45, none, iMov 45 (.tmp 1) false⟩,
    ⟨some 46, none, iCall 46 45 [(.tmp 44), (.tmp 45)]⟩,
    ⟨some 41, none, iMov 41 (.tmp 46) false⟩,
    ⟨some 47, none, iExt 47 (.tmp 41) 0⟩,
    ⟨some 48, none, iExt 48 (.tmp 41) 1⟩,
    ⟨some 8, none, iMov 8 (.tmp 47) true⟩,
    ⟨some 9, none, iMov 9 (.tmp 48) true⟩] [0, 1, 2, 7, 8, 9, 37, 38] []
def w8_SlotSoon_r9 : IC := cReg Try.prog [
    ⟨some 49, none, iMov 49 (.tmp 9) false⟩,
    ⟨some 50, none, iBin 50 .eql (.tmp 49) (.const (.int .i64 0))⟩,
    ⟨some 51, none, iMov 51 (.tmp 50) false⟩,
    ⟨some 52, some (51, true), iMov 52 (.tmp 8) false⟩,
    ⟨some 53, some (51, true), iMov 53 (.tmp 2) false⟩,
    ⟨some 54, some (51, true), iBin 54 .eql (.tmp 52) (.tmp 53)⟩,
    ⟨some 55, none, iPick 55 (.tmp 51) (.tmp 54) (.const (.bool false))⟩] [0, 1, 2, 7, 37, 38, 55] []
def w8_SlotSoon_r10 : IC := cReg Try.prog [
    ⟨some 57, none, iMov 57 (.tmp 0) false⟩,
    ⟨some 58, none, iMov 58 (.tmp 7) false⟩,
    ⟨some 59, none, iBin 59 .add (.tmp 57) (.tmp 58)⟩,
    ⟨some 60, none, iMov 60 (.tmp 1) false⟩,
    ⟨some 61, none, iBin 61 .add (.tmp 59) (.tmp 60)⟩,
    ⟨some 62, none, iMov 62 (.tmp 1) false⟩,
    ⟨some 63, none, iCall 63 45 [(.tmp 61), (.tmp 62)]⟩,
    ⟨some 56, none, iMov 56 (.tmp 63) false⟩,
    ⟨some 64, none, iExt 64 (.tmp 56) 0⟩,
    ⟨some 65, none, iExt 65 (.tmp 56) 1⟩,
    ⟨some 10, none, iMov 10 (.tmp 64) true⟩,
    ⟨some 11, none, iMov 11 (.tmp 65) true⟩] [2, 10, 11] []
def w8_SlotSoon_r11 : IC := cReg Try.prog [
    ⟨some 66, none, iMov 66 (.tmp 11) false⟩,
    ⟨some 67, none, iBin 67 .eql (.tmp 66) (.const (.int .i64 0))⟩,
    ⟨some 68, none, iMov 68 (.tmp 67) false⟩,
    ⟨some 69, some (68, true), iMov 69 (.tmp 10) false⟩,
    ⟨some 70, some (68, true), iMov 70 (.tmp 2) false⟩,
    ⟨some 71, some (68, true), iBin 71 .eql (.tmp 69) (.tmp 70)⟩,
    ⟨some 72, none, iPick 72 (.tmp 68) (.tmp 71) (.const (.bool false))⟩,
    ⟨some 6, none, iMov 6 (.tmp 72) true⟩] [6] []
def w8_SlotSoon_c7a : IC := (cSeq w8_SlotSoon_r10 (cSeq w8_SlotSoon_r11 cRet))
def w8_SlotSoon_c7 : IC := cCond (.tmp 55) w8_SlotSoon_c7a cSkip
def w8_SlotSoon_b6 : IC := cBlock 1 (cSeq w8_SlotSoon_r7 (cSeq w8_SlotSoon_r8 (cSeq w8_SlotSoon_r9 w8_SlotSoon_c7)))
def w8_SlotSoon_r12 : IC := cReg Try.prog [
    ⟨some 73, none, iBin 73 .add (.tmp 38) (.const (.int .i64 1))⟩,
    ⟨some 38, none, iMov 38 (.tmp 73) false⟩] [0, 1, 2, 37, 38] []
def w8_SlotSoon_l4a : IC := (cSeq w8_SlotSoon_r6 (cSeq w8_SlotSoon_c5 (cSeq w8_SlotSoon_b6 w8_SlotSoon_r12)))
def w8_SlotSoon_l4 : IC := cLoop w8_SlotSoon_l4a
def w8_SlotSoon_b3 : IC := cBlock 0 w8_SlotSoon_l4
def w8_SlotSoon_r13 : IC := cReg Try.prog [
    ⟨some 6, none, iMov 6 (.const (.bool false)) true⟩] [6] []
def w8_SlotSoon : IC := (cSeq w8_SlotSoon_r0 (cSeq (cSeq w8_SlotSoon_r1 w8_SlotSoon_c1) (cSeq (cSeq w8_SlotSoon_r3 w8_SlotSoon_c2) (cSeq (cSeq w8_SlotSoon_r5 w8_SlotSoon_b3) (cSeq w8_SlotSoon_r13 cRet)))))
theorem told_w8_SlotSoon {args r : List D} (hl : args.length = 3) (h : w8_SlotSoon (start args) (fin [(6, none)] r)) : Told Try.prog 12 args r :=
  told_of follows Try.func12 rfl (an := [([], [0, 1, 2], [], []), ([], [0, 1, 2, 13], [], []), ([], [6], [], []), ([(10, [0, 1, 2, 23], [])], [0, 1, 2, 36], [], []), ([], [6], [], []), ([], [0, 1, 2, 37, 38], [], []), ([], [0, 1, 2, 37, 38, 39], [], []), ([], [0, 1, 2, 7, 37, 38], [], []), ([], [0, 1, 2, 7, 8, 9, 37, 38], [], []), ([], [0, 1, 2, 7, 37, 38, 55], [], []), ([], [2, 10, 11], [], []), ([], [6], [], []), ([], [0, 1, 2, 37, 38], [], []), ([], [6], [], [])]) (by kernel_rfl) (by kernel_rfl) (by rw [hl]; decide +kernel) h

end Go.Proofs.Ytdfdeppimimoiab.ab
