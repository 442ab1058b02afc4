/-
  Functions as plain code (written by wip/abs/ir.py): lklaw8.alive, lklaw8.SlotTells, lklaw8.SlotSoon, lklaw8.SlotShare.
-/
import Derived.Test.YtdfdeppimimoiabM38
import Derived.Test.YtdfdeppimimoiabProg
namespace Go.Proofs.Ytdfdeppimimoiab.ab
set_option linter.unusedSimpArgs false
set_option linter.unusedVariables false
set_option maxRecDepth 100000
open Go Go.RowKit

def w8_alive_r0 : IC := cReg Try.prog [
    ⟨some 0, none, iMov 0 (.const (.bool false)) true⟩] [] []
def w8_alive_r1 : IC := cReg Try.prog [
    ⟨some 6, none, iCall 6 45 [(.const (.int .i64 7)), (.const (.int .i64 3))]⟩,
    ⟨some 5, none, iMov 5 (.tmp 6) false⟩,
    ⟨some 7, none, iExt 7 (.tmp 5) 0⟩,
    ⟨some 8, none, iExt 8 (.tmp 5) 1⟩,
    ⟨some 1, none, iMov 1 (.tmp 7) true⟩,
    ⟨some 2, none, iMov 2 (.tmp 8) true⟩] [1, 2] []
def w8_alive_r2 : IC := cReg Try.prog [
    ⟨some 10, none, iCall 10 45 [(.const (.int .i64 0)), (.const (.int .i64 0))]⟩,
    ⟨some 9, none, iMov 9 (.tmp 10) false⟩,
    ⟨some 11, none, iExt 11 (.tmp 9) 0⟩,
    ⟨some 12, none, iExt 12 (.tmp 9) 1⟩,
    ⟨some 3, none, iMov 3 (.tmp 11) true⟩,
    ⟨some 4, none, iMov 4 (.tmp 12) true⟩] [1, 2, 4] []
def w8_alive_r3_0 : IC := cReg Try.prog [
    ⟨some 13, none, iMov 13 (.tmp 1) false⟩,
    ⟨some 14, none, iBin 14 .eql (.tmp 13) (.const (.int .i64 1))⟩,
    ⟨some 15, none, iMov 15 (.tmp 14) false⟩,
    ⟨some 16, some (15, true), iMov 16 (.tmp 2) false⟩,
    ⟨some 17, some (15, true), iBin 17 .eql (.tmp 16) (.const (.int .i64 0))⟩,
    ⟨some 18, none, iPick 18 (.tmp 15) (.tmp 17) (.const (.bool false))⟩,
    ⟨some 19, none, iMov 19 (.tmp 18) false⟩,
    ⟨some 20, some (19, true), iMov 20 (.tmp 4) false⟩,
    ⟨some 21, some (19, true), iBin 21 .eql (.tmp 20) (.const (.int .i64 3))⟩,
    ⟨some 22, none, iPick 22 (.tmp 19) (.tmp 21) (.const (.bool false))⟩] [22] []
def w8_alive_r3_1 : IC := cReg Try.prog [
    ⟨some 23, none, iMov 23 (.tmp 22) false⟩,
    ⟨some 24, some (23, true), iCall 24 46 [(.const (.int .i64 0)), (.const (.int .i64 7)), (.const (.int .i64 3)), (.const (.int .i64 0))]⟩,
    ⟨some 25, some (23, true), iLen 25 false (.tmp 24)⟩,
    ⟨some 26, some (23, true), iBin 26 .eql (.tmp 25) (.const (.int .i64 3))⟩,
    ⟨some 27, none, iPick 27 (.tmp 23) (.tmp 26) (.const (.bool false))⟩,
    ⟨some 0, none, iMov 0 (.tmp 27) true⟩] [0] []
def w8_alive_r3 : IC := (cSeq w8_alive_r3_0 w8_alive_r3_1)
def w8_alive : IC := (cSeq w8_alive_r0 (cSeq w8_alive_r1 (cSeq w8_alive_r2 (cSeq w8_alive_r3 cRet))))
theorem told_w8_alive {args r : List D} (hl : args.length = 0) (h : w8_alive (start args) (fin [(0, none)] r)) : Told Try.prog 47 args r :=
  told_of follows Try.func47 rfl (an := [([], [], [], []), ([], [1, 2], [], []), ([], [1, 2, 4], [], []), ([(10, [22], [])], [0], [], [])]) (by kernel_rfl) (by kernel_rfl) (by rw [hl]; decide +kernel) h

def w8_SlotShare_r0 : IC := cReg Try.prog [
    ⟨some 6, none, iMov 6 (.const (.bool false)) true⟩] [0, 1, 2] []
def w8_SlotShare_r1 : IC := cReg Try.prog [
    ⟨some 11, none, iCall 11 47 []⟩,
    ⟨some 12, none, iNot 12 (.tmp 11)⟩] [0, 1, 2, 12] []
def w8_SlotShare_r2 : IC := cReg Try.prog [
    ⟨some 6, none, iMov 6 (.const (.bool false)) true⟩] [6] []
def w8_SlotShare_c1a : IC := (cSeq w8_SlotShare_r2 cRet)
def w8_SlotShare_c1 : IC := cCond (.tmp 12) w8_SlotShare_c1a cSkip
def w8_SlotShare_r3_0 : IC := cReg Try.prog [
    ⟨some 13, none, iMov 13 (.tmp 0) false⟩,
    ⟨some 14, none, iBin 14 .lss (.tmp 13) (.const (.int .i64 0))⟩,
    ⟨some 15, none, iMov 15 (.tmp 14) false⟩,
    ⟨some 16, some (15, false), iMov 16 (.tmp 0) false⟩,
    ⟨some 17, some (15, false), iBin 17 .gtr (.tmp 16) (.const (.int .i64 1000000))⟩,
    ⟨some 18, none, iPick 18 (.tmp 15) (.const (.bool true)) (.tmp 17)⟩,
    ⟨some 19, none, iMov 19 (.tmp 18) false⟩,
    ⟨some 20, some (19, false), iMov 20 (.tmp 1) false⟩,
    ⟨some 21, some (19, false), iBin 21 .lss (.tmp 20) (.const (.int .i64 0))⟩,
    ⟨some 22, none, iPick 22 (.tmp 19) (.const (.bool true)) (.tmp 21)⟩] [0, 1, 2, 22] []
def w8_SlotShare_r3_1 : IC := cReg Try.prog [
    ⟨some 23, none, iMov 23 (.tmp 22) false⟩,
    ⟨some 24, some (23, false), iMov 24 (.tmp 1) false⟩,
    ⟨some 25, some (23, false), iBin 25 .gtr (.tmp 24) (.const (.int .i64 1000))⟩,
    ⟨some 26, none, iPick 26 (.tmp 23) (.const (.bool true)) (.tmp 25)⟩,
    ⟨some 27, none, iMov 27 (.tmp 26) false⟩,
    ⟨some 28, some (27, false), iMov 28 (.tmp 2) false⟩,
    ⟨some 29, some (27, false), iBin 29 .lss (.tmp 28) (.const (.int .i64 1))⟩,
    ⟨some 30, none, iPick 30 (.tmp 27) (.const (.bool true)) (.tmp 29)⟩,
    ⟨some 31, none, iMov 31 (.tmp 30) false⟩,
    ⟨some 32, some (31, false), iMov 32 (.tmp 2) false⟩,
    ⟨some 33, some (31, false), iBin 33 .gtr (.tmp 32) (.const (.int .i64 3))⟩,
    ⟨some 34, none, iPick 34 (.tmp 31) (.const (.bool true)) (.tmp 33)⟩] [0, 1, 2, 34] []
def w8_SlotShare_r3 : IC := (cSeq w8_SlotShare_r3_0 w8_SlotShare_r3_1)
def w8_SlotShare_r4 : IC := cReg Try.prog [
    ⟨some 6, none, iMov 6 (.const (.bool true)) true⟩] [6] []
def w8_SlotShare_c2a : IC := (cSeq w8_SlotShare_r4 cRet)
def w8_SlotShare_c2 : IC := cCond (.tmp 34) w8_SlotShare_c2a cSkip
def w8_SlotShare_r5 : IC := cReg Try.prog [
    ⟨some 35, none, iMov 35 (.tmp 1) false⟩,
    ⟨some 7, none, iMov 7 (.tmp 35) true⟩,
    ⟨some 8, none, iMov 8 (.const (.int .i64 0)) true⟩] [0, 1, 2, 7, 8] []
def w8_SlotShare_r6 : IC := cReg Try.prog [
    ⟨some 36, none, iMov 36 (.tmp 2) false⟩,
    ⟨some 37, none, iMov 37 (.const (.int .i64 0)) false⟩] [0, 1, 2, 7, 8, 36, 37] []
def w8_SlotShare_r7 : IC := cReg Try.prog [
    ⟨some 38, none, iBin 38 .lss (.tmp 37) (.tmp 36)⟩] [0, 1, 2, 7, 8, 36, 37, 38] []
def w8_SlotShare_c5 : IC := cCond (.tmp 38) cSkip (cExit 0)
def w8_SlotShare_r8 : IC := cReg Try.prog [
    ⟨some 39, none, iMov 39 (.tmp 37) false⟩,
    ⟨some 9, none, iMov 9 (.tmp 39) true⟩] [0, 1, 2, 7, 8, 9, 36, 37] []
def w8_SlotShare_r9 : IC := cReg Try.prog [
    ⟨some 40, none, iMov 40 (.tmp 0) false⟩,
    ⟨some 41, none, iMov 41 (.tmp 1) false⟩,
    ⟨some 42, none, iMov 42 (.tmp 2) false⟩,
    ⟨some 43, none, iMov 43 (.tmp 9) false⟩,
    ⟨some 44, none, iCall 44 46 [(.tmp 40), (.tmp 41), (.tmp 42), (.tmp 43)]⟩,
    ⟨some 45, none, iLen 45 false (.tmp 44)⟩,
    ⟨some 10, none, iMov 10 (.tmp 45) true⟩] [0, 1, 2, 7, 8, 9, 10, 36, 37] []
def w8_SlotShare_r10 : IC := cReg Try.prog [
    ⟨some 46, none, iMov 46 (.tmp 7) false⟩,
    ⟨some 47, none, iMov 47 (.tmp 10) false⟩,
    ⟨some 48, none, iMm 48 false (.tmp 46) (.tmp 47)⟩,
    ⟨some 49, none, iMov 49 (.tmp 8) false⟩,
    ⟨some 50, none, iMov 50 (.tmp 10) false⟩,
    ⟨some 51, none, iMm 51 true (.tmp 49) (.tmp 50)⟩,
    ⟨some 7, none, iMov 7 (.tmp 48) true⟩,
    ⟨some 8, none, iMov 8 (.tmp 51) true⟩] [0, 1, 2, 7, 8, 9, 36, 37] []
def w8_SlotShare_r11 : IC := cReg Try.prog [
    ⟨some 52, none, iMov 52 (.tmp 0) false⟩,
    ⟨some 53, none, iMov 53 (.tmp 2) false⟩,
    ⟨some 54, none, iMov 54 (.tmp 2) false⟩,
    ⟨some 55, none, iMov 55 (.tmp 9) false⟩,
    ⟨some 56, none, iCall 56 46 [(.tmp 52), (.tmp 53), (.tmp 54), (.tmp 55)]⟩,
    ⟨some 57, none, iLen 57 false (.tmp 56)⟩,
    ⟨some 58, none, iBin 58 .neq (.tmp 57) (.const (.int .i64 1))⟩] [0, 1, 2, 7, 8, 36, 37, 58] []
def w8_SlotShare_r12 : IC := cReg Try.prog [
    ⟨some 6, none, iMov 6 (.const (.bool false)) true⟩] [6] []
def w8_SlotShare_c7a : IC := (cSeq w8_SlotShare_r12 cRet)
def w8_SlotShare_c7 : IC := cCond (.tmp 58) w8_SlotShare_c7a cSkip
def w8_SlotShare_b6 : IC := cBlock 1 (cSeq w8_SlotShare_r8 (cSeq w8_SlotShare_r9 (cSeq w8_SlotShare_r10 (cSeq w8_SlotShare_r11 w8_SlotShare_c7))))
def w8_SlotShare_r13 : IC := cReg Try.prog [
    ⟨some 59, none, iBin 59 .add (.tmp 37) (.const (.int .i64 1))⟩,
    ⟨some 37, none, iMov 37 (.tmp 59) false⟩] [0, 1, 2, 7, 8, 36, 37] []
def w8_SlotShare_l4a : IC := (cSeq w8_SlotShare_r7 (cSeq w8_SlotShare_c5 (cSeq w8_SlotShare_b6 w8_SlotShare_r13)))
def w8_SlotShare_l4 : IC := cLoop w8_SlotShare_l4a
def w8_SlotShare_b3 : IC := cBlock 0 w8_SlotShare_l4
def w8_SlotShare_r14 : IC := cReg Try.prog [
    ⟨some 60, none, iMov 60 (.tmp 8) false⟩,
    ⟨some 61, none, iMov 61 (.tmp 7) false⟩,
    ⟨some 62, none, iBin 62 .sub (.tmp 60) (.tmp 61)⟩,
    ⟨some 63, none, iBin 63 .leq (.tmp 62) (.const (.int .i64 1))⟩,
    ⟨some 6, none, iMov 6 (.tmp 63) true⟩] [6] []
def w8_SlotShare : IC := (cSeq w8_SlotShare_r0 (cSeq (cSeq w8_SlotShare_r1 w8_SlotShare_c1) (cSeq (cSeq w8_SlotShare_r3 w8_SlotShare_c2) (cSeq w8_SlotShare_r5 (cSeq (cSeq w8_SlotShare_r6 w8_SlotShare_b3) (cSeq w8_SlotShare_r14 cRet))))))
theorem told_w8_SlotShare {args r : List D} (hl : args.length = 3) (h : w8_SlotShare (start args) (fin [(6, none)] r)) : Told Try.prog 13 args r :=
  told_of follows Try.func13 rfl (an := [([], [0, 1, 2], [], []), ([], [0, 1, 2, 12], [], []), ([], [6], [], []), ([(10, [0, 1, 2, 22], [])], [0, 1, 2, 34], [], []), ([], [6], [], []), ([], [0, 1, 2, 7, 8], [], []), ([], [0, 1, 2, 7, 8, 36, 37], [], []), ([], [0, 1, 2, 7, 8, 36, 37, 38], [], []), ([], [0, 1, 2, 7, 8, 9, 36, 37], [], []), ([], [0, 1, 2, 7, 8, 9, 10, 36, 37], [], []), ([], [0, 1, 2, 7, 8, 9, 36, 37], [], []), ([], [0, 1, 2, 7, 8, 36, 37, 58], [], []), ([], [6], [], []), ([], [0, 1, 2, 7, 8, 36, 37], [], []), ([], [6], [], [])]) (by kernel_rfl) (by kernel_rfl) (by rw [hl]; decide +kernel) h

end Go.Proofs.Ytdfdeppimimoiab.ab
