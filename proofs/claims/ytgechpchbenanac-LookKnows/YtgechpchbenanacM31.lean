/-
  Several texts in one.
-/
import Derived.Test.YtgechpchbenanacM26
import Derived.Test.YtgechpchbenanacProg

/-
  Functions as plain code (written by wip/abs/ir.py): lkref1.Sum, lkref1.Seal, lkref1.Open, lkref1.Bytes, lkref1.Read$1=r1_ReadNo, lkref1.Read.
-/
namespace Go.Proofs.Ytgechpchbenanac.ab
set_option linter.unusedSimpArgs false
set_option linter.unusedVariables false
set_option maxRecDepth 100000
open Go Go.RowKit

def r1_Sum_r0 : IC := cReg Try.prog [
    ⟨some 2, none, iMov 2 (.const (.int .i64 0)) true⟩] [0] []
def r1_Sum_r1 : IC := cReg Try.prog [
    ⟨some 3, none, iMov 3 (.const (.int .i64 7)) true⟩] [0, 3] []
def r1_Sum_r2 : IC := cReg Try.prog [
    xM 5 0,
    xN 6 5,
    ⟨some 7, none, iMov 7 (.const (.int .i64 0)) false⟩] [0, 3, 6, 7] []
def r1_Sum_r3 : IC := cReg Try.prog [
    xB 8 .lss 7 6] [0, 3, 6, 7, 8] []
def r1_Sum_c3 : IC := cCond (.tmp 8) cSkip (cExit 0)
def r1_Sum_r4 : IC := cReg Try.prog [
    xM 9 7,
    xT 4 9] [0, 3, 4, 6, 7] []
def r1_Sum_r5 : IC := cReg Try.prog [
    xM 10 3,
    ⟨some 11, none, iBin 11 .mul (.const (.int .i64 139)) (.tmp 10)⟩,
    xM 12 0,
    xM 13 4,
    xI 14 1 12 13,
    xL 15 1 14,
    ⟨some 16, none, iCvi 16 .i64 (.tmp 15)⟩,
    xB 17 .add 11 16,
    xC 18 .add 17 1,
    xC 19 .rem 18 65521,
    xT 3 19] [0, 3, 6, 7] []
def r1_Sum_b4 : IC := cBlock 1 (cSeq r1_Sum_r4 r1_Sum_r5)
def r1_Sum_r6 : IC := cReg Try.prog [
    xC 20 .add 7 1,
    xM 7 20] [0, 3, 6, 7] []
def r1_Sum_l2a : IC := (cSeq r1_Sum_r3 (cSeq r1_Sum_c3 (cSeq r1_Sum_b4 r1_Sum_r6)))
def r1_Sum_l2 : IC := cLoop r1_Sum_l2a
def r1_Sum_b1 : IC := cBlock 0 r1_Sum_l2
def r1_Sum_r7 : IC := cReg Try.prog [
    xM 21 3,
    xT 2 21] [2] []
def r1_Sum : IC := (cSeq r1_Sum_r0 (cSeq r1_Sum_r1 (cSeq (cSeq r1_Sum_r2 r1_Sum_b1) (cSeq r1_Sum_r7 cRet))))
theorem told_r1_Sum {args r : List D} (hl : args.length = 1) (h : r1_Sum (start args) (fin [(2, none)] r)) : Told Try.prog 103 args r :=
  told_of follows Try.func103 rfl (an := [([], [0], [], []), ([], [0, 3], [], []), ([], [0, 3, 6, 7], [], []), ([], [0, 3, 6, 7, 8], [], []), ([], [0, 3, 4, 6, 7], [], []), ([], [0, 3, 6, 7], [], []), ([], [0, 3, 6, 7], [], []), ([], [2], [], [])]) (by kernel_rfl) (by kernel_rfl) (by rw [hl]; decide +kernel) h

def r1_Seal_r0 : IC := cReg Try.prog [
    ⟨some 2, none, iMov 2 (.const (.slice none 0 0)) true⟩] [0] []
def r1_Seal_r1 : IC := cReg Try.prog [
    xM 4 0,
    xV1 5 103 4,
    xT 3 5] [0, 3] []
def r1_Seal_r2 : IC := cReg Try.prog [
    ⟨some 6, none, iRow 6 5 1 []⟩,
    xM 7 0,
    xW 8 5 1 1 6 7,
    xM 9 3,
    xC 10 .quo 9 256,
    ⟨some 11, none, iCvi 11 .u8 (.tmp 10)⟩,
    xM 12 3,
    xC 13 .rem 12 256,
    ⟨some 14, none, iCvi 14 .u8 (.tmp 13)⟩,
    ⟨some 15, none, iRow 15 5 1 [(.tmp 11), (.tmp 14)]⟩,
    xW 16 5 1 1 8 15,
    xT 2 16] [2] []
def r1_Seal : IC := (cSeq r1_Seal_r0 (cSeq r1_Seal_r1 (cSeq r1_Seal_r2 cRet)))
theorem told_r1_Seal {args r : List D} (hl : args.length = 1) (h : r1_Seal (start args) (fin [(2, none)] r)) : Told Try.prog 86 args r :=
  told_of follows Try.func86 rfl (an := [([], [0], [], []), ([], [0, 3], [], []), ([], [2], [], [])]) (by kernel_rfl) (by kernel_rfl) (by rw [hl]; decide +kernel) h

def r1_Open_r0 : IC := cReg Try.prog [
    ⟨some 2, none, iMov 2 (.const (.slice none 0 0)) true⟩,
    ⟨some 3, none, iMov 3 (.const (.bool false)) true⟩] [0] []
def r1_Open_r1 : IC := cReg Try.prog [
    xM 5 0,
    xN 6 5,
    xC 7 .lss 6 2] [0, 7] []
def r1_Open_r2 : IC := cReg Try.prog [
    ⟨some 2, none, iMov 2 (.const (.slice none 0 0)) true⟩,
    ⟨some 3, none, iMov 3 (.const (.bool false)) true⟩] [2, 3] []
def r1_Open_c1a : IC := (cSeq r1_Open_r2 cRet)
def r1_Open_c1 : IC := cCond (.tmp 7) r1_Open_c1a cSkip
def r1_Open_r3 : IC := cReg Try.prog [
    xM 8 0,
    xM 9 0,
    xN 10 9,
    xC 11 .sub 10 2,
    ⟨some 12, none, iSlc 12 1 (.tmp 8) none (some (.tmp 11))⟩,
    xT 4 12] [0, 4] []
def r1_Open_r4 : IC := cRegD Try.prog [
    xM 13 4,
    xV1 14 86 13,
    ⟨some 15, none, iStr 15 (.tmp 14)⟩,
    xM 16 0,
    ⟨some 17, none, iStr 17 (.tmp 16)⟩,
    xB 18 .neq 15 17] [[], [0], [1, 0], [], [3], [2, 4, 1, 0, 3]] [4, 18] []
def r1_Open_r5 : IC := cReg Try.prog [
    ⟨some 2, none, iMov 2 (.const (.slice none 0 0)) true⟩,
    ⟨some 3, none, iMov 3 (.const (.bool false)) true⟩] [2, 3] []
def r1_Open_c2a : IC := (cSeq r1_Open_r5 cRet)
def r1_Open_c2 : IC := cCond (.tmp 18) r1_Open_c2a cSkip
def r1_Open_r6 : IC := cReg Try.prog [
    xM 19 4,
    xT 2 19,
    ⟨some 3, none, iMov 3 (.const (.bool true)) true⟩] [2, 3] []
def r1_Open : IC := (cSeq r1_Open_r0 (cSeq (cSeq r1_Open_r1 r1_Open_c1) (cSeq r1_Open_r3 (cSeq (cSeq r1_Open_r4 r1_Open_c2) (cSeq r1_Open_r6 cRet)))))
theorem told_r1_Open {args r : List D} (hl : args.length = 1) (h : r1_Open (start args) (fin [(2, none), (3, none)] r)) : Told Try.prog 88 args r :=
  told_of follows Try.func88 rfl (an := [([], [0], [], []), ([], [0, 7], [], []), ([], [2, 3], [], []), ([], [0, 4], [], []), ([], [4, 18], [], []), ([], [2, 3], [], []), ([], [2, 3], [], [])]) (by kernel_rfl) (by kernel_rfl) (by rw [hl]; decide +kernel) h

def r1_Bytes_r0 : IC := cReg Try.prog [
    xX 1 0,
    ⟨some 2, none, iMov 2 (.const (.slice none 0 0)) true⟩] [1] [1]
def r1_Bytes_r1 : IC := cReg Try.prog [
    xF 6 0 1,
    xL 7 1 6,
    ⟨some 8, none, iCvi 8 .u8 (.tmp 7)⟩,
    xF 9 1 1,
    xL 10 1 9,
    ⟨some 11, none, iCvi 11 .u8 (.tmp 10)⟩,
    ⟨some 12, none, iRow 12 5 1 [(.tmp 8), (.tmp 11)]⟩,
    ⟨some 13, none, iStr 13 (.tmp 12)⟩,
    xT 3 13] [1, 3] [1]
def r1_Bytes_r2 : IC := cReg Try.prog [
    xF 14 0 1,
    xL 15 1 14,
    xC 16 .eql 15 1] [1, 3, 16] [1]
def r1_Bytes_r3_0 : IC := cReg Try.prog [
    xM 17 3,
    xF 18 2 1,
    xL 19 1 18,
    ⟨some 20, none, iCvi 20 .u8 (.tmp 19)⟩,
    xF 21 3 1,
    xL 22 1 21,
    ⟨some 23, none, iCvi 23 .u8 (.tmp 22)⟩,
    ⟨some 24, none, iRow 24 5 1 [(.tmp 20), (.tmp 23)]⟩,
    ⟨some 25, none, iStr 25 (.tmp 24)⟩,
    xB 26 .add 17 25] [1, 26] [1]
def r1_Bytes_r3_1 : IC := cReg Try.prog [
    xF 27 4 1,
    xL 28 1 27,
    ⟨some 29, none, iStr 29 (.tmp 28)⟩,
    xB 30 .add 26 29,
    xT 3 30] [1, 3] [1]
def r1_Bytes_r3 : IC := (cSeq r1_Bytes_r3_0 r1_Bytes_r3_1)
def r1_Bytes_c1 : IC := cCond (.tmp 16) r1_Bytes_r3 cSkip
def r1_Bytes_r4 : IC := cReg Try.prog [
    xF 31 5 1,
    xL 32 1 31,
    xN 33 32,
    ⟨some 34, none, iMov 34 (.const (.int .i64 0)) false⟩] [3, 32, 33, 34] []
def r1_Bytes_r5 : IC := cReg Try.prog [
    xB 35 .lss 34 33] [3, 32, 33, 34, 35] []
def r1_Bytes_c4 : IC := cCond (.tmp 35) cSkip (cExit 0)
def r1_Bytes_r6 : IC := cReg Try.prog [
    xI 36 1 32 34,
    xL 37 1 36,
    xT 5 37] [3, 5, 32, 33, 34] []
def r1_Bytes_r7 : IC := cReg Try.prog [
    xM 38 3,
    xM 39 5,
    ⟨some 40, none, iCvi 40 .u8 (.tmp 39)⟩,
    xR 41 5 1 40,
    ⟨some 42, none, iStr 42 (.tmp 41)⟩,
    xB 43 .add 38 42,
    xT 3 43] [3, 32, 33, 34] []
def r1_Bytes_b5 : IC := cBlock 1 (cSeq r1_Bytes_r6 r1_Bytes_r7)
def r1_Bytes_r8 : IC := cReg Try.prog [
    xC 44 .add 34 1,
    xM 34 44] [3, 32, 33, 34] []
def r1_Bytes_l3a : IC := (cSeq r1_Bytes_r5 (cSeq r1_Bytes_c4 (cSeq r1_Bytes_b5 r1_Bytes_r8)))
def r1_Bytes_l3 : IC := cLoop r1_Bytes_l3a
def r1_Bytes_b2 : IC := cBlock 0 r1_Bytes_l3
def r1_Bytes_r9 : IC := cReg Try.prog [
    xM 45 3,
    ⟨some 46, none, iBts 46 (.tmp 45)⟩,
    xV1 47 86 46,
    xT 2 47] [2] []
def r1_Bytes : IC := (cSeq r1_Bytes_r0 (cSeq r1_Bytes_r1 (cSeq (cSeq r1_Bytes_r2 r1_Bytes_c1) (cSeq (cSeq r1_Bytes_r4 r1_Bytes_b2) (cSeq r1_Bytes_r9 cRet)))))
theorem told_r1_Bytes {args r : List D} (hl : args.length = 1) (h : r1_Bytes (start args) (fin [(2, none)] r)) : Told Try.prog 61 args r :=
  told_of follows Try.func61 rfl (an := [([], [1], [1], []), ([], [1, 3], [1], []), ([], [1, 3, 16], [1], []), ([(10, [1, 26], [1])], [1, 3], [1], []), ([], [3, 32, 33, 34], [], []), ([], [3, 32, 33, 34, 35], [], []), ([], [3, 5, 32, 33, 34], [], []), ([], [3, 32, 33, 34], [], []), ([], [3, 32, 33, 34], [], []), ([], [2], [], [])]) (by kernel_rfl) (by kernel_rfl) (by rw [hl]; decide +kernel) h

def r1_ReadNo_r0 : IC := cReg Try.prog [
    ⟨some 2, none, iAlo 2 [zI, zI, zI, zI, zS, zS]⟩,
    ⟨some 3, none, iMov 3 (.const (.int .i64 0)) true⟩] [0, 2] [2]
def r1_ReadNo_r1 : IC := cReg Try.prog [
    ⟨some 4, none, iBld 4 [zI, zI, zI, zI, zS, zS] [] []⟩,
    xM 5 0,
    xS 6 2 4,
    xT 3 5] [2, 3] [2]
def r1_ReadNo : IC := (cSeq r1_ReadNo_r0 (cSeq r1_ReadNo_r1 cRet))
theorem told_r1_ReadNo {args r : List D} (hl : args.length = 1) (h : r1_ReadNo (start args) (fin [(2, some (6, true)), (3, none)] r)) : Told Try.prog 87 args r :=
  told_of follows Try.func87 rfl (an := [([], [0, 2], [2], []), ([], [2, 3], [2], [])]) (by kernel_rfl) (by kernel_rfl) (by rw [hl]; decide +kernel) h

def r1_Read_r0 : IC := cReg Try.prog [
    ⟨some 2, none, iAlo 2 [zI, zI, zI, zI, zS, zS]⟩,
    ⟨some 3, none, iMov 3 (.const (.int .i64 0)) true⟩] [0, 2] [2]
def r1_Read_r1 : IC := cReg Try.prog [
    ⟨some 4, none, iMov 4 (.func 87) true⟩] [0, 2, 4] [2]
def r1_Read_r2 : IC := cReg Try.prog [
    xM 11 0,
    xV1 12 88 11,
    xM 10 12,
    xE 13 10 0,
    xE 14 10 1,
    xT 5 13,
    xT 6 14] [2, 4, 5, 6] [2]
def r1_Read_r3 : IC := cReg Try.prog [
    xM 15 6,
    xO 16 15] [2, 4, 5, 16] [2]
def r1_Read_r4 : IC := cReg Try.prog [
    xM 17 4,
    ⟨some 18, none, iCallV 18 Try.prog 17 [(.const (.int .i64 7))]⟩,
    xE 19 18 0,
    xE 20 18 1,
    xS 6 2 19,
    xT 3 20] [2, 3] [2]
def r1_Read_c1a : IC := (cSeq r1_Read_r4 cRet)
def r1_Read_c1 : IC := cCond (.tmp 16) r1_Read_c1a cSkip
def r1_Read_r5 : IC := cReg Try.prog [
    xM 21 5,
    xN 22 21,
    xC 23 .lss 22 2,
    xM 24 23,
    xG 24 false (xM 25 5),
    ⟨some 26, some (24, false), iIaS 26 1 (.tmp 25) (.const (.int .i64 0))⟩,
    xG 24 false (xL 27 1 26),
    ⟨some 28, some (24, false), iBin 28 .eql (.tmp 27) (.const (.int .u8 1))⟩,
    xG 24 false (xM 29 28),
    xG 29 true (xM 30 5),
    xG 29 true (xN 31 30),
    xG 29 true (xC 32 .lss 31 4),
    xG 24 false (xQ 33 29 32),
    xP 34 24 33] [2, 4, 5, 34] [2]
def r1_Read_r6 : IC := cReg Try.prog [
    xM 35 4,
    ⟨some 36, none, iCallV 36 Try.prog 35 [(.const (.int .i64 8))]⟩,
    xE 37 36 0,
    xE 38 36 1,
    xS 6 2 37,
    xT 3 38] [2, 3] [2]
def r1_Read_c2a : IC := (cSeq r1_Read_r6 cRet)
def r1_Read_c2 : IC := cCond (.tmp 34) r1_Read_c2a cSkip
def r1_Read_r7 : IC := cRegD Try.prog [
    xM 39 5,
    ⟨some 40, none, iIaS 40 1 (.tmp 39) (.const (.int .i64 0))⟩,
    xL 41 1 40,
    ⟨some 42, none, iCvi 42 .i64 (.tmp 41)⟩,
    xM 43 5,
    ⟨some 44, none, iIaS 44 1 (.tmp 43) (.const (.int .i64 1))⟩,
    xL 45 1 44,
    ⟨some 46, none, iCvi 46 .i64 (.tmp 45)⟩,
    ⟨some 47, none, iBld 47 [zI, zI, zI, zI, zS, zS] [(0, 1), (1, 1)] [(.tmp 42), (.tmp 46)]⟩,
    ⟨some 7, none, iAlo 7 [zI, zI, zI, zI, zS, zS]⟩,
    xS 6 7 47] [[], [0], [1, 0], [2, 1, 0], [], [4], [5, 4], [6, 5, 4], [3, 7, 2, 1, 0, 6, 5, 4], [], [9, 8, 0, 1, 2, 3, 4, 5, 6, 7]] [2, 4, 5, 7] [2, 7]
def r1_Read_r8 : IC := cReg Try.prog [
    ⟨some 8, none, iMov 8 (.const (.int .i64 2)) true⟩] [2, 4, 5, 7, 8] [2, 7]
def r1_Read_r9 : IC := cReg Try.prog [
    xM 48 8,
    xM 49 5,
    xN 50 49,
    xB 51 .lss 48 50] [2, 4, 5, 7, 8, 51] [2, 7]
def r1_Read_c5 : IC := cCond (.tmp 51) cSkip (cExit 0)
def r1_Read_r12 : IC := cReg Try.prog [
    xF 64 0 7,
    xL 65 1 64,
    xC 66 .neq 65 1,
    xT 63 66] [2, 4, 5, 7, 8, 63] [2, 7]
def r1_Read_r13 : IC := cRegD Try.prog [
    xF 67 5 7,
    xU 68 1 67,
    xM 69 5,
    xM 70 8,
    xI 71 1 69 70,
    xL 72 1 71,
    ⟨some 73, none, iCvi 73 .i64 (.tmp 72)⟩,
    xR 74 3 1 73,
    xW 75 3 1 8 68 74,
    xF 76 5 7,
    xS 1 76 75] [[], [0], [], [], [2, 3], [4, 2, 3], [5, 4, 2, 3], [6, 5, 4, 2, 3], [1, 7, 0, 6, 5, 4, 2, 3], [0, 1, 2, 3, 4, 5, 6, 7, 8], [9, 8, 0, 1, 2, 3, 4, 5, 6, 7]] [2, 4, 5, 7, 8] [2, 7]
def r1_Read_r14 : IC := cReg Try.prog [
    xM 78 8,
    xC 79 .eql 78 2,
    xT 77 79] [2, 4, 5, 7, 8, 77] [2, 7]
def r1_Read_r15 : IC := cReg Try.prog [
    xM 80 5,
    xM 81 8,
    xI 82 1 80 81,
    xL 83 1 82,
    ⟨some 84, none, iCvi 84 .i64 (.tmp 83)⟩,
    xF 85 2 7,
    xS 1 85 84] [2, 4, 5, 7, 8] [2, 7]
def r1_Read_r16 : IC := cReg Try.prog [
    xM 87 8,
    xC 88 .eql 87 3,
    xT 86 88] [2, 4, 5, 7, 8, 86] [2, 7]
def r1_Read_r17 : IC := cReg Try.prog [
    xM 89 5,
    xM 90 8,
    xI 91 1 89 90,
    xL 92 1 91,
    ⟨some 93, none, iCvi 93 .i64 (.tmp 92)⟩,
    xF 94 3 7,
    xS 1 94 93] [2, 4, 5, 7, 8] [2, 7]
def r1_Read_r11 : IC := cRegD Try.prog [
    xF 54 4 7,
    xU 55 1 54,
    xM 56 5,
    xM 57 8,
    xI 58 1 56 57,
    xL 59 1 58,
    xR 60 5 1 59,
    xW 61 5 1 1 55 60,
    xF 62 4 7,
    xS 1 62 61] [[], [0], [], [], [2, 3], [4, 2, 3], [5, 4, 2, 3], [1, 6, 0, 5, 4, 2, 3], [0, 1, 2, 3, 4, 5, 6, 7], [8, 7, 0, 1, 2, 3, 4, 5, 6]] [2, 4, 5, 7, 8] [2, 7]
def r1_Read_c10 : IC := cCond (.tmp 86) r1_Read_r17 r1_Read_r11
def r1_Read_c9b : IC := (cSeq r1_Read_r16 r1_Read_c10)
def r1_Read_c9 : IC := cCond (.tmp 77) r1_Read_r15 r1_Read_c9b
def r1_Read_c8b : IC := (cSeq r1_Read_r14 r1_Read_c9)
def r1_Read_c8 : IC := cCond (.tmp 63) r1_Read_r13 r1_Read_c8b
def r1_Read_b7 : IC := cBlock 2 (cSeq r1_Read_r12 r1_Read_c8)
def r1_Read_b6 : IC := cBlock 1 r1_Read_b7
def r1_Read_r10 : IC := cReg Try.prog [
    xM 52 8,
    xC 53 .add 52 1,
    xT 8 53] [2, 4, 5, 7, 8] [2, 7]
def r1_Read_l4a : IC := (cSeq (cSeq r1_Read_r9 r1_Read_c5) (cSeq r1_Read_b6 r1_Read_r10))
def r1_Read_l4 : IC := cLoop r1_Read_l4a
def r1_Read_b3 : IC := cBlock 0 r1_Read_l4
def r1_Read_r18 : IC := cReg Try.prog [
    xA 95 6 7,
    xV1 96 89 95,
    xT 9 96] [2, 4, 7, 9] [2, 7]
def r1_Read_r19 : IC := cReg Try.prog [
    xM 97 9,
    xC 98 .neq 97 0] [2, 4, 7, 9, 98] [2, 7]
def r1_Read_r20 : IC := cReg Try.prog [
    xM 99 4,
    xM 100 9,
    ⟨some 101, none, iCallV 101 Try.prog 99 [(.tmp 100)]⟩,
    xE 102 101 0,
    xE 103 101 1,
    xS 6 2 102,
    xT 3 103] [2, 3] [2]
def r1_Read_c11a : IC := (cSeq r1_Read_r20 cRet)
def r1_Read_c11 : IC := cCond (.tmp 98) r1_Read_c11a cSkip
def r1_Read_r21 : IC := cReg Try.prog [
    xA 104 6 7,
    xS 6 2 104,
    ⟨some 3, none, iMov 3 (.const (.int .i64 0)) true⟩] [2, 3] [2]
def r1_Read : IC := (cSeq r1_Read_r0 (cSeq r1_Read_r1 (cSeq r1_Read_r2 (cSeq (cSeq r1_Read_r3 r1_Read_c1) (cSeq (cSeq r1_Read_r5 r1_Read_c2) (cSeq r1_Read_r7 (cSeq (cSeq r1_Read_r8 r1_Read_b3) (cSeq (cSeq r1_Read_r18 (cSeq r1_Read_r19 r1_Read_c11)) (cSeq r1_Read_r21 cRet)))))))))
theorem told_r1_Read {args r : List D} (hl : args.length = 1) (h : r1_Read (start args) (fin [(2, some (6, true)), (3, none)] r)) : Told Try.prog 67 args r :=
  told_of follows Try.func67 rfl (an := [([], [0, 2], [2], []), ([], [0, 2, 4], [2], []), ([], [2, 4, 5, 6], [2], []), ([], [2, 4, 5, 16], [2], []), ([], [2, 3], [2], []), ([], [2, 4, 5, 34], [2], []), ([], [2, 3], [2], []), ([], [2, 4, 5, 7], [2, 7], []), ([], [2, 4, 5, 7, 8], [2, 7], []), ([], [2, 4, 5, 7, 8, 51], [2, 7], []), ([], [2, 4, 5, 7, 8, 63], [2, 7], []), ([], [2, 4, 5, 7, 8], [2, 7], []), ([], [2, 4, 5, 7, 8, 77], [2, 7], []), ([], [2, 4, 5, 7, 8], [2, 7], []), ([], [2, 4, 5, 7, 8, 86], [2, 7], []), ([], [2, 4, 5, 7, 8], [2, 7], []), ([], [2, 4, 5, 7, 8], [2, 7], []), ([], [2, 4, 5, 7, 8], [2, 7], []), ([], [2, 4, 7, 9], [2, 7], []), ([], [2, 4, 7, 9, 98], [2, 7], []), ([], [2, 3], [2], []), ([], [2, 3], [2], [])]) (by kernel_rfl) (by kernel_rfl) (by rw [hl]; decide +kernel) h

end Go.Proofs.Ytgechpchbenanac.ab

/-
  Functions as plain code (written by wip/abs/ir.py): lkref1.SameInts, lkref1.Same, lkref1.SameAll, lkref1.Wrong.
-/
namespace Go.Proofs.Ytgechpchbenanac.ab
set_option linter.unusedSimpArgs false
set_option linter.unusedVariables false
set_option maxRecDepth 100000
open Go Go.RowKit

def r1_Wrong_r0 : IC := cReg Try.prog [
    xX 1 0,
    ⟨some 2, none, iMov 2 (.const (.int .i64 0)) true⟩] [1] [1]
def r1_Wrong_r1 : IC := cReg Try.prog [
    xF 6 0 1,
    xL 7 1 6,
    xC 8 .neq 7 1,
    xM 9 8,
    xG 9 true (xF 10 0 1),
    xG 9 true (xL 11 1 10),
    xG 9 true (xC 12 .neq 11 2),
    xQ 13 9 12] [1, 13] [1]
def r1_Wrong_r2 : IC := cReg Try.prog [
    ⟨some 2, none, iMov 2 (.const (.int .i64 1)) true⟩] [2] []
def r1_Wrong_c1a : IC := (cSeq r1_Wrong_r2 cRet)
def r1_Wrong_c1 : IC := cCond (.tmp 13) r1_Wrong_c1a cSkip
def r1_Wrong_r3 : IC := cReg Try.prog [
    xF 14 1 1,
    xL 15 1 14,
    xC 16 .lss 15 0,
    xM 17 16,
    xG 17 false (xF 18 1 1),
    xG 17 false (xL 19 1 18),
    xG 17 false (xC 20 .gtr 19 40),
    xP 21 17 20] [1, 21] [1]
def r1_Wrong_r4 : IC := cReg Try.prog [
    ⟨some 2, none, iMov 2 (.const (.int .i64 3)) true⟩] [2] []
def r1_Wrong_c2a : IC := (cSeq r1_Wrong_r4 cRet)
def r1_Wrong_c2 : IC := cCond (.tmp 21) r1_Wrong_c2a cSkip
def r1_Wrong_r5 : IC := cReg Try.prog [
    xF 22 0 1,
    xL 23 1 22,
    xC 24 .eql 23 1] [1, 24] [1]
def r1_Wrong_r6_0 : IC := cReg Try.prog [
    xF 25 1 1,
    xL 26 1 25,
    xC 27 .gtr 26 39,
    xM 28 27,
    xG 28 false (xF 29 3 1),
    xG 28 false (xL 30 1 29),
    xG 28 false (xC 31 .lss 30 0),
    xP 32 28 31,
    xM 33 32,
    xG 33 false (xF 34 3 1)] [1, 33, 34] [1]
def r1_Wrong_r6_1 : IC := cReg Try.prog [
    xG 33 false (xL 35 1 34),
    xG 33 false (xF 36 1 1),
    xG 33 false (xL 37 1 36),
    xG 33 false (xB 38 .gtr 35 37),
    xP 39 33 38] [1, 39] [1]
def r1_Wrong_r6 : IC := (cSeq r1_Wrong_r6_0 r1_Wrong_r6_1)
def r1_Wrong_r7 : IC := cReg Try.prog [
    ⟨some 2, none, iMov 2 (.const (.int .i64 3)) true⟩] [2] []
def r1_Wrong_c4a : IC := (cSeq r1_Wrong_r7 cRet)
def r1_Wrong_c4 : IC := cCond (.tmp 39) r1_Wrong_c4a cSkip
def r1_Wrong_r8 : IC := cReg Try.prog [
    xF 40 5 1,
    xL 41 1 40,
    xN 42 41,
    xC 43 .neq 42 0] [1, 43] [1]
def r1_Wrong_r9 : IC := cReg Try.prog [
    ⟨some 2, none, iMov 2 (.const (.int .i64 5)) true⟩] [2] []
def r1_Wrong_c5a : IC := (cSeq r1_Wrong_r9 cRet)
def r1_Wrong_c5 : IC := cCond (.tmp 43) r1_Wrong_c5a cSkip
def r1_Wrong_r10 : IC := cReg Try.prog [
    xF 44 2 1,
    xL 45 1 44,
    xF 46 4 1,
    xL 47 1 46,
    ⟨some 48, none, iBld 48 [zI, zS] [(0, 1), (1, 1)] [(.tmp 45), (.tmp 47)]⟩,
    xV1 49 63 48,
    xT 2 49] [2] []
def r1_Wrong_c3a : IC := (cSeq (cSeq r1_Wrong_r6 r1_Wrong_c4) (cSeq (cSeq r1_Wrong_r8 r1_Wrong_c5) (cSeq r1_Wrong_r10 cRet)))
def r1_Wrong_c3 : IC := cCond (.tmp 24) r1_Wrong_c3a cSkip
def r1_Wrong_r11 : IC := cReg Try.prog [
    xF 50 2 1,
    xL 51 1 50,
    xC 52 .neq 51 0,
    xM 53 52,
    xG 53 false (xF 54 3 1),
    xG 53 false (xL 55 1 54),
    xG 53 false (xC 56 .neq 55 0),
    xP 57 53 56] [1, 57] [1]
def r1_Wrong_r12 : IC := cReg Try.prog [
    ⟨some 2, none, iMov 2 (.const (.int .i64 3)) true⟩] [2] []
def r1_Wrong_c6a : IC := (cSeq r1_Wrong_r12 cRet)
def r1_Wrong_c6 : IC := cCond (.tmp 57) r1_Wrong_c6a cSkip
def r1_Wrong_r13 : IC := cReg Try.prog [
    xF 58 4 1,
    xL 59 1 58,
    xN 60 59,
    xC 61 .neq 60 0,
    xM 62 61,
    xG 62 false (xF 63 5 1),
    xG 62 false (xL 64 1 63),
    xG 62 false (xN 65 64),
    xG 62 false (xC 66 .gtr 65 3),
    xP 67 62 66] [1, 67] [1]
def r1_Wrong_r14 : IC := cReg Try.prog [
    ⟨some 2, none, iMov 2 (.const (.int .i64 5)) true⟩] [2] []
def r1_Wrong_c7a : IC := (cSeq r1_Wrong_r14 cRet)
def r1_Wrong_c7 : IC := cCond (.tmp 67) r1_Wrong_c7a cSkip
def r1_Wrong_r15 : IC := cReg Try.prog [
    xF 68 1 1,
    xL 69 1 68,
    xT 3 69] [1, 3] [1]
def r1_Wrong_r16 : IC := cReg Try.prog [
    xF 70 5 1,
    xL 71 1 70,
    xN 72 71,
    ⟨some 73, none, iMov 73 (.const (.int .i64 0)) false⟩] [3, 71, 72, 73] []
def r1_Wrong_r17 : IC := cReg Try.prog [
    xB 74 .lss 73 72] [3, 71, 72, 73, 74] []
def r1_Wrong_c10 : IC := cCond (.tmp 74) cSkip (cExit 0)
def r1_Wrong_r18 : IC := cReg Try.prog [
    xI 75 1 71 73,
    xL 76 1 75,
    xT 5 76] [3, 5, 71, 72, 73] []
def r1_Wrong_r19 : IC := cReg Try.prog [
    xM 77 5,
    xM 78 3,
    xB 79 .leq 77 78,
    xM 80 79,
    xG 80 false (xM 81 5),
    xG 80 false (xC 82 .gtr 81 39),
    xP 83 80 82] [5, 71, 72, 73, 83] []
def r1_Wrong_r20 : IC := cReg Try.prog [
    ⟨some 2, none, iMov 2 (.const (.int .i64 3)) true⟩] [2] []
def r1_Wrong_c12a : IC := (cSeq r1_Wrong_r20 cRet)
def r1_Wrong_c12 : IC := cCond (.tmp 83) r1_Wrong_c12a cSkip
def r1_Wrong_r21 : IC := cReg Try.prog [
    xM 84 5,
    xT 3 84] [3, 71, 72, 73] []
def r1_Wrong_b11 : IC := cBlock 1 (cSeq r1_Wrong_r18 (cSeq (cSeq r1_Wrong_r19 r1_Wrong_c12) r1_Wrong_r21))
def r1_Wrong_r22 : IC := cReg Try.prog [
    xC 85 .add 73 1,
    xM 73 85] [3, 71, 72, 73] []
def r1_Wrong_l9a : IC := (cSeq r1_Wrong_r17 (cSeq r1_Wrong_c10 (cSeq r1_Wrong_b11 r1_Wrong_r22)))
def r1_Wrong_l9 : IC := cLoop r1_Wrong_l9a
def r1_Wrong_b8 : IC := cBlock 0 r1_Wrong_l9
def r1_Wrong_r23 : IC := cReg Try.prog [
    ⟨some 2, none, iMov 2 (.const (.int .i64 0)) true⟩] [2] []
def r1_Wrong : IC := (cSeq r1_Wrong_r0 (cSeq (cSeq r1_Wrong_r1 r1_Wrong_c1) (cSeq (cSeq r1_Wrong_r3 r1_Wrong_c2) (cSeq (cSeq r1_Wrong_r5 r1_Wrong_c3) (cSeq (cSeq r1_Wrong_r11 r1_Wrong_c6) (cSeq (cSeq r1_Wrong_r13 r1_Wrong_c7) (cSeq r1_Wrong_r15 (cSeq (cSeq r1_Wrong_r16 r1_Wrong_b8) (cSeq r1_Wrong_r23 cRet)))))))))
theorem told_r1_Wrong {args r : List D} (hl : args.length = 1) (h : r1_Wrong (start args) (fin [(2, none)] r)) : Told Try.prog 89 args r :=
  told_of follows Try.func89 rfl (an := [([], [1], [1], []), ([], [1, 13], [1], []), ([], [2], [], []), ([], [1, 21], [1], []), ([], [2], [], []), ([], [1, 24], [1], []), ([(10, [1, 33, 34], [1])], [1, 39], [1], []), ([], [2], [], []), ([], [1, 43], [1], []), ([], [2], [], []), ([], [2], [], []), ([], [1, 57], [1], []), ([], [2], [], []), ([], [1, 67], [1], []), ([], [2], [], []), ([], [1, 3], [1], []), ([], [3, 71, 72, 73], [], []), ([], [3, 71, 72, 73, 74], [], []), ([], [3, 5, 71, 72, 73], [], []), ([], [5, 71, 72, 73, 83], [], []), ([], [2], [], []), ([], [3, 71, 72, 73], [], []), ([], [3, 71, 72, 73], [], []), ([], [2], [], [])]) (by kernel_rfl) (by kernel_rfl) (by rw [hl]; decide +kernel) h

end Go.Proofs.Ytgechpchbenanac.ab
