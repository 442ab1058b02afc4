/-
  Functions as plain code (written by wip/abs/ir.py): lkref1.RecvHear, lkref1.RecvSay, lkref1.SameReceiver.
-/
import Derived.Test.YtgechpchbenanacM26
import Derived.Test.YtgechpchbenanacProg
namespace Go.Proofs.Ytgechpchbenanac.ab
set_option linter.unusedSimpArgs false
set_option linter.unusedVariables false
set_option maxRecDepth 100000
open Go Go.RowKit

def r1_RecvHear_r0 : IC := cReg Try.prog [
    xX 2 0,
    xX 3 1,
    ⟨some 4, none, iAlo 4 [zI, zS, zI, zI, zI, zS, zS, zF]⟩] [2, 3, 4] [2, 3, 4]
def r1_RecvHear_r1 : IC := cReg Try.prog [
    xF 13 0 3,
    xL 14 1 13,
    xC 15 .neq 14 1] [2, 3, 4, 15] [2, 3, 4]
def r1_RecvHear_r2 : IC := cReg Try.prog [
    xA 16 8 2,
    xS 8 4 16] [4] [4]
def r1_RecvHear_c1a : IC := (cSeq r1_RecvHear_r2 cRet)
def r1_RecvHear_c1 : IC := cCond (.tmp 15) r1_RecvHear_c1a cSkip
def r1_RecvHear_r3 : IC := cReg Try.prog [
    xF 17 7 2,
    ⟨none, none, iStor 1 (.tmp 17) (.const (.bool true))⟩] [2, 3, 4] [2, 3, 4]
def r1_RecvHear_r4 : IC := cReg Try.prog [
    ⟨some 18, none, iMkM 18⟩,
    xF 19 1 3,
    xL 20 1 19,
    ⟨none, none, iUpd (.tmp 18) (.tmp 20) (.const (.bool true))⟩,
    xM 21 18,
    xT 5 21] [2, 3, 4, 5] [2, 3, 4, 200018]
def r1_RecvHear_r5 : IC := cReg Try.prog [
    xF 22 1 2,
    xL 23 1 22,
    xN 24 23,
    ⟨some 25, none, iMov 25 (.const (.int .i64 0)) false⟩] [2, 3, 4, 5, 23, 24, 25] [2, 3, 4, 200018]
def r1_RecvHear_r6 : IC := cReg Try.prog [
    xB 26 .lss 25 24] [2, 3, 4, 5, 23, 24, 25, 26] [2, 3, 4, 200018]
def r1_RecvHear_c4 : IC := cCond (.tmp 26) cSkip (cExit 0)
def r1_RecvHear_r7 : IC := cReg Try.prog [
    xI 27 1 23 25,
    xL 28 1 27,
    xT 7 28] [2, 3, 4, 5, 7, 23, 24, 25] [2, 3, 4, 200018]
def r1_RecvHear_r8 : IC := cReg Try.prog [
    xM 29 7,
    xF 30 1 3,
    xL 31 1 30,
    xB 32 .eql 29 31] [2, 3, 4, 5, 7, 23, 24, 25, 32] [2, 3, 4, 200018]
def r1_RecvHear_r9 : IC := cReg Try.prog [
    xA 33 8 2,
    xS 8 4 33] [4] [4]
def r1_RecvHear_c6a : IC := (cSeq r1_RecvHear_r9 cRet)
def r1_RecvHear_c6 : IC := cCond (.tmp 32) r1_RecvHear_c6a cSkip
def r1_RecvHear_r10 : IC := cReg Try.prog [
    xM 34 5,
    xM 35 7,
    ⟨none, none, iUpd (.tmp 34) (.tmp 35) (.const (.bool true))⟩] [2, 3, 4, 5, 23, 24, 25] [2, 3, 4, 200018]
def r1_RecvHear_b5 : IC := cBlock 1 (cSeq r1_RecvHear_r7 (cSeq (cSeq r1_RecvHear_r8 r1_RecvHear_c6) r1_RecvHear_r10))
def r1_RecvHear_r11 : IC := cReg Try.prog [
    xC 36 .add 25 1,
    xM 25 36] [2, 3, 4, 5, 23, 24, 25] [2, 3, 4, 200018]
def r1_RecvHear_l3a : IC := (cSeq r1_RecvHear_r6 (cSeq r1_RecvHear_c4 (cSeq r1_RecvHear_b5 r1_RecvHear_r11)))
def r1_RecvHear_l3 : IC := cLoop r1_RecvHear_l3a
def r1_RecvHear_b2 : IC := cBlock 0 r1_RecvHear_l3
def r1_RecvHear_r12_0 : IC := cReg Try.prog [
    xF 37 1 3,
    xL 38 1 37,
    xF 39 0 2,
    xL 40 1 39,
    xB 41 .lss 38 40,
    xM 42 41,
    xG 42 false (xF 43 1 3),
    xG 42 false (xL 44 1 43),
    xG 42 false (xF 45 0 2),
    xG 42 false (xL 46 1 45)] [2, 3, 4, 5, 42, 44, 46] [2, 3, 4, 200018]
def r1_RecvHear_r12_1 : IC := cReg Try.prog [
    xG 42 false (xB 47 .gtr 44 46),
    xG 42 false (xM 48 47),
    xG 48 true (xF 49 1 2),
    xG 48 true (xL 50 1 49),
    xG 48 true (xN 51 50),
    xG 48 true (xC 52 .gtr 51 2),
    xG 42 false (xQ 53 48 52),
    xP 54 42 53] [2, 3, 4, 5, 54] [2, 3, 4, 200018]
def r1_RecvHear_r12 : IC := (cSeq r1_RecvHear_r12_0 r1_RecvHear_r12_1)
def r1_RecvHear_r13 : IC := cReg Try.prog [
    xA 55 8 2,
    xS 8 4 55] [4] [4]
def r1_RecvHear_c7a : IC := (cSeq r1_RecvHear_r13 cRet)
def r1_RecvHear_c7 : IC := cCond (.tmp 54) r1_RecvHear_c7a cSkip
def r1_RecvHear_r14 : IC := cReg Try.prog [
    xM 56 5,
    xF 57 0 2,
    xL 58 1 57,
    ⟨some 59, none, iLku 59 (.bool false) (.tmp 56) (.tmp 58)⟩] [2, 3, 4, 5, 59] [2, 3, 4, 200018]
def r1_RecvHear_c10 : IC := cCond (.tmp 59) cSkip (cExit 2)
def r1_RecvHear_r15 : IC := cReg Try.prog [
    xF 60 0 2,
    xL 61 1 60,
    xC 62 .add 61 1,
    xF 63 0 2,
    xS 1 63 62] [2, 3, 4, 5] [2, 3, 4, 200018]
def r1_RecvHear_b11 : IC := cBlock 3 r1_RecvHear_r15
def r1_RecvHear_l9a : IC := (cSeq (cSeq r1_RecvHear_r14 r1_RecvHear_c10) r1_RecvHear_b11)
def r1_RecvHear_l9 : IC := cLoop r1_RecvHear_l9a
def r1_RecvHear_b8 : IC := cBlock 2 r1_RecvHear_l9
def r1_RecvHear_r16 : IC := cReg Try.prog [
    xF 64 1 2,
    ⟨none, none, iStor 1 (.tmp 64) (.const (.slice none 0 0))⟩] [2, 3, 4, 5] [2, 3, 4, 200018]
def r1_RecvHear_r17 : IC := cReg Try.prog [
    xF 65 0 2,
    xL 66 1 65,
    xT 8 66] [2, 3, 4, 5, 8] [2, 3, 4, 200018]
def r1_RecvHear_r18 : IC := cReg Try.prog [
    xM 67 8,
    xC 68 .lss 67 40] [2, 3, 4, 5, 8, 68] [2, 3, 4, 200018]
def r1_RecvHear_c14 : IC := cCond (.tmp 68) cSkip (cExit 4)
def r1_RecvHear_r20 : IC := cReg Try.prog [
    xM 71 5,
    xM 72 8,
    ⟨some 73, none, iLku 73 (.bool false) (.tmp 71) (.tmp 72)⟩] [2, 3, 4, 5, 8, 73] [2, 3, 4, 200018]
def r1_RecvHear_r21 : IC := cReg Try.prog [
    xF 74 1 2,
    xU 75 1 74,
    xM 76 8,
    xR 77 3 1 76,
    xW 78 3 1 8 75 77,
    xF 79 1 2,
    xS 1 79 78] [2, 3, 4, 5, 8] [2, 3, 4, 200018]
def r1_RecvHear_c16 : IC := cCond (.tmp 73) r1_RecvHear_r21 cSkip
def r1_RecvHear_b15 : IC := cBlock 5 (cSeq r1_RecvHear_r20 r1_RecvHear_c16)
def r1_RecvHear_r19 : IC := cReg Try.prog [
    xM 69 8,
    xC 70 .add 69 1,
    xT 8 70] [2, 3, 4, 5, 8] [2, 3, 4, 200018]
def r1_RecvHear_l13a : IC := (cSeq (cSeq r1_RecvHear_r18 r1_RecvHear_c14) (cSeq r1_RecvHear_b15 r1_RecvHear_r19))
def r1_RecvHear_l13 : IC := cLoop r1_RecvHear_l13a
def r1_RecvHear_b12 : IC := cBlock 4 r1_RecvHear_l13
def r1_RecvHear_r22 : IC := cRegD Try.prog [
    ⟨some 80, none, iRow 80 93 6 []⟩,
    xF 81 5 2,
    xL 82 1 81,
    xW 83 93 6 80 80 82,
    xA 84 6 3,
    xR 85 93 6 84,
    xW 86 93 6 80 83 85,
    xT 9 86] [[], [], [1], [0, 2, 1], [], [4], [3, 5, 0, 2, 1, 4], [6, 0, 1, 2, 3, 4, 5]] [2, 4, 9] [2, 4]
def r1_RecvHear_r23 : IC := cReg Try.prog [
    ⟨some 10, none, iMov 10 (.const (.bool true)) true⟩] [2, 4, 9, 10] [2, 4]
def r1_RecvHear_r24 : IC := cReg Try.prog [
    xM 87 10] [2, 4, 9, 87] [2, 4]
def r1_RecvHear_c19 : IC := cCond (.tmp 87) cSkip (cExit 6)
def r1_RecvHear_r25 : IC := cReg Try.prog [
    ⟨some 10, none, iMov 10 (.const (.bool false)) true⟩] [2, 4, 9, 10] [2, 4]
def r1_RecvHear_r26 : IC := cReg Try.prog [
    xM 88 9,
    xN 89 88,
    ⟨some 90, none, iMov 90 (.const (.int .i64 0)) false⟩] [2, 4, 9, 10, 88, 89, 90] [2, 4]
def r1_RecvHear_r27 : IC := cReg Try.prog [
    xB 91 .lss 90 89] [2, 4, 9, 10, 88, 89, 90, 91] [2, 4]
def r1_RecvHear_c23 : IC := cCond (.tmp 91) cSkip (cExit 8)
def r1_RecvHear_r28 : IC := cReg Try.prog [
    xM 92 90,
    xI 93 6 88 90,
    xA 94 6 93,
    ⟨some 12, none, iAlo 12 [zI, zI, zI, zI, zS, zS]⟩,
    xT 11 92,
    xS 6 12 94] [2, 4, 9, 10, 11, 12, 88, 89, 90] [2, 4, 12]
def r1_RecvHear_r29 : IC := cRegD Try.prog [
    xF 95 3 12,
    xL 96 1 95,
    xF 97 2 12,
    xL 98 1 97,
    xF 99 2 2,
    ⟨some 100, none, iIaA 100 3 1 (.tmp 99) (.tmp 98)⟩,
    xL 101 1 100,
    xB 102 .eql 96 101] [[], [0], [], [2], [], [4, 3, 2], [5, 4, 3, 2], [1, 6, 0, 5, 4, 3, 2]] [2, 4, 9, 10, 11, 12, 88, 89, 90, 102] [2, 4, 12]
def r1_RecvHear_r30 : IC := cRegD Try.prog [
    ⟨some 103, none, iRow 103 25 2 []⟩,
    xF 104 6 2,
    xL 105 1 104,
    xW 106 25 2 32 103 105,
    xF 107 2 12,
    xL 108 1 107,
    xF 109 4 12,
    xL 110 1 109,
    ⟨some 111, none, iBld 111 [zI, zS] [(0, 1), (1, 1)] [(.tmp 108), (.tmp 110)]⟩,
    xR 112 25 2 111,
    xW 113 25 2 32 106 112,
    xF 114 6 2,
    xS 1 114 113] [[], [], [1], [0, 2, 1], [], [4], [], [6], [5, 7, 4, 6], [8, 5, 7, 4, 6], [3, 9, 0, 2, 1, 8, 5, 7, 4, 6], [0, 1, 2, 3, 4, 5, 6, 7, 8, 9, 10], [11, 10, 0, 1, 2, 3, 4, 5, 6, 7, 8, 9]] [2, 4, 9, 11, 12] [2, 4, 12]
def r1_RecvHear_r31 : IC := cRegD Try.prog [
    xF 115 2 12,
    xL 116 1 115,
    xF 117 2 12,
    xL 118 1 117,
    xF 119 2 2,
    ⟨some 120, none, iIaA 120 3 1 (.tmp 119) (.tmp 118)⟩,
    xL 121 1 120,
    xC 122 .add 121 1,
    xF 123 2 2,
    ⟨some 124, none, iIaA 124 3 1 (.tmp 123) (.tmp 116)⟩,
    xS 1 124 122] [[], [0], [], [2], [], [4, 3, 2], [5, 4, 3, 2], [6, 5, 4, 3, 2], [], [8, 1, 0, 2, 3, 4, 5, 6, 7], [9, 7, 0, 1, 2, 3, 4, 5, 6, 8]] [2, 4, 9, 11] [2, 4]
def r1_RecvHear_r32 : IC := cRegD Try.prog [
    ⟨some 125, none, iRow 125 93 6 []⟩,
    xM 126 9,
    xM 127 11,
    ⟨some 128, none, iSlc 128 6 (.tmp 126) none (some (.tmp 127))⟩,
    xW 129 93 6 80 125 128,
    xM 130 9,
    xM 131 11,
    xC 132 .add 131 1,
    ⟨some 133, none, iSlc 133 6 (.tmp 130) (some (.tmp 132)) none⟩,
    xW 134 93 6 80 129 133,
    xT 9 134] [[], [], [], [1, 2], [0, 3, 1, 2], [], [], [6], [5, 7, 6], [4, 8, 0, 3, 1, 2, 5, 7, 6], [9, 0, 1, 2, 3, 4, 5, 6, 7, 8]] [2, 4, 9] [2, 4]
def r1_RecvHear_r33 : IC := cReg Try.prog [
    ⟨some 10, none, iMov 10 (.const (.bool true)) true⟩] [2, 4, 9, 10] [2, 4]
def r1_RecvHear_c25a : IC := (cSeq r1_RecvHear_r30 (cSeq r1_RecvHear_r31 (cSeq r1_RecvHear_r32 (cSeq r1_RecvHear_r33 (cExit 8)))))
def r1_RecvHear_c25 : IC := cCond (.tmp 102) r1_RecvHear_c25a cSkip
def r1_RecvHear_b24 : IC := cBlock 9 (cSeq r1_RecvHear_r28 (cSeq r1_RecvHear_r29 r1_RecvHear_c25))
def r1_RecvHear_r34 : IC := cReg Try.prog [
    xC 135 .add 90 1,
    xM 90 135] [2, 4, 9, 10, 88, 89, 90] [2, 4]
def r1_RecvHear_l22a : IC := (cSeq r1_RecvHear_r27 (cSeq r1_RecvHear_c23 (cSeq r1_RecvHear_b24 r1_RecvHear_r34)))
def r1_RecvHear_l22 : IC := cLoop r1_RecvHear_l22a
def r1_RecvHear_b21 : IC := cBlock 8 r1_RecvHear_l22
def r1_RecvHear_b20 : IC := cBlock 7 (cSeq r1_RecvHear_r25 (cSeq r1_RecvHear_r26 r1_RecvHear_b21))
def r1_RecvHear_l18a : IC := (cSeq (cSeq r1_RecvHear_r24 r1_RecvHear_c19) r1_RecvHear_b20)
def r1_RecvHear_l18 : IC := cLoop r1_RecvHear_l18a
def r1_RecvHear_b17 : IC := cBlock 6 r1_RecvHear_l18
def r1_RecvHear_r35 : IC := cReg Try.prog [
    xM 136 9,
    xF 137 5 2,
    xS 1 137 136] [2, 4] [2, 4]
def r1_RecvHear_r36 : IC := cReg Try.prog [
    xA 138 8 2,
    xS 8 4 138] [4] [4]
def r1_RecvHear : IC := (cSeq r1_RecvHear_r0 (cSeq (cSeq r1_RecvHear_r1 r1_RecvHear_c1) (cSeq r1_RecvHear_r3 (cSeq r1_RecvHear_r4 (cSeq (cSeq r1_RecvHear_r5 r1_RecvHear_b2) (cSeq (cSeq r1_RecvHear_r12 r1_RecvHear_c7) (cSeq r1_RecvHear_b8 (cSeq r1_RecvHear_r16 (cSeq (cSeq r1_RecvHear_r17 r1_RecvHear_b12) (cSeq r1_RecvHear_r22 (cSeq (cSeq r1_RecvHear_r23 r1_RecvHear_b17) (cSeq r1_RecvHear_r35 (cSeq r1_RecvHear_r36 cRet)))))))))))))
theorem told_r1_RecvHear {args r : List D} (hl : args.length = 2) (h : r1_RecvHear (start args) (fin [(4, some (8, true))] r)) : Told Try.prog 69 args r :=
  told_of follows Try.func69 rfl (an := [([], [2, 3, 4], [2, 3, 4], []), ([], [2, 3, 4, 15], [2, 3, 4], []), ([], [4], [4], []), ([], [2, 3, 4], [2, 3, 4], []), ([], [2, 3, 4, 5], [2, 3, 4, 200018], []), ([], [2, 3, 4, 5, 23, 24, 25], [2, 3, 4, 200018], []), ([], [2, 3, 4, 5, 23, 24, 25, 26], [2, 3, 4, 200018], []), ([], [2, 3, 4, 5, 7, 23, 24, 25], [2, 3, 4, 200018], []), ([], [2, 3, 4, 5, 7, 23, 24, 25, 32], [2, 3, 4, 200018], []), ([], [4], [4], []), ([], [2, 3, 4, 5, 23, 24, 25], [2, 3, 4, 200018], []), ([], [2, 3, 4, 5, 23, 24, 25], [2, 3, 4, 200018], []), ([(10, [2, 3, 4, 5, 42, 44, 46], [2, 3, 4, 200018])], [2, 3, 4, 5, 54], [2, 3, 4, 200018], []), ([], [4], [4], []), ([], [2, 3, 4, 5, 59], [2, 3, 4, 200018], []), ([], [2, 3, 4, 5], [2, 3, 4, 200018], []), ([], [2, 3, 4, 5], [2, 3, 4, 200018], []), ([], [2, 3, 4, 5, 8], [2, 3, 4, 200018], []), ([], [2, 3, 4, 5, 8, 68], [2, 3, 4, 200018], []), ([], [2, 3, 4, 5, 8, 73], [2, 3, 4, 200018], []), ([], [2, 3, 4, 5, 8], [2, 3, 4, 200018], []), ([], [2, 3, 4, 5, 8], [2, 3, 4, 200018], []), ([], [2, 4, 9], [2, 4], []), ([], [2, 4, 9, 10], [2, 4], []), ([], [2, 4, 9, 87], [2, 4], []), ([], [2, 4, 9, 10], [2, 4], []), ([], [2, 4, 9, 10, 88, 89, 90], [2, 4], []), ([], [2, 4, 9, 10, 88, 89, 90, 91], [2, 4], []), ([], [2, 4, 9, 10, 11, 12, 88, 89, 90], [2, 4, 12], []), ([], [2, 4, 9, 10, 11, 12, 88, 89, 90, 102], [2, 4, 12], []), ([], [2, 4, 9, 11, 12], [2, 4, 12], []), ([], [2, 4, 9, 11], [2, 4], []), ([], [2, 4, 9], [2, 4], []), ([], [2, 4, 9, 10], [2, 4], []), ([], [2, 4, 9, 10, 88, 89, 90], [2, 4], []), ([], [2, 4], [2, 4], []), ([], [4], [4], [])]) (by kernel_rfl) (by kernel_rfl) (by rw [hl]; decide +kernel) h

def r1_RecvSay_r0 : IC := cReg Try.prog [
    xX 1 0,
    ⟨some 2, none, iAlo 2 [zI, zS, zI, zI, zI, zS, zS, zF]⟩,
    ⟨some 3, none, iAlo 3 [zI, zI, zI, zI, zS, zS]⟩,
    ⟨some 4, none, iMov 4 (.const (.bool false)) true⟩] [1, 2, 3] [1, 2, 3]
def r1_RecvSay_r1 : IC := cReg Try.prog [
    xF 5 7 1,
    xL 6 1 5,
    xO 7 6] [1, 2, 3, 7] [1, 2, 3]
def r1_RecvSay_r2 : IC := cReg Try.prog [
    xA 8 8 1,
    ⟨some 9, none, iBld 9 [zI, zI, zI, zI, zS, zS] [] []⟩,
    xS 8 2 8,
    xS 6 3 9,
    ⟨some 4, none, iMov 4 (.const (.bool false)) true⟩] [2, 3, 4] [2, 3]
def r1_RecvSay_c1a : IC := (cSeq r1_RecvSay_r2 cRet)
def r1_RecvSay_c1 : IC := cCond (.tmp 7) r1_RecvSay_c1a cSkip
def r1_RecvSay_r3 : IC := cReg Try.prog [
    xF 10 7 1,
    ⟨none, none, iStor 1 (.tmp 10) (.const (.bool false))⟩] [1, 2, 3] [1, 2, 3]
def r1_RecvSay_r4 : IC := cRegD Try.prog [
    xA 11 8 1,
    xF 12 0 1,
    xL 13 1 12,
    xF 14 1 1,
    xL 15 1 14,
    ⟨some 16, none, iBld 16 [zI, zI, zI, zI, zS, zS] [(0, 1), (1, 1), (5, 1)] [(.const (.int .i64 2)), (.tmp 13), (.tmp 15)]⟩,
    xS 8 2 11,
    xS 6 3 16,
    ⟨some 4, none, iMov 4 (.const (.bool true)) true⟩] [[], [], [1], [], [3], [2, 4, 1, 3], [0], [5, 6, 0, 1, 2, 3, 4], [7, 0, 1, 2, 3, 4, 5, 6]] [2, 3, 4] [2, 3]
def r1_RecvSay : IC := (cSeq r1_RecvSay_r0 (cSeq (cSeq r1_RecvSay_r1 r1_RecvSay_c1) (cSeq r1_RecvSay_r3 (cSeq r1_RecvSay_r4 cRet))))
theorem told_r1_RecvSay {args r : List D} (hl : args.length = 1) (h : r1_RecvSay (start args) (fin [(2, some (8, true)), (3, some (6, true)), (4, none)] r)) : Told Try.prog 62 args r :=
  told_of follows Try.func62 rfl (an := [([], [1, 2, 3], [1, 2, 3], []), ([], [1, 2, 3, 7], [1, 2, 3], []), ([], [2, 3, 4], [2, 3], []), ([], [1, 2, 3], [1, 2, 3], []), ([], [2, 3, 4], [2, 3], [])]) (by kernel_rfl) (by kernel_rfl) (by rw [hl]; decide +kernel) h

end Go.Proofs.Ytgechpchbenanac.ab
