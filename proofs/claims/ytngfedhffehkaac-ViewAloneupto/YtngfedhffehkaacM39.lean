/-
  Several texts in one.
-/
import Derived.Test.YtngfedhffehkaacM23
import Derived.Test.YtngfedhffehkaacProg
import Derived.Test.YtngfedhffehkaacM34
import Derived.Test.YtngfedhffehkaacM38

/-
  Functions as plain code (written by wip/abs/ir.py): lkref6.Packet=r6_Packet;L100064:12:13:14.
-/
namespace Go.Proofs.Ytngfedhffehkaac.ab
set_option linter.unusedSimpArgs false
set_option linter.unusedVariables false
set_option maxRecDepth 100000
open Go Go.RowKit

def r6_Packet_r0 : IC := cReg Try.prog [
    ⟨some 5, none, iBox 5 (.tmp 0)⟩,
    ⟨some 10, none, iAlo 10 [vD (.slice none 0 0), vD (.int .i64 0), vD (.int .i64 0), vD (.int .i64 0), vD (.int .i64 0), vD (.slice none 0 0), vD (.int .i64 0), vD (.int .i64 0), vD (.slice none 0 0), vD (.int .i64 0), vD (.int .i64 0), vD (.int .i64 0), vD (.slice none 0 0), vD (.slice none 0 0), vD (.bool false), vD (.slice none 0 0), vD (.slice none 0 0)]⟩,
    ⟨some 11, none, iMov 11 (.const (.int .i64 0)) true⟩] [1, 2, 3, 4, 5, 10] [5, 10]
def r6_Packet_r1 : IC := cReg Try.prog [
    ⟨some 16, none, iLoad 16 17 true (.tmp 5) false⟩,
    ⟨some 17, none, iMov 17 (.tmp 4) false⟩,
    ⟨some 18, none, iCall 18 53 [(.tmp 16), (.tmp 17)]⟩,
    ⟨some 12, none, iMov 12 (.tmp 18) true⟩] [1, 2, 3, 4, 5, 10, 12] [5, 10]
def r6_Packet_r2 : IC := cReg Try.prog [
    ⟨some 19, none, iMov 19 (.tmp 2) false⟩,
    ⟨some 20, none, iBin 20 .lss (.tmp 19) (.const (.int .i64 0))⟩,
    ⟨some 21, none, iMov 21 (.tmp 20) false⟩,
    ⟨some 22, some (21, false), iMov 22 (.tmp 2) false⟩,
    ⟨some 23, some (21, false), iMov 23 (.tmp 12) false⟩,
    ⟨some 24, some (21, false), iLen 24 false (.tmp 23)⟩,
    ⟨some 25, some (21, false), iBin 25 .geq (.tmp 22) (.tmp 24)⟩,
    ⟨some 26, none, iPick 26 (.tmp 21) (.const (.bool true)) (.tmp 25)⟩] [1, 2, 3, 4, 5, 10, 12, 26] [5, 10]
def r6_Packet_r3 : IC := cReg Try.prog [
    ⟨some 27, none, iLoad 27 17 true (.tmp 5) false⟩,
    ⟨none, none, iStor 17 (.tmp 10) (.tmp 27)⟩,
    ⟨some 11, none, iMov 11 (.const (.int .i64 6)) true⟩] [10, 11] [10]
def r6_Packet_c1a : IC := (cSeq r6_Packet_r3 cRet)
def r6_Packet_c1 : IC := cCond (.tmp 26) r6_Packet_c1a cSkip
def r6_Packet_r4 : IC := cReg Try.prog [
    ⟨some 28, none, iMov 28 (.tmp 1) false⟩] [2, 3, 4, 5, 10, 12, 28] [5, 10]
def r6_Packet_r5 : IC := cReg Try.prog [
    ⟨some 30, none, iBin 30 .eql (.tmp 28) (.const (.int .i64 4))⟩,
    ⟨some 29, none, iMov 29 (.tmp 30) true⟩] [2, 3, 4, 5, 10, 12, 28, 29] [5, 10]
def r6_Packet_r6 : IC := cRegD Try.prog [
    ⟨some 31, none, iLoad 31 17 true (.tmp 5) false⟩,
    ⟨some 32, none, iMov 32 (.tmp 4) false⟩,
    ⟨some 33, none, iMov 33 (.tmp 12) false⟩,
    ⟨some 34, none, iMov 34 (.tmp 2) false⟩,
    ⟨some 35, none, iCall 35 55 [(.tmp 33), (.tmp 34)]⟩,
    ⟨some 36, none, iCall 36 54 [(.tmp 31), (.tmp 32), (.tmp 35)]⟩,
    ⟨none, none, iStor 17 (.tmp 10) (.tmp 36)⟩,
    ⟨some 11, none, iMov 11 (.const (.int .i64 0)) true⟩] [[], [], [], [], [2, 3], [0, 1, 4, 2, 3], [5, 0, 1, 2, 3, 4], [6, 0, 1, 2, 3, 4, 5]] [10, 11] [10]
def r6_Packet_r7 : IC := cReg Try.prog [
    ⟨some 38, none, iBin 38 .eql (.tmp 28) (.const (.int .i64 5))⟩,
    ⟨some 37, none, iMov 37 (.tmp 38) true⟩] [2, 3, 4, 5, 10, 12, 28, 37] [5, 10]
def r6_Packet_r8 : IC := cRegD Try.prog [
    ⟨some 39, none, iLoad 39 17 true (.tmp 5) false⟩,
    ⟨some 40, none, iMov 40 (.tmp 4) false⟩,
    ⟨some 41, none, iMov 41 (.tmp 12) false⟩,
    ⟨some 42, none, iMov 42 (.tmp 12) false⟩,
    ⟨some 43, none, iMov 43 (.tmp 2) false⟩,
    ⟨some 44, none, iIaS 44 1 (.tmp 42) (.tmp 43)⟩,
    ⟨some 45, none, iLoad 45 1 false (.tmp 44) false⟩,
    ⟨some 46, none, iCall 46 49 [(.tmp 41), (.tmp 45)]⟩,
    ⟨some 47, none, iCall 47 54 [(.tmp 39), (.tmp 40), (.tmp 46)]⟩,
    ⟨none, none, iStor 17 (.tmp 10) (.tmp 47)⟩,
    ⟨some 11, none, iMov 11 (.const (.int .i64 0)) true⟩] [[], [], [], [], [], [3, 4], [5, 3, 4], [2, 6, 5, 3, 4], [0, 1, 7, 2, 6, 5, 3, 4], [8, 0, 1, 2, 3, 4, 5, 6, 7], [9, 0, 1, 2, 3, 4, 5, 6, 7, 8]] [10, 11] [10]
def r6_Packet_r9 : IC := cReg Try.prog [
    ⟨some 49, none, iBin 49 .eql (.tmp 28) (.const (.int .i64 6))⟩,
    ⟨some 48, none, iMov 48 (.tmp 49) true⟩] [2, 3, 4, 5, 10, 12, 48] [5, 10]
def r6_Packet_r10 : IC := cReg Try.prog [
    ⟨some 50, none, iMov 50 (.tmp 3) false⟩,
    ⟨some 51, none, iBin 51 .lss (.tmp 50) (.const (.int .i64 0))⟩,
    ⟨some 52, none, iMov 52 (.tmp 51) false⟩,
    ⟨some 53, some (52, false), iMov 53 (.tmp 3) false⟩,
    ⟨some 54, some (52, false), iMov 54 (.tmp 12) false⟩,
    ⟨some 55, some (52, false), iMov 55 (.tmp 2) false⟩,
    ⟨some 56, some (52, false), iIaS 56 1 (.tmp 54) (.tmp 55)⟩,
    ⟨some 57, some (52, false), iLoad 57 1 false (.tmp 56) false⟩,
    ⟨some 58, some (52, false), iLen 58 false (.tmp 57)⟩,
    ⟨some 59, some (52, false), iBin 59 .geq (.tmp 53) (.tmp 58)⟩,
    ⟨some 60, none, iPick 60 (.tmp 52) (.const (.bool true)) (.tmp 59)⟩] [2, 3, 4, 5, 10, 12, 60] [5, 10]
def r6_Packet_r11 : IC := cReg Try.prog [
    ⟨some 61, none, iLoad 61 17 true (.tmp 5) false⟩,
    ⟨none, none, iStor 17 (.tmp 10) (.tmp 61)⟩,
    ⟨some 11, none, iMov 11 (.const (.int .i64 3)) true⟩] [10, 11] [10]
def r6_Packet_c6a : IC := (cSeq r6_Packet_r11 cRet)
def r6_Packet_c6 : IC := cCond (.tmp 60) r6_Packet_c6a cSkip
def r6_Packet_r12 : IC := cReg Try.prog [
    ⟨some 62, none, iRow 62 23 1 []⟩,
    ⟨some 63, none, iMov 63 (.tmp 12) false⟩,
    ⟨some 64, none, iApr 64 23 1 24 62 (.tmp 63)⟩,
    ⟨some 13, none, iMov 13 (.tmp 64) true⟩] [2, 3, 4, 5, 10, 12, 13] [5, 10, 100064]
def r6_Packet_r13 : IC := cReg Try.prog [
    ⟨some 65, none, iMov 65 (.tmp 13) false⟩,
    ⟨some 66, none, iMov 66 (.tmp 2) false⟩,
    ⟨some 67, none, iRow 67 5 1 []⟩,
    ⟨some 68, none, iMov 68 (.tmp 12) false⟩,
    ⟨some 69, none, iMov 69 (.tmp 2) false⟩,
    ⟨some 70, none, iIaS 70 1 (.tmp 68) (.tmp 69)⟩,
    ⟨some 71, none, iLoad 71 1 false (.tmp 70) false⟩,
    ⟨some 72, none, iApr 72 5 1 1 67 (.tmp 71)⟩,
    ⟨some 73, none, iIaS 73 1 (.tmp 65) (.tmp 66)⟩,
    ⟨none, none, iStor 1 (.tmp 73) (.tmp 72)⟩] [2, 3, 4, 5, 10, 13] [5, 10, 100072, 100064]
def r6_Packet_r14 : IC := cReg Try.prog [
    ⟨some 74, none, iMov 74 (.tmp 13) false⟩,
    ⟨some 75, none, iMov 75 (.tmp 2) false⟩,
    ⟨some 76, none, iIaS 76 1 (.tmp 74) (.tmp 75)⟩,
    ⟨some 77, none, iLoad 77 1 false (.tmp 76) false⟩,
    ⟨some 78, none, iMov 78 (.tmp 3) false⟩,
    ⟨some 79, none, iIaS 79 1 (.tmp 77) (.tmp 78)⟩,
    ⟨some 80, none, iLoad 80 1 false (.tmp 79) false⟩,
    ⟨some 81, none, iBin 81 .rem (.tmp 80) (.const (.int .u8 2))⟩,
    ⟨some 82, none, iBin 82 .eql (.tmp 81) (.const (.int .u8 0))⟩] [2, 3, 4, 5, 10, 13, 82] [5, 10, 100072, 100064]
def r6_Packet_r15 : IC := cReg Try.prog [
    ⟨some 83, none, iMov 83 (.tmp 13) false⟩,
    ⟨some 84, none, iMov 84 (.tmp 2) false⟩,
    ⟨some 85, none, iIaS 85 1 (.tmp 83) (.tmp 84)⟩,
    ⟨some 86, none, iLoad 86 1 false (.tmp 85) false⟩,
    ⟨some 87, none, iMov 87 (.tmp 3) false⟩,
    ⟨some 88, none, iIaS 88 1 (.tmp 86) (.tmp 87)⟩,
    ⟨some 89, none, iLoad 89 1 false (.tmp 88) false⟩,
    ⟨some 90, none, iBin 90 .add (.tmp 89) (.const (.int .u8 1))⟩,
    ⟨some 91, none, iIaS 91 1 (.tmp 86) (.tmp 87)⟩,
    ⟨none, none, iStor 1 (.tmp 91) (.tmp 90)⟩] [4, 5, 10, 13] [5, 10]
def r6_Packet_r16 : IC := cReg Try.prog [
    ⟨some 92, none, iMov 92 (.tmp 13) false⟩,
    ⟨some 93, none, iMov 93 (.tmp 2) false⟩,
    ⟨some 94, none, iIaS 94 1 (.tmp 92) (.tmp 93)⟩,
    ⟨some 95, none, iLoad 95 1 false (.tmp 94) false⟩,
    ⟨some 96, none, iMov 96 (.tmp 3) false⟩,
    ⟨some 97, none, iIaS 97 1 (.tmp 95) (.tmp 96)⟩,
    ⟨some 98, none, iLoad 98 1 false (.tmp 97) false⟩,
    ⟨some 99, none, iBin 99 .sub (.tmp 98) (.const (.int .u8 1))⟩,
    ⟨some 100, none, iIaS 100 1 (.tmp 95) (.tmp 96)⟩,
    ⟨none, none, iStor 1 (.tmp 100) (.tmp 99)⟩] [4, 5, 10, 13] [5, 10]
def r6_Packet_c7 : IC := cCond (.tmp 82) r6_Packet_r15 r6_Packet_r16
def r6_Packet_r17 : IC := cReg Try.prog [
    ⟨some 101, none, iLoad 101 17 true (.tmp 5) false⟩,
    ⟨some 102, none, iMov 102 (.tmp 4) false⟩,
    ⟨some 103, none, iMov 103 (.tmp 13) false⟩,
    ⟨some 104, none, iCall 104 54 [(.tmp 101), (.tmp 102), (.tmp 103)]⟩,
    ⟨none, none, iStor 17 (.tmp 10) (.tmp 104)⟩,
    ⟨some 11, none, iMov 11 (.const (.int .i64 0)) true⟩] [10, 11] [10]
def r6_Packet_c5a : IC := (cSeq (cSeq r6_Packet_r10 r6_Packet_c6) (cSeq r6_Packet_r12 (cSeq r6_Packet_r13 (cSeq (cSeq r6_Packet_r14 r6_Packet_c7) (cSeq r6_Packet_r17 cRet)))))
def r6_Packet_c5 : IC := cCond (.tmp 48) r6_Packet_c5a cSkip
def r6_Packet_c4a : IC := (cSeq r6_Packet_r8 cRet)
def r6_Packet_c4b : IC := (cSeq r6_Packet_r9 r6_Packet_c5)
def r6_Packet_c4 : IC := cCond (.tmp 37) r6_Packet_c4a r6_Packet_c4b
def r6_Packet_c3a : IC := (cSeq r6_Packet_r6 cRet)
def r6_Packet_c3b : IC := (cSeq r6_Packet_r7 r6_Packet_c4)
def r6_Packet_c3 : IC := cCond (.tmp 29) r6_Packet_c3a r6_Packet_c3b
def r6_Packet_b2 : IC := cBlock 0 (cSeq r6_Packet_r5 r6_Packet_c3)
def r6_Packet_r18 : IC := cRegD Try.prog [
    ⟨some 105, none, iLoad 105 17 true (.tmp 5) false⟩,
    ⟨some 106, none, iMov 106 (.tmp 4) false⟩,
    ⟨some 107, none, iMov 107 (.tmp 12) false⟩,
    ⟨some 108, none, iMov 108 (.tmp 2) false⟩,
    ⟨some 109, none, iCall 109 55 [(.tmp 107), (.tmp 108)]⟩,
    ⟨some 110, none, iCall 110 54 [(.tmp 105), (.tmp 106), (.tmp 109)]⟩,
    ⟨none, none, iStor 17 (.tmp 5) (.tmp 110)⟩] [[], [], [], [], [2, 3], [0, 1, 4, 2, 3], [5, 0, 1, 2, 3, 4]] [2, 4, 5, 10, 12] [5, 10]
def r6_Packet_r19 : IC := cReg Try.prog [
    ⟨some 112, none, iMov 112 (.tmp 12) false⟩,
    ⟨some 113, none, iMov 113 (.tmp 2) false⟩,
    ⟨some 114, none, iIaS 114 1 (.tmp 112) (.tmp 113)⟩,
    ⟨some 115, none, iLoad 115 1 false (.tmp 114) false⟩,
    ⟨some 116, none, iCall 116 56 [(.tmp 115)]⟩,
    ⟨some 111, none, iMov 111 (.tmp 116) false⟩,
    ⟨some 117, none, iExt 117 (.tmp 111) 0⟩,
    ⟨some 118, none, iExt 118 (.tmp 111) 1⟩,
    ⟨some 14, none, iAlo 14 [vD (.int .i64 0), vD (.int .i64 0), vD (.int .i64 0), vD (.int .i64 0), vD (.slice none 0 0), vD (.slice none 0 0)]⟩,
    ⟨none, none, iStor 6 (.tmp 14) (.tmp 117)⟩,
    ⟨some 15, none, iMov 15 (.tmp 118) true⟩] [4, 5, 10, 14, 15] [5, 10, 14]
def r6_Packet_r20 : IC := cReg Try.prog [
    ⟨some 119, none, iMov 119 (.tmp 15) false⟩,
    ⟨some 120, none, iBin 120 .eql (.tmp 119) (.const (.int .i64 0))⟩,
    ⟨some 121, none, iMov 121 (.tmp 120) false⟩,
    ⟨some 122, some (121, true), iMov 122 (.tmp 4) false⟩,
    ⟨some 123, none, iPick 123 (.tmp 121) (.tmp 122) (.const (.bool false))⟩] [4, 5, 10, 14, 15, 123] [5, 10, 14]
def r6_Packet_r21 : IC := cReg Try.prog [
    ⟨some 124, none, iFad 124 0 (.tmp 5)⟩,
    ⟨some 125, none, iLoad 125 7 true (.tmp 124) false⟩,
    ⟨some 126, none, iLoad 126 6 true (.tmp 14) false⟩,
    ⟨some 127, none, iCall 127 57 [(.tmp 125), (.tmp 126)]⟩,
    ⟨some 128, none, iFad 128 0 (.tmp 5)⟩,
    ⟨none, none, iStor 7 (.tmp 128) (.tmp 127)⟩] [4, 5, 10, 14, 15] [5, 10, 14]
def r6_Packet_c8 : IC := cCond (.tmp 123) r6_Packet_r21 cSkip
def r6_Packet_r22 : IC := cReg Try.prog [
    ⟨some 129, none, iMov 129 (.tmp 15) false⟩,
    ⟨some 130, none, iBin 130 .eql (.tmp 129) (.const (.int .i64 0))⟩,
    ⟨some 131, none, iMov 131 (.tmp 130) false⟩,
    ⟨some 132, some (131, true), iMov 132 (.tmp 4) false⟩,
    ⟨some 133, some (131, true), iNot 133 (.tmp 132)⟩,
    ⟨some 134, none, iPick 134 (.tmp 131) (.tmp 133) (.const (.bool false))⟩] [5, 10, 14, 134] [5, 10, 14]
def r6_Packet_r23 : IC := cReg Try.prog [
    ⟨some 135, none, iFad 135 7 (.tmp 5)⟩,
    ⟨some 136, none, iLoad 136 8 true (.tmp 135) false⟩,
    ⟨some 137, none, iLoad 137 6 true (.tmp 14) false⟩,
    ⟨some 138, none, iCall 138 58 [(.tmp 136), (.tmp 137)]⟩,
    ⟨some 139, none, iFad 139 7 (.tmp 5)⟩,
    ⟨none, none, iStor 8 (.tmp 139) (.tmp 138)⟩] [5, 10] [5, 10]
def r6_Packet_c9 : IC := cCond (.tmp 134) r6_Packet_r23 cSkip
def r6_Packet_r24 : IC := cReg Try.prog [
    ⟨some 140, none, iLoad 140 17 true (.tmp 5) false⟩,
    ⟨none, none, iStor 17 (.tmp 10) (.tmp 140)⟩,
    ⟨some 11, none, iMov 11 (.const (.int .i64 0)) true⟩] [10, 11] [10]
def r6_Packet : IC := (cSeq r6_Packet_r0 (cSeq r6_Packet_r1 (cSeq (cSeq r6_Packet_r2 r6_Packet_c1) (cSeq (cSeq r6_Packet_r4 r6_Packet_b2) (cSeq r6_Packet_r18 (cSeq r6_Packet_r19 (cSeq (cSeq r6_Packet_r20 r6_Packet_c8) (cSeq (cSeq r6_Packet_r22 r6_Packet_c9) (cSeq r6_Packet_r24 cRet)))))))))
theorem told_r6_Packet {args r : List D} (hl : args.length = 5) (h : r6_Packet (start args) (fin [(10, some (17, true)), (11, none)] r)) : Told Try.prog 34 args r :=
  told_of follows Try.func34 rfl (an := [([], [1, 2, 3, 4, 5, 10], [5, 10], []), ([], [1, 2, 3, 4, 5, 10, 12], [5, 10], []), ([], [1, 2, 3, 4, 5, 10, 12, 26], [5, 10], []), ([], [10, 11], [10], []), ([], [2, 3, 4, 5, 10, 12, 28], [5, 10], []), ([], [2, 3, 4, 5, 10, 12, 28, 29], [5, 10], []), ([], [10, 11], [10], []), ([], [2, 3, 4, 5, 10, 12, 28, 37], [5, 10], []), ([], [10, 11], [10], []), ([], [2, 3, 4, 5, 10, 12, 48], [5, 10], []), ([], [2, 3, 4, 5, 10, 12, 60], [5, 10], []), ([], [10, 11], [10], []), ([], [2, 3, 4, 5, 10, 12, 13], [5, 10, 100064], [64]), ([], [2, 3, 4, 5, 10, 13], [5, 10, 100072, 100064], [72]), ([], [2, 3, 4, 5, 10, 13, 82], [5, 10, 100072, 100064], []), ([], [4, 5, 10, 13], [5, 10], []), ([], [4, 5, 10, 13], [5, 10], []), ([], [10, 11], [10], []), ([], [2, 4, 5, 10, 12], [5, 10], []), ([], [4, 5, 10, 14, 15], [5, 10, 14], []), ([], [4, 5, 10, 14, 15, 123], [5, 10, 14], []), ([], [4, 5, 10, 14, 15], [5, 10, 14], []), ([], [5, 10, 14, 134], [5, 10, 14], []), ([], [5, 10], [5, 10], []), ([], [10, 11], [10], [])]) (by kernel_rfl) (by kernel_rfl) (by rw [hl]; decide +kernel) h

end Go.Proofs.Ytngfedhffehkaac.ab

/-
  What the answer's SendHear and SameSender tell.
-/
namespace Go.Proofs.Ytngfedhffehkaac.ab
set_option linter.unusedVariables false
set_option linter.unusedSimpArgs false
open Go Go.RowKit
open mth

/-- At the head of the inner loop. -/
def hIn (b2 : List D) (c x : Ch) (L F : List D) (e17 e18 : Int) (b : Bool) (i : Int) : St :=
  ⟨[(2, pD 2 0), (3, pD 3 0), (4, pD 4 0), (5, sD 6 L), (7, pD 7 0), (8, vB b), (16, sD 6 F), (17, vI e17), (18, vI e18), (28, sD 1 (c.early.map vI)), (29, vI c.early.length), (30, vI i)],
    [(2, b2), (3, [vI c.kind, vI c.number, vI c.stream, vI c.place, sD 1 (c.data.map encB), sD 1 (c.early.map vI)]), (4, [vD (.slice none 0 0), vI 0, vI 0, vI 0, vI 0, vD (.slice none 0 0), vI 0]), (7, [vI x.kind, vI x.number, vI x.stream, vI x.place, sD 1 (x.data.map encB), sD 1 (x.early.map vI)])], [((5, none), (86, 6, none))]⟩
def hOut (b2 : List D) (c x : Ch) (L F : List D) (e17 e18 : Int) (b : Bool) (i : Int) : St :=
  ⟨[(2, pD 2 0), (3, pD 3 0), (4, pD 4 0), (5, sD 6 L), (7, pD 7 0), (8, vB b), (16, sD 6 F), (17, vI e17), (18, vI e18), (28, sD 1 (c.early.map vI)), (29, vI c.early.length), (30, vI i), (31, vB false)],
    [(2, b2), (3, [vI c.kind, vI c.number, vI c.stream, vI c.place, sD 1 (c.data.map encB), sD 1 (c.early.map vI)]), (4, [vD (.slice none 0 0), vI 0, vI 0, vI 0, vI 0, vD (.slice none 0 0), vI 0]), (7, [vI x.kind, vI x.number, vI x.stream, vI x.place, sD 1 (x.data.map encB), sD 1 (x.early.map vI)])], [((5, none), (86, 6, none))]⟩
theorem take_has {l : List Int} {j : Nat} {y n : Int} (h : l[j]? = some y) : (l.take (j + 1)).contains n = ((l.take j).contains n || (y == n)) := by
  rw [List.take_add_one, h, Bool.eq_iff_iff]
  simp only [Option.toList_some, List.contains_iff_mem, List.mem_append, List.mem_singleton, Bool.or_eq_true, beq_iff_eq]
  constructor
  · rintro (h | h)
    · exact .inl h
    · exact .inr h.symm
  · rintro (h | h)
    · exact .inl h
    · exact .inr h.symm
set_option maxHeartbeats 2000000 in
theorem hear_in (b2 : List D) (c x : Ch) (L F : List D) (e17 e18 : Int) (b : Bool) (he : c.early.length ≤ 9223372036854775807) (Q : AX → St → Prop)
    (hQ : Q none (hOut b2 c x L F e17 e18 (b || c.early.contains x.number) c.early.length)) : r1_SendHear_b6 (hIn b2 c x L F e17 e18 b 0) Q := by
  refine aw_block ?_
  refine aw_loop (fun m st => ∃ j : Nat, j ≤ c.early.length ∧ m = c.early.length - j ∧ st = hIn b2 c x L F e17 e18 (b || (c.early.take j).contains x.number) j) c.early.length _ (Le.refl _) ⟨0, by omega, by omega, by simp⟩ ?_
  rintro m st ⟨j, hj, hm, rfl⟩
  by_cases hlt : j < c.early.length
  · obtain ⟨y, hy⟩ : ∃ m, c.early[j]? = some m := ⟨c.early[j], List.getElem?_eq_getElem hlt⟩
    have g1 : (j : Int) < (c.early.length : Int) := by omega
    have g2 : (0 : Int) ≤ (j : Int) := by omega
    have g3 := at_il hy
    have g4 : inR .i64 ((j : Int) + 1) = true := inR_of (by omega)
    have hc := take_has (n := x.number) hy
    have hnx : ∀ b', b' = ((b || (c.early.take j).contains x.number) || (y == x.number)) → Next (fun m st => ∃ j : Nat, j ≤ c.early.length ∧ m = c.early.length - j ∧ st = hIn b2 c x L F e17 e18 (b || (c.early.take j).contains x.number) j) m (hIn b2 c x L F e17 e18 b' ((j : Int) + 1)) := by
      rintro b' rfl
      exact ⟨c.early.length - (j + 1), _, by omega, Le.refl _, j + 1, by omega, rfl, by rw [hc, Bool.or_assoc, Int.natCast_add, Int.cast_ofNat_Int]⟩
    generalize (fun m st => ∃ j : Nat, j ≤ c.early.length ∧ m = c.early.length - j ∧ st = hIn b2 c x L F e17 e18 (b || (c.early.take j).contains x.number) j) = J at *
    generalize (b || (c.early.take j).contains x.number) = q at *
    simp only [hIn] at hnx ⊢
    cases q with
    | true =>
      refine wk (an4 @g1 @g2 @g3 @g4) ?_
      exact hnx _ rfl
    | false =>
      refine wk (an4 @g1 @g2 @g3 @g4) ?_
      exact hnx _ rfl
  · have hj' : j = c.early.length := by omega
    subst hj'
    have g1 : ¬ (c.early.length : Int) < (c.early.length : Int) := by omega
    rw [List.take_length]
    simp only [hIn, hOut] at hQ ⊢
    refine wk @g1 ?_
    exact hQ
/-- At the head of the outer loop. -/
def hSt (s : Sd) (c : Ch) (k : Nat) : St :=
  ⟨[(2, pD 2 0), (3, pD 3 0), (4, pD 4 0), (5, sD 6 (encCl ((s.flight.take k).filter fun x => !cameL c x.number))), (16, sD 6 (encCl s.flight)), (17, vI s.flight.length), (18, vI k)],
    [(2, [sD 2 (encMl s.queue), vI s.next, vI s.p0, vI s.p1, vI s.p2, sD 6 (encCl s.flight), vI s.turn]), (3, [vI c.kind, vI c.number, vI c.stream, vI c.place, sD 1 (c.data.map encB), sD 1 (c.early.map vI)]), (4, [vD (.slice none 0 0), vI 0, vI 0, vI 0, vI 0, vD (.slice none 0 0), vI 0])], [((5, none), (86, 6, none))]⟩
theorem filter_snoc {l : List Ch} {f : Ch → Bool} {k : Nat} {m : Ch} (h : l[k]? = some m) : (l.take (k + 1)).filter f = if f m = true then (l.take k).filter f ++ [m] else (l.take k).filter f := by
  rw [List.take_add_one, h]
  simp only [List.filter_append, Option.toList_some, List.filter_cons, List.filter_nil]
  split <;> simp
set_option maxHeartbeats 4000000 in
theorem hear_told (s : Sd) (c : Ch) (hf : s.flight.length ≤ 1048576) (he : c.early.length ≤ 9223372036854775807) : Told Try.prog 57 [aD (encSd s), aD (encCh c)] [aD (encSd (hearS s c))] := by
  refine told_r1_SendHear rfl ?_
  simp only [encSd, encCh]
  by_cases hk : c.kind = 2
  · have k1 : (c.kind != 2) = false := by simpa using hk
    rw [hearS, if_pos hk]
    refine wk (an2 @k1 @len_cl) ?_
    refine aw_loop (fun n st => ∃ k, k ≤ s.flight.length ∧ n = s.flight.length - k ∧ st = hSt s c k) s.flight.length (hSt s c 0) ((Le.nilS 5 86 6 rfl).trans (Le.keep (lv := [2, 3, 4, 5, 16, 17, 18]) (lb := [2, 3, 4]) (by simp only [ev0, ev1, ev2, look, lookF, cellsFrom, offT, offP, List.tail_nil, List.length_nil, Int.cast_ofNat_Int, Nat.reduceEqDiff, Nat.reduceAdd, Nat.reduceMul, Nat.reduceLeDiff, Nat.reduceLT, ↓reduceIte, reduceCtorEq, Int.reduceBEq, Int.reduceBNe, Int.reduceLT, Int.reduceLE, Int.reduceToNat]; rfl))) ⟨0, by omega, by omega, rfl⟩ ?_
    rintro n st ⟨k, hk', hn, rfl⟩
    by_cases hlt : k < s.flight.length
    · obtain ⟨x, hx⟩ : ∃ m, s.flight[k]? = some m := ⟨s.flight[k], List.getElem?_eq_getElem hlt⟩
      have g1 : (k : Int) < (s.flight.length : Int) := by omega
      have g2 : (0 : Int) ≤ (k : Int) := by omega
      have g3 := at_cl hx
      have g4 : inR .i64 ((k : Int) + 1) = true := inR_of (by omega)
      have hsn := filter_snoc (f := fun x => !cameL c x.number) hx
      have hlen : ((s.flight.take k).filter fun x => !cameL c x.number).length ≤ k := Nat.le_trans (List.length_filter_le _ _) (by rw [List.length_take]; omega)
      have hb1 : (((s.flight.take k).filter fun x => !cameL c x.number).length + 1) * 80 ≤ 140737488355328 := by omega
      have hnx : ∀ L, L = (s.flight.take (k + 1)).filter (fun x => !cameL c x.number) → Next (fun n st => ∃ k, k ≤ s.flight.length ∧ n = s.flight.length - k ∧ st = hSt s c k) n
          ⟨[(2, pD 2 0), (3, pD 3 0), (4, pD 4 0), (5, sD 6 (encCl L)), (16, sD 6 (encCl s.flight)), (17, vI s.flight.length), (18, vI ((k : Int) + 1))],
            [(2, [sD 2 (encMl s.queue), vI s.next, vI s.p0, vI s.p1, vI s.p2, sD 6 (encCl s.flight), vI s.turn]), (3, [vI c.kind, vI c.number, vI c.stream, vI c.place, sD 1 (c.data.map encB), sD 1 (c.early.map vI)]), (4, [vD (.slice none 0 0), vI 0, vI 0, vI 0, vI 0, vD (.slice none 0 0), vI 0])], [((5, none), (86, 6, none))]⟩ := by
        rintro L rfl
        exact ⟨s.flight.length - (k + 1), _, by omega, Le.refl _, k + 1, by omega, rfl, by simp only [hSt, Int.natCast_add, Int.cast_ofNat_Int]⟩
      generalize (fun n st => ∃ k, k ≤ s.flight.length ∧ n = s.flight.length - k ∧ st = hSt s c k) = J at *
      simp only [hSt]
      generalize ((s.flight.take k).filter fun x => !cameL c x.number) = G at *
      refine wk (an4 @g1 @g2 @g3 @zmap) ?_
      refine hear_in _ c x _ _ _ _ (decide (x.number < c.number)) he _ ?_
      refine thn_normal ?_
      cases hc : cameL c x.number with
      | true =>
        have hc' : (decide (x.number < c.number) || c.early.contains x.number) = true := hc
        rw [hc']
        simp only [hOut]
        refine wk @g4 ?_
        refine hnx G ?_
        rw [hsn, hc]; rfl
      | false =>
        have hc' : (decide (x.number < c.number) || c.early.contains x.number) = false := hc
        rw [hc']
        simp only [hOut]
        refine wk (an3 @g4 @hb1 @len_cl) ?_
        rw [← cl_snoc]
        refine hnx (G ++ [x]) ?_
        rw [hsn, hc]; rfl
    · have hk'' : k = s.flight.length := by omega
      subst hk''
      have g1 : ¬ (s.flight.length : Int) < (s.flight.length : Int) := by omega
      simp only [hSt, List.take_length]
      refine wk @g1 ?_
      exact ValsLe.refl _
  · have k1 : (c.kind != 2) = true := by simpa using hk
    rw [hearS, if_neg hk]
    refine wk @k1 ?_
    exact ValsLe.refl _
set_option maxHeartbeats 2000000 in
theorem sameSd_told (s : Sd) (hq : s.queue.length ≤ 1048576) (hf : s.flight.length ≤ 1048576) (he : ∀ c ∈ s.flight, c.early.length ≤ 9223372036854775807) : Told Try.prog 26 [aD (encSd s), aD (encSd s)] [vB true] := by
  refine told_r1_SameSender rfl ?_
  have h1 := sameMsgs_told s.queue s.queue hq
  have h2 := sameAll_told s.flight s.flight hf he
  rw [sameL_refl] at h1
  rw [sameCs_refl] at h2
  simp only [encSd]
  refine wk @zbeq ?_
  refine cg [[vB true]] @zbeq ?_ ?_
  · exact obl_cons h1 obl_nil
  refine wk (an2 @zbeq @Bool.and_self) ?_
  refine cg [[vB true]] @zbeq ?_ ?_
  · exact obl_cons h2 obl_nil
  refine wk @zbeq ?_
  exact ValsLe.refl _
end Go.Proofs.Ytngfedhffehkaac.ab

/-
  What the answer's Packet tells: what is lost, what comes twice, what comes, and what there is not.
-/
namespace Go.Proofs.Ytngfedhffehkaac.ab
set_option linter.unusedVariables false
set_option linter.unusedSimpArgs false
open Go Go.RowKit
open mth

set_option maxHeartbeats 4000000 in
theorem packet_none (l : Ln) (kind n at' : Int) (back : Bool) (h : n < 0 ∨ (wayP l back).length ≤ n) : Told Try.prog 34 [aD (encLn l), vI kind, vI n, vI at', vB back] [aD (encLn l), vI 6] := by
  refine told_r6_Packet rfl ?_
  have h1 := wayP_told l back
  generalize wayP l back = p at *
  by_cases hn : n < 0
  · simp only [encLn] at h1 ⊢
    refine wk0 ?_
    refine cg0 [[sD 1 (encPk p)]] ?_ ?_
    · exact obl_cons h1 obl_nil
    refine wk (an2 @hn @len_pk) ?_
    exact ValsLe.refl _
  · have g1 : (p.length : Int) ≤ n := by omega
    simp only [encLn] at h1 ⊢
    refine wk0 ?_
    refine cg0 [[sD 1 (encPk p)]] ?_ ?_
    · exact obl_cons h1 obl_nil
    refine wk (an3 @hn @g1 @len_pk) ?_
    exact ValsLe.refl _
set_option maxHeartbeats 4000000 in
theorem packet_lose (l : Ln) (n : Nat) (at' : Int) (back : Bool) (h : n < (wayP l back).length) (hp : (wayP l back).length ≤ 1048576) : Told Try.prog 34 [aD (encLn l), vI 4, vI n, vI at', vB back] [aD (encLn (withP l back (cutP (wayP l back) n))), vI 0] := by
  refine told_r6_Packet rfl ?_
  have h1 := wayP_told l back
  have h2 := without_told (wayP l back) n h hp
  have h3 := withP_told l back (cutP (wayP l back) n)
  generalize wayP l back = p at *
  generalize withP l back (cutP p n) = l' at *
  generalize cutP p n = q at *
  have g0 : ¬ (n : Int) < 0 := by omega
  have g1 : ¬ (p.length : Int) ≤ (n : Int) := by omega
  simp only [encLn] at h1 h3 ⊢
  refine wk0 ?_
  refine cg0 [[sD 1 (encPk p)]] ?_ ?_
  · exact obl_cons h1 obl_nil
  refine wk (an3 @g0 @g1 @len_pk) ?_
  refine cd [[sD 1 (encPk q)], [aD (encLn l')]] @encLn.eq_1 ?_ ?_
  · exact obl_cons h2 (obl_cons h3 obl_nil)
  refine wk0 ?_
  exact ValsLe.refl _
set_option maxHeartbeats 4000000 in
theorem packet_twice (l : Ln) (n : Nat) (at' : Int) (back : Bool) (x : List UInt8) (hx : (wayP l back)[n]? = some x) : Told Try.prog 34 [aD (encLn l), vI 5, vI n, vI at', vB back] [aD (encLn (withP l back (joinP (wayP l back) x))), vI 0] := by
  refine told_r6_Packet rfl ?_
  have h1 := wayP_told l back
  have h2 := putP_told (wayP l back) x
  have h3 := withP_told l back (joinP (wayP l back) x)
  have hlt : n < (wayP l back).length := (List.getElem?_eq_some_iff.1 hx).1
  generalize wayP l back = p at *
  generalize withP l back (joinP p x) = l' at *
  generalize joinP p x = q at *
  have g0 : ¬ (n : Int) < 0 := by omega
  have g1 : ¬ (p.length : Int) ≤ (n : Int) := by omega
  have g2 : (0 : Int) ≤ (n : Int) := by omega
  have g3 : (n : Int) < (p.length : Int) := by omega
  have g4 := at_pk hx
  simp only [encLn] at h1 h3 ⊢
  refine wk0 ?_
  refine cg0 [[sD 1 (encPk p)]] ?_ ?_
  · exact obl_cons h1 obl_nil
  refine wk (an7 @g0 @g1 @g2 @g3 @g4 @len_pk @Int.toNat_natCast) ?_
  refine cd [[sD 1 (encPk q)], [aD (encLn l')]] (an8 @encLn.eq_1 @g0 @g1 @g2 @g3 @g4 @len_pk @Int.toNat_natCast) ?_ ?_
  · exact obl_cons h2 (obl_cons h3 obl_nil)
  refine wk0 ?_
  exact ValsLe.refl _
set_option maxHeartbeats 8000000 in
theorem packet_come (l : Ln) (hg : GoodL l) (n : Nat) (at' : Int) (back : Bool) (x : List UInt8) (hx : (wayP l back)[n]? = some x) : Told Try.prog 34 [aD (encLn l), vI 3, vI n, vI at', vB back] [aD (encLn (comeL l n back)), vI 0] := by
  refine told_r6_Packet rfl ?_
  obtain ⟨w1, w2⟩ := hg.way back
  have hlt : n < (wayP l back).length := (List.getElem?_eq_some_iff.1 hx).1
  have hxl := w2 x (List.mem_of_getElem? hx)
  have h1 := wayP_told l back
  have h2 := without_told (wayP l back) n hlt (by omega)
  have h3 := withP_told l back (cutP (wayP l back) n)
  have h4 := refRead_told x (by omega)
  obtain ⟨k1, k2⟩ := cutP_ok n w1 w2
  have hg' := hg.with back k1 k2
  have hr := readC_right (xs := x)
  have e0 : (wayP l back).getD n [] = x := by rw [List.getD_eq_getElem?_getD, hx]; rfl
  unfold comeL
  simp only [e0]
  have g0 : ¬ (n : Int) < 0 := by omega
  have g1 : ¬ ((wayP l back).length : Int) ≤ (n : Int) := by omega
  have g2 : (0 : Int) ≤ (n : Int) := by omega
  have g3 : (n : Int) < ((wayP l back).length : Int) := by omega
  have g4 := at_pk hx
  generalize wayP l back = p at *
  generalize withP l back (cutP p n) = l' at *
  generalize cutP p n = q at *
  by_cases hE : readE x = 0
  · have e1 : (readE x == 0) = true := by simpa using hE
    have hc := hr hE
    rw [if_pos hE]
    have hec : (readC x).early.length ≤ 9223372036854775807 := by
      rcases right_cases _ hc with ⟨_, _, _, _, _, q⟩ | ⟨_, _, _, _, _, q, _⟩
      · rw [q]; simp
      · omega
    have h5 := hear_told l'.s (readC x) (by have := hg'.s.f; omega) hec
    have h6 := recvHear_told hg'.r hc
    generalize readC x = c at *
    generalize readE x = e at *
    subst hE
    cases back with
    | true =>
      rw [if_pos rfl]
      generalize hearS l'.s c = s' at *
      simp only [encLn, encSd, encRv, encCh] at h1 h3 h4 h5 ⊢
      refine wk0 ?_
      refine cg0 [[sD 1 (encPk p)]] ?_ ?_
      · exact obl_cons h1 obl_nil
      refine wk (an3 @g0 @g1 @len_pk) ?_
      refine cd [[sD 1 (encPk q)], [aD (encLn l')]] @encLn.eq_1 ?_ ?_
      · exact obl_cons h2 (obl_cons h3 obl_nil)
      refine wk (an7 @g0 @g1 @g2 @g3 @g4 @len_pk @Int.toNat_natCast) ?_
      refine cg [[aD (encCh c), vI 0]] (an8 @encCh.eq_1 @g0 @g1 @g2 @g3 @g4 @len_pk @Int.toNat_natCast) ?_ ?_
      · exact obl_cons h4 obl_nil
      refine wk Bool.not_true ?_
      refine cg [[aD (encSd s')]] @encSd.eq_1 ?_ ?_
      · exact obl_cons h5 obl_nil
      refine wk Bool.not_true ?_
      exact ValsLe.refl _
    | false =>
      rw [if_neg (by simp)]
      generalize hearR l'.r c = r' at *
      simp only [encLn, encSd, encRv, encCh] at h1 h3 h4 h6 ⊢
      refine wk0 ?_
      refine cg0 [[sD 1 (encPk p)]] ?_ ?_
      · exact obl_cons h1 obl_nil
      refine wk (an3 @g0 @g1 @len_pk) ?_
      refine cd [[sD 1 (encPk q)], [aD (encLn l')]] @encLn.eq_1 ?_ ?_
      · exact obl_cons h2 (obl_cons h3 obl_nil)
      refine wk (an7 @g0 @g1 @g2 @g3 @g4 @len_pk @Int.toNat_natCast) ?_
      refine cg [[aD (encCh c), vI 0]] (an8 @encCh.eq_1 @g0 @g1 @g2 @g3 @g4 @len_pk @Int.toNat_natCast) ?_ ?_
      · exact obl_cons h4 obl_nil
      refine wk Bool.not_false ?_
      refine cg [[aD (encRv r')]] @encRv.eq_1 ?_ ?_
      · exact obl_cons h6 obl_nil
      refine wk0 ?_
      exact ValsLe.refl _
  · have e1 : (readE x == 0) = false := by simpa using hE
    rw [if_neg hE]
    generalize readC x = c at *
    generalize readE x = e at *
    simp only [encLn, encCh] at h1 h3 h4 ⊢
    refine wk0 ?_
    refine cg0 [[sD 1 (encPk p)]] ?_ ?_
    · exact obl_cons h1 obl_nil
    refine wk (an3 @g0 @g1 @len_pk) ?_
    refine cd [[sD 1 (encPk q)], [aD (encLn l')]] @encLn.eq_1 ?_ ?_
    · exact obl_cons h2 (obl_cons h3 obl_nil)
    refine wk (an7 @g0 @g1 @g2 @g3 @g4 @len_pk @Int.toNat_natCast) ?_
    refine cg [[aD (encCh c), vI e]] (an8 @encCh.eq_1 @g0 @g1 @g2 @g3 @g4 @len_pk @Int.toNat_natCast) ?_ ?_
    · exact obl_cons h4 obl_nil
    refine wk @e1 ?_
    exact ValsLe.refl _
set_option maxHeartbeats 4000000 in
theorem packet_range (l : Ln) (n : Nat) (k : Int) (back : Bool) (x : List UInt8) (hx : (wayP l back)[n]? = some x) (hk : k < 0 ∨ (x.length : Int) ≤ k) : Told Try.prog 34 [aD (encLn l), vI 6, vI n, vI k, vB back] [aD (encLn l), vI 3] := by
  refine told_r6_Packet rfl ?_
  have h1 := wayP_told l back
  have hlt : n < (wayP l back).length := (List.getElem?_eq_some_iff.1 hx).1
  generalize wayP l back = p at *
  have g0 : ¬ (n : Int) < 0 := by omega
  have g1 : ¬ (p.length : Int) ≤ (n : Int) := by omega
  have g2 : (0 : Int) ≤ (n : Int) := by omega
  have g3 : (n : Int) < (p.length : Int) := by omega
  have g4 := at_pk hx
  by_cases hk0 : k < 0
  · simp only [encLn] at h1 ⊢
    refine wk0 ?_
    refine cg0 [[sD 1 (encPk p)]] ?_ ?_
    · exact obl_cons h1 obl_nil
    refine wk (an4 @g0 @g1 @len_pk @hk0) ?_
    exact ValsLe.refl _
  · have g5 : (x.length : Int) ≤ k := by omega
    simp only [encLn] at h1 ⊢
    refine wk0 ?_
    refine cg0 [[sD 1 (encPk p)]] ?_ ?_
    · exact obl_cons h1 obl_nil
    refine wk (an10 @g0 @g1 @g2 @g3 @g4 @g5 @len_pk @hk0 @zmap @Int.toNat_natCast) ?_
    exact ValsLe.refl _
/-- What is spoilt (not yet proved of the answer: a row of one's own in a row of one's own). -/
def CSpoilR (f : Nat) : Prop := ∀ (l : Ln) (n k : Nat) (back : Bool) (x : List UInt8), GoodL l → (wayP l back)[n]? = some x → k < x.length → Told Try.prog f [aD (encLn l), vI 6, vI n, vI k, vB back] [aD (encLn (withP l back (spoilP (wayP l back) n k))), vI 0]
theorem packet_told (hS : CSpoilR 34) (l : Ln) (hg : GoodL l) (kind n k : Int) (hk : 3 ≤ kind ∧ kind ≤ 6) (back : Bool) : Told Try.prog 34 [aD (encLn l), vI kind, vI n, vI k, vB back] [aD (encLn (packetL l kind n k back).1), vI (packetL l kind n k back).2] := by
  unfold packetL
  by_cases hn : n < 0 ∨ ((wayP l back).length : Int) ≤ n
  · rw [if_pos hn]
    exact packet_none l kind n k back hn
  rw [if_neg hn]
  obtain ⟨m, rfl⟩ : ∃ m : Nat, n = m := ⟨n.toNat, by omega⟩
  have hlt : m < (wayP l back).length := by omega
  obtain ⟨x, hx⟩ : ∃ x, (wayP l back)[m]? = some x := ⟨_, List.getElem?_eq_getElem hlt⟩
  have e0 : (wayP l back).getD m [] = x := by rw [List.getD_eq_getElem?_getD, hx]; rfl
  have hw := (hg.way back).1
  simp only [Int.toNat_natCast, e0]
  by_cases h4 : kind = 4
  · rw [if_pos h4, h4]
    exact packet_lose l m k back hlt (by omega)
  rw [if_neg h4]
  by_cases h5 : kind = 5
  · rw [if_pos h5, h5]
    exact packet_twice l m k back x hx
  rw [if_neg h5]
  by_cases h6 : kind = 6
  · rw [if_pos h6, h6]
    by_cases hk : k < 0 ∨ (x.length : Int) ≤ k
    · rw [if_pos hk]
      exact packet_range l m k back x hx hk
    · rw [if_neg hk]
      obtain ⟨j, rfl⟩ : ∃ j : Nat, k = j := ⟨k.toNat, by omega⟩
      exact hS l m j back x hg hx (by omega)
  · rw [if_neg h6, show kind = 3 by omega]
    exact packet_come l hg m k back x hx
end Go.Proofs.Ytngfedhffehkaac.ab
