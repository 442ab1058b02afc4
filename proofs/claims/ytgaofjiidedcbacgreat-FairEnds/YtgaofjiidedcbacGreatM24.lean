import Derived.Test.YtgaofjiidedcbacGreatM20
import Derived.Test.YtgaofjiidedcbacGreatProg
set_option linter.unusedVariables false
set_option linter.unusedSimpArgs false
namespace Go.Proofs.YtgaofjiidedcbacGreat.ab
set_option maxRecDepth 100000
open Go Go.RowKit
def Q46r0 : IC:=cReg Tryz.prog [⟨some 2,none,iMov 2 (.const (.int .i64 0)) true⟩] [0] []
def Q46r1 : IC:=cReg Tryz.prog [⟨some 3,none,iMov 3 (.const (.int .i64 7)) true⟩] [0,3] []
def Q46r2 : IC:=cReg Tryz.prog [xM 5 0,xN 6 5,⟨some 7,none,iMov 7 (.const (.int .i64 0)) false⟩] [0,3,6,7] []
def Q46r3 : IC:=cReg Tryz.prog [xB 8 .lss 7 6] [0,3,6,7,8] []
def Q46c3 : IC:=cCond (.tmp 8) cSkip (cExit 0)
def Q46r4 : IC:=cReg Tryz.prog [xM 9 7,xT 4 9] [0,3,4,6,7] []
def Q46r5 : IC:=cReg Tryz.prog [xM 10 3,⟨some 11,none,iBin 11 .mul (.const (.int .i64 139)) (.tmp 10)⟩,xM 12 0,xM 13 4,xI 14 1 12 13,xL 15 1 14,⟨some 16,none,iCvi 16 .i64 (.tmp 15)⟩,xB 17 .add 11 16,xC 18 .add 17 1,xC 19 .rem 18 65521,xT 3 19] [0,3,6,7] []
def Q46b4 : IC:=cBlock 1 (cSeq Q46r4 Q46r5)
def Q46r6 : IC:=cReg Tryz.prog [xC 20 .add 7 1,xM 7 20] [0,3,6,7] []
def Q46l2a : IC:=(cSeq Q46r3 (cSeq Q46c3 (cSeq Q46b4 Q46r6)))
def Q46l2 : IC:=cLoop Q46l2a
def Q46b1 : IC:=cBlock 0 Q46l2
def Q46r7 : IC:=cReg Tryz.prog [xM 21 3,xT 2 21] [2] []
def r1_Sum : IC:=(cSeq Q46r0 (cSeq Q46r1 (cSeq (cSeq Q46r2 Q46b1) (cSeq Q46r7 cRet))))
theorem told_r1_Sum {args r : List D} (hl : args.length = 1) (h : r1_Sum (start args) (fin [(2,none)] r)) : Told Tryz.prog 97 args r :=
 told_of follows Tryz.func97 rfl (an:=[([],[0],[],[]),([],[0,3],[],[]),([],[0,3,6,7],[],[]),([],[0,3,6,7,8],[],[]),([],[0,3,4,6,7],[],[]),([],[0,3,6,7],[],[]),([],[0,3,6,7],[],[]),([],[2],[],[])]) (by kernel_rfl) (by kernel_rfl) (by rw [hl]; decide +kernel) h
def Q43r0 : IC:=cReg Tryz.prog [⟨some 2,none,iMov 2 (.const (.slice none 0 0)) true⟩] [0] []
def Q43r1 : IC:=cReg Tryz.prog [xM 4 0,xV1 5 97 4,xT 3 5] [0,3] []
def Q43r2 : IC:=cReg Tryz.prog [⟨some 6,none,iRow 6 5 1 []⟩,xM 7 0,xW 8 5 1 1 6 7,xM 9 3,xC 10 .quo 9 256,⟨some 11,none,iCvi 11 .u8 (.tmp 10)⟩,xM 12 3,xC 13 .rem 12 256,⟨some 14,none,iCvi 14 .u8 (.tmp 13)⟩,⟨some 15,none,iRow 15 5 1 [(.tmp 11),(.tmp 14)]⟩,xW 16 5 1 1 8 15,xT 2 16] [2] []
def r1_Seal : IC:=(cSeq Q43r0 (cSeq Q43r1 (cSeq Q43r2 cRet)))
theorem told_r1_Seal {args r : List D} (hl : args.length = 1) (h : r1_Seal (start args) (fin [(2,none)] r)) : Told Tryz.prog 77 args r :=
 told_of follows Tryz.func77 rfl (an:=[([],[0],[],[]),([],[0,3],[],[]),([],[2],[],[])]) (by kernel_rfl) (by kernel_rfl) (by rw [hl]; decide +kernel) h
def Q35r0 : IC:=cReg Tryz.prog [⟨some 2,none,iMov 2 (.const (.slice none 0 0)) true⟩,⟨some 3,none,iMov 3 (.const (.bool false)) true⟩] [0] []
def Q35r1 : IC:=cReg Tryz.prog [xM 5 0,xN 6 5,xC 7 .lss 6 2] [0,7] []
def Q35r2 : IC:=cReg Tryz.prog [⟨some 2,none,iMov 2 (.const (.slice none 0 0)) true⟩,⟨some 3,none,iMov 3 (.const (.bool false)) true⟩] [2,3] []
def Q35c1a : IC:=(cSeq Q35r2 cRet)
def Q35c1 : IC:=cCond (.tmp 7) Q35c1a cSkip
def Q35r3 : IC:=cReg Tryz.prog [xM 8 0,xM 9 0,xN 10 9,xC 11 .sub 10 2,⟨some 12,none,iSlc 12 1 (.tmp 8) none (some (.tmp 11))⟩,xT 4 12] [0,4] []
def Q35r4 : IC:=cRegD Tryz.prog [xM 13 4,xV1 14 77 13,⟨some 15,none,iStr 15 (.tmp 14)⟩,xM 16 0,⟨some 17,none,iStr 17 (.tmp 16)⟩,xB 18 .neq 15 17] [[],[0],[1,0],[],[3],[2,4,1,0,3]] [4,18] []
def Q35r5 : IC:=cReg Tryz.prog [⟨some 2,none,iMov 2 (.const (.slice none 0 0)) true⟩,⟨some 3,none,iMov 3 (.const (.bool false)) true⟩] [2,3] []
def Q35c2a : IC:=(cSeq Q35r5 cRet)
def Q35c2 : IC:=cCond (.tmp 18) Q35c2a cSkip
def Q35r6 : IC:=cReg Tryz.prog [xM 19 4,xT 2 19,⟨some 3,none,iMov 3 (.const (.bool true)) true⟩] [2,3] []
def r1_Open : IC:=(cSeq Q35r0 (cSeq (cSeq Q35r1 Q35c1) (cSeq Q35r3 (cSeq (cSeq Q35r4 Q35c2) (cSeq Q35r6 cRet)))))
theorem told_r1_Open {args r : List D} (hl : args.length = 1) (h : r1_Open (start args) (fin [(2,none),(3,none)] r)) : Told Tryz.prog 79 args r :=
 told_of follows Tryz.func79 rfl (an:=[([],[0],[],[]),([],[0,7],[],[]),([],[2,3],[],[]),([],[0,4],[],[]),([],[4,18],[],[]),([],[2,3],[],[]),([],[2,3],[],[])]) (by kernel_rfl) (by kernel_rfl) (by rw [hl]; decide +kernel) h
def Q32r0 : IC:=cReg Tryz.prog [xX 1 0,⟨some 2,none,iMov 2 (.const (.slice none 0 0)) true⟩] [1] [1]
def Q32r1 : IC:=cReg Tryz.prog [xF 6 0 1,xL 7 1 6,⟨some 8,none,iCvi 8 .u8 (.tmp 7)⟩,xF 9 1 1,xL 10 1 9,⟨some 11,none,iCvi 11 .u8 (.tmp 10)⟩,⟨some 12,none,iRow 12 5 1 [(.tmp 8),(.tmp 11)]⟩,⟨some 13,none,iStr 13 (.tmp 12)⟩,xT 3 13] [1,3] [1]
def Q32r2 : IC:=cReg Tryz.prog [xF 14 0 1,xL 15 1 14,xC 16 .eql 15 1] [1,3,16] [1]
def Q32r3_0 : IC:=cReg Tryz.prog [xM 17 3,xF 18 2 1,xL 19 1 18,⟨some 20,none,iCvi 20 .u8 (.tmp 19)⟩,xF 21 3 1,xL 22 1 21,⟨some 23,none,iCvi 23 .u8 (.tmp 22)⟩,⟨some 24,none,iRow 24 5 1 [(.tmp 20),(.tmp 23)]⟩,⟨some 25,none,iStr 25 (.tmp 24)⟩,xB 26 .add 17 25] [1,26] [1]
def Q32r3_1 : IC:=cReg Tryz.prog [xF 27 4 1,xL 28 1 27,⟨some 29,none,iStr 29 (.tmp 28)⟩,xB 30 .add 26 29,xT 3 30] [1,3] [1]
def Q32r3 : IC:=(cSeq Q32r3_0 Q32r3_1)
def Q32c1 : IC:=cCond (.tmp 16) Q32r3 cSkip
def Q32r4 : IC:=cReg Tryz.prog [xF 31 5 1,xL 32 1 31,xN 33 32,⟨some 34,none,iMov 34 (.const (.int .i64 0)) false⟩] [3,32,33,34] []
def Q32r5 : IC:=cReg Tryz.prog [xB 35 .lss 34 33] [3,32,33,34,35] []
def Q32c4 : IC:=cCond (.tmp 35) cSkip (cExit 0)
def Q32r6 : IC:=cReg Tryz.prog [xI 36 1 32 34,xL 37 1 36,xT 5 37] [3,5,32,33,34] []
def Q32r7 : IC:=cReg Tryz.prog [xM 38 3,xM 39 5,⟨some 40,none,iCvi 40 .u8 (.tmp 39)⟩,xR 41 5 1 40,⟨some 42,none,iStr 42 (.tmp 41)⟩,xB 43 .add 38 42,xT 3 43] [3,32,33,34] []
def Q32b5 : IC:=cBlock 1 (cSeq Q32r6 Q32r7)
def Q32r8 : IC:=cReg Tryz.prog [xC 44 .add 34 1,xM 34 44] [3,32,33,34] []
def Q32l3a : IC:=(cSeq Q32r5 (cSeq Q32c4 (cSeq Q32b5 Q32r8)))
def Q32l3 : IC:=cLoop Q32l3a
def Q32b2 : IC:=cBlock 0 Q32l3
def Q32r9 : IC:=cReg Tryz.prog [xM 45 3,⟨some 46,none,iBts 46 (.tmp 45)⟩,xV1 47 77 46,xT 2 47] [2] []
def r1_Bytes : IC:=(cSeq Q32r0 (cSeq Q32r1 (cSeq (cSeq Q32r2 Q32c1) (cSeq (cSeq Q32r4 Q32b2) (cSeq Q32r9 cRet)))))
theorem told_r1_Bytes {args r : List D} (hl : args.length = 1) (h : r1_Bytes (start args) (fin [(2,none)] r)) : Told Tryz.prog 50 args r :=
 told_of follows Tryz.func50 rfl (an:=[([],[1],[1],[]),([],[1,3],[1],[]),([],[1,3,16],[1],[]),([(10,[1,26],[1])],[1,3],[1],[]),([],[3,32,33,34],[],[]),([],[3,32,33,34,35],[],[]),([],[3,5,32,33,34],[],[]),([],[3,32,33,34],[],[]),([],[3,32,33,34],[],[]),([],[2],[],[])]) (by kernel_rfl) (by kernel_rfl) (by rw [hl]; decide +kernel) h
def Q38r0 : IC:=cReg Tryz.prog [⟨some 2,none,iAlo 2 [zI,zI,zI,zI,zS,zS]⟩,⟨some 3,none,iMov 3 (.const (.int .i64 0)) true⟩] [0,2] [2]
def Q38r1 : IC:=cReg Tryz.prog [⟨some 4,none,iBld 4 [zI,zI,zI,zI,zS,zS] [] []⟩,xM 5 0,xS 6 2 4,xT 3 5] [2,3] [2]
def r1_ReadNo : IC:=(cSeq Q38r0 (cSeq Q38r1 cRet))
theorem told_r1_ReadNo {args r : List D} (hl : args.length = 1) (h : r1_ReadNo (start args) (fin [(2,some (6,true)),(3,none)] r)) : Told Tryz.prog 78 args r :=
 told_of follows Tryz.func78 rfl (an:=[([],[0,2],[2],[]),([],[2,3],[2],[])]) (by kernel_rfl) (by kernel_rfl) (by rw [hl]; decide +kernel) h
def Q37r0 : IC:=cReg Tryz.prog [⟨some 2,none,iAlo 2 [zI,zI,zI,zI,zS,zS]⟩,⟨some 3,none,iMov 3 (.const (.int .i64 0)) true⟩] [0,2] [2]
def Q37r1 : IC:=cReg Tryz.prog [⟨some 4,none,iMov 4 (.func 78) true⟩] [0,2,4] [2]
def Q37r2 : IC:=cReg Tryz.prog [xM 11 0,xV1 12 79 11,xM 10 12,xE 13 10 0,xE 14 10 1,xT 5 13,xT 6 14] [2,4,5,6] [2]
def Q37r3 : IC:=cReg Tryz.prog [xM 15 6,xO 16 15] [2,4,5,16] [2]
def Q37r4 : IC:=cReg Tryz.prog [xM 17 4,⟨some 18,none,iCallV 18 Tryz.prog 17 [(.const (.int .i64 7))]⟩,xE 19 18 0,xE 20 18 1,xS 6 2 19,xT 3 20] [2,3] [2]
def Q37c1a : IC:=(cSeq Q37r4 cRet)
def Q37c1 : IC:=cCond (.tmp 16) Q37c1a cSkip
def Q37r5 : IC:=cReg Tryz.prog [xM 21 5,xN 22 21,xC 23 .lss 22 2,xM 24 23,xG 24 false (xM 25 5),⟨some 26,some (24,false),iIaS 26 1 (.tmp 25) (.const (.int .i64 0))⟩,xG 24 false (xL 27 1 26),⟨some 28,some (24,false),iBin 28 .eql (.tmp 27) (.const (.int .u8 1))⟩,xG 24 false (xM 29 28),xG 29 true (xM 30 5),xG 29 true (xN 31 30),xG 29 true (xC 32 .lss 31 4),xG 24 false (xQ 33 29 32),xP 34 24 33] [2,4,5,34] [2]
def Q37r6 : IC:=cReg Tryz.prog [xM 35 4,⟨some 36,none,iCallV 36 Tryz.prog 35 [(.const (.int .i64 8))]⟩,xE 37 36 0,xE 38 36 1,xS 6 2 37,xT 3 38] [2,3] [2]
def Q37c2a : IC:=(cSeq Q37r6 cRet)
def Q37c2 : IC:=cCond (.tmp 34) Q37c2a cSkip
def Q37r7 : IC:=cRegD Tryz.prog [xM 39 5,⟨some 40,none,iIaS 40 1 (.tmp 39) (.const (.int .i64 0))⟩,xL 41 1 40,⟨some 42,none,iCvi 42 .i64 (.tmp 41)⟩,xM 43 5,⟨some 44,none,iIaS 44 1 (.tmp 43) (.const (.int .i64 1))⟩,xL 45 1 44,⟨some 46,none,iCvi 46 .i64 (.tmp 45)⟩,⟨some 47,none,iBld 47 [zI,zI,zI,zI,zS,zS] [(0,1),(1,1)] [(.tmp 42),(.tmp 46)]⟩,⟨some 7,none,iAlo 7 [zI,zI,zI,zI,zS,zS]⟩,xS 6 7 47] [[],[0],[1,0],[2,1,0],[],[4],[5,4],[6,5,4],[3,7,2,1,0,6,5,4],[],[9,8,0,1,2,3,4,5,6,7]] [2,4,5,7] [2,7]
def Q37r8 : IC:=cReg Tryz.prog [⟨some 8,none,iMov 8 (.const (.int .i64 2)) true⟩] [2,4,5,7,8] [2,7]
def Q37r9 : IC:=cReg Tryz.prog [xM 48 8,xM 49 5,xN 50 49,xB 51 .lss 48 50] [2,4,5,7,8,51] [2,7]
def Q37c5 : IC:=cCond (.tmp 51) cSkip (cExit 0)
def Q37r12 : IC:=cReg Tryz.prog [xF 64 0 7,xL 65 1 64,xC 66 .neq 65 1,xT 63 66] [2,4,5,7,8,63] [2,7]
def Q37r13 : IC:=cRegD Tryz.prog [xF 67 5 7,xU 68 1 67,xM 69 5,xM 70 8,xI 71 1 69 70,xL 72 1 71,⟨some 73,none,iCvi 73 .i64 (.tmp 72)⟩,xR 74 3 1 73,xW 75 3 1 8 68 74,xF 76 5 7,xS 1 76 75] [[],[0],[],[],[2,3],[4,2,3],[5,4,2,3],[6,5,4,2,3],[1,7,0,6,5,4,2,3],[0,1,2,3,4,5,6,7,8],[9,8,0,1,2,3,4,5,6,7]] [2,4,5,7,8] [2,7]
def Q37r14 : IC:=cReg Tryz.prog [xM 78 8,xC 79 .eql 78 2,xT 77 79] [2,4,5,7,8,77] [2,7]
def Q37r15 : IC:=cReg Tryz.prog [xM 80 5,xM 81 8,xI 82 1 80 81,xL 83 1 82,⟨some 84,none,iCvi 84 .i64 (.tmp 83)⟩,xF 85 2 7,xS 1 85 84] [2,4,5,7,8] [2,7]
def Q37r16 : IC:=cReg Tryz.prog [xM 87 8,xC 88 .eql 87 3,xT 86 88] [2,4,5,7,8,86] [2,7]
def Q37r17 : IC:=cReg Tryz.prog [xM 89 5,xM 90 8,xI 91 1 89 90,xL 92 1 91,⟨some 93,none,iCvi 93 .i64 (.tmp 92)⟩,xF 94 3 7,xS 1 94 93] [2,4,5,7,8] [2,7]
def Q37r11 : IC:=cRegD Tryz.prog [xF 54 4 7,xU 55 1 54,xM 56 5,xM 57 8,xI 58 1 56 57,xL 59 1 58,xR 60 5 1 59,xW 61 5 1 1 55 60,xF 62 4 7,xS 1 62 61] [[],[0],[],[],[2,3],[4,2,3],[5,4,2,3],[1,6,0,5,4,2,3],[0,1,2,3,4,5,6,7],[8,7,0,1,2,3,4,5,6]] [2,4,5,7,8] [2,7]
def Q37c10 : IC:=cCond (.tmp 86) Q37r17 Q37r11
def Q37c9b : IC:=(cSeq Q37r16 Q37c10)
def Q37c9 : IC:=cCond (.tmp 77) Q37r15 Q37c9b
def Q37c8b : IC:=(cSeq Q37r14 Q37c9)
def Q37c8 : IC:=cCond (.tmp 63) Q37r13 Q37c8b
def Q37b7 : IC:=cBlock 2 (cSeq Q37r12 Q37c8)
def Q37b6 : IC:=cBlock 1 Q37b7
def Q37r10 : IC:=cReg Tryz.prog [xM 52 8,xC 53 .add 52 1,xT 8 53] [2,4,5,7,8] [2,7]
def Q37l4a : IC:=(cSeq (cSeq Q37r9 Q37c5) (cSeq Q37b6 Q37r10))
def Q37l4 : IC:=cLoop Q37l4a
def Q37b3 : IC:=cBlock 0 Q37l4
def Q37r18 : IC:=cReg Tryz.prog [xA 95 6 7,xV1 96 80 95,xT 9 96] [2,4,7,9] [2,7]
def Q37r19 : IC:=cReg Tryz.prog [xM 97 9,xC 98 .neq 97 0] [2,4,7,9,98] [2,7]
def Q37r20 : IC:=cReg Tryz.prog [xM 99 4,xM 100 9,⟨some 101,none,iCallV 101 Tryz.prog 99 [(.tmp 100)]⟩,xE 102 101 0,xE 103 101 1,xS 6 2 102,xT 3 103] [2,3] [2]
def Q37c11a : IC:=(cSeq Q37r20 cRet)
def Q37c11 : IC:=cCond (.tmp 98) Q37c11a cSkip
def Q37r21 : IC:=cReg Tryz.prog [xA 104 6 7,xS 6 2 104,⟨some 3,none,iMov 3 (.const (.int .i64 0)) true⟩] [2,3] [2]
def r1_Read : IC:=(cSeq Q37r0 (cSeq Q37r1 (cSeq Q37r2 (cSeq (cSeq Q37r3 Q37c1) (cSeq (cSeq Q37r5 Q37c2) (cSeq Q37r7 (cSeq (cSeq Q37r8 Q37b3) (cSeq (cSeq Q37r18 (cSeq Q37r19 Q37c11)) (cSeq Q37r21 cRet)))))))))
theorem told_r1_Read {args r : List D} (hl : args.length = 1) (h : r1_Read (start args) (fin [(2,some (6,true)),(3,none)] r)) : Told Tryz.prog 56 args r :=
 told_of follows Tryz.func56 rfl (an:=[([],[0,2],[2],[]),([],[0,2,4],[2],[]),([],[2,4,5,6],[2],[]),([],[2,4,5,16],[2],[]),([],[2,3],[2],[]),([],[2,4,5,34],[2],[]),([],[2,3],[2],[]),([],[2,4,5,7],[2,7],[]),([],[2,4,5,7,8],[2,7],[]),([],[2,4,5,7,8,51],[2,7],[]),([],[2,4,5,7,8,63],[2,7],[]),([],[2,4,5,7,8],[2,7],[]),([],[2,4,5,7,8,77],[2,7],[]),([],[2,4,5,7,8],[2,7],[]),([],[2,4,5,7,8,86],[2,7],[]),([],[2,4,5,7,8],[2,7],[]),([],[2,4,5,7,8],[2,7],[]),([],[2,4,5,7,8],[2,7],[]),([],[2,4,7,9],[2,7],[]),([],[2,4,7,9,98],[2,7],[]),([],[2,3],[2],[]),([],[2,3],[2],[])]) (by kernel_rfl) (by kernel_rfl) (by rw [hl]; decide +kernel) h
set_option maxRecDepth 100000
def Q47r0 : IC:=cReg Tryz.prog [xX 1 0,⟨some 2,none,iMov 2 (.const (.int .i64 0)) true⟩] [1] [1]
def Q47r1 : IC:=cReg Tryz.prog [xF 6 0 1,xL 7 1 6,xC 8 .neq 7 1,xM 9 8,xG 9 true (xF 10 0 1),xG 9 true (xL 11 1 10),xG 9 true (xC 12 .neq 11 2),xQ 13 9 12] [1,13] [1]
def Q47r2 : IC:=cReg Tryz.prog [⟨some 2,none,iMov 2 (.const (.int .i64 1)) true⟩] [2] []
def Q47c1a : IC:=(cSeq Q47r2 cRet)
def Q47c1 : IC:=cCond (.tmp 13) Q47c1a cSkip
def Q47r3 : IC:=cReg Tryz.prog [xF 14 1 1,xL 15 1 14,xC 16 .lss 15 0,xM 17 16,xG 17 false (xF 18 1 1),xG 17 false (xL 19 1 18),xG 17 false (xC 20 .gtr 19 40),xP 21 17 20] [1,21] [1]
def Q47r4 : IC:=cReg Tryz.prog [⟨some 2,none,iMov 2 (.const (.int .i64 3)) true⟩] [2] []
def Q47c2a : IC:=(cSeq Q47r4 cRet)
def Q47c2 : IC:=cCond (.tmp 21) Q47c2a cSkip
def Q47r5 : IC:=cReg Tryz.prog [xF 22 0 1,xL 23 1 22,xC 24 .eql 23 1] [1,24] [1]
def Q47r6_0 : IC:=cReg Tryz.prog [xF 25 1 1,xL 26 1 25,xC 27 .gtr 26 39,xM 28 27,xG 28 false (xF 29 3 1),xG 28 false (xL 30 1 29),xG 28 false (xC 31 .lss 30 0),xP 32 28 31,xM 33 32,xG 33 false (xF 34 3 1)] [1,33,34] [1]
def Q47r6_1 : IC:=cReg Tryz.prog [xG 33 false (xL 35 1 34),xG 33 false (xF 36 1 1),xG 33 false (xL 37 1 36),xG 33 false (xB 38 .gtr 35 37),xP 39 33 38] [1,39] [1]
def Q47r6 : IC:=(cSeq Q47r6_0 Q47r6_1)
def Q47r7 : IC:=cReg Tryz.prog [⟨some 2,none,iMov 2 (.const (.int .i64 3)) true⟩] [2] []
def Q47c4a : IC:=(cSeq Q47r7 cRet)
def Q47c4 : IC:=cCond (.tmp 39) Q47c4a cSkip
def Q47r8 : IC:=cReg Tryz.prog [xF 40 5 1,xL 41 1 40,xN 42 41,xC 43 .neq 42 0] [1,43] [1]
def Q47r9 : IC:=cReg Tryz.prog [⟨some 2,none,iMov 2 (.const (.int .i64 5)) true⟩] [2] []
def Q47c5a : IC:=(cSeq Q47r9 cRet)
def Q47c5 : IC:=cCond (.tmp 43) Q47c5a cSkip
def Q47r10 : IC:=cReg Tryz.prog [xF 44 2 1,xL 45 1 44,xF 46 4 1,xL 47 1 46,⟨some 48,none,iBld 48 [zI,zS] [(0,1),(1,1)] [(.tmp 45),(.tmp 47)]⟩,xV1 49 52 48,xT 2 49] [2] []
def Q47c3a : IC:=(cSeq (cSeq Q47r6 Q47c4) (cSeq (cSeq Q47r8 Q47c5) (cSeq Q47r10 cRet)))
def Q47c3 : IC:=cCond (.tmp 24) Q47c3a cSkip
def Q47r11 : IC:=cReg Tryz.prog [xF 50 2 1,xL 51 1 50,xC 52 .neq 51 0,xM 53 52,xG 53 false (xF 54 3 1),xG 53 false (xL 55 1 54),xG 53 false (xC 56 .neq 55 0),xP 57 53 56] [1,57] [1]
def Q47r12 : IC:=cReg Tryz.prog [⟨some 2,none,iMov 2 (.const (.int .i64 3)) true⟩] [2] []
def Q47c6a : IC:=(cSeq Q47r12 cRet)
def Q47c6 : IC:=cCond (.tmp 57) Q47c6a cSkip
def Q47r13 : IC:=cReg Tryz.prog [xF 58 4 1,xL 59 1 58,xN 60 59,xC 61 .neq 60 0,xM 62 61,xG 62 false (xF 63 5 1),xG 62 false (xL 64 1 63),xG 62 false (xN 65 64),xG 62 false (xC 66 .gtr 65 3),xP 67 62 66] [1,67] [1]
def Q47r14 : IC:=cReg Tryz.prog [⟨some 2,none,iMov 2 (.const (.int .i64 5)) true⟩] [2] []
def Q47c7a : IC:=(cSeq Q47r14 cRet)
def Q47c7 : IC:=cCond (.tmp 67) Q47c7a cSkip
def Q47r15 : IC:=cReg Tryz.prog [xF 68 1 1,xL 69 1 68,xT 3 69] [1,3] [1]
def Q47r16 : IC:=cReg Tryz.prog [xF 70 5 1,xL 71 1 70,xN 72 71,⟨some 73,none,iMov 73 (.const (.int .i64 0)) false⟩] [3,71,72,73] []
def Q47r17 : IC:=cReg Tryz.prog [xB 74 .lss 73 72] [3,71,72,73,74] []
def Q47c10 : IC:=cCond (.tmp 74) cSkip (cExit 0)
def Q47r18 : IC:=cReg Tryz.prog [xI 75 1 71 73,xL 76 1 75,xT 5 76] [3,5,71,72,73] []
def Q47r19 : IC:=cReg Tryz.prog [xM 77 5,xM 78 3,xB 79 .leq 77 78,xM 80 79,xG 80 false (xM 81 5),xG 80 false (xC 82 .gtr 81 39),xP 83 80 82] [5,71,72,73,83] []
def Q47r20 : IC:=cReg Tryz.prog [⟨some 2,none,iMov 2 (.const (.int .i64 3)) true⟩] [2] []
def Q47c12a : IC:=(cSeq Q47r20 cRet)
def Q47c12 : IC:=cCond (.tmp 83) Q47c12a cSkip
def Q47r21 : IC:=cReg Tryz.prog [xM 84 5,xT 3 84] [3,71,72,73] []
def Q47b11 : IC:=cBlock 1 (cSeq Q47r18 (cSeq (cSeq Q47r19 Q47c12) Q47r21))
def Q47r22 : IC:=cReg Tryz.prog [xC 85 .add 73 1,xM 73 85] [3,71,72,73] []
def Q47l9a : IC:=(cSeq Q47r17 (cSeq Q47c10 (cSeq Q47b11 Q47r22)))
def Q47l9 : IC:=cLoop Q47l9a
def Q47b8 : IC:=cBlock 0 Q47l9
def Q47r23 : IC:=cReg Tryz.prog [⟨some 2,none,iMov 2 (.const (.int .i64 0)) true⟩] [2] []
def r1_Wrong : IC:=(cSeq Q47r0 (cSeq (cSeq Q47r1 Q47c1) (cSeq (cSeq Q47r3 Q47c2) (cSeq (cSeq Q47r5 Q47c3) (cSeq (cSeq Q47r11 Q47c6) (cSeq (cSeq Q47r13 Q47c7) (cSeq Q47r15 (cSeq (cSeq Q47r16 Q47b8) (cSeq Q47r23 cRet)))))))))
theorem told_r1_Wrong {args r : List D} (hl : args.length = 1) (h : r1_Wrong (start args) (fin [(2,none)] r)) : Told Tryz.prog 80 args r :=
 told_of follows Tryz.func80 rfl (an:=[([],[1],[1],[]),([],[1,13],[1],[]),([],[2],[],[]),([],[1,21],[1],[]),([],[2],[],[]),([],[1,24],[1],[]),([(10,[1,33,34],[1])],[1,39],[1],[]),([],[2],[],[]),([],[1,43],[1],[]),([],[2],[],[]),([],[2],[],[]),([],[1,57],[1],[]),([],[2],[],[]),([],[1,67],[1],[]),([],[2],[],[]),([],[1,3],[1],[]),([],[3,71,72,73],[],[]),([],[3,71,72,73,74],[],[]),([],[3,5,71,72,73],[],[]),([],[5,71,72,73,83],[],[]),([],[2],[],[]),([],[3,71,72,73],[],[]),([],[3,71,72,73],[],[]),([],[2],[],[])]) (by kernel_rfl) (by kernel_rfl) (by rw [hl]; decide +kernel) h
end Go.Proofs.YtgaofjiidedcbacGreat.ab
