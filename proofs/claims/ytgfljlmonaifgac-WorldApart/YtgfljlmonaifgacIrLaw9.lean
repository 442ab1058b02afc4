import Derived.Test.YtgfljlmonaifgacM20
import Derived.Test.YtgfljlmonaifgacProg
set_option linter.unusedVariables false
set_option linter.unusedSimpArgs false
namespace Go.Proofs.Ytgfljlmonaifgac.ab
set_option maxRecDepth 100000
open Go Go.RowKit
def w9_alive_r0 : IC:=cReg Try.prog [
  ⟨some 0,none,iMov 0 (.const (.bool false)) true⟩] [] []
def w9_alive_r1 : IC:=cReg Try.prog [
  ⟨some 11,none,iCall 11 10 [(.const (.int .i64 2))]⟩,
  ⟨some 10,none,iMov 10 (.tmp 11) false⟩,
  ⟨some 12,none,iExt 12 (.tmp 10) 0⟩,
  ⟨some 13,none,iExt 13 (.tmp 10) 1⟩,
  ⟨some 1,none,iAlo 1 [vD (.slice none 0 0),vD (.int .i64 0)]⟩,
  ⟨none,none,iStor 2 (.tmp 1) (.tmp 12)⟩,
  ⟨some 2,none,iMov 2 (.tmp 13) true⟩] [1,2] [1]
def w9_alive_r2 : IC:=cReg Try.prog [
  ⟨some 15,none,iLoad 15 2 true (.tmp 1) false⟩,
  ⟨some 16,none,iRow 16 5 1 [(.const (.int .u8 97))]⟩,
  ⟨some 17,none,iCst 17 16⟩,
  ⟨some 18,none,iBld 18 [vD (.int .i64 0),vD (.slice none 0 0)] [(1,1)] [(.tmp 17)]⟩,
  ⟨some 19,none,iBld 19 [vD (.int .i64 0),vD (.int .i64 0),vD (.int .i64 0),vD (.int .i64 0),vD (.bool false),vD (.int .i64 0),vD (.slice none 0 0)] [(0,1),(1,1),(5,2)] [(.const (.int .i64 2)),(.const (.int .i64 1)),(.tmp 18)]⟩,
  ⟨some 20,none,iCall 20 7 [(.tmp 15),(.tmp 19)]⟩,
  ⟨some 14,none,iMov 14 (.tmp 20) false⟩,
  ⟨some 21,none,iExt 21 (.tmp 14) 0⟩,
  ⟨some 22,none,iExt 22 (.tmp 14) 1⟩,
  ⟨none,none,iStor 2 (.tmp 1) (.tmp 21)⟩,
  ⟨some 3,none,iMov 3 (.tmp 22) true⟩] [1,2,3] [1]
def w9_alive_r3 : IC:=cReg Try.prog [
  ⟨some 24,none,iLoad 24 2 true (.tmp 1) false⟩,
  ⟨some 25,none,iBld 25 [vD (.int .i64 0),vD (.int .i64 0),vD (.int .i64 0),vD (.int .i64 0),vD (.bool false),vD (.int .i64 0),vD (.slice none 0 0)] [(0,1)] [(.const (.int .i64 1))]⟩,
  ⟨some 26,none,iCall 26 7 [(.tmp 24),(.tmp 25)]⟩,
  ⟨some 23,none,iMov 23 (.tmp 26) false⟩,
  ⟨some 27,none,iExt 27 (.tmp 23) 0⟩,
  ⟨some 28,none,iExt 28 (.tmp 23) 1⟩,
  ⟨none,none,iStor 2 (.tmp 1) (.tmp 27)⟩,
  ⟨some 4,none,iMov 4 (.tmp 28) true⟩] [1,2,3,4] [1]
def w9_alive_r4 : IC:=cReg Try.prog [
  ⟨some 30,none,iLoad 30 2 true (.tmp 1) false⟩,
  ⟨some 31,none,iBld 31 [vD (.int .i64 0),vD (.int .i64 0),vD (.int .i64 0),vD (.int .i64 0),vD (.bool false),vD (.int .i64 0),vD (.slice none 0 0)] [(0,1)] [(.const (.int .i64 1))]⟩,
  ⟨some 32,none,iCall 32 7 [(.tmp 30),(.tmp 31)]⟩,
  ⟨some 29,none,iMov 29 (.tmp 32) false⟩,
  ⟨some 33,none,iExt 33 (.tmp 29) 0⟩,
  ⟨some 34,none,iExt 34 (.tmp 29) 1⟩,
  ⟨none,none,iStor 2 (.tmp 1) (.tmp 33)⟩,
  ⟨some 5,none,iMov 5 (.tmp 34) true⟩] [1,2,3,4,5] [1]
def w9_alive_r5 : IC:=cReg Try.prog [
  ⟨some 36,none,iLoad 36 2 true (.tmp 1) false⟩,
  ⟨some 37,none,iBld 37 [vD (.int .i64 0),vD (.int .i64 0),vD (.int .i64 0),vD (.int .i64 0),vD (.bool false),vD (.int .i64 0),vD (.slice none 0 0)] [(0,1),(1,1)] [(.const (.int .i64 3)),(.const (.int .i64 1))]⟩,
  ⟨some 38,none,iCall 38 7 [(.tmp 36),(.tmp 37)]⟩,
  ⟨some 35,none,iMov 35 (.tmp 38) false⟩,
  ⟨some 39,none,iExt 39 (.tmp 35) 0⟩,
  ⟨some 40,none,iExt 40 (.tmp 35) 1⟩,
  ⟨some 6,none,iAlo 6 [vD (.slice none 0 0),vD (.int .i64 0)]⟩,
  ⟨none,none,iStor 2 (.tmp 6) (.tmp 39)⟩,
  ⟨some 7,none,iMov 7 (.tmp 40) true⟩] [1,2,3,4,5,6,7] [1,6]
def w9_alive_r6 : IC:=cReg Try.prog [
  ⟨some 42,none,iCall 42 10 [(.const (.int .i64 0))]⟩,
  ⟨some 41,none,iMov 41 (.tmp 42) false⟩,
  ⟨some 43,none,iExt 43 (.tmp 41) 0⟩,
  ⟨some 44,none,iExt 44 (.tmp 41) 1⟩,
  ⟨some 8,none,iAlo 8 [vD (.slice none 0 0),vD (.int .i64 0)]⟩,
  ⟨none,none,iStor 2 (.tmp 8) (.tmp 43)⟩,
  ⟨some 9,none,iMov 9 (.tmp 44) true⟩] [1,2,3,4,5,6,7,9] [1,6]
def w9_alive_r7_0 : IC:=cReg Try.prog [
  ⟨some 45,none,iMov 45 (.tmp 2) false⟩,
  ⟨some 46,none,iBin 46 .eql (.tmp 45) (.const (.int .i64 0))⟩,
  ⟨some 47,none,iMov 47 (.tmp 46) false⟩,
  ⟨some 48,some (47,true),iMov 48 (.tmp 3) false⟩,
  ⟨some 49,some (47,true),iBin 49 .eql (.tmp 48) (.const (.int .i64 0))⟩,
  ⟨some 50,none,iPick 50 (.tmp 47) (.tmp 49) (.const (.bool false))⟩,
  ⟨some 51,none,iMov 51 (.tmp 50) false⟩,
  ⟨some 52,some (51,true),iMov 52 (.tmp 4) false⟩,
  ⟨some 53,some (51,true),iBin 53 .eql (.tmp 52) (.const (.int .i64 0))⟩,
  ⟨some 54,none,iPick 54 (.tmp 51) (.tmp 53) (.const (.bool false))⟩] [1,5,6,7,9,54] [1,6]
def w9_alive_r7_1 : IC:=cReg Try.prog [
  ⟨some 55,none,iMov 55 (.tmp 54) false⟩,
  ⟨some 56,some (55,true),iMov 56 (.tmp 5) false⟩,
  ⟨some 57,some (55,true),iBin 57 .eql (.tmp 56) (.const (.int .i64 0))⟩,
  ⟨some 58,none,iPick 58 (.tmp 55) (.tmp 57) (.const (.bool false))⟩,
  ⟨some 59,none,iMov 59 (.tmp 58) false⟩,
  ⟨some 60,some (59,true),iMov 60 (.tmp 7) false⟩,
  ⟨some 61,some (59,true),iBin 61 .eql (.tmp 60) (.const (.int .i64 0))⟩,
  ⟨some 62,none,iPick 62 (.tmp 59) (.tmp 61) (.const (.bool false))⟩,
  ⟨some 63,none,iMov 63 (.tmp 62) false⟩,
  ⟨some 64,some (63,true),iMov 64 (.tmp 9) false⟩] [1,6,63,64] [1,6]
def w9_alive_r7_2 : IC:=cReg Try.prog [
  ⟨some 65,some (63,true),iBin 65 .eql (.tmp 64) (.const (.int .i64 3))⟩,
  ⟨some 66,none,iPick 66 (.tmp 63) (.tmp 65) (.const (.bool false))⟩,
  ⟨some 67,none,iMov 67 (.tmp 66) false⟩,
  ⟨some 68,some (67,true),iFad 68 1 (.tmp 1)⟩,
  ⟨some 69,some (67,true),iLoad 69 1 false (.tmp 68) false⟩,
  ⟨some 70,some (67,true),iBin 70 .eql (.tmp 69) (.const (.int .i64 2))⟩,
  ⟨some 71,none,iPick 71 (.tmp 67) (.tmp 70) (.const (.bool false))⟩,
  ⟨some 72,none,iMov 72 (.tmp 71) false⟩,
  ⟨some 73,some (72,true),iFad 73 0 (.tmp 1)⟩,
  ⟨some 74,some (72,true),iLoad 74 1 false (.tmp 73) false⟩] [1,6,72,74] [1,6]
def w9_alive_r7_3 : IC:=cReg Try.prog [
  ⟨some 75,some (72,true),iIaS 75 17 (.tmp 74) (.const (.int .i64 1))⟩,
  ⟨some 76,some (72,true),iFad 76 15 (.tmp 75)⟩,
  ⟨some 77,some (72,true),iLoad 77 1 false (.tmp 76) false⟩,
  ⟨some 78,some (72,true),iLen 78 false (.tmp 77)⟩,
  ⟨some 79,some (72,true),iBin 79 .eql (.tmp 78) (.const (.int .i64 1))⟩,
  ⟨some 80,none,iPick 80 (.tmp 72) (.tmp 79) (.const (.bool false))⟩,
  ⟨some 81,none,iMov 81 (.tmp 80) false⟩,
  ⟨some 82,some (81,true),iFad 82 0 (.tmp 6)⟩,
  ⟨some 83,some (81,true),iLoad 83 1 false (.tmp 82) false⟩,
  ⟨some 84,some (81,true),iIaS 84 17 (.tmp 83) (.const (.int .i64 1))⟩] [1,81,84] [1]
def w9_alive_r7_4 : IC:=cReg Try.prog [
  ⟨some 85,some (81,true),iFad 85 7 (.tmp 84)⟩,
  ⟨some 86,some (81,true),iFad 86 6 (.tmp 85)⟩,
  ⟨some 87,some (81,true),iLoad 87 1 false (.tmp 86) false⟩,
  ⟨some 88,some (81,true),iLen 88 false (.tmp 87)⟩,
  ⟨some 89,some (81,true),iBin 89 .eql (.tmp 88) (.const (.int .i64 1))⟩,
  ⟨some 90,none,iPick 90 (.tmp 81) (.tmp 89) (.const (.bool false))⟩,
  ⟨some 91,none,iMov 91 (.tmp 90) false⟩,
  ⟨some 92,some (91,true),iLoad 92 2 true (.tmp 1) false⟩,
  ⟨some 93,some (91,true),iCall 93 11 [(.tmp 92)]⟩,
  ⟨some 94,some (91,true),iFld 94 0 1 false (.tmp 93)⟩] [91,94] []
def w9_alive_r7_5 : IC:=cReg Try.prog [
  ⟨some 95,some (91,true),iLen 95 false (.tmp 94)⟩,
  ⟨some 96,some (91,true),iBin 96 .eql (.tmp 95) (.const (.int .i64 2))⟩,
  ⟨some 97,none,iPick 97 (.tmp 91) (.tmp 96) (.const (.bool false))⟩,
  ⟨some 0,none,iMov 0 (.tmp 97) true⟩] [0] []
def w9_alive_r7 : IC:=(cSeq w9_alive_r7_0 (cSeq w9_alive_r7_1 (cSeq w9_alive_r7_2 (cSeq w9_alive_r7_3 (cSeq w9_alive_r7_4 w9_alive_r7_5)))))
def w9_alive : IC:=(cSeq w9_alive_r0 (cSeq w9_alive_r1 (cSeq w9_alive_r2 (cSeq w9_alive_r3 (cSeq w9_alive_r4 (cSeq w9_alive_r5 (cSeq w9_alive_r6 (cSeq w9_alive_r7 cRet))))))))
theorem told_w9_alive {args r : List D} (hl : args.length = 0) (h : w9_alive (start args) (fin [(0,none)] r)) : Told Try.prog 5 args r :=
 told_of follows Try.func5 rfl (an:=[([],[],[],[]),([],[1,2],[1],[]),([],[1,2,3],[1],[]),([],[1,2,3,4],[1],[]),([],[1,2,3,4,5],[1],[]),([],[1,2,3,4,5,6,7],[1,6],[]),([],[1,2,3,4,5,6,7,9],[1,6],[]),([(10,[1,5,6,7,9,54],[1,6]),(10,[1,6,63,64],[1,6]),(10,[1,6,72,74],[1,6]),(10,[1,81,84],[1]),(10,[91,94],[])],[0],[],[])]) (by kernel_rfl) (by kernel_rfl) (by rw [hl]; decide +kernel) h
def w9_WorldApart_r0 : IC:=cReg Try.prog [
  ⟨some 6,none,iBox 6 (.tmp 2)⟩,
  ⟨some 7,none,iBox 7 (.tmp 3)⟩,
  ⟨some 8,none,iMov 8 (.const (.bool false)) true⟩] [0,1,6,7] [6,7]
def w9_WorldApart_r1 : IC:=cReg Try.prog [
  ⟨some 17,none,iCall 17 5 []⟩,
  ⟨some 18,none,iNot 18 (.tmp 17)⟩] [0,1,6,7,18] [6,7]
def w9_WorldApart_r2 : IC:=cReg Try.prog [
  ⟨some 8,none,iMov 8 (.const (.bool false)) true⟩] [8] []
def w9_WorldApart_c1a : IC:=(cSeq w9_WorldApart_r2 cRet)
def w9_WorldApart_c1 : IC:=cCond (.tmp 18) w9_WorldApart_c1a cSkip
def w9_WorldApart_r3_0 : IC:=cReg Try.prog [
  ⟨some 19,none,iMov 19 (.tmp 0) false⟩,
  ⟨some 20,none,iBin 20 .lss (.tmp 19) (.const (.int .i64 1))⟩,
  ⟨some 21,none,iMov 21 (.tmp 20) false⟩,
  ⟨some 22,some (21,false),iMov 22 (.tmp 0) false⟩,
  ⟨some 23,some (21,false),iBin 23 .gtr (.tmp 22) (.const (.int .i64 3))⟩,
  ⟨some 24,none,iPick 24 (.tmp 21) (.const (.bool true)) (.tmp 23)⟩,
  ⟨some 25,none,iMov 25 (.tmp 24) false⟩,
  ⟨some 26,some (25,false),iFad 26 1 (.tmp 6)⟩,
  ⟨some 27,some (25,false),iLoad 27 1 false (.tmp 26) false⟩,
  ⟨some 28,some (25,false),iFad 28 1 (.tmp 7)⟩] [0,1,6,7,25,27,28] [6,7]
def w9_WorldApart_r3_1 : IC:=cReg Try.prog [
  ⟨some 29,some (25,false),iLoad 29 1 false (.tmp 28) false⟩,
  ⟨some 30,some (25,false),iBin 30 .eql (.tmp 27) (.tmp 29)⟩,
  ⟨some 31,none,iPick 31 (.tmp 25) (.const (.bool true)) (.tmp 30)⟩,
  ⟨some 32,none,iMov 32 (.tmp 31) false⟩,
  ⟨some 33,some (32,false),iFad 33 0 (.tmp 6)⟩,
  ⟨some 34,some (32,false),iLoad 34 1 false (.tmp 33) false⟩,
  ⟨some 35,some (32,false),iBin 35 .eql (.tmp 34) (.const (.int .i64 1))⟩,
  ⟨some 36,none,iPick 36 (.tmp 32) (.const (.bool true)) (.tmp 35)⟩,
  ⟨some 37,none,iMov 37 (.tmp 36) false⟩,
  ⟨some 38,some (37,false),iFad 38 0 (.tmp 7)⟩,
  ⟨some 39,some (37,false),iLoad 39 1 false (.tmp 38) false⟩,
  ⟨some 40,some (37,false),iBin 40 .eql (.tmp 39) (.const (.int .i64 1))⟩,
  ⟨some 41,none,iPick 41 (.tmp 37) (.const (.bool true)) (.tmp 40)⟩] [0,1,6,7,41] [6,7]
def w9_WorldApart_r3 : IC:=(cSeq w9_WorldApart_r3_0 w9_WorldApart_r3_1)
def w9_WorldApart_r4 : IC:=cReg Try.prog [
  ⟨some 8,none,iMov 8 (.const (.bool true)) true⟩] [8] []
def w9_WorldApart_c2a : IC:=(cSeq w9_WorldApart_r4 cRet)
def w9_WorldApart_c2 : IC:=cCond (.tmp 41) w9_WorldApart_c2a cSkip
def w9_WorldApart_r5 : IC:=cReg Try.prog [
  ⟨some 43,none,iMov 43 (.tmp 0) false⟩,
  ⟨some 44,none,iMov 44 (.tmp 1) false⟩,
  ⟨some 45,none,iCall 45 6 [(.tmp 43),(.tmp 44)]⟩,
  ⟨some 42,none,iMov 42 (.tmp 45) false⟩,
  ⟨some 46,none,iExt 46 (.tmp 42) 0⟩,
  ⟨some 47,none,iExt 47 (.tmp 42) 1⟩,
  ⟨some 9,none,iAlo 9 [vD (.slice none 0 0),vD (.int .i64 0)]⟩,
  ⟨none,none,iStor 2 (.tmp 9) (.tmp 46)⟩,
  ⟨some 10,none,iMov 10 (.tmp 47) true⟩] [6,7,9] [6,7,9]
def w9_WorldApart_r6 : IC:=cReg Try.prog [
  ⟨some 49,none,iLoad 49 2 true (.tmp 9) false⟩,
  ⟨some 50,none,iLoad 50 7 true (.tmp 6) false⟩,
  ⟨some 51,none,iCall 51 7 [(.tmp 49),(.tmp 50)]⟩,
  ⟨some 48,none,iMov 48 (.tmp 51) false⟩,
  ⟨some 52,none,iExt 52 (.tmp 48) 0⟩,
  ⟨some 53,none,iExt 53 (.tmp 48) 1⟩,
  ⟨some 11,none,iAlo 11 [vD (.slice none 0 0),vD (.int .i64 0)]⟩,
  ⟨none,none,iStor 2 (.tmp 11) (.tmp 52)⟩,
  ⟨some 12,none,iMov 12 (.tmp 53) true⟩] [6,7,9,11,12] [6,7,9,11]
def w9_WorldApart_r7 : IC:=cReg Try.prog [
  ⟨some 55,none,iLoad 55 2 true (.tmp 11) false⟩,
  ⟨some 56,none,iLoad 56 7 true (.tmp 7) false⟩,
  ⟨some 57,none,iCall 57 7 [(.tmp 55),(.tmp 56)]⟩,
  ⟨some 54,none,iMov 54 (.tmp 57) false⟩,
  ⟨some 58,none,iExt 58 (.tmp 54) 0⟩,
  ⟨some 59,none,iExt 59 (.tmp 54) 1⟩,
  ⟨none,none,iStor 2 (.tmp 11) (.tmp 58)⟩,
  ⟨some 13,none,iMov 13 (.tmp 59) true⟩] [6,7,9,11,12,13] [6,7,9,11]
def w9_WorldApart_r8 : IC:=cReg Try.prog [
  ⟨some 61,none,iLoad 61 2 true (.tmp 9) false⟩,
  ⟨some 62,none,iLoad 62 7 true (.tmp 7) false⟩,
  ⟨some 63,none,iCall 63 7 [(.tmp 61),(.tmp 62)]⟩,
  ⟨some 60,none,iMov 60 (.tmp 63) false⟩,
  ⟨some 64,none,iExt 64 (.tmp 60) 0⟩,
  ⟨some 65,none,iExt 65 (.tmp 60) 1⟩,
  ⟨some 14,none,iAlo 14 [vD (.slice none 0 0),vD (.int .i64 0)]⟩,
  ⟨none,none,iStor 2 (.tmp 14) (.tmp 64)⟩,
  ⟨some 15,none,iMov 15 (.tmp 65) true⟩] [6,11,12,13,14,15] [6,11,14]
def w9_WorldApart_r9 : IC:=cReg Try.prog [
  ⟨some 67,none,iLoad 67 2 true (.tmp 14) false⟩,
  ⟨some 68,none,iLoad 68 7 true (.tmp 6) false⟩,
  ⟨some 69,none,iCall 69 7 [(.tmp 67),(.tmp 68)]⟩,
  ⟨some 66,none,iMov 66 (.tmp 69) false⟩,
  ⟨some 70,none,iExt 70 (.tmp 66) 0⟩,
  ⟨some 71,none,iExt 71 (.tmp 66) 1⟩,
  ⟨none,none,iStor 2 (.tmp 14) (.tmp 70)⟩,
  ⟨some 16,none,iMov 16 (.tmp 71) true⟩] [11,12,13,14,15,16] [11,14]
def w9_WorldApart_r10 : IC:=cReg Try.prog [
  ⟨some 72,none,iMov 72 (.tmp 12) false⟩,
  ⟨some 73,none,iMov 73 (.tmp 16) false⟩,
  ⟨some 74,none,iBin 74 .eql (.tmp 72) (.tmp 73)⟩,
  ⟨some 75,none,iMov 75 (.tmp 74) false⟩,
  ⟨some 76,some (75,true),iMov 76 (.tmp 13) false⟩,
  ⟨some 77,some (75,true),iMov 77 (.tmp 15) false⟩,
  ⟨some 78,some (75,true),iBin 78 .eql (.tmp 76) (.tmp 77)⟩,
  ⟨some 79,none,iPick 79 (.tmp 75) (.tmp 78) (.const (.bool false))⟩,
  ⟨some 80,none,iMov 80 (.tmp 79) false⟩,
  ⟨some 81,some (80,true),iLoad 81 2 true (.tmp 11) false⟩,
  ⟨some 82,some (80,true),iLoad 82 2 true (.tmp 14) false⟩,
  ⟨some 83,some (80,true),iCall 83 8 [(.tmp 81),(.tmp 82)]⟩,
  ⟨some 84,none,iPick 84 (.tmp 80) (.tmp 83) (.const (.bool false))⟩,
  ⟨some 8,none,iMov 8 (.tmp 84) true⟩] [8] []
def w9_WorldApart : IC:=(cSeq w9_WorldApart_r0 (cSeq (cSeq w9_WorldApart_r1 w9_WorldApart_c1) (cSeq (cSeq w9_WorldApart_r3 w9_WorldApart_c2) (cSeq w9_WorldApart_r5 (cSeq w9_WorldApart_r6 (cSeq w9_WorldApart_r7 (cSeq w9_WorldApart_r8 (cSeq w9_WorldApart_r9 (cSeq w9_WorldApart_r10 cRet)))))))))
theorem told_w9_WorldApart {args r : List D} (hl : args.length = 4) (h : w9_WorldApart (start args) (fin [(8,none)] r)) : Told Try.prog 3 args r :=
 told_of follows Try.func3 rfl (an:=[([],[0,1,6,7],[6,7],[]),([],[0,1,6,7,18],[6,7],[]),([],[8],[],[]),([(10,[0,1,6,7,25,27,28],[6,7])],[0,1,6,7,41],[6,7],[]),([],[8],[],[]),([],[6,7,9],[6,7,9],[]),([],[6,7,9,11,12],[6,7,9,11],[]),([],[6,7,9,11,12,13],[6,7,9,11],[]),([],[6,11,12,13,14,15],[6,11,14],[]),([],[11,12,13,14,15,16],[11,14],[]),([],[8],[],[])]) (by kernel_rfl) (by kernel_rfl) (by rw [hl]; decide +kernel) h
end Go.Proofs.Ytgfljlmonaifgac.ab
