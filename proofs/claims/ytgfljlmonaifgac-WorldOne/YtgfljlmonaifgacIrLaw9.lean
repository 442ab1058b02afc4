import Derived.Test.YtgfljlmonaifgacM20
import Derived.Test.YtgfljlmonaifgacProg
set_option linter.unusedVariables false
set_option linter.unusedSimpArgs false
namespace Go.Proofs.Ytgfljlmonaifgac.ab
set_option maxRecDepth 100000
open Go Go.RowKit
def w9_alive_r0 : IC:=cReg Try.prog [
  ⟨some 0,none,iMov 0 (.const (.bool false)) true⟩] [] []
def w9_alive_r1 : IC:=cReg Try.prog [
  ⟨some 11,none,iCall 11 10 [(.const (.int .i64 2))]⟩,
  ⟨some 10,none,iMov 10 (.tmp 11) false⟩,
  ⟨some 12,none,iExt 12 (.tmp 10) 0⟩,
  ⟨some 13,none,iExt 13 (.tmp 10) 1⟩,
  ⟨some 1,none,iAlo 1 [vD (.slice none 0 0),vD (.int .i64 0)]⟩,
  ⟨none,none,iStor 2 (.tmp 1) (.tmp 12)⟩,
  ⟨some 2,none,iMov 2 (.tmp 13) true⟩] [1,2] [1]
def w9_alive_r2 : IC:=cReg Try.prog [
  ⟨some 15,none,iLoad 15 2 true (.tmp 1) false⟩,
  ⟨some 16,none,iRow 16 5 1 [(.const (.int .u8 97))]⟩,
  ⟨some 17,none,iCst 17 16⟩,
  ⟨some 18,none,iBld 18 [vD (.int .i64 0),vD (.slice none 0 0)] [(1,1)] [(.tmp 17)]⟩,
  ⟨some 19,none,iBld 19 [vD (.int .i64 0),vD (.int .i64 0),vD (.int .i64 0),vD (.int .i64 0),vD (.bool false),vD (.int .i64 0),vD (.slice none 0 0)] [(0,1),(1,1),(5,2)] [(.const (.int .i64 2)),(.const (.int .i64 1)),(.tmp 18)]⟩,
  ⟨some 20,none,iCall 20 7 [(.tmp 15),(.tmp 19)]⟩,
  ⟨some 14,none,iMov 14 (.tmp 20) false⟩,
  ⟨some 21,none,iExt 21 (.tmp 14) 0⟩,
  ⟨some 22,none,iExt 22 (.tmp 14) 1⟩,
  ⟨none,none,iStor 2 (.tmp 1) (.tmp 21)⟩,
  ⟨some 3,none,iMov 3 (.tmp 22) true⟩] [1,2,3] [1]
def w9_alive_r3 : IC:=cReg Try.prog [
  ⟨some 24,none,iLoad 24 2 true (.tmp 1) false⟩,
  ⟨some 25,none,iBld 25 [vD (.int .i64 0),vD (.int .i64 0),vD (.int .i64 0),vD (.int .i64 0),vD (.bool false),vD (.int .i64 0),vD (.slice none 0 0)] [(0,1)] [(.const (.int .i64 1))]⟩,
  ⟨some 26,none,iCall 26 7 [(.tmp 24),(.tmp 25)]⟩,
  ⟨some 23,none,iMov 23 (.tmp 26) false⟩,
  ⟨some 27,none,iExt 27 (.tmp 23) 0⟩,
  ⟨some 28,none,iExt 28 (.tmp 23) 1⟩,
  ⟨none,none,iStor 2 (.tmp 1) (.tmp 27)⟩,
  ⟨some 4,none,iMov 4 (.tmp 28) true⟩] [1,2,3,4] [1]
def w9_alive_r4 : IC:=cReg Try.prog [
  ⟨some 30,none,iLoad 30 2 true (.tmp 1) false⟩,
  ⟨some 31,none,iBld 31 [vD (.int .i64 0),vD (.int .i64 0),vD (.int .i64 0),vD (.int .i64 0),vD (.bool false),vD (.int .i64 0),vD (.slice none 0 0)] [(0,1)] [(.const (.int .i64 1))]⟩,
  ⟨some 32,none,iCall 32 7 [(.tmp 30),(.tmp 31)]⟩,
  ⟨some 29,none,iMov 29 (.tmp 32) false⟩,
  ⟨some 33,none,iExt 33 (.tmp 29) 0⟩,
  ⟨some 34,none,iExt 34 (.tmp 29) 1⟩,
  ⟨none,none,iStor 2 (.tmp 1) (.tmp 33)⟩,
  ⟨some 5,none,iMov 5 (.tmp 34) true⟩] [1,2,3,4,5] [1]
def w9_alive_r5 : IC:=cReg Try.prog [
  ⟨some 36,none,iLoad 36 2 true (.tmp 1) false⟩,
  ⟨some 37,none,iBld 37 [vD (.int .i64 0),vD (.int .i64 0),vD (.int .i64 0),vD (.int .i64 0),vD (.bool false),vD (.int .i64 0),vD (.slice none 0 0)] [(0,1),(1,1)] [(.const (.int .i64 3)),(.const (.int .i64 1))]⟩,
  ⟨some 38,none,iCall 38 7 [(.tmp 36),(.tmp 37)]⟩,
  ⟨some 35,none,iMov 35 (.tmp 38) false⟩,
  ⟨some 39,none,iExt 39 (.tmp 35) 0⟩,
  ⟨some 40,none,iExt 40 (.tmp 35) 1⟩,
  ⟨some 6,none,iAlo 6 [vD (.slice none 0 0),vD (.int .i64 0)]⟩,
  ⟨none,none,iStor 2 (.tmp 6) (.tmp 39)⟩,
  ⟨some 7,none,iMov 7 (.tmp 40) true⟩] [1,2,3,4,5,6,7] [1,6]
def w9_alive_r6 : IC:=cReg Try.prog [
  ⟨some 42,none,iCall 42 10 [(.const (.int .i64 0))]⟩,
  ⟨some 41,none,iMov 41 (.tmp 42) false⟩,
  ⟨some 43,none,iExt 43 (.tmp 41) 0⟩,
  ⟨some 44,none,iExt 44 (.tmp 41) 1⟩,
  ⟨some 8,none,iAlo 8 [vD (.slice none 0 0),vD (.int .i64 0)]⟩,
  ⟨none,none,iStor 2 (.tmp 8) (.tmp 43)⟩,
  ⟨some 9,none,iMov 9 (.tmp 44) true⟩] [1,2,3,4,5,6,7,9] [1,6]
def w9_alive_r7_0 : IC:=cReg Try.prog [
  ⟨some 45,none,iMov 45 (.tmp 2) false⟩,
  ⟨some 46,none,iBin 46 .eql (.tmp 45) (.const (.int .i64 0))⟩,
  ⟨some 47,none,iMov 47 (.tmp 46) false⟩,
  ⟨some 48,some (47,true),iMov 48 (.tmp 3) false⟩,
  ⟨some 49,some (47,true),iBin 49 .eql (.tmp 48) (.const (.int .i64 0))⟩,
  ⟨some 50,none,iPick 50 (.tmp 47) (.tmp 49) (.const (.bool false))⟩,
  ⟨some 51,none,iMov 51 (.tmp 50) false⟩,
  ⟨some 52,some (51,true),iMov 52 (.tmp 4) false⟩,
  ⟨some 53,some (51,true),iBin 53 .eql (.tmp 52) (.const (.int .i64 0))⟩,
  ⟨some 54,none,iPick 54 (.tmp 51) (.tmp 53) (.const (.bool false))⟩] [1,5,6,7,9,54] [1,6]
def w9_alive_r7_1 : IC:=cReg Try.prog [
  ⟨some 55,none,iMov 55 (.tmp 54) false⟩,
  ⟨some 56,some (55,true),iMov 56 (.tmp 5) false⟩,
  ⟨some 57,some (55,true),iBin 57 .eql (.tmp 56) (.const (.int .i64 0))⟩,
  ⟨some 58,none,iPick 58 (.tmp 55) (.tmp 57) (.const (.bool false))⟩,
  ⟨some 59,none,iMov 59 (.tmp 58) false⟩,
  ⟨some 60,some (59,true),iMov 60 (.tmp 7) false⟩,
  ⟨some 61,some (59,true),iBin 61 .eql (.tmp 60) (.const (.int .i64 0))⟩,
  ⟨some 62,none,iPick 62 (.tmp 59) (.tmp 61) (.const (.bool false))⟩,
  ⟨some 63,none,iMov 63 (.tmp 62) false⟩,
  ⟨some 64,some (63,true),iMov 64 (.tmp 9) false⟩] [1,6,63,64] [1,6]
def w9_alive_r7_2 : IC:=cReg Try.prog [
  ⟨some 65,some (63,true),iBin 65 .eql (.tmp 64) (.const (.int .i64 3))⟩,
  ⟨some 66,none,iPick 66 (.tmp 63) (.tmp 65) (.const (.bool false))⟩,
  ⟨some 67,none,iMov 67 (.tmp 66) false⟩,
  ⟨some 68,some (67,true),iFad 68 1 (.tmp 1)⟩,
  ⟨some 69,some (67,true),iLoad 69 1 false (.tmp 68) false⟩,
  ⟨some 70,some (67,true),iBin 70 .eql (.tmp 69) (.const (.int .i64 2))⟩,
  ⟨some 71,none,iPick 71 (.tmp 67) (.tmp 70) (.const (.bool false))⟩,
  ⟨some 72,none,iMov 72 (.tmp 71) false⟩,
  ⟨some 73,some (72,true),iFad 73 0 (.tmp 1)⟩,
  ⟨some 74,some (72,true),iLoad 74 1 false (.tmp 73) false⟩] [1,6,72,74] [1,6]
def w9_alive_r7_3 : IC:=cReg Try.prog [
  ⟨some 75,some (72,true),iIaS 75 17 (.tmp 74) (.const (.int .i64 1))⟩,
  ⟨some 76,some (72,true),iFad 76 15 (.tmp 75)⟩,
  ⟨some 77,some (72,true),iLoad 77 1 false (.tmp 76) false⟩,
  ⟨some 78,some (72,true),iLen 78 false (.tmp 77)⟩,
  ⟨some 79,some (72,true),iBin 79 .eql (.tmp 78) (.const (.int .i64 1))⟩,
  ⟨some 80,none,iPick 80 (.tmp 72) (.tmp 79) (.const (.bool false))⟩,
  ⟨some 81,none,iMov 81 (.tmp 80) false⟩,
  ⟨some 82,some (81,true),iFad 82 0 (.tmp 6)⟩,
  ⟨some 83,some (81,true),iLoad 83 1 false (.tmp 82) false⟩,
  ⟨some 84,some (81,true),iIaS 84 17 (.tmp 83) (.const (.int .i64 1))⟩] [1,81,84] [1]
def w9_alive_r7_4 : IC:=cReg Try.prog [
  ⟨some 85,some (81,true),iFad 85 7 (.tmp 84)⟩,
  ⟨some 86,some (81,true),iFad 86 6 (.tmp 85)⟩,
  ⟨some 87,some (81,true),iLoad 87 1 false (.tmp 86) false⟩,
  ⟨some 88,some (81,true),iLen 88 false (.tmp 87)⟩,
  ⟨some 89,some (81,true),iBin 89 .eql (.tmp 88) (.const (.int .i64 1))⟩,
  ⟨some 90,none,iPick 90 (.tmp 81) (.tmp 89) (.const (.bool false))⟩,
  ⟨some 91,none,iMov 91 (.tmp 90) false⟩,
  ⟨some 92,some (91,true),iLoad 92 2 true (.tmp 1) false⟩,
  ⟨some 93,some (91,true),iCall 93 11 [(.tmp 92)]⟩,
  ⟨some 94,some (91,true),iFld 94 0 1 false (.tmp 93)⟩] [91,94] []
def w9_alive_r7_5 : IC:=cReg Try.prog [
  ⟨some 95,some (91,true),iLen 95 false (.tmp 94)⟩,
  ⟨some 96,some (91,true),iBin 96 .eql (.tmp 95) (.const (.int .i64 2))⟩,
  ⟨some 97,none,iPick 97 (.tmp 91) (.tmp 96) (.const (.bool false))⟩,
  ⟨some 0,none,iMov 0 (.tmp 97) true⟩] [0] []
def w9_alive_r7 : IC:=(cSeq w9_alive_r7_0 (cSeq w9_alive_r7_1 (cSeq w9_alive_r7_2 (cSeq w9_alive_r7_3 (cSeq w9_alive_r7_4 w9_alive_r7_5)))))
def w9_alive : IC:=(cSeq w9_alive_r0 (cSeq w9_alive_r1 (cSeq w9_alive_r2 (cSeq w9_alive_r3 (cSeq w9_alive_r4 (cSeq w9_alive_r5 (cSeq w9_alive_r6 (cSeq w9_alive_r7 cRet))))))))
theorem told_w9_alive {args r : List D} (hl : args.length = 0) (h : w9_alive (start args) (fin [(0,none)] r)) : Told Try.prog 5 args r :=
 told_of follows Try.func5 rfl (an:=[([],[],[],[]),([],[1,2],[1],[]),([],[1,2,3],[1],[]),([],[1,2,3,4],[1],[]),([],[1,2,3,4,5],[1],[]),([],[1,2,3,4,5,6,7],[1,6],[]),([],[1,2,3,4,5,6,7,9],[1,6],[]),([(10,[1,5,6,7,9,54],[1,6]),(10,[1,6,63,64],[1,6]),(10,[1,6,72,74],[1,6]),(10,[1,81,84],[1]),(10,[91,94],[])],[0],[],[])]) (by kernel_rfl) (by kernel_rfl) (by rw [hl]; decide +kernel) h
def w9_WorldOne_r0 : IC:=cReg Try.prog [
  ⟨some 5,none,iBox 5 (.tmp 2)⟩,
  ⟨some 6,none,iMov 6 (.const (.bool false)) true⟩] [0,1,5] [5]
def w9_WorldOne_r1 : IC:=cReg Try.prog [
  ⟨some 13,none,iCall 13 5 []⟩,
  ⟨some 14,none,iNot 14 (.tmp 13)⟩] [0,1,5,14] [5]
def w9_WorldOne_r2 : IC:=cReg Try.prog [
  ⟨some 6,none,iMov 6 (.const (.bool false)) true⟩] [6] []
def w9_WorldOne_c1a : IC:=(cSeq w9_WorldOne_r2 cRet)
def w9_WorldOne_c1 : IC:=cCond (.tmp 14) w9_WorldOne_c1a cSkip
def w9_WorldOne_r3 : IC:=cReg Try.prog [
  ⟨some 15,none,iMov 15 (.tmp 0) false⟩,
  ⟨some 16,none,iBin 16 .lss (.tmp 15) (.const (.int .i64 1))⟩,
  ⟨some 17,none,iMov 17 (.tmp 16) false⟩,
  ⟨some 18,some (17,false),iMov 18 (.tmp 0) false⟩,
  ⟨some 19,some (17,false),iBin 19 .gtr (.tmp 18) (.const (.int .i64 3))⟩,
  ⟨some 20,none,iPick 20 (.tmp 17) (.const (.bool true)) (.tmp 19)⟩] [0,1,5,20] [5]
def w9_WorldOne_r4 : IC:=cReg Try.prog [
  ⟨some 6,none,iMov 6 (.const (.bool true)) true⟩] [6] []
def w9_WorldOne_c2a : IC:=(cSeq w9_WorldOne_r4 cRet)
def w9_WorldOne_c2 : IC:=cCond (.tmp 20) w9_WorldOne_c2a cSkip
def w9_WorldOne_r5 : IC:=cReg Try.prog [
  ⟨some 22,none,iMov 22 (.tmp 0) false⟩,
  ⟨some 23,none,iMov 23 (.tmp 1) false⟩,
  ⟨some 24,none,iCall 24 6 [(.tmp 22),(.tmp 23)]⟩,
  ⟨some 21,none,iMov 21 (.tmp 24) false⟩,
  ⟨some 25,none,iExt 25 (.tmp 21) 0⟩,
  ⟨some 26,none,iExt 26 (.tmp 21) 1⟩,
  ⟨some 7,none,iAlo 7 [vD (.slice none 0 0),vD (.int .i64 0)]⟩,
  ⟨none,none,iStor 2 (.tmp 7) (.tmp 25)⟩,
  ⟨some 8,none,iMov 8 (.tmp 26) true⟩] [0,5,7] [5,7]
def w9_WorldOne_r6 : IC:=cReg Try.prog [
  ⟨some 28,none,iLoad 28 2 true (.tmp 7) false⟩,
  ⟨some 29,none,iLoad 29 7 true (.tmp 5) false⟩,
  ⟨some 30,none,iCall 30 7 [(.tmp 28),(.tmp 29)]⟩,
  ⟨some 27,none,iMov 27 (.tmp 30) false⟩,
  ⟨some 31,none,iExt 31 (.tmp 27) 0⟩,
  ⟨some 32,none,iExt 32 (.tmp 27) 1⟩,
  ⟨some 9,none,iAlo 9 [vD (.slice none 0 0),vD (.int .i64 0)]⟩,
  ⟨none,none,iStor 2 (.tmp 9) (.tmp 31)⟩,
  ⟨some 10,none,iMov 10 (.tmp 32) true⟩] [0,5,7,9,10] [5,7,9]
def w9_WorldOne_r7 : IC:=cReg Try.prog [
  ⟨some 33,none,iMov 33 (.tmp 10) false⟩,
  ⟨some 34,none,iBin 34 .neq (.tmp 33) (.const (.int .i64 0))⟩] [0,5,7,9,34] [5,7,9]
def w9_WorldOne_r8 : IC:=cReg Try.prog [
  ⟨some 35,none,iLoad 35 2 true (.tmp 9) false⟩,
  ⟨some 36,none,iLoad 36 2 true (.tmp 7) false⟩,
  ⟨some 37,none,iCall 37 8 [(.tmp 35),(.tmp 36)]⟩,
  ⟨some 6,none,iMov 6 (.tmp 37) true⟩] [6] []
def w9_WorldOne_c3a : IC:=(cSeq w9_WorldOne_r8 cRet)
def w9_WorldOne_c3 : IC:=cCond (.tmp 34) w9_WorldOne_c3a cSkip
def w9_WorldOne_r9 : IC:=cReg Try.prog [
  ⟨some 38,none,iFad 38 1 (.tmp 5)⟩,
  ⟨some 39,none,iLoad 39 1 false (.tmp 38) false⟩,
  ⟨some 11,none,iMov 11 (.tmp 39) true⟩] [0,5,7,9,11] [5,7,9]
def w9_WorldOne_r10 : IC:=cReg Try.prog [
  ⟨some 40,none,iFad 40 0 (.tmp 5)⟩,
  ⟨some 41,none,iLoad 41 1 false (.tmp 40) false⟩,
  ⟨some 42,none,iBin 42 .eql (.tmp 41) (.const (.int .i64 1))⟩] [0,5,7,9,11,42] [5,7,9]
def w9_WorldOne_r11 : IC:=cReg Try.prog [
  ⟨some 43,none,iFad 43 1 (.tmp 7)⟩,
  ⟨some 44,none,iLoad 44 1 false (.tmp 43) false⟩,
  ⟨some 45,none,iMov 45 (.tmp 0) false⟩,
  ⟨some 46,none,iBin 46 .rem (.tmp 44) (.tmp 45)⟩,
  ⟨some 11,none,iMov 11 (.tmp 46) true⟩] [5,7,9,11] [5,7,9]
def w9_WorldOne_c4 : IC:=cCond (.tmp 42) w9_WorldOne_r11 cSkip
def w9_WorldOne_r12 : IC:=cReg Try.prog [
  ⟨some 47,none,iFad 47 0 (.tmp 7)⟩,
  ⟨some 48,none,iLoad 48 1 false (.tmp 47) false⟩,
  ⟨some 49,none,iLen 49 false (.tmp 48)⟩,
  ⟨some 50,none,iMov 50 (.const (.int .i64 0)) false⟩] [5,7,9,11,49,50] [5,7,9]
def w9_WorldOne_r13 : IC:=cReg Try.prog [
  ⟨some 51,none,iBin 51 .lss (.tmp 50) (.tmp 49)⟩] [5,7,9,11,49,50,51] [5,7,9]
def w9_WorldOne_c7 : IC:=cCond (.tmp 51) cSkip (cExit 0)
def w9_WorldOne_r14 : IC:=cReg Try.prog [
  ⟨some 52,none,iMov 52 (.tmp 50) false⟩,
  ⟨some 12,none,iMov 12 (.tmp 52) true⟩] [5,7,9,11,12,49,50] [5,7,9]
def w9_WorldOne_r15 : IC:=cRegD Try.prog [
  ⟨some 53,none,iMov 53 (.tmp 12) false⟩,
  ⟨some 54,none,iMov 54 (.tmp 11) false⟩,
  ⟨some 55,none,iBin 55 .neq (.tmp 53) (.tmp 54)⟩,
  ⟨some 56,none,iMov 56 (.tmp 55) false⟩,
  ⟨some 57,some (56,true),iFad 57 0 (.tmp 9)⟩,
  ⟨some 58,some (56,true),iLoad 58 1 false (.tmp 57) false⟩,
  ⟨some 59,some (56,true),iMov 59 (.tmp 12) false⟩,
  ⟨some 60,some (56,true),iIaS 60 17 (.tmp 58) (.tmp 59)⟩,
  ⟨some 61,some (56,true),iLoad 61 17 true (.tmp 60) false⟩,
  ⟨some 62,some (56,true),iFad 62 0 (.tmp 7)⟩,
  ⟨some 63,some (56,true),iLoad 63 1 false (.tmp 62) false⟩,
  ⟨some 64,some (56,true),iMov 64 (.tmp 12) false⟩,
  ⟨some 65,some (56,true),iIaS 65 17 (.tmp 63) (.tmp 64)⟩,
  ⟨some 66,some (56,true),iLoad 66 17 true (.tmp 65) false⟩,
  ⟨some 67,some (56,true),iCall 67 9 [(.tmp 61),(.tmp 66)]⟩,
  ⟨some 68,some (56,true),iNot 68 (.tmp 67)⟩,
  ⟨some 69,none,iPick 69 (.tmp 56) (.tmp 68) (.const (.bool false))⟩] [[],[],[0,1],[2,0,1],[3,2,0,1],[4,3,2,0,1],[3,2,0,1],[5,6,3,4,2,0,1],[7,3,5,6,4,2,0,1],[3,2,0,1],[9,3,2,0,1],[3,2,0,1],[10,11,3,9,2,0,1],[12,3,10,11,9,2,0,1],[8,13,3,7,5,6,4,2,0,1,12,10,11,9],[14,3,8,13,7,5,6,4,2,0,1,12,10,11,9],[3,15,2,0,1,14,8,13,7,5,6,4,12,10,11,9]] [5,7,9,11,49,50,69] [5,7,9]
def w9_WorldOne_r16 : IC:=cReg Try.prog [
  ⟨some 6,none,iMov 6 (.const (.bool false)) true⟩] [6] []
def w9_WorldOne_c9a : IC:=(cSeq w9_WorldOne_r16 cRet)
def w9_WorldOne_c9 : IC:=cCond (.tmp 69) w9_WorldOne_c9a cSkip
def w9_WorldOne_b8 : IC:=cBlock 1 (cSeq w9_WorldOne_r14 (cSeq w9_WorldOne_r15 w9_WorldOne_c9))
def w9_WorldOne_r17 : IC:=cReg Try.prog [
  ⟨some 70,none,iBin 70 .add (.tmp 50) (.const (.int .i64 1))⟩,
  ⟨some 50,none,iMov 50 (.tmp 70) false⟩] [5,7,9,11,49,50] [5,7,9]
def w9_WorldOne_l6a : IC:=(cSeq w9_WorldOne_r13 (cSeq w9_WorldOne_c7 (cSeq w9_WorldOne_b8 w9_WorldOne_r17)))
def w9_WorldOne_l6 : IC:=cLoop w9_WorldOne_l6a
def w9_WorldOne_b5 : IC:=cBlock 0 w9_WorldOne_l6
def w9_WorldOne_r18_0 : IC:=cReg Try.prog [
  ⟨some 71,none,iFad 71 1 (.tmp 9)⟩,
  ⟨some 72,none,iLoad 72 1 false (.tmp 71) false⟩,
  ⟨some 73,none,iFad 73 1 (.tmp 7)⟩,
  ⟨some 74,none,iLoad 74 1 false (.tmp 73) false⟩,
  ⟨some 75,none,iBin 75 .add (.tmp 74) (.const (.int .i64 1))⟩,
  ⟨some 76,none,iBin 76 .eql (.tmp 72) (.tmp 75)⟩,
  ⟨some 77,none,iFad 77 0 (.tmp 5)⟩,
  ⟨some 78,none,iLoad 78 1 false (.tmp 77) false⟩,
  ⟨some 79,none,iBin 79 .eql (.tmp 78) (.const (.int .i64 1))⟩,
  ⟨some 80,none,iBinB 80 true (.tmp 76) (.tmp 79)⟩] [5,7,9,80] [5,7,9]
def w9_WorldOne_r18_1 : IC:=cReg Try.prog [
  ⟨some 81,none,iMov 81 (.tmp 80) false⟩,
  ⟨some 82,some (81,true),iFad 82 1 (.tmp 9)⟩,
  ⟨some 83,some (81,true),iLoad 83 1 false (.tmp 82) false⟩,
  ⟨some 84,some (81,true),iFad 84 1 (.tmp 7)⟩,
  ⟨some 85,some (81,true),iLoad 85 1 false (.tmp 84) false⟩,
  ⟨some 86,some (81,true),iBin 86 .eql (.tmp 83) (.tmp 85)⟩,
  ⟨some 87,some (81,true),iFad 87 0 (.tmp 5)⟩,
  ⟨some 88,some (81,true),iLoad 88 1 false (.tmp 87) false⟩,
  ⟨some 89,some (81,true),iBin 89 .neq (.tmp 88) (.const (.int .i64 1))⟩,
  ⟨some 90,some (81,true),iBinB 90 true (.tmp 86) (.tmp 89)⟩,
  ⟨some 91,none,iPick 91 (.tmp 81) (.tmp 90) (.const (.bool false))⟩,
  ⟨some 6,none,iMov 6 (.tmp 91) true⟩] [6] []
def w9_WorldOne_r18 : IC:=(cSeq w9_WorldOne_r18_0 w9_WorldOne_r18_1)
def w9_WorldOne : IC:=(cSeq w9_WorldOne_r0 (cSeq (cSeq w9_WorldOne_r1 w9_WorldOne_c1) (cSeq (cSeq w9_WorldOne_r3 w9_WorldOne_c2) (cSeq w9_WorldOne_r5 (cSeq w9_WorldOne_r6 (cSeq (cSeq w9_WorldOne_r7 w9_WorldOne_c3) (cSeq w9_WorldOne_r9 (cSeq (cSeq w9_WorldOne_r10 w9_WorldOne_c4) (cSeq (cSeq w9_WorldOne_r12 w9_WorldOne_b5) (cSeq w9_WorldOne_r18 cRet))))))))))
theorem told_w9_WorldOne {args r : List D} (hl : args.length = 3) (h : w9_WorldOne (start args) (fin [(6,none)] r)) : Told Try.prog 4 args r :=
 told_of follows Try.func4 rfl (an:=[([],[0,1,5],[5],[]),([],[0,1,5,14],[5],[]),([],[6],[],[]),([],[0,1,5,20],[5],[]),([],[6],[],[]),([],[0,5,7],[5,7],[]),([],[0,5,7,9,10],[5,7,9],[]),([],[0,5,7,9,34],[5,7,9],[]),([],[6],[],[]),([],[0,5,7,9,11],[5,7,9],[]),([],[0,5,7,9,11,42],[5,7,9],[]),([],[5,7,9,11],[5,7,9],[]),([],[5,7,9,11,49,50],[5,7,9],[]),([],[5,7,9,11,49,50,51],[5,7,9],[]),([],[5,7,9,11,12,49,50],[5,7,9],[]),([],[5,7,9,11,49,50,69],[5,7,9],[]),([],[6],[],[]),([],[5,7,9,11,49,50],[5,7,9],[]),([(10,[5,7,9,80],[5,7,9])],[6],[],[])]) (by kernel_rfl) (by kernel_rfl) (by rw [hl]; decide +kernel) h
end Go.Proofs.Ytgfljlmonaifgac.ab
