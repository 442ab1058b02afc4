import Derived.Test.YtgfljlmonaifgabM20
import Derived.Test.YtgfljlmonaifgabProg
set_option linter.unusedVariables false
set_option linter.unusedSimpArgs false
namespace Go.Proofs.Ytgfljlmonaifgab.ab
set_option maxRecDepth 100000
open Go Go.RowKit
def send_sayNew_r0 : IC:=cReg Try.prog [
  ⟨some 2,none,iAlo 2 [vD (.slice none 0 0),vD (.int .i64 0),vD (.int .i64 0),vD (.int .i64 0),vD (.int .i64 0),vD (.slice none 0 0),vD (.int .i64 0)]⟩,
  ⟨some 3,none,iAlo 3 [vD (.int .i64 0),vD (.int .i64 0),vD (.int .i64 0),vD (.int .i64 0),vD (.slice none 0 0),vD (.slice none 0 0)]⟩] [1,2,3] [1,2,3]
def send_sayNew_r1 : IC:=cReg Try.prog [
  ⟨some 6,none,iFad 6 0 (.tmp 1)⟩,
  ⟨some 7,none,iLoad 7 1 false (.tmp 6) false⟩,
  ⟨some 8,none,iIaS 8 2 (.tmp 7) (.const (.int .i64 0))⟩,
  ⟨some 9,none,iLoad 9 2 true (.tmp 8) false⟩,
  ⟨some 4,none,iAlo 4 [vD (.int .i64 0),vD (.slice none 0 0)]⟩,
  ⟨none,none,iStor 2 (.tmp 4) (.tmp 9)⟩] [1,2,3,4] [1,2,3,4]
def send_sayNew_r2 : IC:=cReg Try.prog [
  ⟨some 10,none,iFad 10 0 (.tmp 1)⟩,
  ⟨some 11,none,iLoad 11 1 false (.tmp 10) false⟩,
  ⟨some 12,none,iSlc 12 2 (.tmp 11) (some (.const (.int .i64 1))) none⟩,
  ⟨some 13,none,iFad 13 0 (.tmp 1)⟩,
  ⟨none,none,iStor 1 (.tmp 13) (.tmp 12)⟩] [1,2,3,4] [1,2,3,4]
def send_sayNew_r3 : IC:=cRegD Try.prog [
  ⟨some 14,none,iFad 14 1 (.tmp 1)⟩,
  ⟨some 15,none,iLoad 15 1 false (.tmp 14) false⟩,
  ⟨some 16,none,iFad 16 0 (.tmp 4)⟩,
  ⟨some 17,none,iLoad 17 1 false (.tmp 16) false⟩,
  ⟨some 18,none,iFad 18 0 (.tmp 4)⟩,
  ⟨some 19,none,iLoad 19 1 false (.tmp 18) false⟩,
  ⟨some 20,none,iFad 20 2 (.tmp 1)⟩,
  ⟨some 21,none,iIaA 21 3 1 (.tmp 20) (.tmp 19)⟩,
  ⟨some 22,none,iLoad 22 1 false (.tmp 21) false⟩,
  ⟨some 23,none,iFad 23 1 (.tmp 4)⟩,
  ⟨some 24,none,iLoad 24 1 false (.tmp 23) false⟩,
  ⟨some 25,none,iBld 25 [vD (.int .i64 0),vD (.int .i64 0),vD (.int .i64 0),vD (.int .i64 0),vD (.slice none 0 0),vD (.slice none 0 0)] [(0,1),(1,1),(2,1),(3,1),(4,1)] [(.const (.int .i64 1)),(.tmp 15),(.tmp 17),(.tmp 22),(.tmp 24)]⟩,
  ⟨some 5,none,iAlo 5 [vD (.int .i64 0),vD (.int .i64 0),vD (.int .i64 0),vD (.int .i64 0),vD (.slice none 0 0),vD (.slice none 0 0)]⟩,
  ⟨none,none,iStor 6 (.tmp 5) (.tmp 25)⟩] [[],[0],[],[2],[],[4],[],[6,5,4],[7,6,5,4],[],[9],[1,3,8,10,0,2,7,6,5,4,9],[],[12,11,0,1,2,3,4,5,6,7,8,9,10]] [1,2,3,4,5] [1,2,3,4,5]
def send_sayNew_r4 : IC:=cReg Try.prog [
  ⟨some 26,none,iFad 26 1 (.tmp 1)⟩,
  ⟨some 27,none,iLoad 27 1 false (.tmp 26) false⟩,
  ⟨some 28,none,iBin 28 .add (.tmp 27) (.const (.int .i64 1))⟩,
  ⟨some 29,none,iFad 29 1 (.tmp 1)⟩,
  ⟨none,none,iStor 1 (.tmp 29) (.tmp 28)⟩] [1,2,3,4,5] [1,2,3,4,5]
def send_sayNew_r5 : IC:=cReg Try.prog [
  ⟨some 30,none,iFad 30 0 (.tmp 4)⟩,
  ⟨some 31,none,iLoad 31 1 false (.tmp 30) false⟩,
  ⟨some 32,none,iFad 32 2 (.tmp 1)⟩,
  ⟨some 33,none,iIaA 33 3 1 (.tmp 32) (.tmp 31)⟩,
  ⟨some 34,none,iLoad 34 1 false (.tmp 33) false⟩,
  ⟨some 35,none,iBin 35 .add (.tmp 34) (.const (.int .i64 1))⟩,
  ⟨some 36,none,iFad 36 2 (.tmp 1)⟩,
  ⟨some 37,none,iIaA 37 3 1 (.tmp 36) (.tmp 31)⟩,
  ⟨none,none,iStor 1 (.tmp 37) (.tmp 35)⟩] [1,2,3,5] [1,2,3,5]
def send_sayNew_r6 : IC:=cReg Try.prog [
  ⟨some 38,none,iFad 38 5 (.tmp 1)⟩,
  ⟨some 39,none,iLoad 39 1 false (.tmp 38) true⟩,
  ⟨some 40,none,iLoad 40 6 true (.tmp 5) false⟩,
  ⟨some 41,none,iRow 41 32 6 [(.tmp 40)]⟩,
  ⟨some 42,none,iApp 42 32 6 80 (.tmp 39) (.tmp 41)⟩,
  ⟨some 43,none,iFad 43 5 (.tmp 1)⟩,
  ⟨none,none,iStor 1 (.tmp 43) (.tmp 42)⟩] [1,2,3,5] [1,2,3,5]
def send_sayNew_r7 : IC:=cRegD Try.prog [
  ⟨some 44,none,iLoad 44 7 true (.tmp 1) false⟩,
  ⟨some 45,none,iLoad 45 6 true (.tmp 5) false⟩,
  ⟨none,none,iStor 7 (.tmp 2) (.tmp 44)⟩,
  ⟨none,none,iStor 6 (.tmp 3) (.tmp 45)⟩] [[],[],[0],[1,2,0]] [2,3] [2,3]
def send_sayNew : IC:=cSeq send_sayNew_r0 (cSeq send_sayNew_r1 (cSeq send_sayNew_r2 (cSeq send_sayNew_r3 (cSeq send_sayNew_r4 (cSeq send_sayNew_r5 (cSeq send_sayNew_r6 (cSeq send_sayNew_r7 cRet)))))))
theorem toldI_send_sayNew {cs r : List D} {off e : Nat} {z : Pay} (h : send_sayNew ⟨[(1,pD 1 0),(0,aD cs)],[(1,cs)],[((1,some off),(e,z))]⟩ (fin [(2,some (7,true)),(3,some (6,true))] r)) : ToldI Try.prog 59 [aD cs] 0 (some off) e z r :=
 toldI_cell follows Try.func59 rfl rfl rfl rfl rfl (by decide +kernel) (rw:=[]) (cuts:=[]) (lv:=[1,2,3]) (lb:=[1,2,3]) (an:=[([],[1,2,3,4],[1,2,3,4],[]),([],[1,2,3,4],[1,2,3,4],[]),([],[1,2,3,4,5],[1,2,3,4,5],[]),([],[1,2,3,4,5],[1,2,3,4,5],[]),([],[1,2,3,5],[1,2,3,5],[]),([],[1,2,3,5],[1,2,3,5],[]),([],[2,3],[2,3],[])]) (by kernel_rfl) (by kernel_rfl) (by kernel_rfl) (by decide +kernel) (by rw [fin_eq]; exact h)
def send_sayAgain_r0 : IC:=cReg Try.prog [
  ⟨some 1,none,iBox 1 (.tmp 0)⟩,
  ⟨some 2,none,iAlo 2 [vD (.slice none 0 0),vD (.int .i64 0),vD (.int .i64 0),vD (.int .i64 0),vD (.int .i64 0),vD (.slice none 0 0),vD (.int .i64 0)]⟩,
  ⟨some 3,none,iAlo 3 [vD (.int .i64 0),vD (.int .i64 0),vD (.int .i64 0),vD (.int .i64 0),vD (.slice none 0 0),vD (.slice none 0 0)]⟩] [1,2,3] [1,2,3]
def send_sayAgain_r1 : IC:=cReg Try.prog [
  ⟨some 5,none,iFad 5 6 (.tmp 1)⟩,
  ⟨some 6,none,iLoad 6 1 false (.tmp 5) false⟩,
  ⟨some 7,none,iFad 7 5 (.tmp 1)⟩,
  ⟨some 8,none,iLoad 8 1 false (.tmp 7) false⟩,
  ⟨some 9,none,iLen 9 false (.tmp 8)⟩,
  ⟨some 10,none,iBin 10 .rem (.tmp 6) (.tmp 9)⟩,
  ⟨some 4,none,iMov 4 (.tmp 10) true⟩] [1,2,3,4] [1,2,3]
def send_sayAgain_r2 : IC:=cReg Try.prog [
  ⟨some 11,none,iMov 11 (.tmp 4) false⟩,
  ⟨some 12,none,iBin 12 .add (.tmp 11) (.const (.int .i64 1))⟩,
  ⟨some 13,none,iFad 13 6 (.tmp 1)⟩,
  ⟨none,none,iStor 1 (.tmp 13) (.tmp 12)⟩] [1,2,3,4] [1,2,3]
def send_sayAgain_r3 : IC:=cRegD Try.prog [
  ⟨some 14,none,iLoad 14 7 true (.tmp 1) false⟩,
  ⟨some 15,none,iFad 15 5 (.tmp 1)⟩,
  ⟨some 16,none,iLoad 16 1 false (.tmp 15) false⟩,
  ⟨some 17,none,iMov 17 (.tmp 4) false⟩,
  ⟨some 18,none,iIaS 18 6 (.tmp 16) (.tmp 17)⟩,
  ⟨some 19,none,iLoad 19 6 true (.tmp 18) false⟩,
  ⟨none,none,iStor 7 (.tmp 2) (.tmp 14)⟩,
  ⟨none,none,iStor 6 (.tmp 3) (.tmp 19)⟩] [[],[],[1],[],[2,3,1],[4,2,3,1],[0],[5,6,0,1,2,3,4]] [2,3] [2,3]
def send_sayAgain : IC:=(cSeq send_sayAgain_r0 (cSeq send_sayAgain_r1 (cSeq send_sayAgain_r2 (cSeq send_sayAgain_r3 cRet))))
theorem told_send_sayAgain {args r : List D} (hl : args.length = 1) (h : send_sayAgain (start args) (fin [(2,some (7,true)),(3,some (6,true))] r)) : Told Try.prog 60 args r :=
 told_of follows Try.func60 rfl (an:=[([],[1,2,3],[1,2,3],[]),([],[1,2,3,4],[1,2,3],[]),([],[1,2,3,4],[1,2,3],[]),([],[2,3],[2,3],[])]) (by kernel_rfl) (by kernel_rfl) (by rw [hl]; decide +kernel) h
def send_Say_r0 : IC:=cReg Try.prog [
  ⟨some 1,none,iBox 1 (.tmp 0)⟩,
  ⟨some 2,none,iAlo 2 [vD (.slice none 0 0),vD (.int .i64 0),vD (.int .i64 0),vD (.int .i64 0),vD (.int .i64 0),vD (.slice none 0 0),vD (.int .i64 0)]⟩,
  ⟨some 3,none,iAlo 3 [vD (.int .i64 0),vD (.int .i64 0),vD (.int .i64 0),vD (.int .i64 0),vD (.slice none 0 0),vD (.slice none 0 0)]⟩,
  ⟨some 4,none,iMov 4 (.const (.bool false)) true⟩] [1,2,3] [1,2,3]
def send_Say_r1_0 : IC:=cOwn Try.prog 1 6 7 57 7
def send_Say_r1_1 : IC:=cReg Try.prog [] [1,2,3] [1,2,3]
def send_Say_r1 : IC:=(cSeq send_Say_r1_0 send_Say_r1_1)
def send_Say_r2 : IC:=cReg Try.prog [
  ⟨some 5,none,iAlo 5 [vD (.int .i64 0),vD (.int .i64 0),vD (.int .i64 0),vD (.int .i64 0),vD (.slice none 0 0),vD (.slice none 0 0)]⟩] [1,2,3,5] [1,2,3,5]
def send_Say_r4 : IC:=cReg Try.prog [
  ⟨some 11,none,iFad 11 0 (.tmp 1)⟩,
  ⟨some 12,none,iLoad 12 1 false (.tmp 11) false⟩,
  ⟨some 13,none,iLen 13 false (.tmp 12)⟩,
  ⟨some 14,none,iBin 14 .gtr (.tmp 13) (.const (.int .i64 0))⟩,
  ⟨some 15,none,iMov 15 (.tmp 14) false⟩,
  ⟨some 16,some (15,true),iFad 16 5 (.tmp 1)⟩,
  ⟨some 17,some (15,true),iLoad 17 1 false (.tmp 16) false⟩,
  ⟨some 18,some (15,true),iLen 18 false (.tmp 17)⟩,
  ⟨some 19,some (15,true),iBin 19 .lss (.tmp 18) (.const (.int .i64 4))⟩,
  ⟨some 20,none,iPick 20 (.tmp 15) (.tmp 19) (.const (.bool false))⟩,
  ⟨some 10,none,iMov 10 (.tmp 20) true⟩] [1,2,3,5,10] [1,2,3,5]
def send_Say_r5_0 : IC:=cInn Try.prog 1 22 23 59 7
def send_Say_r5_1 : IC:=cReg Try.prog [
  ⟨some 21,none,iMov 21 (.tmp 23) false⟩,
  ⟨some 24,none,iExt 24 (.tmp 21) 0⟩,
  ⟨some 25,none,iExt 25 (.tmp 21) 1⟩,
  ⟨none,none,iStor 7 (.tmp 1) (.tmp 24)⟩,
  ⟨none,none,iStor 6 (.tmp 5) (.tmp 25)⟩] [1,2,3,5] [1,2,3,5]
def send_Say_r5 : IC:=(cSeq send_Say_r5_0 send_Say_r5_1)
def send_Say_r6 : IC:=cReg Try.prog [
  ⟨some 27,none,iFad 27 5 (.tmp 1)⟩,
  ⟨some 28,none,iLoad 28 1 false (.tmp 27) false⟩,
  ⟨some 29,none,iLen 29 false (.tmp 28)⟩,
  ⟨some 30,none,iBin 30 .gtr (.tmp 29) (.const (.int .i64 0))⟩,
  ⟨some 26,none,iMov 26 (.tmp 30) true⟩] [1,2,3,5,26] [1,2,3,5]
def send_Say_r7 : IC:=cReg Try.prog [
  ⟨some 32,none,iLoad 32 7 true (.tmp 1) false⟩,
  ⟨some 33,none,iCall 33 60 [(.tmp 32)]⟩,
  ⟨some 31,none,iMov 31 (.tmp 33) false⟩,
  ⟨some 34,none,iExt 34 (.tmp 31) 0⟩,
  ⟨some 35,none,iExt 35 (.tmp 31) 1⟩,
  ⟨none,none,iStor 7 (.tmp 1) (.tmp 34)⟩,
  ⟨none,none,iStor 6 (.tmp 5) (.tmp 35)⟩] [1,2,3,5] [1,2,3,5]
def send_Say_r3 : IC:=cReg Try.prog [
  ⟨some 8,none,iLoad 8 7 true (.tmp 1) false⟩,
  ⟨some 9,none,iBld 9 [vD (.int .i64 0),vD (.int .i64 0),vD (.int .i64 0),vD (.int .i64 0),vD (.slice none 0 0),vD (.slice none 0 0)] [] []⟩,
  ⟨none,none,iStor 7 (.tmp 2) (.tmp 8)⟩,
  ⟨none,none,iStor 6 (.tmp 3) (.tmp 9)⟩,
  ⟨some 4,none,iMov 4 (.const (.bool false)) true⟩] [2,3,4] [2,3]
def send_Say_c3b : IC:=(cSeq send_Say_r3 cRet)
def send_Say_c3 : IC:=cCond (.tmp 26) send_Say_r7 send_Say_c3b
def send_Say_c2b : IC:=(cSeq send_Say_r6 send_Say_c3)
def send_Say_c2 : IC:=cCond (.tmp 10) send_Say_r5 send_Say_c2b
def send_Say_b1 : IC:=cBlock 0 (cSeq send_Say_r4 send_Say_c2)
def send_Say_r8 : IC:=cRegD Try.prog [
  ⟨some 36,none,iLoad 36 7 true (.tmp 1) false⟩,
  ⟨some 37,none,iLoad 37 6 true (.tmp 5) false⟩,
  ⟨some 38,none,iCall 38 61 [(.tmp 37)]⟩,
  ⟨none,none,iStor 7 (.tmp 2) (.tmp 36)⟩,
  ⟨none,none,iStor 6 (.tmp 3) (.tmp 38)⟩,
  ⟨some 4,none,iMov 4 (.const (.bool true)) true⟩] [[],[],[1],[0,2,1],[2,3,0,1],[4,0,1,2,3]] [2,3,4] [2,3]
def send_Say : IC:=(cSeq send_Say_r0 (cSeq send_Say_r1 (cSeq send_Say_r2 (cSeq send_Say_b1 (cSeq send_Say_r8 cRet)))))
theorem told_send_Say {args r : List D} (hl : args.length = 1) (h : send_Say (start args) (fin [(2,some (7,true)),(3,some (6,true)),(4,none)] r)) : Told Try.prog 17 args r :=
 told_of follows Try.func17 rfl (an:=[([],[1,2,3],[1,2,3],[]),([(1003,[],[])],[1,2,3],[1,2,3],[]),([],[1,2,3,5],[1,2,3,5],[]),([],[1,2,3,5,10],[1,2,3,5],[]),([(3002,[],[])],[1,2,3,5],[1,2,3,5],[]),([],[1,2,3,5,26],[1,2,3,5],[]),([],[1,2,3,5],[1,2,3,5],[]),([],[2,3,4],[2,3],[]),([],[2,3,4],[2,3],[])]) (by kernel_rfl) (by kernel_rfl) (by rw [hl]; decide +kernel) h
def slices_Index_r0 : IC:=cReg Try.prog [
  ⟨some 4,none,iMov 4 (.const (.int .i64 0)) true⟩] [0,1] []
def slices_Index_r1 : IC:=cReg Try.prog [
  ⟨some 6,none,iMov 6 (.tmp 0) false⟩,
  ⟨some 7,none,iLen 7 false (.tmp 6)⟩,
  ⟨some 8,none,iMov 8 (.const (.int .i64 0)) false⟩] [0,1,7,8] []
def slices_Index_r2 : IC:=cReg Try.prog [
  ⟨some 9,none,iBin 9 .lss (.tmp 8) (.tmp 7)⟩] [0,1,7,8,9] []
def slices_Index_c3 : IC:=cCond (.tmp 9) cSkip (cExit 0)
def slices_Index_r3 : IC:=cReg Try.prog [
  ⟨some 10,none,iMov 10 (.tmp 8) false⟩,
  ⟨some 5,none,iMov 5 (.tmp 10) true⟩] [0,1,5,7,8] []
def slices_Index_r4 : IC:=cReg Try.prog [
  ⟨some 11,none,iMov 11 (.tmp 1) false⟩,
  ⟨some 12,none,iMov 12 (.tmp 0) false⟩,
  ⟨some 13,none,iMov 13 (.tmp 5) false⟩,
  ⟨some 14,none,iIaS 14 1 (.tmp 12) (.tmp 13)⟩,
  ⟨some 15,none,iLoad 15 1 false (.tmp 14) false⟩,
  ⟨some 16,none,iBin 16 .eql (.tmp 11) (.tmp 15)⟩] [0,1,5,7,8,16] []
def slices_Index_r5 : IC:=cReg Try.prog [
  ⟨some 17,none,iMov 17 (.tmp 5) false⟩,
  ⟨some 4,none,iMov 4 (.tmp 17) true⟩] [4] []
def slices_Index_c5a : IC:=(cSeq slices_Index_r5 cRet)
def slices_Index_c5 : IC:=cCond (.tmp 16) slices_Index_c5a cSkip
def slices_Index_b4 : IC:=cBlock 1 (cSeq slices_Index_r3 (cSeq slices_Index_r4 slices_Index_c5))
def slices_Index_r6 : IC:=cReg Try.prog [
  ⟨some 18,none,iBin 18 .add (.tmp 8) (.const (.int .i64 1))⟩,
  ⟨some 8,none,iMov 8 (.tmp 18) false⟩] [0,1,7,8] []
def slices_Index_l2a : IC:=(cSeq slices_Index_r2 (cSeq slices_Index_c3 (cSeq slices_Index_b4 slices_Index_r6)))
def slices_Index_l2 : IC:=cLoop slices_Index_l2a
def slices_Index_b1 : IC:=cBlock 0 slices_Index_l2
def slices_Index_r7 : IC:=cReg Try.prog [
  ⟨some 4,none,iMov 4 (.const (.int .i64 (-1))) true⟩] [4] []
def slices_Index : IC:=(cSeq slices_Index_r0 (cSeq (cSeq slices_Index_r1 slices_Index_b1) (cSeq slices_Index_r7 cRet)))
theorem told_slices_Index {args r : List D} (hl : args.length = 2) (h : slices_Index (start args) (fin [(4,none)] r)) : Told Try.prog 113 args r :=
 told_of follows Try.func113 rfl (an:=[([],[0,1],[],[]),([],[0,1,7,8],[],[]),([],[0,1,7,8,9],[],[]),([],[0,1,5,7,8],[],[]),([],[0,1,5,7,8,16],[],[]),([],[4],[],[]),([],[0,1,7,8],[],[]),([],[4],[],[])]) (by kernel_rfl) (by kernel_rfl) (by rw [hl]; decide +kernel) h
def slices_Contains_r0 : IC:=cReg Try.prog [
  ⟨some 4,none,iMov 4 (.const (.bool false)) true⟩] [0,1] []
def slices_Contains_r1 : IC:=cReg Try.prog [
  ⟨some 5,none,iMov 5 (.tmp 0) false⟩,
  ⟨some 6,none,iMov 6 (.tmp 1) false⟩,
  ⟨some 7,none,iCall 7 113 [(.tmp 5),(.tmp 6)]⟩,
  ⟨some 8,none,iBin 8 .geq (.tmp 7) (.const (.int .i64 0))⟩,
  ⟨some 4,none,iMov 4 (.tmp 8) true⟩] [4] []
def slices_Contains : IC:=(cSeq slices_Contains_r0 (cSeq slices_Contains_r1 cRet))
theorem told_slices_Contains {args r : List D} (hl : args.length = 2) (h : slices_Contains (start args) (fin [(4,none)] r)) : Told Try.prog 97 args r :=
 told_of follows Try.func97 rfl (an:=[([],[0,1],[],[]),([],[4],[],[])]) (by kernel_rfl) (by kernel_rfl) (by rw [hl]; decide +kernel) h
def send_cameByS1_r0 : IC:=cReg Try.prog [
  ⟨some 2,none,iBox 2 (.tmp 0)⟩,
  ⟨some 3,none,iMov 3 (.const (.bool false)) true⟩] [1,2] [2]
def send_cameByS1_r1_0 : IC:=cReg Try.prog [
  ⟨some 4,none,iFad 4 0 (.tmp 1)⟩,
  ⟨some 5,none,iLoad 5 1 false (.tmp 4) false⟩,
  ⟨some 6,none,iBin 6 .eql (.tmp 5) (.const (.int .i64 2))⟩,
  ⟨some 7,none,iMov 7 (.tmp 6) false⟩,
  ⟨some 8,some (7,true),iFad 8 1 (.tmp 2)⟩,
  ⟨some 9,some (7,true),iLoad 9 1 false (.tmp 8) false⟩,
  ⟨some 10,some (7,true),iFad 10 1 (.tmp 1)⟩,
  ⟨some 11,some (7,true),iLoad 11 1 false (.tmp 10) false⟩,
  ⟨some 12,some (7,true),iBin 12 .lss (.tmp 9) (.tmp 11)⟩,
  ⟨some 13,some (7,true),iMov 13 (.tmp 12) false⟩] [1,2,7,13] [2]
def send_cameByS1_r1_1 : IC:=cReg Try.prog [
  ⟨some 14,some (13,false),iFad 14 5 (.tmp 1)⟩,
  ⟨some 15,some (13,false),iLoad 15 1 false (.tmp 14) false⟩,
  ⟨some 16,some (13,false),iFad 16 1 (.tmp 2)⟩,
  ⟨some 17,some (13,false),iLoad 17 1 false (.tmp 16) false⟩,
  ⟨some 18,some (13,false),iCall 18 97 [(.tmp 15),(.tmp 17)]⟩,
  ⟨some 19,some (7,true),iPick 19 (.tmp 13) (.const (.bool true)) (.tmp 18)⟩,
  ⟨some 20,none,iPick 20 (.tmp 7) (.tmp 19) (.const (.bool false))⟩,
  ⟨some 3,none,iMov 3 (.tmp 20) true⟩] [3] []
def send_cameByS1_r1 : IC:=(cSeq send_cameByS1_r1_0 send_cameByS1_r1_1)
def send_cameByS1 : IC:=(cSeq send_cameByS1_r0 (cSeq send_cameByS1_r1 cRet))
theorem told_send_cameByS1 {args r : List D} (hl : args.length = 2) (h : send_cameByS1 (start args) (fin [(3,none)] r)) : Told Try.prog 112 args r :=
 told_of follows Try.func112 rfl (an:=[([],[1,2],[2],[]),([(10,[1,2,7,13],[2])],[3],[],[])]) (by kernel_rfl) (by kernel_rfl) (by rw [hl]; decide +kernel) h
def send_cameBy_r0 : IC:=cReg Try.prog [
  ⟨some 1,none,iBoxF 1 (.tmp 0)⟩,
  ⟨some 2,none,iMov 2 (.const .nilFunc) true⟩] [1] []
def send_cameBy_r1 : IC:=cReg Try.prog [
  ⟨some 3,none,iMkf 3 112 1⟩,
  ⟨some 2,none,iMov 2 (.tmp 3) true⟩] [2] []
def send_cameBy : IC:=(cSeq send_cameBy_r0 (cSeq send_cameBy_r1 cRet))
theorem told_send_cameBy {args r : List D} (hl : args.length = 1) (h : send_cameBy (start args) (fin [(2,none)] r)) : Told Try.prog 95 args r :=
 told_of follows Try.func95 rfl (an:=[([],[1],[],[1]),([],[2],[],[])]) (by kernel_rfl) (by kernel_rfl) (by rw [hl]; decide +kernel) h
def slices_IndexFunc_r0 : IC:=cReg Try.prog [
  ⟨some 4,none,iMov 4 (.const (.int .i64 0)) true⟩] [0,1] []
def slices_IndexFunc_r1 : IC:=cReg Try.prog [
  ⟨some 6,none,iMov 6 (.tmp 0) false⟩,
  ⟨some 7,none,iLen 7 false (.tmp 6)⟩,
  ⟨some 8,none,iMov 8 (.const (.int .i64 0)) false⟩] [0,1,7,8] []
def slices_IndexFunc_r2 : IC:=cReg Try.prog [
  ⟨some 9,none,iBin 9 .lss (.tmp 8) (.tmp 7)⟩] [0,1,7,8,9] []
def slices_IndexFunc_c3 : IC:=cCond (.tmp 9) cSkip (cExit 0)
def slices_IndexFunc_r3 : IC:=cReg Try.prog [
  ⟨some 10,none,iMov 10 (.tmp 8) false⟩,
  ⟨some 5,none,iMov 5 (.tmp 10) true⟩] [0,1,5,7,8] []
def slices_IndexFunc_r4 : IC:=cReg Try.prog [
  ⟨some 11,none,iMov 11 (.tmp 1) false⟩,
  ⟨some 12,none,iMov 12 (.tmp 0) false⟩,
  ⟨some 13,none,iMov 13 (.tmp 5) false⟩,
  ⟨some 14,none,iIaS 14 6 (.tmp 12) (.tmp 13)⟩,
  ⟨some 15,none,iLoad 15 6 true (.tmp 14) false⟩,
  ⟨some 16,none,iCallV 16 Try.prog 11 [(.tmp 15)]⟩] [0,1,5,7,8,16] []
def slices_IndexFunc_r5 : IC:=cReg Try.prog [
  ⟨some 17,none,iMov 17 (.tmp 5) false⟩,
  ⟨some 4,none,iMov 4 (.tmp 17) true⟩] [4] []
def slices_IndexFunc_c5a : IC:=(cSeq slices_IndexFunc_r5 cRet)
def slices_IndexFunc_c5 : IC:=cCond (.tmp 16) slices_IndexFunc_c5a cSkip
def slices_IndexFunc_b4 : IC:=cBlock 1 (cSeq slices_IndexFunc_r3 (cSeq slices_IndexFunc_r4 slices_IndexFunc_c5))
def slices_IndexFunc_r6 : IC:=cReg Try.prog [
  ⟨some 18,none,iBin 18 .add (.tmp 8) (.const (.int .i64 1))⟩,
  ⟨some 8,none,iMov 8 (.tmp 18) false⟩] [0,1,7,8] []
def slices_IndexFunc_l2a : IC:=(cSeq slices_IndexFunc_r2 (cSeq slices_IndexFunc_c3 (cSeq slices_IndexFunc_b4 slices_IndexFunc_r6)))
def slices_IndexFunc_l2 : IC:=cLoop slices_IndexFunc_l2a
def slices_IndexFunc_b1 : IC:=cBlock 0 slices_IndexFunc_l2
def slices_IndexFunc_r7 : IC:=cReg Try.prog [
  ⟨some 4,none,iMov 4 (.const (.int .i64 (-1))) true⟩] [4] []
def slices_IndexFunc : IC:=(cSeq slices_IndexFunc_r0 (cSeq (cSeq slices_IndexFunc_r1 slices_IndexFunc_b1) (cSeq slices_IndexFunc_r7 cRet)))
theorem told_slices_IndexFunc {args r : List D} (hl : args.length = 2) (h : slices_IndexFunc (start args) (fin [(4,none)] r)) : Told Try.prog 101 args r :=
 told_of follows Try.func101 rfl (an:=[([],[0,1],[],[]),([],[0,1,7,8],[],[]),([],[0,1,7,8,9],[],[]),([],[0,1,5,7,8],[],[]),([],[0,1,5,7,8,16],[],[]),([],[4],[],[]),([],[0,1,7,8],[],[]),([],[4],[],[])]) (by kernel_rfl) (by kernel_rfl) (by rw [hl]; decide +kernel) h
def slices_DeleteFunc_r0 : IC:=cReg Try.prog [
  ⟨some 4,none,iMov 4 (.const (.slice none 0 0)) true⟩] [0,1] [100000]
def slices_DeleteFunc_r1 : IC:=cReg Try.prog [
  ⟨some 8,none,iMov 8 (.tmp 0) false⟩,
  ⟨some 9,none,iMov 9 (.tmp 1) false⟩,
  ⟨some 10,none,iCallL 10 101 [(.tmp 8),(.tmp 9)]⟩,
  ⟨some 5,none,iMov 5 (.tmp 10) true⟩] [0,1,5] [100000]
def slices_DeleteFunc_r2 : IC:=cReg Try.prog [
  ⟨some 11,none,iMov 11 (.tmp 5) false⟩,
  ⟨some 12,none,iBin 12 .eql (.tmp 11) (.const (.int .i64 (-1)))⟩] [0,1,5,12] [100000]
def slices_DeleteFunc_r3 : IC:=cReg Try.prog [
  ⟨some 13,none,iMov 13 (.tmp 0) false⟩,
  ⟨some 4,none,iMov 4 (.tmp 13) true⟩] [4] []
def slices_DeleteFunc_c1a : IC:=(cSeq slices_DeleteFunc_r3 cRet)
def slices_DeleteFunc_c1 : IC:=cCond (.tmp 12) slices_DeleteFunc_c1a cSkip
def slices_DeleteFunc_r4 : IC:=cReg Try.prog [
  ⟨some 14,none,iMov 14 (.tmp 5) false⟩,
  ⟨some 15,none,iBin 15 .add (.tmp 14) (.const (.int .i64 1))⟩,
  ⟨some 6,none,iMov 6 (.tmp 15) true⟩] [0,1,5,6] [100000]
def slices_DeleteFunc_r5 : IC:=cReg Try.prog [
  ⟨some 16,none,iMov 16 (.tmp 6) false⟩,
  ⟨some 17,none,iMov 17 (.tmp 0) false⟩,
  ⟨some 18,none,iLen 18 false (.tmp 17)⟩,
  ⟨some 19,none,iBin 19 .lss (.tmp 16) (.tmp 18)⟩] [0,1,5,6,19] [100000]
def slices_DeleteFunc_c4 : IC:=cCond (.tmp 19) cSkip (cExit 0)
def slices_DeleteFunc_r7 : IC:=cReg Try.prog [
  ⟨some 22,none,iMov 22 (.tmp 0) false⟩,
  ⟨some 23,none,iMov 23 (.tmp 6) false⟩,
  ⟨some 24,none,iIaS 24 6 (.tmp 22) (.tmp 23)⟩,
  ⟨some 25,none,iLoad 25 6 true (.tmp 24) false⟩,
  ⟨some 7,none,iAlo 7 [vD (.int .i64 0),vD (.int .i64 0),vD (.int .i64 0),vD (.int .i64 0),vD (.slice none 0 0),vD (.slice none 0 0)]⟩,
  ⟨none,none,iStor 6 (.tmp 7) (.tmp 25)⟩] [0,1,5,6,7] [7,100000]
def slices_DeleteFunc_r8 : IC:=cReg Try.prog [
  ⟨some 26,none,iMov 26 (.tmp 1) false⟩,
  ⟨some 27,none,iLoad 27 6 true (.tmp 7) false⟩,
  ⟨some 28,none,iCallV 28 Try.prog 26 [(.tmp 27)]⟩,
  ⟨some 29,none,iNot 29 (.tmp 28)⟩] [0,1,5,6,7,29] [7,100000]
def slices_DeleteFunc_r9 : IC:=cReg Try.prog [
  ⟨some 30,none,iMov 30 (.tmp 0) false⟩,
  ⟨some 31,none,iMov 31 (.tmp 5) false⟩,
  ⟨some 32,none,iLoad 32 6 true (.tmp 7) false⟩,
  ⟨some 33,none,iIaS 33 6 (.tmp 30) (.tmp 31)⟩,
  ⟨none,none,iStor 6 (.tmp 33) (.tmp 32)⟩] [0,1,5,6] [100000]
def slices_DeleteFunc_r10 : IC:=cReg Try.prog [
  ⟨some 34,none,iMov 34 (.tmp 5) false⟩,
  ⟨some 35,none,iBin 35 .add (.tmp 34) (.const (.int .i64 1))⟩,
  ⟨some 5,none,iMov 5 (.tmp 35) true⟩] [0,1,5,6] [100000]
def slices_DeleteFunc_c6a : IC:=(cSeq slices_DeleteFunc_r9 slices_DeleteFunc_r10)
def slices_DeleteFunc_c6 : IC:=cCond (.tmp 29) slices_DeleteFunc_c6a cSkip
def slices_DeleteFunc_b5 : IC:=cBlock 1 (cSeq slices_DeleteFunc_r7 (cSeq slices_DeleteFunc_r8 slices_DeleteFunc_c6))
def slices_DeleteFunc_r6 : IC:=cReg Try.prog [
  ⟨some 20,none,iMov 20 (.tmp 6) false⟩,
  ⟨some 21,none,iBin 21 .add (.tmp 20) (.const (.int .i64 1))⟩,
  ⟨some 6,none,iMov 6 (.tmp 21) true⟩] [0,1,5,6] [100000]
def slices_DeleteFunc_l3a : IC:=(cSeq (cSeq slices_DeleteFunc_r5 slices_DeleteFunc_c4) (cSeq slices_DeleteFunc_b5 slices_DeleteFunc_r6))
def slices_DeleteFunc_l3 : IC:=cLoop slices_DeleteFunc_l3a
def slices_DeleteFunc_b2 : IC:=cBlock 0 slices_DeleteFunc_l3
def slices_DeleteFunc_r11 : IC:=cReg Try.prog [
  ⟨some 36,none,iMov 36 (.tmp 0) false⟩,
  ⟨some 37,none,iMov 37 (.tmp 5) false⟩,
  ⟨some 38,none,iSlc 38 6 (.tmp 36) (some (.tmp 37)) none⟩,
  ⟨none,none,iClr 6 (.tmp 38)⟩] [0,5] []
def slices_DeleteFunc_r12 : IC:=cReg Try.prog [
  ⟨some 39,none,iMov 39 (.tmp 0) false⟩,
  ⟨some 40,none,iMov 40 (.tmp 5) false⟩,
  ⟨some 41,none,iSlc 41 6 (.tmp 39) none (some (.tmp 40))⟩,
  ⟨some 4,none,iMov 4 (.tmp 41) true⟩] [4] []
def slices_DeleteFunc : IC:=(cSeq slices_DeleteFunc_r0 (cSeq slices_DeleteFunc_r1 (cSeq (cSeq slices_DeleteFunc_r2 slices_DeleteFunc_c1) (cSeq (cSeq slices_DeleteFunc_r4 slices_DeleteFunc_b2) (cSeq slices_DeleteFunc_r11 (cSeq slices_DeleteFunc_r12 cRet))))))
theorem toldI_slices_DeleteFunc {args r es : List D} {e z : Nat} (hl : args.length = 1) (hz : 0 < z) (h0 : es = [] → Told Try.prog 94 (sD z [] :: args) r) (h : es ≠ [] → slices_DeleteFunc ⟨startT (oD 100000 es.length :: args) 0,[(100000,[sD z es])],[]⟩ (fin [(4,none)] r)) : ToldI Try.prog 94 (xD :: args) 0 none e (z,some es) r :=
 toldI_row follows Try.func94 rfl (an:=[([],[0,1],[100000],[]),([],[0,1,5],[100000],[10]),([],[0,1,5,12],[100000],[]),([],[4],[],[]),([],[0,1,5,6],[100000],[]),([],[0,1,5,6,19],[100000],[]),([],[0,1,5,6,7],[7,100000],[]),([],[0,1,5,6,7,29],[7,100000],[]),([],[0,1,5,6],[100000],[]),([],[0,1,5,6],[100000],[]),([],[0,1,5,6],[100000],[]),([],[0,5],[],[]),([],[4],[],[])]) (by kernel_rfl) (by kernel_rfl) (by rw [hl]; decide +kernel) hz h0 (by rw [fin_eq]; exact h)
theorem told_slices_DeleteFunc {args r : List D} (hl : args.length = 2) (h : slices_DeleteFunc (start args) (fin [(4,none)] r)) : Told Try.prog 94 args r :=
 told_of follows Try.func94 rfl (an:=[([],[0,1],[100000],[]),([],[0,1,5],[100000],[10]),([],[0,1,5,12],[100000],[]),([],[4],[],[]),([],[0,1,5,6],[100000],[]),([],[0,1,5,6,19],[100000],[]),([],[0,1,5,6,7],[7,100000],[]),([],[0,1,5,6,7,29],[7,100000],[]),([],[0,1,5,6],[100000],[]),([],[0,1,5,6],[100000],[]),([],[0,1,5,6],[100000],[]),([],[0,5],[],[]),([],[4],[],[])]) (by kernel_rfl) (by kernel_rfl) (by rw [hl]; decide +kernel) h
def send_Hear_r0 : IC:=cReg Try.prog [
  ⟨some 2,none,iBox 2 (.tmp 0)⟩,
  ⟨some 3,none,iBox 3 (.tmp 1)⟩,
  ⟨some 4,none,iAlo 4 [vD (.slice none 0 0),vD (.int .i64 0),vD (.int .i64 0),vD (.int .i64 0),vD (.int .i64 0),vD (.slice none 0 0),vD (.int .i64 0)]⟩] [2,3,4] [2,3,4]
def send_Hear_r1_0 : IC:=cOwn Try.prog 2 5 6 57 7
def send_Hear_r1_1 : IC:=cReg Try.prog [] [2,3,4] [2,3,4]
def send_Hear_r1 : IC:=(cSeq send_Hear_r1_0 send_Hear_r1_1)
def send_Hear_r2 : IC:=cRegD Try.prog [
  ⟨some 7,none,iFad 7 5 (.tmp 2)⟩,
  ⟨some 8,none,iLoad 8 1 false (.tmp 7) true⟩,
  ⟨some 9,none,iLoad 9 6 true (.tmp 3) false⟩,
  ⟨some 10,none,iCall 10 95 [(.tmp 9)]⟩,
  ⟨some 11,none,iCall 11 94 [(.tmp 8),(.tmp 10)]⟩,
  ⟨some 12,none,iFad 12 5 (.tmp 2)⟩,
  ⟨none,none,iStor 1 (.tmp 12) (.tmp 11)⟩] [[],[0],[],[2],[1,3,0,2],[0,1,2,3,4],[5,4,0,1,2,3]] [2,4] [2,4]
def send_Hear_r3 : IC:=cReg Try.prog [
  ⟨some 13,none,iLoad 13 7 true (.tmp 2) false⟩,
  ⟨none,none,iStor 7 (.tmp 4) (.tmp 13)⟩] [4] [4]
def send_Hear : IC:=(cSeq send_Hear_r0 (cSeq send_Hear_r1 (cSeq send_Hear_r2 (cSeq send_Hear_r3 cRet))))
theorem told_send_Hear {args r : List D} (hl : args.length = 2) (h : send_Hear (start args) (fin [(4,some (7,true))] r)) : Told Try.prog 56 args r :=
 told_of follows Try.func56 rfl (an:=[([],[2,3,4],[2,3,4],[]),([(1003,[],[])],[2,3,4],[2,3,4],[]),([],[2,4],[2,4],[8]),([],[4],[4],[])]) (by kernel_rfl) (by kernel_rfl) (by rw [hl]; decide +kernel) h
end Go.Proofs.Ytgfljlmonaifgab.ab
