import Derived.Test.YtgfljlmonaifgabM20
import Derived.Test.YtgfljlmonaifgabM39
import Derived.Test.YtgfljlmonaifgabProg
import Derived.WalkKit
import Derived.Test.YtgfljlmonaifgabM19
import Derived.Test.YtgfljlmonaifgabM31
import Derived.Test.YtgfljlmonaifgabM37
import Derived.Test.YtgfljlmonaifgabM38
set_option maxHeartbeats 8000000
set_option linter.unusedVariables false
set_option linter.unusedSimpArgs false
namespace Go.Proofs.Ytgfljlmonaifgab.ab
set_option maxRecDepth 100000
open Go Go.RowKit
def world_tick_r0 : IC:=cReg Try.prog [
  ⟨some 2,none,iAlo 2 [vD (.slice none 0 0),vD (.int .i64 0)]⟩,
  ⟨some 3,none,iMov 3 (.const (.int .i64 0)) true⟩] [1,2] [1,2]
def world_tick_r1_0 : IC:=cLe
def world_tick_r1_1 : IC:=cReg Try.prog [
  ⟨some 7,none,iFad 7 1 (.tmp 1)⟩,
  ⟨some 8,none,iLoad 8 1 false (.tmp 7) false⟩,
  ⟨some 9,none,iFad 9 0 (.tmp 1)⟩,
  ⟨some 10,none,iLoad 10 1 false (.tmp 9) false⟩,
  ⟨some 11,none,iLen 11 false (.tmp 10)⟩,
  ⟨some 12,none,iCall 12 46 [(.tmp 8),(.tmp 11)]⟩,
  ⟨some 6,none,iMov 6 (.tmp 12) false⟩,
  ⟨some 13,none,iExt 13 (.tmp 6) 0⟩,
  ⟨some 14,none,iExt 14 (.tmp 6) 1⟩,
  ⟨some 4,none,iMov 4 (.tmp 13) true⟩,
  ⟨some 5,none,iMov 5 (.tmp 14) true⟩] [1,2,4,5] [1,2,100001]
def world_tick_r1 : IC:=(cSeq world_tick_r1_0 world_tick_r1_1)
def world_tick_r2 : IC:=cReg Try.prog [
  ⟨some 15,none,iMov 15 (.tmp 5) false⟩,
  ⟨some 16,none,iBin 16 .neq (.tmp 15) (.const (.int .i64 0))⟩] [1,2,4,5,16] [1,2,100001]
def world_tick_r3 : IC:=cReg Try.prog [
  ⟨some 17,none,iLoad 17 2 true (.tmp 1) false⟩,
  ⟨some 18,none,iMov 18 (.tmp 5) false⟩,
  ⟨none,none,iStor 2 (.tmp 2) (.tmp 17)⟩,
  ⟨some 3,none,iMov 3 (.tmp 18) true⟩] [2,3] [2]
def world_tick_c1a : IC:=(cSeq world_tick_r3 cRet)
def world_tick_c1 : IC:=cCond (.tmp 16) world_tick_c1a cSkip
def world_tick_r4 : IC:=cRegD Try.prog [
  ⟨some 19,none,iFad 19 0 (.tmp 1)⟩,
  ⟨some 20,none,iLoad 20 1 false (.tmp 19) false⟩,
  ⟨some 21,none,iMov 21 (.tmp 4) false⟩,
  ⟨some 22,none,iFad 22 0 (.tmp 1)⟩,
  ⟨some 23,none,iLoad 23 1 false (.tmp 22) false⟩,
  ⟨some 24,none,iMov 24 (.tmp 4) false⟩,
  ⟨some 25,none,iIaS 25 17 (.tmp 23) (.tmp 24)⟩,
  ⟨some 26,none,iLoad 26 17 true (.tmp 25) false⟩,
  ⟨some 27,none,iCall 27 35 [(.tmp 26)]⟩,
  ⟨some 28,none,iIaS 28 17 (.tmp 20) (.tmp 21)⟩,
  ⟨none,none,iStor 17 (.tmp 28) (.tmp 27)⟩] [[],[0],[],[],[3],[],[4,5,3],[6,4,5,3],[7,6,4,5,3],[1,2,0,3,4,5,6,7,8],[9,8,0,1,2,3,4,5,6,7]] [1,2] [1,2]
def world_tick_r5 : IC:=cReg Try.prog [
  ⟨some 29,none,iFad 29 1 (.tmp 1)⟩,
  ⟨some 30,none,iLoad 30 1 false (.tmp 29) false⟩,
  ⟨some 31,none,iBin 31 .add (.tmp 30) (.const (.int .i64 1))⟩,
  ⟨some 32,none,iFad 32 1 (.tmp 1)⟩,
  ⟨none,none,iStor 1 (.tmp 32) (.tmp 31)⟩] [1,2] [1,2]
def world_tick_r6 : IC:=cReg Try.prog [
  ⟨some 33,none,iLoad 33 2 true (.tmp 1) false⟩,
  ⟨none,none,iStor 2 (.tmp 2) (.tmp 33)⟩,
  ⟨some 3,none,iMov 3 (.const (.int .i64 0)) true⟩] [2,3] [2]
def world_tick : IC:=cSeq world_tick_r0 (cSeq world_tick_r1 (cSeq (cSeq world_tick_r2 world_tick_c1) (cSeq world_tick_r4 (cSeq world_tick_r5 (cSeq world_tick_r6 cRet)))))
theorem toldI_world_tick {cs r : List D} {off e : Nat} {z : Pay} (h : world_tick ⟨[(1,pD 1 0),(0,aD cs)],[(1,cs)],[((1,some off),(e,z))]⟩ (fin [(2,some (2,true)),(3,none)] r)) : ToldI Try.prog 90 [aD cs] 0 (some off) e z r :=
 toldI_cell follows Try.func90 rfl rfl rfl rfl rfl (by decide +kernel) (rw:=[]) (cuts:=[]) (lv:=[1,2]) (lb:=[1,2]) (an:=[([(12000,[],[])],[1,2,4,5],[1,2,100001],[]),([],[1,2,4,5,16],[1,2,100001],[]),([],[2,3],[2],[]),([],[1,2],[1,2],[]),([],[1,2],[1,2],[]),([],[2,3],[2],[])]) (by kernel_rfl) (by kernel_rfl) (by kernel_rfl) (by decide +kernel) (by rw [fin_eq]; exact h)
def world_step_r0 : IC:=cReg Try.prog [
  ⟨some 2,none,iBox 2 (.tmp 0)⟩,
  ⟨some 3,none,iBox 3 (.tmp 1)⟩,
  ⟨some 4,none,iAlo 4 [vD (.slice none 0 0),vD (.int .i64 0),vD (.int .i64 0),vD (.int .i64 0),vD (.int .i64 0),vD (.slice none 0 0),vD (.int .i64 0),vD (.int .i64 0),vD (.slice none 0 0),vD (.int .i64 0),vD (.int .i64 0),vD (.int .i64 0),vD (.slice none 0 0),vD (.slice none 0 0),vD (.bool false),vD (.slice none 0 0),vD (.slice none 0 0)]⟩,
  ⟨some 5,none,iMov 5 (.const (.int .i64 0)) true⟩] [2,3,4] [2,3,4]
def world_step_r1 : IC:=cReg Try.prog [
  ⟨some 6,none,iMov 6 (.const (.int .i64 0)) true⟩] [2,3,4,6] [2,3,4]
def world_step_r2 : IC:=cReg Try.prog [
  ⟨some 7,none,iFad 7 0 (.tmp 3)⟩,
  ⟨some 8,none,iLoad 8 1 false (.tmp 7) false⟩] [2,3,4,6,8] [2,3,4]
def world_step_r3 : IC:=cReg Try.prog [
  ⟨some 10,none,iBin 10 .eql (.tmp 8) (.const (.int .i64 2))⟩,
  ⟨some 9,none,iMov 9 (.tmp 10) true⟩] [2,3,4,6,8,9] [2,3,4]
def world_step_r4 : IC:=cReg Try.prog [
  ⟨some 12,none,iFad 12 0 (.tmp 2)⟩,
  ⟨some 13,none,iLoad 13 7 true (.tmp 12) false⟩,
  ⟨some 14,none,iFad 14 5 (.tmp 3)⟩,
  ⟨some 15,none,iLoad 15 2 true (.tmp 14) false⟩,
  ⟨some 16,none,iCall 16 55 [(.tmp 13),(.tmp 15)]⟩,
  ⟨some 11,none,iMov 11 (.tmp 16) false⟩,
  ⟨some 17,none,iExt 17 (.tmp 11) 0⟩,
  ⟨some 18,none,iExt 18 (.tmp 11) 1⟩,
  ⟨some 19,none,iFad 19 0 (.tmp 2)⟩,
  ⟨none,none,iStor 7 (.tmp 19) (.tmp 17)⟩,
  ⟨some 6,none,iMov 6 (.tmp 18) true⟩] [2,4,6] [2,4]
def world_step_r5 : IC:=cReg Try.prog [
  ⟨some 21,none,iBin 21 .eql (.tmp 8) (.const (.int .i64 3))⟩,
  ⟨some 20,none,iMov 20 (.tmp 21) true⟩] [2,3,4,6,8,20] [2,3,4]
def world_step_r6 : IC:=cReg Try.prog [
  ⟨some 23,none,iLoad 23 17 true (.tmp 2) false⟩,
  ⟨some 24,none,iFad 24 2 (.tmp 3)⟩,
  ⟨some 25,none,iLoad 25 1 false (.tmp 24) false⟩,
  ⟨some 26,none,iFad 26 4 (.tmp 3)⟩,
  ⟨some 27,none,iLoad 27 1 false (.tmp 26) false⟩,
  ⟨some 28,none,iCall 28 37 [(.tmp 23),(.tmp 25),(.tmp 27)]⟩,
  ⟨some 22,none,iMov 22 (.tmp 28) false⟩,
  ⟨some 29,none,iExt 29 (.tmp 22) 0⟩,
  ⟨some 30,none,iExt 30 (.tmp 22) 1⟩,
  ⟨none,none,iStor 17 (.tmp 2) (.tmp 29)⟩,
  ⟨some 6,none,iMov 6 (.tmp 30) true⟩] [2,4,6] [2,4]
def world_step_r7 : IC:=cReg Try.prog [
  ⟨some 32,none,iBin 32 .eql (.tmp 8) (.const (.int .i64 4))⟩,
  ⟨some 31,none,iMov 31 (.tmp 32) true⟩] [2,3,4,6,8,31] [2,3,4]
def world_step_r8 : IC:=cReg Try.prog [
  ⟨some 34,none,iLoad 34 17 true (.tmp 2) false⟩,
  ⟨some 35,none,iFad 35 2 (.tmp 3)⟩,
  ⟨some 36,none,iLoad 36 1 false (.tmp 35) false⟩,
  ⟨some 37,none,iFad 37 4 (.tmp 3)⟩,
  ⟨some 38,none,iLoad 38 1 false (.tmp 37) false⟩,
  ⟨some 39,none,iCall 39 39 [(.tmp 34),(.tmp 36),(.tmp 38)]⟩,
  ⟨some 33,none,iMov 33 (.tmp 39) false⟩,
  ⟨some 40,none,iExt 40 (.tmp 33) 0⟩,
  ⟨some 41,none,iExt 41 (.tmp 33) 1⟩,
  ⟨none,none,iStor 17 (.tmp 2) (.tmp 40)⟩,
  ⟨some 6,none,iMov 6 (.tmp 41) true⟩] [2,4,6] [2,4]
def world_step_r9 : IC:=cReg Try.prog [
  ⟨some 43,none,iBin 43 .eql (.tmp 8) (.const (.int .i64 5))⟩,
  ⟨some 42,none,iMov 42 (.tmp 43) true⟩] [2,3,4,6,8,42] [2,3,4]
def world_step_r10 : IC:=cReg Try.prog [
  ⟨some 45,none,iLoad 45 17 true (.tmp 2) false⟩,
  ⟨some 46,none,iFad 46 2 (.tmp 3)⟩,
  ⟨some 47,none,iLoad 47 1 false (.tmp 46) false⟩,
  ⟨some 48,none,iFad 48 4 (.tmp 3)⟩,
  ⟨some 49,none,iLoad 49 1 false (.tmp 48) false⟩,
  ⟨some 50,none,iCall 50 40 [(.tmp 45),(.tmp 47),(.tmp 49)]⟩,
  ⟨some 44,none,iMov 44 (.tmp 50) false⟩,
  ⟨some 51,none,iExt 51 (.tmp 44) 0⟩,
  ⟨some 52,none,iExt 52 (.tmp 44) 1⟩,
  ⟨none,none,iStor 17 (.tmp 2) (.tmp 51)⟩,
  ⟨some 6,none,iMov 6 (.tmp 52) true⟩] [2,4,6] [2,4]
def world_step_r11 : IC:=cReg Try.prog [
  ⟨some 54,none,iBin 54 .eql (.tmp 8) (.const (.int .i64 6))⟩,
  ⟨some 53,none,iMov 53 (.tmp 54) true⟩] [2,3,4,6,53] [2,3,4]
def world_step_r12 : IC:=cReg Try.prog [
  ⟨some 56,none,iLoad 56 17 true (.tmp 2) false⟩,
  ⟨some 57,none,iFad 57 2 (.tmp 3)⟩,
  ⟨some 58,none,iLoad 58 1 false (.tmp 57) false⟩,
  ⟨some 59,none,iFad 59 3 (.tmp 3)⟩,
  ⟨some 60,none,iLoad 60 1 false (.tmp 59) false⟩,
  ⟨some 61,none,iFad 61 4 (.tmp 3)⟩,
  ⟨some 62,none,iLoad 62 1 false (.tmp 61) false⟩,
  ⟨some 63,none,iCall 63 41 [(.tmp 56),(.tmp 58),(.tmp 60),(.tmp 62)]⟩,
  ⟨some 55,none,iMov 55 (.tmp 63) false⟩,
  ⟨some 64,none,iExt 64 (.tmp 55) 0⟩,
  ⟨some 65,none,iExt 65 (.tmp 55) 1⟩,
  ⟨none,none,iStor 17 (.tmp 2) (.tmp 64)⟩,
  ⟨some 6,none,iMov 6 (.tmp 65) true⟩] [2,4,6] [2,4]
def world_step_c6 : IC:=cCond (.tmp 53) world_step_r12 cSkip
def world_step_c5b : IC:=(cSeq world_step_r11 world_step_c6)
def world_step_c5 : IC:=cCond (.tmp 42) world_step_r10 world_step_c5b
def world_step_c4b : IC:=(cSeq world_step_r9 world_step_c5)
def world_step_c4 : IC:=cCond (.tmp 31) world_step_r8 world_step_c4b
def world_step_c3b : IC:=(cSeq world_step_r7 world_step_c4)
def world_step_c3 : IC:=cCond (.tmp 20) world_step_r6 world_step_c3b
def world_step_c2b : IC:=(cSeq world_step_r5 world_step_c3)
def world_step_c2 : IC:=cCond (.tmp 9) world_step_r4 world_step_c2b
def world_step_b1 : IC:=cBlock 0 (cSeq world_step_r3 world_step_c2)
def world_step_r13 : IC:=cReg Try.prog [
  ⟨some 66,none,iLoad 66 17 true (.tmp 2) false⟩,
  ⟨some 67,none,iMov 67 (.tmp 6) false⟩,
  ⟨none,none,iStor 17 (.tmp 4) (.tmp 66)⟩,
  ⟨some 5,none,iMov 5 (.tmp 67) true⟩] [4,5] [4]
def world_step : IC:=(cSeq world_step_r0 (cSeq world_step_r1 (cSeq (cSeq world_step_r2 world_step_b1) (cSeq world_step_r13 cRet))))
theorem told_world_step {args r : List D} (hl : args.length = 2) (h : world_step (start args) (fin [(4,some (17,true)),(5,none)] r)) : Told Try.prog 91 args r :=
 told_of follows Try.func91 rfl (an:=[([],[2,3,4],[2,3,4],[]),([],[2,3,4,6],[2,3,4],[]),([],[2,3,4,6,8],[2,3,4],[]),([],[2,3,4,6,8,9],[2,3,4],[]),([],[2,4,6],[2,4],[]),([],[2,3,4,6,8,20],[2,3,4],[]),([],[2,4,6],[2,4],[]),([],[2,3,4,6,8,31],[2,3,4],[]),([],[2,4,6],[2,4],[]),([],[2,3,4,6,8,42],[2,3,4],[]),([],[2,4,6],[2,4],[]),([],[2,3,4,6,53],[2,3,4],[]),([],[2,4,6],[2,4],[]),([],[4,5],[4],[])]) (by kernel_rfl) (by kernel_rfl) (by rw [hl]; decide +kernel) h
def world_Do_r0 : IC:=cReg Try.prog [
  ⟨some 2,none,iBox 2 (.tmp 0)⟩,
  ⟨some 3,none,iBox 3 (.tmp 1)⟩,
  ⟨some 4,none,iAlo 4 [vD (.slice none 0 0),vD (.int .i64 0)]⟩,
  ⟨some 5,none,iMov 5 (.const (.int .i64 0)) true⟩] [2,3,4] [2,3,4]
def world_Do_r1_0 : IC:=cOwn Try.prog 2 7 8 54 2
def world_Do_r1_1 : IC:=cReg Try.prog [] [2,3,4] [2,3,4]
def world_Do_r1 : IC:=(cSeq world_Do_r1_0 world_Do_r1_1)
def world_Do_r2 : IC:=cReg Try.prog [
  ⟨some 10,none,iFad 10 0 (.tmp 3)⟩,
  ⟨some 11,none,iLoad 11 1 false (.tmp 10) false⟩,
  ⟨some 12,none,iBin 12 .eql (.tmp 11) (.const (.int .i64 1))⟩,
  ⟨some 9,none,iMov 9 (.tmp 12) true⟩] [2,3,4,9] [2,3,4]
def world_Do_r3_0 : IC:=cInn Try.prog 2 13 14 90 2
def world_Do_r3_1 : IC:=cReg Try.prog [
  ⟨some 15,none,iExt 15 (.tmp 14) 0⟩,
  ⟨some 16,none,iExt 16 (.tmp 14) 1⟩,
  ⟨none,none,iStor 2 (.tmp 4) (.tmp 15)⟩,
  ⟨some 5,none,iMov 5 (.tmp 16) true⟩] [4,5] [4]
def world_Do_r3 : IC:=(cSeq world_Do_r3_0 world_Do_r3_1)
def world_Do_r4 : IC:=cReg Try.prog [
  ⟨some 18,none,iFad 18 0 (.tmp 3)⟩,
  ⟨some 19,none,iLoad 19 1 false (.tmp 18) false⟩,
  ⟨some 20,none,iBin 20 .lss (.tmp 19) (.const (.int .i64 1))⟩,
  ⟨some 21,none,iMov 21 (.tmp 20) false⟩,
  ⟨some 22,some (21,false),iFad 22 0 (.tmp 3)⟩,
  ⟨some 23,some (21,false),iLoad 23 1 false (.tmp 22) false⟩,
  ⟨some 24,some (21,false),iBin 24 .gtr (.tmp 23) (.const (.int .i64 6))⟩,
  ⟨some 25,none,iPick 25 (.tmp 21) (.const (.bool true)) (.tmp 24)⟩,
  ⟨some 17,none,iMov 17 (.tmp 25) true⟩] [2,3,4,17] [2,3,4]
def world_Do_r5_0 : IC:=cLe
def world_Do_r5_1 : IC:=cReg Try.prog [
  ⟨some 26,none,iLoad 26 2 true (.tmp 2) false⟩,
  ⟨none,none,iStor 2 (.tmp 4) (.tmp 26)⟩,
  ⟨some 5,none,iMov 5 (.const (.int .i64 1)) true⟩] [4,5] [4]
def world_Do_r5 : IC:=(cSeq world_Do_r5_0 world_Do_r5_1)
def world_Do_r6_0 : IC:=cLe
def world_Do_r6_1 : IC:=cReg Try.prog [
  ⟨some 28,none,iFad 28 1 (.tmp 3)⟩,
  ⟨some 29,none,iLoad 29 1 false (.tmp 28) false⟩,
  ⟨some 30,none,iBin 30 .lss (.tmp 29) (.const (.int .i64 0))⟩,
  ⟨some 31,none,iMov 31 (.tmp 30) false⟩,
  ⟨some 32,some (31,false),iFad 32 1 (.tmp 3)⟩,
  ⟨some 33,some (31,false),iLoad 33 1 false (.tmp 32) false⟩,
  ⟨some 34,some (31,false),iFad 34 0 (.tmp 2)⟩,
  ⟨some 35,some (31,false),iLoad 35 1 false (.tmp 34) false⟩,
  ⟨some 36,some (31,false),iLen 36 false (.tmp 35)⟩,
  ⟨some 37,some (31,false),iBin 37 .geq (.tmp 33) (.tmp 36)⟩,
  ⟨some 38,none,iPick 38 (.tmp 31) (.const (.bool true)) (.tmp 37)⟩,
  ⟨some 27,none,iMov 27 (.tmp 38) true⟩] [2,3,4,27] [2,3,4,100002]
def world_Do_r6 : IC:=(cSeq world_Do_r6_0 world_Do_r6_1)
def world_Do_r7_0 : IC:=cLe
def world_Do_r7_1 : IC:=cReg Try.prog [
  ⟨some 39,none,iLoad 39 2 true (.tmp 2) false⟩,
  ⟨none,none,iStor 2 (.tmp 4) (.tmp 39)⟩,
  ⟨some 5,none,iMov 5 (.const (.int .i64 6)) true⟩] [4,5] [4]
def world_Do_r7 : IC:=(cSeq world_Do_r7_0 world_Do_r7_1)
def world_Do_c4a : IC:=(cSeq world_Do_r7 cRet)
def world_Do_c4 : IC:=cCond (.tmp 27) world_Do_c4a cSkip
def world_Do_c3a : IC:=(cSeq world_Do_r5 cRet)
def world_Do_c3b : IC:=(cSeq world_Do_r6 world_Do_c4)
def world_Do_c3 : IC:=cCond (.tmp 17) world_Do_c3a world_Do_c3b
def world_Do_c2a : IC:=(cSeq world_Do_r3 cRet)
def world_Do_c2b : IC:=(cSeq world_Do_r4 world_Do_c3)
def world_Do_c2 : IC:=cCond (.tmp 9) world_Do_c2a world_Do_c2b
def world_Do_b1 : IC:=cBlock 0 (cSeq world_Do_r2 world_Do_c2)
def world_Do_r8 : IC:=cReg Try.prog [
  ⟨some 6,none,iMov 6 (.const (.int .i64 0)) true⟩] [2,3,4] [2,3,4,100002]
def world_Do_r9 : IC:=cRegD Try.prog [
  ⟨some 41,none,iFad 41 0 (.tmp 2)⟩,
  ⟨some 42,none,iLoad 42 1 false (.tmp 41) false⟩,
  ⟨some 43,none,iFad 43 1 (.tmp 3)⟩,
  ⟨some 44,none,iLoad 44 1 false (.tmp 43) false⟩,
  ⟨some 45,none,iFad 45 0 (.tmp 2)⟩,
  ⟨some 46,none,iLoad 46 1 false (.tmp 45) false⟩,
  ⟨some 47,none,iFad 47 1 (.tmp 3)⟩,
  ⟨some 48,none,iLoad 48 1 false (.tmp 47) false⟩,
  ⟨some 49,none,iIaS 49 17 (.tmp 46) (.tmp 48)⟩,
  ⟨some 50,none,iLoad 50 17 true (.tmp 49) false⟩,
  ⟨some 51,none,iLoad 51 7 true (.tmp 3) false⟩,
  ⟨some 52,none,iCall 52 91 [(.tmp 50),(.tmp 51)]⟩,
  ⟨some 40,none,iMov 40 (.tmp 52) false⟩,
  ⟨some 53,none,iExt 53 (.tmp 40) 0⟩,
  ⟨some 54,none,iExt 54 (.tmp 40) 1⟩,
  ⟨some 55,none,iIaS 55 17 (.tmp 42) (.tmp 44)⟩,
  ⟨none,none,iStor 17 (.tmp 55) (.tmp 53)⟩,
  ⟨some 6,none,iMov 6 (.tmp 54) true⟩] [[],[0],[],[2],[],[4],[],[6],[5,7,4,6],[8,5,7,4,6],[],[9,10,8,5,7,4,6],[11,9,10,8,5,7,4,6],[12,11,9,10,8,5,7,4,6],[12,11,9,10,8,5,7,4,6],[1,3,0,2,4,5,6,7,8,9,10,11,12,13],[15,13,11,0,1,2,3,4,5,6,7,8,9,10,12],[14,16,0,1,2,3,4,5,6,7,8,9,10,11,12,13,15]] [2,4,6] [2,4]
def world_Do_r10 : IC:=cReg Try.prog [
  ⟨some 56,none,iLoad 56 2 true (.tmp 2) false⟩,
  ⟨some 57,none,iMov 57 (.tmp 6) false⟩,
  ⟨none,none,iStor 2 (.tmp 4) (.tmp 56)⟩,
  ⟨some 5,none,iMov 5 (.tmp 57) true⟩] [4,5] [4]
def world_Do : IC:=(cSeq world_Do_r0 (cSeq world_Do_r1 (cSeq world_Do_b1 (cSeq world_Do_r8 (cSeq world_Do_r9 (cSeq world_Do_r10 cRet))))))
theorem told_world_Do {args r : List D} (hl : args.length = 2) (h : world_Do (start args) (fin [(4,some (2,true)),(5,none)] r)) : Told Try.prog 52 args r :=
 told_of follows Try.func52 rfl (an:=[([],[2,3,4],[2,3,4],[]),([(1003,[],[])],[2,3,4],[2,3,4],[]),([],[2,3,4,9],[2,3,4],[]),([(3002,[],[])],[4,5],[4],[]),([],[2,3,4,17],[2,3,4],[]),([(12000,[],[])],[4,5],[4],[]),([(12000,[],[])],[2,3,4,27],[2,3,4,100002],[]),([(12000,[],[])],[4,5],[4],[]),([],[2,3,4],[2,3,4,100002],[]),([],[2,4,6],[2,4],[]),([],[4,5],[4],[])]) (by kernel_rfl) (by kernel_rfl) (by rw [hl]; decide +kernel) h
set_option maxRecDepth 100000
def slot_Whose_r0 : IC:=cReg Try.prog [
  ⟨some 4,none,iMov 4 (.const (.int .i64 0)) true⟩,
  ⟨some 5,none,iMov 5 (.const (.int .i64 0)) true⟩] [0,1] []
def slot_Whose_r1 : IC:=cReg Try.prog [
  ⟨some 6,none,iMov 6 (.tmp 0) false⟩,
  ⟨some 7,none,iBin 7 .lss (.tmp 6) (.const (.int .i64 0))⟩,
  ⟨some 8,none,iMov 8 (.tmp 7) false⟩,
  ⟨some 9,some (8,false),iMov 9 (.tmp 1) false⟩,
  ⟨some 10,some (8,false),iBin 10 .lss (.tmp 9) (.const (.int .i64 1))⟩,
  ⟨some 11,none,iPick 11 (.tmp 8) (.const (.bool true)) (.tmp 10)⟩,
  ⟨some 12,none,iMov 12 (.tmp 11) false⟩,
  ⟨some 13,some (12,false),iMov 13 (.tmp 1) false⟩,
  ⟨some 14,some (12,false),iBin 14 .gtr (.tmp 13) (.const (.int .i64 3))⟩,
  ⟨some 15,none,iPick 15 (.tmp 12) (.const (.bool true)) (.tmp 14)⟩] [0,1,15] []
def slot_Whose_r2 : IC:=cReg Try.prog [
  ⟨some 4,none,iMov 4 (.const (.int .i64 0)) true⟩,
  ⟨some 5,none,iMov 5 (.const (.int .i64 3)) true⟩] [4,5] []
def slot_Whose_c1a : IC:=(cSeq slot_Whose_r2 cRet)
def slot_Whose_c1 : IC:=cCond (.tmp 15) slot_Whose_c1a cSkip
def slot_Whose_r3 : IC:=cReg Try.prog [
  ⟨some 16,none,iMov 16 (.tmp 0) false⟩,
  ⟨some 17,none,iMov 17 (.tmp 1) false⟩,
  ⟨some 18,none,iBin 18 .rem (.tmp 16) (.tmp 17)⟩,
  ⟨some 4,none,iMov 4 (.tmp 18) true⟩,
  ⟨some 5,none,iMov 5 (.const (.int .i64 0)) true⟩] [4,5] []
def slot_Whose : IC:=(cSeq slot_Whose_r0 (cSeq (cSeq slot_Whose_r1 slot_Whose_c1) (cSeq slot_Whose_r3 cRet)))
theorem told_slot_Whose {args r : List D} (hl : args.length = 2) (h : slot_Whose (start args) (fin [(4,none),(5,none)] r)) : Told Try.prog 46 args r :=
 told_of follows Try.func46 rfl (an:=[([],[0,1],[],[]),([],[0,1,15],[],[]),([],[4,5],[],[]),([],[4,5],[],[])]) (by kernel_rfl) (by kernel_rfl) (by rw [hl]; decide +kernel) h
end Go.Proofs.Ytgfljlmonaifgab.ab
namespace Go.Proofs.Ytgfljlmonaifgab.mth
def aheadP (tick n tenant : Int) : Int:=(tenant - tick % n + n) % n
theorem ahead_ok {tick n tenant : Int} (hn : n = 1 ∨ n = 2 ∨ n = 3) : 0 ≤ aheadP tick n tenant ∧ aheadP tick n tenant < n:=by
 unfold aheadP; rcases hn with rfl | rfl | rfl <;> omega
structure Behind (tick many n tenant t : Int) (k : Nat) : Prop where
 lo : tick ≤ t
 hi : t ≤ tick + many
 ahead : t ≤ tick + aheadP tick n tenant + (k : Int) * n
 last : k = 0 ∨ tick + aheadP tick n tenant + ((k : Int) - 1) * n < t
theorem Behind.start {tick many n tenant : Int} (hn : n = 1 ∨ n = 2 ∨ n = 3) (hm : 0 ≤ many) : Behind tick many n tenant tick 0:=by
 have:=ahead_ok (tick:=tick) (tenant:=tenant) hn
 exact ⟨by omega,by omega,by simp; omega,.inl rfl⟩
end Go.Proofs.Ytgfljlmonaifgab.mth
namespace Go.Proofs.Ytgfljlmonaifgab.ab
open Go Go.RowKit
open mth
theorem whose_ok (t n : Int) (ht : 0 ≤ t) (hn : 1 ≤ n ∧ n ≤ 3) : Told Try.prog 46 [vI t,vI n] [vI (t % n),vI 0]:=by
 refine told_slot_Whose rfl ?_
 have g1 : ¬ t < 0:=by omega
 have g2 : ¬ n < 1:=by omega
 have g3 : ¬ 3 < n:=by omega
 have g4 : n ≠ 0:=by omega
 have g5 : t.tmod n = t % n:=Int.tmod_eq_emod_of_nonneg ht
 refine wk (an5 @g1 @g2 @g3 @g4 @g5) ?_
 exact ValsLe.refl _
def CPutS (f : Nat) : Prop:=∀ s m,GoodS s → Told Try.prog f [aD (encSd s),aD (encMs m)] [aD (encSd (putS s m)),vI (putE s m)]
def CSayS (f : Nat) : Prop:=∀ s,GoodS s → Told Try.prog f [aD (encSd s)] [aD (encSd (sayL s).1),aD (encCh (sayL s).2.1),vB (sayL s).2.2]
def CHearS (f : Nat) : Prop:=∀ s c,GoodS s → wrongL c = 0 → Told Try.prog f [aD (encSd s),aD (encCh c)] [aD (encSd (hearS s c))]
theorem early_right {c : Ch} (h : wrongL c = 0) : c.early.length ≤ 3:=by
 unfold wrongL at h
 split at h
 ·cases h
 ·split at h
  ·cases h
  ·split at h
   ·split at h
    ·cases h
    ·split at h
     ·cases h
     ·rename_i he; omega
   ·split at h
    ·cases h
    ·split at h
     ·cases h
     ·rename_i he; omega
theorem say_early {s : Sd} (h : GoodS s) : (sayL s).2.1.early.length ≤ 3:=by
 unfold sayL
 split
 ·split
  ·simp [zeroC]
  ·rename_i hf
   have hk:=againK_lt h (by omega)
   have hlt : (againK s).toNat < s.flight.length:=by omega
   simp only [List.getD_eq_getElem?_getD,List.getElem?_eq_getElem hlt,Option.getD_some]
   rw [h.early _ (List.getElem_mem hlt)]
   simp
 ·split
  ·rename_i hf
   have hk:=againK_lt h (by omega)
   have hlt : (againK s).toNat < s.flight.length:=by omega
   simp only [List.getD_eq_getElem?_getD,List.getElem?_eq_getElem hlt,Option.getD_some]
   rw [h.early _ (List.getElem_mem hlt)]
   simp
  ·simp [newC]
theorem step_put (hP : CPutS 55) (l : Ln) (s : Sp) (hg : GoodL l) (h : s.kind = 2) : Told Try.prog 91 [aD (encLn l),aD (encSp s)] [aD (encLn { l with s:=putS l.s s.msg }),vI (putE l.s s.msg)]:=by
 refine told_world_step rfl ?_
 have h1:=hP l.s s.msg hg.s
 obtain ⟨kind,tenant,n,m,back,msg⟩:=s
 simp only at h h1 ⊢
 subst h
 obtain ⟨s',r',t',k'⟩:=l
 simp only at *
 generalize putS s' msg = q at *
 generalize putE s' msg = e at *
 simp only [encLn,encSp,encSd,encMs] at h1 ⊢
 refine wk0 ?_
 refine cg [[aD (encSd q),vI e]] @encSd.eq_1 ?_ ?_
 ·exact obl_cons h1 obl_nil
 refine wk0 ?_
 exact ValsLe.refl _
theorem step_packet (hC : CLStep 37 3) (hL : CLStep 39 4) (hT : CLStep 40 5) (hS : CLSpoil 41) (l : Ln) (s : Sp) (hg : GoodL l) (h : 3 ≤ s.kind ∧ s.kind ≤ 6) : Told Try.prog 91 [aD (encLn l),aD (encSp s)] [aD (encLn (packetL l s.kind s.n s.m s.back).1),vI (packetL l s.kind s.n s.m s.back).2]:=by
 refine told_world_step rfl ?_
 obtain ⟨kind,tenant,n,m,back,msg⟩:=s
 simp only at h ⊢
 have hk : kind = 3 ∨ kind = 4 ∨ kind = 5 ∨ kind = 6:=by omega
 rcases hk with rfl | rfl | rfl | rfl
 ·have h1:=hC l n back hg
  rw [show packetL l 3 n m back = packetL l 3 n 0 back from rfl]
  generalize packetL l 3 n 0 back = R at *
  obtain ⟨l',e⟩:=R
  simp only [encLn,encSp] at h1 ⊢
  refine wk0 ?_
  refine cg [[aD (encLn l'),vI e]] @encLn.eq_1 ?_ ?_
  ·exact obl_cons h1 obl_nil
  refine wk0 ?_
  exact ValsLe.refl _
 ·have h1:=hL l n back hg
  rw [show packetL l 4 n m back = packetL l 4 n 0 back from rfl]
  generalize packetL l 4 n 0 back = R at *
  obtain ⟨l',e⟩:=R
  simp only [encLn,encSp] at h1 ⊢
  refine wk0 ?_
  refine cg [[aD (encLn l'),vI e]] @encLn.eq_1 ?_ ?_
  ·exact obl_cons h1 obl_nil
  refine wk0 ?_
  exact ValsLe.refl _
 ·have h1:=hT l n back hg
  rw [show packetL l 5 n m back = packetL l 5 n 0 back from rfl]
  generalize packetL l 5 n 0 back = R at *
  obtain ⟨l',e⟩:=R
  simp only [encLn,encSp] at h1 ⊢
  refine wk0 ?_
  refine cg [[aD (encLn l'),vI e]] @encLn.eq_1 ?_ ?_
  ·exact obl_cons h1 obl_nil
  refine wk0 ?_
  exact ValsLe.refl _
 ·have h1:=hS l n m back hg
  generalize packetL l 6 n m back = R at *
  obtain ⟨l',e⟩:=R
  simp only [encLn,encSp] at h1 ⊢
  refine wk0 ?_
  refine cg [[aD (encLn l'),vI e]] @encLn.eq_1 ?_ ?_
  ·exact obl_cons h1 obl_nil
  refine wk0 ?_
  exact ValsLe.refl _
theorem step_told (hP : CPutS 55) (hC : CLStep 37 3) (hL : CLStep 39 4) (hT : CLStep 40 5) (hS : CLSpoil 41) (l : Ln) (s : Sp) (hg : GoodL l) (h : 2 ≤ s.kind ∧ s.kind ≤ 6) : Told Try.prog 91 [aD (encLn l),aD (encSp s)] [aD (encLn (laneW l s).1),vI (laneW l s).2]:=by
 unfold laneW
 rw [if_neg (by omega)]
 by_cases h2 : s.kind = 2
 ·rw [if_pos h2]; exact step_put hP l s hg h2
 ·rw [if_neg h2]; exact step_packet hC hL hT hS l s hg (by omega)
theorem ll_ne {l : List Ln} (h : l ≠ []) : encLl l ≠ []:=by simpa [encLl] using h
theorem tick_toldI (hK : CLSpeak 35) (w : Wd) (hn : 1 ≤ w.lanes.length ∧ w.lanes.length ≤ 3) (ht : 0 ≤ w.ticks ∧ w.ticks ≤ 1000000) (j : Nat) (hj : w.ticks % w.lanes.length = j) (l : Ln) (hl : w.lanes[j]? = some l) (hg : GoodL l) :
  ToldI Try.prog 90 [aD [xD,vI w.ticks]] 0 (some 0) 61 (17,some (encLl w.lanes)) [aD (encWd ⟨w.lanes.set j (speakL l),w.ticks + 1⟩),vI 0]:=by
 refine toldI_world_tick ?_
 have h1:=hK l hg
 have h2:=whose_ok w.ticks w.lanes.length ht.1 (by omega)
 rw [hj] at h2
 generalize speakL l = l' at *
 have hlt : j < w.lanes.length:=(List.getElem?_eq_some_iff.1 hl).1
 have g3 : (0 : Int) ≤ (j : Int):=by omega
 have g4 : (j : Int) < (w.lanes.length : Int):=by omega
 have g5:=at_ll hl
 have g6 : inR .i64 (w.ticks + 1) = true:=inR_of (by omega)
 have hne : encLl w.lanes ≠ []:=ll_ne (by intro e; rw [e] at hlt; simp at hlt)
 obtain ⟨lanes,ticks⟩:=w
 simp only [encWd,set_ll,encLn] at *
 refine wk0 ?_
 refine ⟨_,le_name (b:=1) (off:=0) (k:=100001) (by decide) rfl (show 0 < 2 by decide) rfl hne ⟨by decide,by decide⟩ rfl,?_⟩
 refine wk @len_ll ?_
 refine cg [[vI j,vI 0]] @len_ll ?_ ?_
 ·exact obl_cons h2 obl_nil
 refine wk (an5 @g3 @g4 @g5 @len_ll @Int.toNat_natCast) ?_
 refine cd [[aD (encLn l')]] (an7 @encLn.eq_1 @g3 @g4 @g5 @len_ll @zset @Int.toNat_natCast) ?_ ?_
 ·exact obl_cons h1 obl_nil
 refine wk @g6 ?_
 exact ValsLe.refl _
theorem lDo_kind (hO : CLOwn 34) (w : Wd) (hw : GoodW w) (s : Sp) (h : s.kind < 1 ∨ 6 < s.kind) : Told Try.prog 52 [aD (encWd w),aD (encSp s)] [aD (encWd w),vI 1]:=by
 refine told_world_Do rfl ?_
 have h0:=ownWd_toldO hO w hw
 obtain ⟨kind,tenant,n,m,back,msg⟩:=s
 simp only at h
 have h1 : (kind == 1) = false:=by rw [beq_eq_false_iff_ne]; omega
 simp only [encWd,encSp] at h0 ⊢
 refine wk0 ?_
 refine ⟨2,_,_,_,0,_,_,rfl,rfl,rfl,rfl,row_refl _,h0,rfl,?_⟩
 by_cases h2 : kind < 1
 ·refine wk (an2 @h1 @h2) ?_
  refine ⟨_,le_frzH (b:=2) (off:=0) (by decide) rfl (show 0 < 2 by decide) rfl,?_⟩
  refine wk0 ?_
  exact ValsLe.refl _
 ·have h3 : 6 < kind:=by omega
  refine wk (an3 @h1 @h2 @h3) ?_
  refine ⟨_,le_frzH (b:=2) (off:=0) (by decide) rfl (show 0 < 2 by decide) rfl,?_⟩
  refine wk0 ?_
  exact ValsLe.refl _
theorem lDo_none (hO : CLOwn 34) (w : Wd) (hw : GoodW w) (s : Sp) (h : 2 ≤ s.kind ∧ s.kind ≤ 6) (hr : s.tenant < 0 ∨ (w.lanes.length : Int) ≤ s.tenant) : Told Try.prog 52 [aD (encWd w),aD (encSp s)] [aD (encWd w),vI 6]:=by
 refine told_world_Do rfl ?_
 have h0:=ownWd_toldO hO w hw
 have hn:=hw.n
 have hne : encLl w.lanes ≠ []:=ll_ne (by intro e; rw [e] at hn; simp at hn)
 obtain ⟨kind,tenant,n,m,back,msg⟩:=s
 simp only at h hr
 have h1 : (kind == 1) = false:=by rw [beq_eq_false_iff_ne]; omega
 have h2 : ¬ kind < 1:=by omega
 have h3 : ¬ 6 < kind:=by omega
 simp only [encWd,encSp] at h0 ⊢
 refine wk0 ?_
 refine ⟨2,_,_,_,0,_,_,rfl,rfl,rfl,rfl,row_refl _,h0,rfl,?_⟩
 refine wk (an3 @h1 @h2 @h3) ?_
 refine ⟨_,le_name (b:=2) (off:=0) (k:=100002) (by decide) rfl (show 0 < 2 by decide) rfl hne ⟨by decide,by decide⟩ rfl,?_⟩
 by_cases h4 : tenant < 0
 ·refine wk @h4 ?_
  refine ⟨_,(Le.keep (lv:=[2,3,4,27]) (lb:=[2,3,4]) (by simp only [ev0,ev1,ev2,look,lookF,cellsFrom,offT,offP,List.tail_nil,List.length_nil,Int.cast_ofNat_Int,Nat.reduceEqDiff,Nat.reduceAdd,Nat.reduceMul,Nat.reduceLeDiff,Nat.reduceLT,↓reduceIte,reduceCtorEq,Int.reduceBEq,Int.reduceBNe,Int.reduceLT,Int.reduceLE,Int.reduceToNat]; rfl)),?_⟩
  refine wk0 ?_
  exact ValsLe.refl _
 ·have h5 : (w.lanes.length : Int) ≤ tenant:=by omega
  refine wk (an3 @h4 @h5 @len_ll) ?_
  refine ⟨_,(Le.keep (lv:=[2,3,4,27]) (lb:=[2,3,4]) (by simp only [ev0,ev1,ev2,look,lookF,cellsFrom,offT,offP,List.tail_nil,List.length_nil,Int.cast_ofNat_Int,Nat.reduceEqDiff,Nat.reduceAdd,Nat.reduceMul,Nat.reduceLeDiff,Nat.reduceLT,↓reduceIte,reduceCtorEq,Int.reduceBEq,Int.reduceBNe,Int.reduceLT,Int.reduceLE,Int.reduceToNat,len_ll]; rfl)),?_⟩
  refine wk0 ?_
  exact ValsLe.refl _
theorem lDo_step (hO : CLOwn 34) (hP : CPutS 55) (hC : CLStep 37 3) (hL : CLStep 39 4) (hT : CLStep 40 5) (hS : CLSpoil 41) (w : Wd) (hw : GoodW w) (s : Sp) (h : 2 ≤ s.kind ∧ s.kind ≤ 6) (j : Nat) (hj : s.tenant = j) (l : Ln) (hl : w.lanes[j]? = some l) (hg : GoodL l) :
  Told Try.prog 52 [aD (encWd w),aD (encSp s)] [aD (encWd ⟨w.lanes.set j (laneW l s).1,w.ticks⟩),vI (laneW l s).2]:=by
 refine told_world_Do rfl ?_
 have h0:=ownWd_toldO hO w hw
 have hs:=step_told hP hC hL hT hS l s hg h
 have hn:=hw.n
 have hne : encLl w.lanes ≠ []:=ll_ne (by intro e; rw [e] at hn; simp at hn)
 generalize laneW l s = R at *
 obtain ⟨l',e⟩:=R
 obtain ⟨kind,tenant,n,m,back,msg⟩:=s
 simp only at h hj hs ⊢
 subst hj
 have hlt : j < w.lanes.length:=(List.getElem?_eq_some_iff.1 hl).1
 have h1 : (kind == 1) = false:=by rw [beq_eq_false_iff_ne]; omega
 have h2 : ¬ kind < 1:=by omega
 have h3 : ¬ 6 < kind:=by omega
 have g1 : ¬ (j : Int) < 0:=by omega
 have g2 : ¬ (w.lanes.length : Int) ≤ (j : Int):=by omega
 have g3 : (0 : Int) ≤ (j : Int):=by omega
 have g4 : (j : Int) < (w.lanes.length : Int):=by omega
 have g5:=at_ll hl
 obtain ⟨lanes,ticks⟩:=w
 simp only [encWd,encSp,set_ll,encLn] at *
 refine wk0 ?_
 refine ⟨2,_,_,_,0,_,_,rfl,rfl,rfl,rfl,row_refl _,h0,rfl,?_⟩
 refine wk (an3 @h1 @h2 @h3) ?_
 refine ⟨_,le_name (b:=2) (off:=0) (k:=100002) (by decide) rfl (show 0 < 2 by decide) rfl hne ⟨by decide,by decide⟩ rfl,?_⟩
 refine wk (an3 @g1 @g2 @len_ll) ?_
 refine cd [[aD (encLn l'),vI e]] (an7 @encLn.eq_1 @g3 @g4 @g5 @len_ll @zset @Int.toNat_natCast) ?_ ?_
 ·exact obl_cons hs obl_nil
 refine wk0 ?_
 exact ValsLe.refl _
theorem lDo_tick (hO : CLOwn 34) (hK : CLSpeak 35) (w : Wd) (hw : GoodW w) (ht : w.ticks ≤ 1000000) (s : Sp) (h : s.kind = 1) (j : Nat) (hj : w.ticks % w.lanes.length = j) (l : Ln) (hl : w.lanes[j]? = some l) (hg : GoodL l) :
  Told Try.prog 52 [aD (encWd w),aD (encSp s)] [aD (encWd ⟨w.lanes.set j (speakL l),w.ticks + 1⟩),vI 0]:=by
 refine told_world_Do rfl ?_
 have h0:=ownWd_toldO hO w hw
 have h1:=tick_toldI hK w hw.n ⟨hw.t,ht⟩ j hj l hl hg
 generalize (⟨w.lanes.set j (speakL l),w.ticks + 1⟩ : Wd) = w' at *
 obtain ⟨kind,tenant,n,m,back,msg⟩:=s
 simp only at h
 subst h
 simp only [encWd,encSp] at h0 h1 ⊢
 refine wk0 ?_
 refine ⟨2,_,_,_,0,_,_,rfl,rfl,rfl,rfl,row_refl _,h0,rfl,?_⟩
 refine wk0 ?_
 refine ⟨2,_,_,0,_,_,_,rfl,rfl,rfl,rfl,row_refl _,by decide,rfl,h1,?_⟩
 refine wk0 ?_
 exact ValsLe.refl _
theorem lDo_told (hO : CLOwn 34) (hK : CLSpeak 35) (hP : CPutS 55) (hC : CLStep 37 3) (hL : CLStep 39 4) (hT : CLStep 40 5) (hS : CLSpoil 41) : CWDo 52:=by
 intro w s hw ht
 unfold doW
 by_cases hk : s.kind < 1 ∨ 6 < s.kind
 ·rw [if_pos hk]; exact lDo_kind hO w hw s hk
 rw [if_neg hk]
 have hn:=hw.n
 have ht0:=hw.t
 by_cases h1 : s.kind = 1
 ·have hwho : whoW w s = w.ticks % w.lanes.length:=by unfold whoW; rw [if_pos h1,Int.tmod_eq_emod_of_nonneg ht0]
  have htk : ticksW w s = w.ticks + 1:=by unfold ticksW; rw [if_pos h1]
  rw [hwho,htk]
  have q0 : 0 ≤ w.ticks % w.lanes.length:=Int.emod_nonneg _ (by omega)
  have q1 : w.ticks % w.lanes.length < w.lanes.length:=Int.emod_lt_of_pos _ (by omega)
  obtain ⟨j,hj⟩ : ∃ j : Nat,w.ticks % w.lanes.length = j:=⟨(w.ticks % w.lanes.length).toNat,by omega⟩
  rw [hj] at q0 q1 ⊢
  rw [if_neg (by omega)]
  obtain ⟨l,hl⟩ : ∃ l,w.lanes[j]? = some l:=⟨_,List.getElem?_eq_getElem (by omega)⟩
  have e0 : w.lanes.getD j zeroL = l:=by rw [List.getD_eq_getElem?_getD,hl]; rfl
  have:=lDo_tick hO hK w hw ht s h1 j hj l hl (hw.l l (List.mem_of_getElem? hl))
  simpa only [Int.toNat_natCast,e0,laneW,h1,if_true] using this
 ·have hwho : whoW w s = s.tenant:=by unfold whoW; rw [if_neg h1]
  have htk : ticksW w s = w.ticks:=by unfold ticksW; rw [if_neg h1]
  rw [hwho,htk]
  by_cases hr : s.tenant < 0 ∨ (w.lanes.length : Int) ≤ s.tenant
  ·rw [if_pos hr]
   exact lDo_none hO w hw s (by omega) hr
  rw [if_neg hr]
  obtain ⟨j,hj⟩ : ∃ j : Nat,s.tenant = j:=⟨s.tenant.toNat,by omega⟩
  rw [hj]
  obtain ⟨l,hl⟩ : ∃ l,w.lanes[j]? = some l:=⟨_,List.getElem?_eq_getElem (by omega)⟩
  have e0 : w.lanes.getD j zeroL = l:=by rw [List.getD_eq_getElem?_getD,hl]; rfl
  have:=lDo_step hO hP hC hL hT hS w hw s (by omega) j hj l hl (hw.l l (List.mem_of_getElem? hl))
  rw [Int.toNat_natCast,e0]
  exact this
end Go.Proofs.Ytgfljlmonaifgab.ab
