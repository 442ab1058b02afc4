import Derived.Test.YtgaofjiidedcbadM19
import Derived.Test.YtgaofjiidedcbadProg
set_option linter.unusedVariables false
set_option linter.unusedSimpArgs false
namespace Go.Proofs.Ytgaofjiidedcbad.ab
set_option maxRecDepth 100000
open Go Go.RowKit
def Q57r0 : IC:=cReg Try.prog [xX 2 0,xX 3 1,⟨some 4,none,iMov 4 (.const (.int .i64 0)) true⟩] [2,3] [2,3]
def Q57r1 : IC:=cReg Try.prog [xA 6 2 3,xV1 7 32 6,xT 5 7] [2,5] [2]
def Q57r2 : IC:=cReg Try.prog [xM 8 5,xC 9 .neq 8 0] [2,5,9] [2]
def Q57r3 : IC:=cReg Try.prog [xM 10 5,xT 4 10] [4] []
def Q57c1a : IC:=(cSeq Q57r3 cRet)
def Q57c1 : IC:=cCond (.tmp 9) Q57c1a cSkip
def Q57r4 : IC:=cReg Try.prog [xF 12 0 2,xL 13 1 12,xN 14 13,xC 15 .geq 14 6,xT 11 15] [2,11] [2]
def Q57r5 : IC:=cReg Try.prog [⟨some 4,none,iMov 4 (.const (.int .i64 9)) true⟩] [4] []
def Q57r6 : IC:=cReg Try.prog [xF 17 1 2,xL 18 1 17,xF 19 0 2,xL 20 1 19,xN 21 20,xB 22 .add 18 21,xC 23 .geq 22 40,xT 16 23] [16] []
def Q57r7 : IC:=cReg Try.prog [⟨some 4,none,iMov 4 (.const (.int .i64 4)) true⟩] [4] []
def Q57c4a : IC:=(cSeq Q57r7 cRet)
def Q57c4 : IC:=cCond (.tmp 16) Q57c4a cSkip
def Q57c3a : IC:=(cSeq Q57r5 cRet)
def Q57c3b : IC:=(cSeq Q57r6 Q57c4)
def Q57c3 : IC:=cCond (.tmp 11) Q57c3a Q57c3b
def Q57b2 : IC:=cBlock 0 (cSeq Q57r4 Q57c3)
def Q57r8 : IC:=cReg Try.prog [⟨some 4,none,iMov 4 (.const (.int .i64 0)) true⟩] [4] []
def send_wrongPut : IC:=(cSeq Q57r0 (cSeq (cSeq Q57r1 (cSeq Q57r2 Q57c1)) (cSeq Q57b2 (cSeq Q57r8 cRet))))
theorem told_send_wrongPut {args r : List D} (hl : args.length = 2) (h : send_wrongPut (start args) (fin [(4,none)] r)) : Told Try.prog 59 args r :=
 told_of follows Try.func59 rfl (an:=[([],[2,3],[2,3],[]),([],[2,5],[2],[]),([],[2,5,9],[2],[]),([],[4],[],[]),([],[2,11],[2],[]),([],[4],[],[]),([],[16],[],[]),([],[4],[],[]),([],[4],[],[])]) (by kernel_rfl) (by kernel_rfl) (by rw [hl]; decide +kernel) h
def Q51r0 : IC:=cReg Try.prog [xX 2 0,xX 3 1,⟨some 4,none,iAlo 4 [zS,zI,zI,zI,zI,zS,zI]⟩,⟨some 5,none,iMov 5 (.const (.int .i64 0)) true⟩] [2,3,4] [2,3,4]
def Q51r1_0 : IC:=cOwn Try.prog 2 7 8 33 7
def Q51r1_1 : IC:=cReg Try.prog [] [2,3,4] [2,3,4]
def Q51r1 : IC:=(cSeq Q51r1_0 Q51r1_1)
def Q51r2 : IC:=cReg Try.prog [xA 9 7 2,xA 10 2 3,xV2 11 59 9 10,xT 6 11] [2,3,4,6] [2,3,4]
def Q51r3 : IC:=cReg Try.prog [xM 12 6,xC 13 .neq 12 0] [2,3,4,6,13] [2,3,4]
def Q51r4 : IC:=cReg Try.prog [xA 14 7 2,xM 15 6,xS 7 4 14,xT 5 15] [4,5] [4]
def Q51c1a : IC:=(cSeq Q51r4 cRet)
def Q51c1 : IC:=cCond (.tmp 13) Q51c1a cSkip
def Q51r5 : IC:=cRegD Try.prog [xF 16 0 2,xU 17 1 16,xA 18 2 3,xV1 19 23 18,xR 20 28 2 19,xW 21 28 2 32 17 20,xF 22 0 2,xS 1 22 21] [[],[0],[],[2],[3,2],[1,4,3,0,2],[0,1,2,3,4,5],[6,5,0,1,2,3,4]] [2,4] [2,4]
def Q51r6 : IC:=cReg Try.prog [xA 23 7 2,xS 7 4 23,⟨some 5,none,iMov 5 (.const (.int .i64 0)) true⟩] [4,5] [4]
def send_Put : IC:=(cSeq Q51r0 (cSeq Q51r1 (cSeq (cSeq Q51r2 (cSeq Q51r3 Q51c1)) (cSeq Q51r5 (cSeq Q51r6 cRet)))))
theorem told_send_Put {args r : List D} (hl : args.length = 2) (h : send_Put (start args) (fin [(4,some (7,true)),(5,none)] r)) : Told Try.prog 41 args r :=
 told_of follows Try.func41 rfl (an:=[([],[2,3,4],[2,3,4],[]),([(1003,[],[])],[2,3,4],[2,3,4],[]),([],[2,3,4,6],[2,3,4],[]),([],[2,3,4,6,13],[2,3,4],[]),([],[4,5],[4],[]),([],[2,4],[2,4],[]),([],[4,5],[4],[])]) (by kernel_rfl) (by kernel_rfl) (by rw [hl]; decide +kernel) h
def Q56r0 : IC:=cReg Try.prog [⟨some 2,none,iAlo 2 [zS,zI,zI,zI,zI,zS,zI]⟩,⟨some 3,none,iAlo 3 [zI,zI,zI,zI,zS,zS]⟩] [1,2,3] [1,2,3]
def Q56r1 : IC:=cReg Try.prog [xF 6 0 1,xL 7 1 6,⟨some 8,none,iIaS 8 2 (.tmp 7) (.const (.int .i64 0))⟩,xA 9 2 8,⟨some 4,none,iAlo 4 [zI,zS]⟩,xS 2 4 9] [1,2,3,4] [1,2,3,4]
def Q56r2 : IC:=cReg Try.prog [xF 10 0 1,xL 11 1 10,⟨some 12,none,iSlc 12 2 (.tmp 11) (some (.const (.int .i64 1))) none⟩,xF 13 0 1,xS 1 13 12] [1,2,3,4] [1,2,3,4]
def Q56r3 : IC:=cRegD Try.prog [xF 14 1 1,xL 15 1 14,xF 16 0 4,xL 17 1 16,xF 18 0 4,xL 19 1 18,xF 20 2 1,⟨some 21,none,iIaA 21 3 1 (.tmp 20) (.tmp 19)⟩,xL 22 1 21,xF 23 1 4,xL 24 1 23,⟨some 25,none,iBld 25 [zI,zI,zI,zI,zS,zS] [(0,1),(1,1),(2,1),(3,1),(4,1)] [(.const (.int .i64 1)),(.tmp 15),(.tmp 17),(.tmp 22),(.tmp 24)]⟩,⟨some 5,none,iAlo 5 [zI,zI,zI,zI,zS,zS]⟩,xS 6 5 25] [[],[0],[],[2],[],[4],[],[6,5,4],[7,6,5,4],[],[9],[1,3,8,10,0,2,7,6,5,4,9],[],[12,11,0,1,2,3,4,5,6,7,8,9,10]] [1,2,3,4,5] [1,2,3,4,5]
def Q56r4 : IC:=cReg Try.prog [xF 26 1 1,xL 27 1 26,xC 28 .add 27 1,xF 29 1 1,xS 1 29 28] [1,2,3,4,5] [1,2,3,4,5]
def Q56r5 : IC:=cReg Try.prog [xF 30 0 4,xL 31 1 30,xF 32 2 1,⟨some 33,none,iIaA 33 3 1 (.tmp 32) (.tmp 31)⟩,xL 34 1 33,xC 35 .add 34 1,xF 36 2 1,⟨some 37,none,iIaA 37 3 1 (.tmp 36) (.tmp 31)⟩,xS 1 37 35] [1,2,3,5] [1,2,3,5]
def Q56r6 : IC:=cReg Try.prog [xF 38 5 1,xU 39 1 38,xA 40 6 5,xR 41 97 6 40,xW 42 97 6 80 39 41,xF 43 5 1,xS 1 43 42] [1,2,3,5] [1,2,3,5]
def Q56r7 : IC:=cRegD Try.prog [xA 44 7 1,xA 45 6 5,xS 7 2 44,xS 6 3 45] [[],[],[0],[1,2,0]] [2,3] [2,3]
def send_sayNew : IC:=cSeq Q56r0 (cSeq Q56r1 (cSeq Q56r2 (cSeq Q56r3 (cSeq Q56r4 (cSeq Q56r5 (cSeq Q56r6 (cSeq Q56r7 cRet)))))))
theorem toldI_send_sayNew {cs r : List D} {off e : Nat} {z : Pay} (h : send_sayNew ⟨[(1,pD 1 0),(0,aD cs)],[(1,cs)],[((1,some off),(e,z))]⟩ (fin [(2,some (7,true)),(3,some (6,true))] r)) : ToldI Try.prog 71 [aD cs] 0 (some off) e z r :=
 toldI_cell follows Try.func71 rfl rfl rfl rfl rfl (by decide +kernel) (rw:=[]) (cuts:=[]) (lv:=[1,2,3]) (lb:=[1,2,3]) (an:=[([],[1,2,3,4],[1,2,3,4],[]),([],[1,2,3,4],[1,2,3,4],[]),([],[1,2,3,4,5],[1,2,3,4,5],[]),([],[1,2,3,4,5],[1,2,3,4,5],[]),([],[1,2,3,5],[1,2,3,5],[]),([],[1,2,3,5],[1,2,3,5],[]),([],[2,3],[2,3],[])]) (by kernel_rfl) (by kernel_rfl) (by kernel_rfl) (by decide +kernel) (by rw [fin_eq]; exact h)
def Q55r0 : IC:=cReg Try.prog [xX 1 0,⟨some 2,none,iAlo 2 [zS,zI,zI,zI,zI,zS,zI]⟩,⟨some 3,none,iAlo 3 [zI,zI,zI,zI,zS,zS]⟩] [1,2,3] [1,2,3]
def Q55r1 : IC:=cReg Try.prog [xF 5 6 1,xL 6 1 5,xF 7 5 1,xL 8 1 7,xN 9 8,xB 10 .rem 6 9,xT 4 10] [1,2,3,4] [1,2,3]
def Q55r2 : IC:=cReg Try.prog [xM 11 4,xC 12 .add 11 1,xF 13 6 1,xS 1 13 12] [1,2,3,4] [1,2,3]
def Q55r3 : IC:=cRegD Try.prog [xA 14 7 1,xF 15 5 1,xL 16 1 15,xM 17 4,xI 18 6 16 17,xA 19 6 18,xS 7 2 14,xS 6 3 19] [[],[],[1],[],[2,3,1],[4,2,3,1],[0],[5,6,0,1,2,3,4]] [2,3] [2,3]
def send_sayAgain : IC:=(cSeq Q55r0 (cSeq Q55r1 (cSeq Q55r2 (cSeq Q55r3 cRet))))
theorem told_send_sayAgain {args r : List D} (hl : args.length = 1) (h : send_sayAgain (start args) (fin [(2,some (7,true)),(3,some (6,true))] r)) : Told Try.prog 72 args r :=
 told_of follows Try.func72 rfl (an:=[([],[1,2,3],[1,2,3],[]),([],[1,2,3,4],[1,2,3],[]),([],[1,2,3,4],[1,2,3],[]),([],[2,3],[2,3],[])]) (by kernel_rfl) (by kernel_rfl) (by rw [hl]; decide +kernel) h
def Q52r0 : IC:=cReg Try.prog [xX 1 0,⟨some 2,none,iAlo 2 [zS,zI,zI,zI,zI,zS,zI]⟩,⟨some 3,none,iAlo 3 [zI,zI,zI,zI,zS,zS]⟩,⟨some 4,none,iMov 4 (.const (.bool false)) true⟩] [1,2,3] [1,2,3]
def Q52r1_0 : IC:=cOwn Try.prog 1 6 7 33 7
def Q52r1_1 : IC:=cReg Try.prog [] [1,2,3] [1,2,3]
def Q52r1 : IC:=(cSeq Q52r1_0 Q52r1_1)
def Q52r2 : IC:=cReg Try.prog [⟨some 5,none,iAlo 5 [zI,zI,zI,zI,zS,zS]⟩] [1,2,3,5] [1,2,3,5]
def Q52r4 : IC:=cReg Try.prog [xF 11 0 1,xL 12 1 11,xN 13 12,xC 14 .gtr 13 0,xM 15 14,xG 15 true (xF 16 5 1),xG 15 true (xL 17 1 16),xG 15 true (xN 18 17),xG 15 true (xC 19 .lss 18 4),xQ 20 15 19,xT 10 20] [1,2,3,5,10] [1,2,3,5]
def Q52r5_0 : IC:=cInn Try.prog 1 22 23 71 7
def Q52r5_1 : IC:=cReg Try.prog [xM 21 23,xE 24 21 0,xE 25 21 1,xS 7 1 24,xS 6 5 25] [1,2,3,5] [1,2,3,5]
def Q52r5 : IC:=(cSeq Q52r5_0 Q52r5_1)
def Q52r6 : IC:=cReg Try.prog [xF 27 5 1,xL 28 1 27,xN 29 28,xC 30 .gtr 29 0,xT 26 30] [1,2,3,5,26] [1,2,3,5]
def Q52r7 : IC:=cReg Try.prog [xA 32 7 1,xV1 33 72 32,xM 31 33,xE 34 31 0,xE 35 31 1,xS 7 1 34,xS 6 5 35] [1,2,3,5] [1,2,3,5]
def Q52r3 : IC:=cReg Try.prog [xA 8 7 1,⟨some 9,none,iBld 9 [zI,zI,zI,zI,zS,zS] [] []⟩,xS 7 2 8,xS 6 3 9,⟨some 4,none,iMov 4 (.const (.bool false)) true⟩] [2,3,4] [2,3]
def Q52c3b : IC:=(cSeq Q52r3 cRet)
def Q52c3 : IC:=cCond (.tmp 26) Q52r7 Q52c3b
def Q52c2b : IC:=(cSeq Q52r6 Q52c3)
def Q52c2 : IC:=cCond (.tmp 10) Q52r5 Q52c2b
def Q52b1 : IC:=cBlock 0 (cSeq Q52r4 Q52c2)
def Q52r8 : IC:=cRegD Try.prog [xA 36 7 1,xA 37 6 5,xV1 38 48 37,xS 7 2 36,xS 6 3 38,⟨some 4,none,iMov 4 (.const (.bool true)) true⟩] [[],[],[1],[0,2,1],[2,3,0,1],[4,0,1,2,3]] [2,3,4] [2,3]
def send_Say : IC:=(cSeq Q52r0 (cSeq Q52r1 (cSeq Q52r2 (cSeq Q52b1 (cSeq Q52r8 cRet)))))
theorem told_send_Say {args r : List D} (hl : args.length = 1) (h : send_Say (start args) (fin [(2,some (7,true)),(3,some (6,true)),(4,none)] r)) : Told Try.prog 55 args r :=
 told_of follows Try.func55 rfl (an:=[([],[1,2,3],[1,2,3],[]),([(1003,[],[])],[1,2,3],[1,2,3],[]),([],[1,2,3,5],[1,2,3,5],[]),([],[1,2,3,5,10],[1,2,3,5],[]),([(3002,[],[])],[1,2,3,5],[1,2,3,5],[]),([],[1,2,3,5,26],[1,2,3,5],[]),([],[1,2,3,5],[1,2,3,5],[]),([],[2,3,4],[2,3],[]),([],[2,3,4],[2,3],[])]) (by kernel_rfl) (by kernel_rfl) (by rw [hl]; decide +kernel) h
def Q60r0 : IC:=cReg Try.prog [⟨some 4,none,iMov 4 (.const (.int .i64 0)) true⟩] [0,1] []
def Q60r1 : IC:=cReg Try.prog [xM 6 0,xN 7 6,⟨some 8,none,iMov 8 (.const (.int .i64 0)) false⟩] [0,1,7,8] []
def Q60r2 : IC:=cReg Try.prog [xB 9 .lss 8 7] [0,1,7,8,9] []
def Q60c3 : IC:=cCond (.tmp 9) cSkip (cExit 0)
def Q60r3 : IC:=cReg Try.prog [xM 10 8,xT 5 10] [0,1,5,7,8] []
def Q60r4 : IC:=cReg Try.prog [xM 11 1,xM 12 0,xM 13 5,xI 14 1 12 13,xL 15 1 14,xB 16 .eql 11 15] [0,1,5,7,8,16] []
def Q60r5 : IC:=cReg Try.prog [xM 17 5,xT 4 17] [4] []
def Q60c5a : IC:=(cSeq Q60r5 cRet)
def Q60c5 : IC:=cCond (.tmp 16) Q60c5a cSkip
def Q60b4 : IC:=cBlock 1 (cSeq Q60r3 (cSeq Q60r4 Q60c5))
def Q60r6 : IC:=cReg Try.prog [xC 18 .add 8 1,xM 8 18] [0,1,7,8] []
def Q60l2a : IC:=(cSeq Q60r2 (cSeq Q60c3 (cSeq Q60b4 Q60r6)))
def Q60l2 : IC:=cLoop Q60l2a
def Q60b1 : IC:=cBlock 0 Q60l2
def Q60r7 : IC:=cReg Try.prog [⟨some 4,none,iMov 4 (.const (.int .i64 (-1))) true⟩] [4] []
def slices_Index : IC:=(cSeq Q60r0 (cSeq (cSeq Q60r1 Q60b1) (cSeq Q60r7 cRet)))
theorem told_slices_Index {args r : List D} (hl : args.length = 2) (h : slices_Index (start args) (fin [(4,none)] r)) : Told Try.prog 87 args r :=
 told_of follows Try.func87 rfl (an:=[([],[0,1],[],[]),([],[0,1,7,8],[],[]),([],[0,1,7,8,9],[],[]),([],[0,1,5,7,8],[],[]),([],[0,1,5,7,8,16],[],[]),([],[4],[],[]),([],[0,1,7,8],[],[]),([],[4],[],[])]) (by kernel_rfl) (by kernel_rfl) (by rw [hl]; decide +kernel) h
def Q58r0 : IC:=cReg Try.prog [⟨some 4,none,iMov 4 (.const (.bool false)) true⟩] [0,1] []
def Q58r1 : IC:=cReg Try.prog [xM 5 0,xM 6 1,xV2 7 87 5 6,xC 8 .geq 7 0,xT 4 8] [4] []
def slices_Contains : IC:=(cSeq Q58r0 (cSeq Q58r1 cRet))
theorem told_slices_Contains {args r : List D} (hl : args.length = 2) (h : slices_Contains (start args) (fin [(4,none)] r)) : Told Try.prog 80 args r :=
 told_of follows Try.func80 rfl (an:=[([],[0,1],[],[]),([],[4],[],[])]) (by kernel_rfl) (by kernel_rfl) (by rw [hl]; decide +kernel) h
def Q54r0 : IC:=cReg Try.prog [xX 2 0,⟨some 3,none,iMov 3 (.const (.bool false)) true⟩] [1,2] [2]
def Q54r1_0 : IC:=cReg Try.prog [xF 4 0 1,xL 5 1 4,xC 6 .eql 5 2,xM 7 6,xG 7 true (xF 8 1 2),xG 7 true (xL 9 1 8),xG 7 true (xF 10 1 1),xG 7 true (xL 11 1 10),xG 7 true (xB 12 .lss 9 11),xG 7 true (xM 13 12)] [1,2,7,13] [2]
def Q54r1_1 : IC:=cReg Try.prog [xG 13 false (xF 14 5 1),xG 13 false (xL 15 1 14),xG 13 false (xF 16 1 2),xG 13 false (xL 17 1 16),xG 13 false (xV2 18 80 15 17),xG 7 true (xP 19 13 18),xQ 20 7 19,xT 3 20] [3] []
def Q54r1 : IC:=(cSeq Q54r1_0 Q54r1_1)
def send_cameByS1 : IC:=(cSeq Q54r0 (cSeq Q54r1 cRet))
theorem told_send_cameByS1 {args r : List D} (hl : args.length = 2) (h : send_cameByS1 (start args) (fin [(3,none)] r)) : Told Try.prog 79 args r :=
 told_of follows Try.func79 rfl (an:=[([],[1,2],[2],[]),([(10,[1,2,7,13],[2])],[3],[],[])]) (by kernel_rfl) (by kernel_rfl) (by rw [hl]; decide +kernel) h
def Q53r0 : IC:=cReg Try.prog [⟨some 1,none,iBoxF 1 (.tmp 0)⟩,⟨some 2,none,iMov 2 (.const .nilFunc) true⟩] [1] []
def Q53r1 : IC:=cReg Try.prog [⟨some 3,none,iMkf 3 79 1⟩,xT 2 3] [2] []
def send_cameBy : IC:=(cSeq Q53r0 (cSeq Q53r1 cRet))
theorem told_send_cameBy {args r : List D} (hl : args.length = 1) (h : send_cameBy (start args) (fin [(2,none)] r)) : Told Try.prog 67 args r :=
 told_of follows Try.func67 rfl (an:=[([],[1],[],[1]),([],[2],[],[])]) (by kernel_rfl) (by kernel_rfl) (by rw [hl]; decide +kernel) h
def Q61r0 : IC:=cReg Try.prog [⟨some 4,none,iMov 4 (.const (.int .i64 0)) true⟩] [0,1] []
def Q61r1 : IC:=cReg Try.prog [xM 6 0,xN 7 6,⟨some 8,none,iMov 8 (.const (.int .i64 0)) false⟩] [0,1,7,8] []
def Q61r2 : IC:=cReg Try.prog [xB 9 .lss 8 7] [0,1,7,8,9] []
def Q61c3 : IC:=cCond (.tmp 9) cSkip (cExit 0)
def Q61r3 : IC:=cReg Try.prog [xM 10 8,xT 5 10] [0,1,5,7,8] []
def Q61r4 : IC:=cReg Try.prog [xM 11 1,xM 12 0,xM 13 5,xI 14 6 12 13,xA 15 6 14,⟨some 16,none,iCallV 16 Try.prog 11 [(.tmp 15)]⟩] [0,1,5,7,8,16] []
def Q61r5 : IC:=cReg Try.prog [xM 17 5,xT 4 17] [4] []
def Q61c5a : IC:=(cSeq Q61r5 cRet)
def Q61c5 : IC:=cCond (.tmp 16) Q61c5a cSkip
def Q61b4 : IC:=cBlock 1 (cSeq Q61r3 (cSeq Q61r4 Q61c5))
def Q61r6 : IC:=cReg Try.prog [xC 18 .add 8 1,xM 8 18] [0,1,7,8] []
def Q61l2a : IC:=(cSeq Q61r2 (cSeq Q61c3 (cSeq Q61b4 Q61r6)))
def Q61l2 : IC:=cLoop Q61l2a
def Q61b1 : IC:=cBlock 0 Q61l2
def Q61r7 : IC:=cReg Try.prog [⟨some 4,none,iMov 4 (.const (.int .i64 (-1))) true⟩] [4] []
def slices_IndexFunc : IC:=(cSeq Q61r0 (cSeq (cSeq Q61r1 Q61b1) (cSeq Q61r7 cRet)))
theorem told_slices_IndexFunc {args r : List D} (hl : args.length = 2) (h : slices_IndexFunc (start args) (fin [(4,none)] r)) : Told Try.prog 78 args r :=
 told_of follows Try.func78 rfl (an:=[([],[0,1],[],[]),([],[0,1,7,8],[],[]),([],[0,1,7,8,9],[],[]),([],[0,1,5,7,8],[],[]),([],[0,1,5,7,8,16],[],[]),([],[4],[],[]),([],[0,1,7,8],[],[]),([],[4],[],[])]) (by kernel_rfl) (by kernel_rfl) (by rw [hl]; decide +kernel) h
def Q59r0 : IC:=cReg Try.prog [⟨some 4,none,iMov 4 (.const (.slice none 0 0)) true⟩] [0,1] [100000]
def Q59r1 : IC:=cReg Try.prog [xM 8 0,xM 9 1,⟨some 10,none,iCallL 10 78 [(.tmp 8),(.tmp 9)]⟩,xT 5 10] [0,1,5] [100000]
def Q59r2 : IC:=cReg Try.prog [xM 11 5,⟨some 12,none,iBin 12 .eql (.tmp 11) (.const (.int .i64 (-1)))⟩] [0,1,5,12] [100000]
def Q59r3 : IC:=cReg Try.prog [xM 13 0,xT 4 13] [4] []
def Q59c1a : IC:=(cSeq Q59r3 cRet)
def Q59c1 : IC:=cCond (.tmp 12) Q59c1a cSkip
def Q59r4 : IC:=cReg Try.prog [xM 14 5,xC 15 .add 14 1,xT 6 15] [0,1,5,6] [100000]
def Q59r5 : IC:=cReg Try.prog [xM 16 6,xM 17 0,xN 18 17,xB 19 .lss 16 18] [0,1,5,6,19] [100000]
def Q59c4 : IC:=cCond (.tmp 19) cSkip (cExit 0)
def Q59r7 : IC:=cReg Try.prog [xM 22 0,xM 23 6,xI 24 6 22 23,xA 25 6 24,⟨some 7,none,iAlo 7 [zI,zI,zI,zI,zS,zS]⟩,xS 6 7 25] [0,1,5,6,7] [7,100000]
def Q59r8 : IC:=cReg Try.prog [xM 26 1,xA 27 6 7,⟨some 28,none,iCallV 28 Try.prog 26 [(.tmp 27)]⟩,xO 29 28] [0,1,5,6,7,29] [7,100000]
def Q59r9 : IC:=cReg Try.prog [xM 30 0,xM 31 5,xA 32 6 7,xI 33 6 30 31,xS 6 33 32] [0,1,5,6] [100000]
def Q59r10 : IC:=cReg Try.prog [xM 34 5,xC 35 .add 34 1,xT 5 35] [0,1,5,6] [100000]
def Q59c6a : IC:=(cSeq Q59r9 Q59r10)
def Q59c6 : IC:=cCond (.tmp 29) Q59c6a cSkip
def Q59b5 : IC:=cBlock 1 (cSeq Q59r7 (cSeq Q59r8 Q59c6))
def Q59r6 : IC:=cReg Try.prog [xM 20 6,xC 21 .add 20 1,xT 6 21] [0,1,5,6] [100000]
def Q59l3a : IC:=(cSeq (cSeq Q59r5 Q59c4) (cSeq Q59b5 Q59r6))
def Q59l3 : IC:=cLoop Q59l3a
def Q59b2 : IC:=cBlock 0 Q59l3
def Q59r11 : IC:=cReg Try.prog [xM 36 0,xM 37 5,⟨some 38,none,iSlc 38 6 (.tmp 36) (some (.tmp 37)) none⟩,⟨none,none,iClr 6 (.tmp 38)⟩] [0,5] []
def Q59r12 : IC:=cReg Try.prog [xM 39 0,xM 40 5,⟨some 41,none,iSlc 41 6 (.tmp 39) none (some (.tmp 40))⟩,xT 4 41] [4] []
def slices_DeleteFunc : IC:=(cSeq Q59r0 (cSeq Q59r1 (cSeq (cSeq Q59r2 Q59c1) (cSeq (cSeq Q59r4 Q59b2) (cSeq Q59r11 (cSeq Q59r12 cRet))))))
theorem toldI_slices_DeleteFunc {args r es : List D} {e z : Nat} (hl : args.length = 1) (hz : 0 < z) (h0 : es = [] → Told Try.prog 66 (sD z [] :: args) r) (h : es ≠ [] → slices_DeleteFunc ⟨startT (oD 100000 es.length :: args) 0,[(100000,[sD z es])],[]⟩ (fin [(4,none)] r)) : ToldI Try.prog 66 (xD :: args) 0 none e (z,some es) r :=
 toldI_row follows Try.func66 rfl (an:=[([],[0,1],[100000],[]),([],[0,1,5],[100000],[10]),([],[0,1,5,12],[100000],[]),([],[4],[],[]),([],[0,1,5,6],[100000],[]),([],[0,1,5,6,19],[100000],[]),([],[0,1,5,6,7],[7,100000],[]),([],[0,1,5,6,7,29],[7,100000],[]),([],[0,1,5,6],[100000],[]),([],[0,1,5,6],[100000],[]),([],[0,1,5,6],[100000],[]),([],[0,5],[],[]),([],[4],[],[])]) (by kernel_rfl) (by kernel_rfl) (by rw [hl]; decide +kernel) hz h0 (by rw [fin_eq]; exact h)
theorem told_slices_DeleteFunc {args r : List D} (hl : args.length = 2) (h : slices_DeleteFunc (start args) (fin [(4,none)] r)) : Told Try.prog 66 args r :=
 told_of follows Try.func66 rfl (an:=[([],[0,1],[100000],[]),([],[0,1,5],[100000],[10]),([],[0,1,5,12],[100000],[]),([],[4],[],[]),([],[0,1,5,6],[100000],[]),([],[0,1,5,6,19],[100000],[]),([],[0,1,5,6,7],[7,100000],[]),([],[0,1,5,6,7,29],[7,100000],[]),([],[0,1,5,6],[100000],[]),([],[0,1,5,6],[100000],[]),([],[0,1,5,6],[100000],[]),([],[0,5],[],[]),([],[4],[],[])]) (by kernel_rfl) (by kernel_rfl) (by rw [hl]; decide +kernel) h
def Q48r0 : IC:=cReg Try.prog [xX 2 0,xX 3 1,⟨some 4,none,iAlo 4 [zS,zI,zI,zI,zI,zS,zI]⟩] [2,3,4] [2,3,4]
def Q48r1_0 : IC:=cOwn Try.prog 2 5 6 33 7
def Q48r1_1 : IC:=cReg Try.prog [] [2,3,4] [2,3,4]
def Q48r1 : IC:=(cSeq Q48r1_0 Q48r1_1)
def Q48r2 : IC:=cRegD Try.prog [xF 7 5 2,xU 8 1 7,xA 9 6 3,xV1 10 67 9,xV2 11 66 8 10,xF 12 5 2,xS 1 12 11] [[],[0],[],[2],[1,3,0,2],[0,1,2,3,4],[5,4,0,1,2,3]] [2,4] [2,4]
def Q48r3 : IC:=cReg Try.prog [xA 13 7 2,xS 7 4 13] [4] [4]
def send_Hear : IC:=(cSeq Q48r0 (cSeq Q48r1 (cSeq Q48r2 (cSeq Q48r3 cRet))))
theorem told_send_Hear {args r : List D} (hl : args.length = 2) (h : send_Hear (start args) (fin [(4,some (7,true))] r)) : Told Try.prog 53 args r :=
 told_of follows Try.func53 rfl (an:=[([],[2,3,4],[2,3,4],[]),([(1003,[],[])],[2,3,4],[2,3,4],[]),([],[2,4],[2,4],[8]),([],[4],[4],[])]) (by kernel_rfl) (by kernel_rfl) (by rw [hl]; decide +kernel) h
end Go.Proofs.Ytgaofjiidedcbad.ab
