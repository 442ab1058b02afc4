import Derived.Test.YtgaofjiidedcbadM20
import Derived.Test.YtgaofjiidedcbadM35
import Derived.Test.YtgaofjiidedcbadProg
import Derived.Test.YtgaofjiidedcbadM25
import Derived.Test.YtgaofjiidedcbadM29
import Derived.Test.YtgaofjiidedcbadM32
import Derived.WalkKit
import Derived.Test.YtgaofjiidedcbadM19
set_option maxHeartbeats 4000000
set_option linter.unusedVariables false
set_option linter.unusedSimpArgs false
namespace Go.Proofs.Ytgaofjiidedcbad.ab
set_option maxRecDepth 100000
open Go Go.RowKit
def Q29r0 : IC:=cReg Try.prog [⟨some 4,none,iMov 4 (.const (.slice none 0 0)) true⟩] [0,1] []
def Q29r1 : IC:=cReg Try.prog [⟨some 5,none,iMov 5 (.const (.slice none 0 0)) true⟩] [0,1,5] []
def Q29r2 : IC:=cReg Try.prog [xM 8 0,xN 9 8,⟨some 10,none,iMov 10 (.const (.int .i64 0)) false⟩] [1,5,8,9,10] []
def Q29r3 : IC:=cReg Try.prog [xB 11 .lss 10 9] [1,5,8,9,10,11] []
def Q29c3 : IC:=cCond (.tmp 11) cSkip (cExit 0)
def Q29r4 : IC:=cReg Try.prog [xI 12 17 8 10,xA 13 17 12,⟨some 7,none,iAlo 7 [zS,zI,zI,zI,zI,zS,zI,zI,zS,zI,zI,zI,zS,zS,zF,zS,zS]⟩,xS 17 7 13] [1,5,7,8,9,10] [7]
def Q29r5 : IC:=cReg Try.prog [xT 14 5,xM 15 1,xA 16 17 7,⟨some 17,none,iCallV 17 Try.prog 15 [(.tmp 16)]⟩,xR 18 51 17 17,xW 19 51 17 248 14 18,xT 5 19] [1,5,8,9,10] []
def Q29b4 : IC:=cBlock 1 (cSeq Q29r4 Q29r5)
def Q29r6 : IC:=cReg Try.prog [xC 20 .add 10 1,xM 10 20] [1,5,8,9,10] []
def Q29l2a : IC:=(cSeq Q29r3 (cSeq Q29c3 (cSeq Q29b4 Q29r6)))
def Q29l2 : IC:=cLoop Q29l2a
def Q29b1 : IC:=cBlock 0 Q29l2
def Q29r7 : IC:=cReg Try.prog [xT 21 5,xT 4 21] [4] []
def list_OwnW : IC:=(cSeq Q29r0 (cSeq Q29r1 (cSeq (cSeq Q29r2 Q29b1) (cSeq Q29r7 cRet))))
theorem toldO_list_OwnW {args : List D} {r : D} {e : Nat} {z : Pay} (hl : args.length = 2) (h : list_OwnW (start args) (fin1 fun st => ∃ r',look st.tm 4 = some r' ∧ isC r' = true ∧ CVLe r' r ∧ lookF st.fl (4,none) = some (e,z))) : ToldO Try.prog 30 args [r] none e z :=
 toldO_slot follows Try.func30 rfl (an:=[([],[0,1],[],[]),([],[0,1,5],[],[]),([],[1,5,8,9,10],[],[]),([],[1,5,8,9,10,11],[],[]),([],[1,5,7,8,9,10],[7],[]),([],[1,5,8,9,10],[],[]),([],[1,5,8,9,10],[],[]),([],[4],[],[21])]) (by kernel_rfl) rfl (by rw [hl]; decide +kernel) h
theorem told_list_OwnW {args r : List D} (hl : args.length = 2) (h : list_OwnW (start args) (fin [(4,none)] r)) : Told Try.prog 30 args r :=
 told_of follows Try.func30 rfl (an:=[([],[0,1],[],[]),([],[0,1,5],[],[]),([],[1,5,8,9,10],[],[]),([],[1,5,8,9,10,11],[],[]),([],[1,5,7,8,9,10],[7],[]),([],[1,5,8,9,10],[],[]),([],[1,5,8,9,10],[],[]),([],[4],[],[21])]) (by kernel_rfl) (by kernel_rfl) (by rw [hl]; decide +kernel) h
def Q60r0 : IC:=cReg Try.prog [xX 1 0,⟨some 2,none,iAlo 2 [zS,zI]⟩] [1,2] [1,2]
def Q60r1 : IC:=cReg Try.prog [xF 3 0 1,xL 4 1 3,⟨some 5,none,iCall 5 30 [(.tmp 4),(.func 24)]⟩,xF 6 0 1,xS 1 6 5] [1,2] [1,2]
def Q60r2 : IC:=cReg Try.prog [xA 7 2 1,xS 2 2 7] [2] [2]
def world_Own : IC:=(cSeq Q60r0 (cSeq Q60r1 (cSeq Q60r2 cRet)))
theorem told_world_Own {args r : List D} (hl : args.length = 1) (h : world_Own (start args) (fin [(2,some (2,true))] r)) : Told Try.prog 20 args r :=
 told_of follows Try.func20 rfl (an:=[([],[1,2],[1,2],[]),([],[1,2],[1,2],[]),([],[2],[2],[])]) (by kernel_rfl) (by kernel_rfl) (by rw [hl]; decide +kernel) h
def Q61r0 : IC:=cReg Try.prog [xX 1 0,⟨some 2,none,iAlo 2 [zS,zI]⟩] [1,2] [1,2]
def Q61r1 : IC:=cReg Try.prog [xF 3 0 1,xL 4 1 3,⟨some 5,none,iCall 5 30 [(.tmp 4),(.func 24)]⟩,xF 6 0 1,xS 1 6 5] [1,2] [1,2]
def Q61r2_0 : IC:=cCpy 1 2 7 2
def Q61r2_1 : IC:=cReg Try.prog [] [2] [2]
def Q61r2 : IC:=(cSeq Q61r2_0 Q61r2_1)
def world_OwnO : IC:=(cSeq Q61r0 (cSeq Q61r1 (cSeq Q61r2 cRet)))
theorem toldO_world_OwnO {args rs : List D} {off e : Nat} {z : Pay} (hl : args.length = 1) (h : world_OwnO (start args) (fin1 fun st => ∃ b cs,look st.tm 2 = some (pD b 0) ∧ look st.bx b = some cs ∧ cs.length = 2 ∧ cs.all isL = true ∧ RowLe cs rs ∧ off < 2 ∧ lookF st.fl (b,some off) = some (e,z))) : ToldO Try.prog 20 args [aD rs] (some off) e z :=
 toldO_cell follows Try.func20 rfl (an:=[([],[1,2],[1,2],[]),([],[1,2],[1,2],[]),([(2002,[],[])],[2],[2],[])]) (by kernel_rfl) rfl (by kernel_rfl) (by kernel_rfl) (by rw [hl]; decide +kernel) h
def Q59r0 : IC:=cReg Try.prog [⟨some 2,none,iAlo 2 [zS,zI]⟩,⟨some 3,none,iMov 3 (.const (.int .i64 0)) true⟩] [0,2] [2]
def Q59r1 : IC:=cReg Try.prog [xM 4 0,xC 5 .lss 4 1,xM 6 5,xG 6 false (xM 7 0),xG 6 false (xC 8 .gtr 7 3),xP 9 6 8] [0,2,9] [2]
def Q59r2 : IC:=cReg Try.prog [⟨some 10,none,iBld 10 [zS,zI] [] []⟩,xS 2 2 10,⟨some 3,none,iMov 3 (.const (.int .i64 3)) true⟩] [2,3] [2]
def Q59c1a : IC:=(cSeq Q59r2 cRet)
def Q59c1 : IC:=cCond (.tmp 9) Q59c1a cSkip
def Q59r3_0 : IC:=cReg Try.prog [xM 11 0,⟨some 12,none,iMkS 12 17 248 (aD [zS,zI,zI,zI,zI,zS,zI,zI,zS,zI,zI,zI,zS,zS,zF,zS,zS]) (.tmp 11) (.tmp 11)⟩] [2,12] [2]
def Q59r3_1 : IC:=cReg Try.prog [⟨some 13,none,iBld 13 [zS,zI] [(0,1)] [(.tmp 12)]⟩,xS 2 2 13,⟨some 3,none,iMov 3 (.const (.int .i64 0)) true⟩] [2,3] [2]
def Q59r3 : IC:=(cSeq Q59r3_0 Q59r3_1)
def world_New : IC:=(cSeq Q59r0 (cSeq (cSeq Q59r1 Q59c1) (cSeq Q59r3 cRet)))
theorem told_world_New {args r : List D} (hl : args.length = 1) (h : world_New (start args) (fin [(2,some (2,true)),(3,none)] r)) : Told Try.prog 18 args r :=
 told_of follows Try.func18 rfl (an:=[([],[0,2],[2],[]),([],[0,2,9],[2],[]),([],[2,3],[2],[]),([(2,[2,12],[2])],[2,3],[2],[])]) (by kernel_rfl) (by kernel_rfl) (by rw [hl]; decide +kernel) h
set_option maxRecDepth 100000
def Q4r0 : IC:=cReg Try.prog [xX 1 0,⟨some 2,none,iAlo 2 [zI,zS]⟩] [1,2] [1,2]
def Q4r1 : IC:=cReg Try.prog [xF 3 1 1,xL 4 1 3,⟨some 5,none,iApp 5 5 1 1 (.const (.slice none 0 0)) (.tmp 4)⟩,xF 6 1 1,xS 1 6 5] [1,2] [1,2]
def Q4r2 : IC:=cReg Try.prog [xA 7 2 1,xS 2 2 7] [2] [2]
def chunk_OwnMsg : IC:=(cSeq Q4r0 (cSeq Q4r1 (cSeq Q4r2 cRet)))
theorem told_chunk_OwnMsg {args r : List D} (hl : args.length = 1) (h : chunk_OwnMsg (start args) (fin [(2,some (2,true))] r)) : Told Try.prog 23 args r :=
 told_of follows Try.func23 rfl (an:=[([],[1,2],[1,2],[]),([],[1,2],[1,2],[]),([],[2],[2],[])]) (by kernel_rfl) (by kernel_rfl) (by rw [hl]; decide +kernel) h
def Q3r0 : IC:=cReg Try.prog [xX 1 0,⟨some 2,none,iAlo 2 [zI,zI,zI,zI,zS,zS]⟩] [1,2] [1,2]
def Q3r1 : IC:=cReg Try.prog [xF 3 4 1,xL 4 1 3,⟨some 5,none,iApp 5 5 1 1 (.const (.slice none 0 0)) (.tmp 4)⟩,xF 6 4 1,xS 1 6 5] [1,2] [1,2]
def Q3r2 : IC:=cReg Try.prog [xF 7 5 1,xL 8 1 7,⟨some 9,none,iApp 9 3 1 8 (.const (.slice none 0 0)) (.tmp 8)⟩,xF 10 5 1,xS 1 10 9] [1,2] [1,2]
def Q3r3 : IC:=cReg Try.prog [xA 11 6 1,xS 6 2 11] [2] [2]
def chunk_Own : IC:=(cSeq Q3r0 (cSeq Q3r1 (cSeq Q3r2 (cSeq Q3r3 cRet))))
theorem told_chunk_Own {args r : List D} (hl : args.length = 1) (h : chunk_Own (start args) (fin [(2,some (6,true))] r)) : Told Try.prog 48 args r :=
 told_of follows Try.func48 rfl (an:=[([],[1,2],[1,2],[]),([],[1,2],[1,2],[]),([],[1,2],[1,2],[]),([],[2],[2],[])]) (by kernel_rfl) (by kernel_rfl) (by rw [hl]; decide +kernel) h
def Q27r0 : IC:=cReg Try.prog [⟨some 4,none,iMov 4 (.const (.slice none 0 0)) true⟩] [0,1] []
def Q27r1 : IC:=cReg Try.prog [⟨some 5,none,iMov 5 (.const (.slice none 0 0)) true⟩] [0,1,5] []
def Q27r2 : IC:=cReg Try.prog [xM 8 0,xN 9 8,⟨some 10,none,iMov 10 (.const (.int .i64 0)) false⟩] [1,5,8,9,10] []
def Q27r3 : IC:=cReg Try.prog [xB 11 .lss 10 9] [1,5,8,9,10,11] []
def Q27c3 : IC:=cCond (.tmp 11) cSkip (cExit 0)
def Q27r4 : IC:=cReg Try.prog [xI 12 2 8 10,xA 13 2 12,⟨some 7,none,iAlo 7 [zI,zS]⟩,xS 2 7 13] [1,5,7,8,9,10] [7]
def Q27r5 : IC:=cReg Try.prog [xT 14 5,xM 15 1,xA 16 2 7,⟨some 17,none,iCallV 17 Try.prog 15 [(.tmp 16)]⟩,xR 18 28 2 17,xW 19 28 2 32 14 18,xT 5 19] [1,5,8,9,10] []
def Q27b4 : IC:=cBlock 1 (cSeq Q27r4 Q27r5)
def Q27r6 : IC:=cReg Try.prog [xC 20 .add 10 1,xM 10 20] [1,5,8,9,10] []
def Q27l2a : IC:=(cSeq Q27r3 (cSeq Q27c3 (cSeq Q27b4 Q27r6)))
def Q27l2 : IC:=cLoop Q27l2a
def Q27b1 : IC:=cBlock 0 Q27l2
def Q27r7 : IC:=cReg Try.prog [xT 21 5,xT 4 21] [4] []
def list_OwnM : IC:=(cSeq Q27r0 (cSeq Q27r1 (cSeq (cSeq Q27r2 Q27b1) (cSeq Q27r7 cRet))))
theorem toldO_list_OwnM {args : List D} {r : D} {e : Nat} {z : Pay} (hl : args.length = 2) (h : list_OwnM (start args) (fin1 fun st => ∃ r',look st.tm 4 = some r' ∧ isC r' = true ∧ CVLe r' r ∧ lookF st.fl (4,none) = some (e,z))) : ToldO Try.prog 46 args [r] none e z :=
 toldO_slot follows Try.func46 rfl (an:=[([],[0,1],[],[]),([],[0,1,5],[],[]),([],[1,5,8,9,10],[],[]),([],[1,5,8,9,10,11],[],[]),([],[1,5,7,8,9,10],[7],[]),([],[1,5,8,9,10],[],[]),([],[1,5,8,9,10],[],[]),([],[4],[],[21])]) (by kernel_rfl) rfl (by rw [hl]; decide +kernel) h
theorem told_list_OwnM {args r : List D} (hl : args.length = 2) (h : list_OwnM (start args) (fin [(4,none)] r)) : Told Try.prog 46 args r :=
 told_of follows Try.func46 rfl (an:=[([],[0,1],[],[]),([],[0,1,5],[],[]),([],[1,5,8,9,10],[],[]),([],[1,5,8,9,10,11],[],[]),([],[1,5,7,8,9,10],[7],[]),([],[1,5,8,9,10],[],[]),([],[1,5,8,9,10],[],[]),([],[4],[],[21])]) (by kernel_rfl) (by kernel_rfl) (by rw [hl]; decide +kernel) h
def Q26r0 : IC:=cReg Try.prog [⟨some 4,none,iMov 4 (.const (.slice none 0 0)) true⟩] [0,1] []
def Q26r1 : IC:=cReg Try.prog [⟨some 5,none,iMov 5 (.const (.slice none 0 0)) true⟩] [0,1,5] []
def Q26r2 : IC:=cReg Try.prog [xM 8 0,xN 9 8,⟨some 10,none,iMov 10 (.const (.int .i64 0)) false⟩] [1,5,8,9,10] []
def Q26r3 : IC:=cReg Try.prog [xB 11 .lss 10 9] [1,5,8,9,10,11] []
def Q26c3 : IC:=cCond (.tmp 11) cSkip (cExit 0)
def Q26r4 : IC:=cReg Try.prog [xI 12 6 8 10,xA 13 6 12,⟨some 7,none,iAlo 7 [zI,zI,zI,zI,zS,zS]⟩,xS 6 7 13] [1,5,7,8,9,10] [7]
def Q26r5 : IC:=cReg Try.prog [xT 14 5,xM 15 1,xA 16 6 7,⟨some 17,none,iCallV 17 Try.prog 15 [(.tmp 16)]⟩,xR 18 97 6 17,xW 19 97 6 80 14 18,xT 5 19] [1,5,8,9,10] []
def Q26b4 : IC:=cBlock 1 (cSeq Q26r4 Q26r5)
def Q26r6 : IC:=cReg Try.prog [xC 20 .add 10 1,xM 10 20] [1,5,8,9,10] []
def Q26l2a : IC:=(cSeq Q26r3 (cSeq Q26c3 (cSeq Q26b4 Q26r6)))
def Q26l2 : IC:=cLoop Q26l2a
def Q26b1 : IC:=cBlock 0 Q26l2
def Q26r7 : IC:=cReg Try.prog [xT 21 5,xT 4 21] [4] []
def list_OwnC : IC:=(cSeq Q26r0 (cSeq Q26r1 (cSeq (cSeq Q26r2 Q26b1) (cSeq Q26r7 cRet))))
theorem toldO_list_OwnC {args : List D} {r : D} {e : Nat} {z : Pay} (hl : args.length = 2) (h : list_OwnC (start args) (fin1 fun st => ∃ r',look st.tm 4 = some r' ∧ isC r' = true ∧ CVLe r' r ∧ lookF st.fl (4,none) = some (e,z))) : ToldO Try.prog 47 args [r] none e z :=
 toldO_slot follows Try.func47 rfl (an:=[([],[0,1],[],[]),([],[0,1,5],[],[]),([],[1,5,8,9,10],[],[]),([],[1,5,8,9,10,11],[],[]),([],[1,5,7,8,9,10],[7],[]),([],[1,5,8,9,10],[],[]),([],[1,5,8,9,10],[],[]),([],[4],[],[21])]) (by kernel_rfl) rfl (by rw [hl]; decide +kernel) h
theorem told_list_OwnC {args r : List D} (hl : args.length = 2) (h : list_OwnC (start args) (fin [(4,none)] r)) : Told Try.prog 47 args r :=
 told_of follows Try.func47 rfl (an:=[([],[0,1],[],[]),([],[0,1,5],[],[]),([],[1,5,8,9,10],[],[]),([],[1,5,8,9,10,11],[],[]),([],[1,5,7,8,9,10],[7],[]),([],[1,5,8,9,10],[],[]),([],[1,5,8,9,10],[],[]),([],[4],[],[21])]) (by kernel_rfl) (by kernel_rfl) (by rw [hl]; decide +kernel) h
def Q44r0 : IC:=cReg Try.prog [xX 1 0,⟨some 2,none,iAlo 2 [zS,zI,zI,zI,zI,zS,zI]⟩] [1,2] [1,2]
def Q44r1 : IC:=cReg Try.prog [xF 3 0 1,xL 4 1 3,⟨some 5,none,iCall 5 46 [(.tmp 4),(.func 23)]⟩,xF 6 0 1,xS 1 6 5] [1,2] [1,2]
def Q44r2 : IC:=cReg Try.prog [xF 7 5 1,xL 8 1 7,⟨some 9,none,iCall 9 47 [(.tmp 8),(.func 48)]⟩,xF 10 5 1,xS 1 10 9] [1,2] [1,2]
def Q44r3 : IC:=cReg Try.prog [xA 11 7 1,xS 7 2 11] [2] [2]
def send_Own : IC:=(cSeq Q44r0 (cSeq Q44r1 (cSeq Q44r2 (cSeq Q44r3 cRet))))
theorem told_send_Own {args r : List D} (hl : args.length = 1) (h : send_Own (start args) (fin [(2,some (7,true))] r)) : Told Try.prog 33 args r :=
 told_of follows Try.func33 rfl (an:=[([],[1,2],[1,2],[]),([],[1,2],[1,2],[]),([],[1,2],[1,2],[]),([],[2],[2],[])]) (by kernel_rfl) (by kernel_rfl) (by rw [hl]; decide +kernel) h
def Q45r0 : IC:=cReg Try.prog [xX 1 0,⟨some 2,none,iAlo 2 [zS,zI,zI,zI,zI,zS,zI]⟩] [1,2] [1,2]
def Q45r1 : IC:=cReg Try.prog [xF 3 0 1,xL 4 1 3,⟨some 5,none,iCall 5 46 [(.tmp 4),(.func 23)]⟩,xF 6 0 1,xS 1 6 5] [1,2] [1,2]
def Q45r2 : IC:=cReg Try.prog [xF 7 5 1,xL 8 1 7,⟨some 9,none,iCall 9 47 [(.tmp 8),(.func 48)]⟩,xF 10 5 1,xS 1 10 9] [1,2] [1,2]
def Q45r3_0 : IC:=cCpy 1 2 11 7
def Q45r3_1 : IC:=cReg Try.prog [] [2] [2]
def Q45r3 : IC:=(cSeq Q45r3_0 Q45r3_1)
def send_OwnO : IC:=(cSeq Q45r0 (cSeq Q45r1 (cSeq Q45r2 (cSeq Q45r3 cRet))))
theorem toldO_send_OwnO {args rs : List D} {off e : Nat} {z : Pay} (hl : args.length = 1) (h : send_OwnO (start args) (fin1 fun st => ∃ b cs,look st.tm 2 = some (pD b 0) ∧ look st.bx b = some cs ∧ cs.length = 7 ∧ cs.all isL = true ∧ RowLe cs rs ∧ off < 7 ∧ lookF st.fl (b,some off) = some (e,z))) : ToldO Try.prog 33 args [aD rs] (some off) e z :=
 toldO_cell follows Try.func33 rfl (an:=[([],[1,2],[1,2],[]),([],[1,2],[1,2],[]),([],[1,2],[1,2],[]),([(2002,[],[])],[2],[2],[])]) (by kernel_rfl) rfl (by kernel_rfl) (by kernel_rfl) (by rw [hl]; decide +kernel) h
open mth
theorem ownMsg_told (m : Ms) (h : m.data.length ≤ 1048576) : Told Try.prog 23 [aD (encMs m)] [aD (encMs m)]:=by
 refine told_chunk_OwnMsg rfl ?_
 simp only [encMs]
 have h1 : m.data.length * 1 ≤ 140737488355328:=by omega
 refine wk (an2 @h1 @zmap) ?_
 exact ValsLe.refl _
theorem ownCh_told (c : Ch) (h : c.data.length ≤ 1048576) (h' : c.early.length ≤ 1048576) : Told Try.prog 48 [aD (encCh c)] [aD (encCh c)]:=by
 refine told_chunk_Own rfl ?_
 simp only [encCh]
 have h1 : c.data.length * 1 ≤ 140737488355328:=by omega
 have h2 : c.early.length * 8 ≤ 140737488355328:=by omega
 refine wk (an3 @h1 @h2 @zmap) ?_
 exact ValsLe.refl _
theorem callM : callableB Try.prog 23 = true:=by kernel_rfl
theorem callC : callableB Try.prog 48 = true:=by kernel_rfl
def omSt (l : List Ms) (k : Nat) : St:=⟨[(1,vD (.func (.func 23) #[] #[])),(5,sD 2 (encMl (l.take k))),(8,sD 2 (encMl l)),(9,vI l.length),(10,vI k)],[],[((5,none),(28,2,none))]⟩
theorem ml_snoc (l : List Ms) (m : Ms) : encMl (l ++ [m]) = encMl l ++ [aD [vI m.stream,sD 1 (m.data.map encB)]]:=by simp [encMl,encMs]
theorem ownM_core (l : List Ms) (hl : l.length ≤ 1048576) (hm : ∀ m ∈ l,m.data.length ≤ 1048576) (Q : AX → St → Prop) (hQ : Q (some none) ⟨[(4,sD 2 (encMl l))],[],[((4,none),(28,2,none))]⟩) : list_OwnM (start [sD 2 (encMl l),vD (.func (.func 23) #[] #[])]) Q:=by
 refine wk @len_ml ?_
 refine aw_loop (fun n st => ∃ k,k ≤ l.length ∧ n = l.length - k ∧ st = omSt l k) l.length (omSt l 0) ((Le.nilS 5 28 2 rfl).trans (Le.keep (lv:=[1,5,8,9,10]) (lb:=[]) (by simp only [ev0,ev1,ev2,look,lookF,cellsFrom,offT,offP,List.tail_nil,List.length_nil,Int.cast_ofNat_Int,Nat.reduceEqDiff,Nat.reduceAdd,Nat.reduceMul,Nat.reduceLeDiff,Nat.reduceLT,↓reduceIte,reduceCtorEq,Int.reduceBEq,Int.reduceBNe,Int.reduceLT,Int.reduceLE,Int.reduceToNat]; rfl))) ⟨0,by omega,by omega,rfl⟩ ?_
 rintro n st ⟨k,hk',hn,rfl⟩
 by_cases hlt : k < l.length
 ·obtain ⟨x,hx⟩ : ∃ m,l[k]? = some m:=⟨l[k],List.getElem?_eq_getElem hlt⟩
  have g1 : (k : Int) < (l.length : Int):=by omega
  have g2 : (0 : Int) ≤ (k : Int):=by omega
  have g3:=at_ml hx
  have g4 : inR .i64 ((k : Int) + 1) = true:=inR_of (by omega)
  have hlen : (l.take k).length = k:=by rw [List.length_take]; omega
  have hb1 : ((l.take k).length + 1) * 32 ≤ 140737488355328:=by omega
  have hnx : Next (fun n st => ∃ k,k ≤ l.length ∧ n = l.length - k ∧ st = omSt l k) n
    ⟨[(1,vD (.func (.func 23) #[] #[])),(5,sD 2 (encMl (l.take k) ++ [aD [vI x.stream,sD 1 (x.data.map encB)]])),(8,sD 2 (encMl l)),(9,vI l.length),(10,vI ((k : Int) + 1))],[],[((5,none),(28,2,none))]⟩:=by
   rw [← ml_snoc,show l.take k ++ [x] = l.take (k + 1) by rw [List.take_add_one,hx]; rfl]
   exact ⟨l.length - (k + 1),_,by omega,Le.refl _,k + 1,by omega,rfl,by simp only [omSt,Int.natCast_add,Int.cast_ofNat_Int]⟩
  generalize (fun n st => ∃ k,k ≤ l.length ∧ n = l.length - k ∧ st = omSt l k) = J at *
  simp only [omSt]
  generalize l.take k = G at *
  refine wk (an6 @g1 @g2 @g3 @callM @hb1 @len_ml) ?_
  refine cg [[aD [vI x.stream,sD 1 (x.data.map encB)]]] (an3 @callM @hb1 @len_ml) ?_ ?_
  ·exact obl_cons (ownMsg_told x (hm x (List.mem_of_getElem? hx))) obl_nil
  refine wk @g4 ?_
  exact hnx
 ·have hk'' : k = l.length:=by omega
  subst hk''
  have g1 : ¬ (l.length : Int) < (l.length : Int):=by omega
  simp only [omSt,List.take_length]
  refine wk @g1 ?_
  exact hQ
theorem ownM_told (l : List Ms) (hl : l.length ≤ 1048576) (hm : ∀ m ∈ l,m.data.length ≤ 1048576) : Told Try.prog 46 [sD 2 (encMl l),vD (.func (.func 23) #[] #[])] [sD 2 (encMl l)] :=
 told_list_OwnM rfl (ownM_core l hl hm _ ⟨[sD 2 (encMl l)],rfl,ValsLe.refl _⟩)
theorem ownM_toldO (l : List Ms) (hl : l.length ≤ 1048576) (hm : ∀ m ∈ l,m.data.length ≤ 1048576) : ToldO Try.prog 46 [sD 2 (encMl l),vD (.func (.func 23) #[] #[])] [sD 2 (encMl l)] none 28 (2,none) :=
 toldO_list_OwnM rfl (ownM_core l hl hm _ ⟨sD 2 (encMl l),rfl,rfl,CVLe.refl _,rfl⟩)
theorem cl_snoc' (l : List Ch) (c : Ch) : encCl (l ++ [c]) = encCl l ++ [aD [vI c.kind,vI c.number,vI c.stream,vI c.place,sD 1 (c.data.map encB),sD 1 (c.early.map vI)]]:=by simp [encCl,encCh]
def ocSt (l : List Ch) (k : Nat) : St:=⟨[(1,vD (.func (.func 48) #[] #[])),(5,sD 6 (encCl (l.take k))),(8,sD 6 (encCl l)),(9,vI l.length),(10,vI k)],[],[((5,none),(97,6,none))]⟩
theorem ownC_core (l : List Ch) (hl : l.length ≤ 1048576) (hm : ∀ m ∈ l,m.data.length ≤ 1048576 ∧ m.early.length ≤ 1048576) (Q : AX → St → Prop) (hQ : Q (some none) ⟨[(4,sD 6 (encCl l))],[],[((4,none),(97,6,none))]⟩) : list_OwnC (start [sD 6 (encCl l),vD (.func (.func 48) #[] #[])]) Q:=by
 refine wk @len_cl ?_
 refine aw_loop (fun n st => ∃ k,k ≤ l.length ∧ n = l.length - k ∧ st = ocSt l k) l.length (ocSt l 0) ((Le.nilS 5 97 6 rfl).trans (Le.keep (lv:=[1,5,8,9,10]) (lb:=[]) (by simp only [ev0,ev1,ev2,look,lookF,cellsFrom,offT,offP,List.tail_nil,List.length_nil,Int.cast_ofNat_Int,Nat.reduceEqDiff,Nat.reduceAdd,Nat.reduceMul,Nat.reduceLeDiff,Nat.reduceLT,↓reduceIte,reduceCtorEq,Int.reduceBEq,Int.reduceBNe,Int.reduceLT,Int.reduceLE,Int.reduceToNat]; rfl))) ⟨0,by omega,by omega,rfl⟩ ?_
 rintro n st ⟨k,hk',hn,rfl⟩
 by_cases hlt : k < l.length
 ·obtain ⟨x,hx⟩ : ∃ m,l[k]? = some m:=⟨l[k],List.getElem?_eq_getElem hlt⟩
  have g1 : (k : Int) < (l.length : Int):=by omega
  have g2 : (0 : Int) ≤ (k : Int):=by omega
  have g3:=at_cl hx
  have g4 : inR .i64 ((k : Int) + 1) = true:=inR_of (by omega)
  have hlen : (l.take k).length = k:=by rw [List.length_take]; omega
  have hb1 : ((l.take k).length + 1) * 80 ≤ 140737488355328:=by omega
  have hnx : Next (fun n st => ∃ k,k ≤ l.length ∧ n = l.length - k ∧ st = ocSt l k) n
    ⟨[(1,vD (.func (.func 48) #[] #[])),(5,sD 6 (encCl (l.take k) ++ [aD [vI x.kind,vI x.number,vI x.stream,vI x.place,sD 1 (x.data.map encB),sD 1 (x.early.map vI)]])),(8,sD 6 (encCl l)),(9,vI l.length),(10,vI ((k : Int) + 1))],[],[((5,none),(97,6,none))]⟩:=by
   rw [← cl_snoc',show l.take k ++ [x] = l.take (k + 1) by rw [List.take_add_one,hx]; rfl]
   exact ⟨l.length - (k + 1),_,by omega,Le.refl _,k + 1,by omega,rfl,by simp only [ocSt,Int.natCast_add,Int.cast_ofNat_Int]⟩
  generalize (fun n st => ∃ k,k ≤ l.length ∧ n = l.length - k ∧ st = ocSt l k) = J at *
  simp only [ocSt]
  generalize l.take k = G at *
  refine wk (an6 @g1 @g2 @g3 @callC @hb1 @len_cl) ?_
  refine cg [[aD [vI x.kind,vI x.number,vI x.stream,vI x.place,sD 1 (x.data.map encB),sD 1 (x.early.map vI)]]] (an3 @callC @hb1 @len_cl) ?_ ?_
  ·exact obl_cons (ownCh_told x (hm x (List.mem_of_getElem? hx)).1 (hm x (List.mem_of_getElem? hx)).2) obl_nil
  refine wk @g4 ?_
  exact hnx
 ·have hk'' : k = l.length:=by omega
  subst hk''
  have g1 : ¬ (l.length : Int) < (l.length : Int):=by omega
  simp only [ocSt,List.take_length]
  refine wk @g1 ?_
  exact hQ
def ohSt (l : List Ch) (k : Nat) : St:=⟨[(1,vD (.func (.func 48) #[] #[])),(5,xD),(8,sD 6 (encCl l)),(9,vI l.length),(10,vI k)],[],[((5,none),(97,6,some (encCl (l.take k))))]⟩
theorem ownH_core (l : List Ch) (hl : l.length ≤ 1048576) (hm : ∀ m ∈ l,m.data.length ≤ 1048576 ∧ m.early.length ≤ 1048576) (Q : AX → St → Prop) (hQ : Q (some none) ⟨[(4,xD)],[],[((4,none),(97,6,some (encCl l)))]⟩) : list_OwnC (start [sD 6 (encCl l),vD (.func (.func 48) #[] #[])]) Q:=by
 refine wk @len_cl ?_
 refine aw_loop (fun n st => ∃ k,k ≤ l.length ∧ n = l.length - k ∧ st = ohSt l k) l.length (ohSt l 0) ((le_nilH 5 97 6 rfl).trans (Le.keep (lv:=[1,5,8,9,10]) (lb:=[]) (by simp only [ev0,ev1,ev2,look,lookF,cellsFrom,offT,offP,List.tail_nil,List.length_nil,Int.cast_ofNat_Int,Nat.reduceEqDiff,Nat.reduceAdd,Nat.reduceMul,Nat.reduceLeDiff,Nat.reduceLT,↓reduceIte,reduceCtorEq,Int.reduceBEq,Int.reduceBNe,Int.reduceLT,Int.reduceLE,Int.reduceToNat]; rfl))) ⟨0,by omega,by omega,rfl⟩ ?_
 rintro n st ⟨k,hk',hn,rfl⟩
 by_cases hlt : k < l.length
 ·obtain ⟨x,hx⟩ : ∃ m,l[k]? = some m:=⟨l[k],List.getElem?_eq_getElem hlt⟩
  have g1 : (k : Int) < (l.length : Int):=by omega
  have g2 : (0 : Int) ≤ (k : Int):=by omega
  have g3:=at_cl hx
  have g4 : inR .i64 ((k : Int) + 1) = true:=inR_of (by omega)
  have hlen : (l.take k).length = k:=by rw [List.length_take]; omega
  have hb1 : ((l.take k).length + 1) * 80 ≤ 140737488355328:=by omega
  have hnx : Next (fun n st => ∃ k,k ≤ l.length ∧ n = l.length - k ∧ st = ohSt l k) n
    ⟨[(1,vD (.func (.func 48) #[] #[])),(5,xD),(8,sD 6 (encCl l)),(9,vI l.length),(10,vI ((k : Int) + 1))],[],[((5,none),(97,6,some (encCl (l.take k) ++ [aD [vI x.kind,vI x.number,vI x.stream,vI x.place,sD 1 (x.data.map encB),sD 1 (x.early.map vI)]])))]⟩:=by
   rw [← cl_snoc',show l.take k ++ [x] = l.take (k + 1) by rw [List.take_add_one,hx]; rfl]
   exact ⟨l.length - (k + 1),_,by omega,Le.refl _,k + 1,by omega,rfl,by simp only [ohSt,Int.natCast_add,Int.cast_ofNat_Int]⟩
  generalize (fun n st => ∃ k,k ≤ l.length ∧ n = l.length - k ∧ st = ohSt l k) = J at *
  simp only [ohSt]
  generalize l.take k = G at *
  refine wk (an6 @g1 @g2 @g3 @callC @hb1 @len_cl) ?_
  refine cg [[aD [vI x.kind,vI x.number,vI x.stream,vI x.place,sD 1 (x.data.map encB),sD 1 (x.early.map vI)]]] (an3 @callC @hb1 @len_cl) ?_ ?_
  ·exact obl_cons (ownCh_told x (hm x (List.mem_of_getElem? hx)).1 (hm x (List.mem_of_getElem? hx)).2) obl_nil
  refine wk @g4 ?_
  exact hnx
 ·have hk'' : k = l.length:=by omega
  subst hk''
  have g1 : ¬ (l.length : Int) < (l.length : Int):=by omega
  simp only [ohSt,List.take_length]
  refine wk @g1 ?_
  exact hQ
theorem ownC_told (l : List Ch) (hl : l.length ≤ 1048576) (hm : ∀ m ∈ l,m.data.length ≤ 1048576 ∧ m.early.length ≤ 1048576) : Told Try.prog 47 [sD 6 (encCl l),vD (.func (.func 48) #[] #[])] [sD 6 (encCl l)] :=
 told_list_OwnC rfl (ownC_core l hl hm _ ⟨[sD 6 (encCl l)],rfl,ValsLe.refl _⟩)
theorem ownC_toldO (l : List Ch) (hl : l.length ≤ 1048576) (hm : ∀ m ∈ l,m.data.length ≤ 1048576 ∧ m.early.length ≤ 1048576) : ToldO Try.prog 47 [sD 6 (encCl l),vD (.func (.func 48) #[] #[])] [sD 6 (encCl l)] none 97 (6,none) :=
 toldO_list_OwnC rfl (ownC_core l hl hm _ ⟨sD 6 (encCl l),rfl,rfl,CVLe.refl _,rfl⟩)
theorem ownC_toldH (l : List Ch) (hl : l.length ≤ 1048576) (hm : ∀ m ∈ l,m.data.length ≤ 1048576 ∧ m.early.length ≤ 1048576) : ToldO Try.prog 47 [sD 6 (encCl l),vD (.func (.func 48) #[] #[])] [xD] none 97 (6,some (encCl l)) :=
 toldO_list_OwnC rfl (ownH_core l hl hm _ ⟨xD,rfl,rfl,CVLe.refl _,rfl⟩)
structure SmallS (s : Sd) : Prop where
 q : s.queue.length ≤ 1048576
 m : ∀ m ∈ s.queue,m.data.length ≤ 1048576
 f : s.flight.length ≤ 1048576
 c : ∀ c ∈ s.flight,c.data.length ≤ 1048576 ∧ c.early.length ≤ 1048576
theorem ownS_told (s : Sd) (h : SmallS s) : Told Try.prog 33 [aD (encSd s)] [aD (encSd s)]:=by
 refine told_send_Own rfl ?_
 simp only [encSd]
 refine wk0 ?_
 refine cg0 [[sD 2 (encMl s.queue)]] ?_ ?_
 ·exact obl_cons (ownM_told s.queue h.q h.m) obl_nil
 refine wk0 ?_
 refine cg0 [[sD 6 (encCl s.flight)]] ?_ ?_
 ·exact obl_cons (ownC_told s.flight h.f h.c) obl_nil
 refine wk0 ?_
 exact ValsLe.refl _
theorem row_refl : ∀ (cs : List D),RowLe cs cs
 | [] => trivial
 | _ :: r => ⟨LfLe.refl _,row_refl r⟩
theorem ownS_toldQ (s : Sd) (h : SmallS s) : ToldO Try.prog 33 [aD (encSd s)] [aD (encSd s)] (some 0) 28 (2,none):=by
 refine toldO_send_OwnO rfl ?_
 simp only [encSd]
 refine wk0 ?_
 refine cg0 [[mO (sD 2 (encMl s.queue)) 28 2 xD]] ?_ ?_
 ·exact obl_out (ownM_toldO s.queue h.q h.m) obl_nil
 refine wk0 ?_
 refine cg0 [[sD 6 (encCl s.flight)]] ?_ ?_
 ·exact obl_cons (ownC_told s.flight h.f h.c) obl_nil
 refine wk0 ?_
 refine ⟨1,2,_,_,0,_,rfl,rfl,by decide,rfl,rfl,rfl,rfl,rfl,by decide,rfl,?_⟩
 refine wk0 ?_
 exact fin1_ret ⟨2,_,rfl,rfl,rfl,rfl,row_refl _,by decide,rfl⟩
theorem ownS_toldF (s : Sd) (h : SmallS s) : ToldO Try.prog 33 [aD (encSd s)] [aD (encSd s)] (some 5) 97 (6,none):=by
 refine toldO_send_OwnO rfl ?_
 simp only [encSd]
 refine wk0 ?_
 refine cg0 [[sD 2 (encMl s.queue)]] ?_ ?_
 ·exact obl_cons (ownM_told s.queue h.q h.m) obl_nil
 refine wk0 ?_
 refine cg0 [[mO (sD 6 (encCl s.flight)) 97 6 xD]] ?_ ?_
 ·exact obl_out (ownC_toldO s.flight h.f h.c) obl_nil
 refine wk0 ?_
 refine ⟨1,2,_,_,5,_,rfl,rfl,by decide,rfl,rfl,rfl,rfl,rfl,by decide,rfl,?_⟩
 refine wk0 ?_
 exact fin1_ret ⟨2,_,rfl,rfl,rfl,rfl,row_refl _,by decide,rfl⟩
theorem ownS_toldH (s : Sd) (h : SmallS s) : ToldO Try.prog 33 [aD (encSd s)] [aD [sD 2 (encMl s.queue),vI s.next,vI s.p0,vI s.p1,vI s.p2,xD,vI s.turn]] (some 5) 97 (6,some (encCl s.flight)):=by
 refine toldO_send_OwnO rfl ?_
 simp only [encSd]
 refine wk0 ?_
 refine cg0 [[sD 2 (encMl s.queue)]] ?_ ?_
 ·exact obl_cons (ownM_told s.queue h.q h.m) obl_nil
 refine wk0 ?_
 refine cg0 [[mO xD 97 6 (aD (encCl s.flight))]] ?_ ?_
 ·exact obl_out (ownC_toldH s.flight h.f h.c) obl_nil
 refine wk0 ?_
 refine ⟨1,2,_,_,5,_,rfl,rfl,by decide,rfl,rfl,rfl,rfl,rfl,by decide,rfl,?_⟩
 refine wk0 ?_
 exact fin1_ret ⟨2,_,rfl,rfl,rfl,rfl,row_refl _,by decide,rfl⟩
theorem callLn : callableB Try.prog 24 = true:=by kernel_rfl
theorem ll_snoc (l : List Ln) (x : Ln) : encLl (l ++ [x]) = encLl l ++ [aD (encLn x)]:=by simp [encLl]
def owSt (l : List Ln) (k : Nat) : St:=⟨[(1,vD (.func (.func 24) #[] #[])),(5,sD 17 (encLl (l.take k))),(8,sD 17 (encLl l)),(9,vI l.length),(10,vI k)],[],[((5,none),(51,17,none))]⟩
def owHt (l : List Ln) (k : Nat) : St:=⟨[(1,vD (.func (.func 24) #[] #[])),(5,xD),(8,sD 17 (encLl l)),(9,vI l.length),(10,vI k)],[],[((5,none),(51,17,some (encLl (l.take k))))]⟩
theorem ownW_core (hO : CLOwn 24) (l : List Ln) (hl : l.length ≤ 1048576) (hm : ∀ m ∈ l,GoodL m) (Q : AX → St → Prop) (hQ : Q (some none) ⟨[(4,sD 17 (encLl l))],[],[((4,none),(51,17,none))]⟩) : list_OwnW (start [sD 17 (encLl l),vD (.func (.func 24) #[] #[])]) Q:=by
 refine wk @len_ll ?_
 refine aw_loop (fun n st => ∃ k,k ≤ l.length ∧ n = l.length - k ∧ st = owSt l k) l.length (owSt l 0) ((Le.nilS 5 51 17 rfl).trans (Le.keep (lv:=[1,5,8,9,10]) (lb:=[]) (by simp only [ev0,ev1,ev2,look,lookF,cellsFrom,offT,offP,List.tail_nil,List.length_nil,Int.cast_ofNat_Int,Nat.reduceEqDiff,Nat.reduceAdd,Nat.reduceMul,Nat.reduceLeDiff,Nat.reduceLT,↓reduceIte,reduceCtorEq,Int.reduceBEq,Int.reduceBNe,Int.reduceLT,Int.reduceLE,Int.reduceToNat]; rfl))) ⟨0,by omega,by omega,rfl⟩ ?_
 rintro n st ⟨k,hk',hn,rfl⟩
 by_cases hlt : k < l.length
 ·obtain ⟨x,hx⟩ : ∃ m,l[k]? = some m:=⟨l[k],List.getElem?_eq_getElem hlt⟩
  have g1 : (k : Int) < (l.length : Int):=by omega
  have g2 : (0 : Int) ≤ (k : Int):=by omega
  have g3:=at_ll hx
  have g4 : inR .i64 ((k : Int) + 1) = true:=inR_of (by omega)
  have hlen : (l.take k).length = k:=by rw [List.length_take]; omega
  have hb1 : ((l.take k).length + 1) * 248 ≤ 140737488355328:=by omega
  have h1:=hO x (hm x (List.mem_of_getElem? hx))
  have hnx : Next (fun n st => ∃ k,k ≤ l.length ∧ n = l.length - k ∧ st = owSt l k) n
    ⟨[(1,vD (.func (.func 24) #[] #[])),(5,sD 17 (encLl (l.take k) ++ [aD (encLn x)])),(8,sD 17 (encLl l)),(9,vI l.length),(10,vI ((k : Int) + 1))],[],[((5,none),(51,17,none))]⟩:=by
   rw [← ll_snoc,show l.take k ++ [x] = l.take (k + 1) by rw [List.take_add_one,hx]; rfl]
   exact ⟨l.length - (k + 1),_,by omega,Le.refl _,k + 1,by omega,rfl,by simp only [owSt,Int.natCast_add,Int.cast_ofNat_Int]⟩
  generalize (fun n st => ∃ k,k ≤ l.length ∧ n = l.length - k ∧ st = owSt l k) = J at *
  simp only [owSt,encLn] at g3 h1 hnx ⊢
  generalize l.take k = G at *
  refine wk (an7 @g1 @g2 @g3 @callLn @hb1 @len_ll @Int.toNat_natCast) ?_
  refine cg [[aD (encLn x)]] (an4 @encLn.eq_1 @callLn @hb1 @len_ll) ?_ ?_
  ·exact obl_cons h1 obl_nil
  refine wk @g4 ?_
  exact hnx
 ·have hk'' : k = l.length:=by omega
  subst hk''
  have g1 : ¬ (l.length : Int) < (l.length : Int):=by omega
  simp only [owSt,List.take_length]
  refine wk @g1 ?_
  exact hQ
theorem ownWH_core (hO : CLOwn 24) (l : List Ln) (hl : l.length ≤ 1048576) (hm : ∀ m ∈ l,GoodL m) (Q : AX → St → Prop) (hQ : Q (some none) ⟨[(4,xD)],[],[((4,none),(51,17,some (encLl l)))]⟩) : list_OwnW (start [sD 17 (encLl l),vD (.func (.func 24) #[] #[])]) Q:=by
 refine wk @len_ll ?_
 refine aw_loop (fun n st => ∃ k,k ≤ l.length ∧ n = l.length - k ∧ st = owHt l k) l.length (owHt l 0) ((le_nilH 5 51 17 rfl).trans (Le.keep (lv:=[1,5,8,9,10]) (lb:=[]) (by simp only [ev0,ev1,ev2,look,lookF,cellsFrom,offT,offP,List.tail_nil,List.length_nil,Int.cast_ofNat_Int,Nat.reduceEqDiff,Nat.reduceAdd,Nat.reduceMul,Nat.reduceLeDiff,Nat.reduceLT,↓reduceIte,reduceCtorEq,Int.reduceBEq,Int.reduceBNe,Int.reduceLT,Int.reduceLE,Int.reduceToNat]; rfl))) ⟨0,by omega,by omega,rfl⟩ ?_
 rintro n st ⟨k,hk',hn,rfl⟩
 by_cases hlt : k < l.length
 ·obtain ⟨x,hx⟩ : ∃ m,l[k]? = some m:=⟨l[k],List.getElem?_eq_getElem hlt⟩
  have g1 : (k : Int) < (l.length : Int):=by omega
  have g2 : (0 : Int) ≤ (k : Int):=by omega
  have g3:=at_ll hx
  have g4 : inR .i64 ((k : Int) + 1) = true:=inR_of (by omega)
  have hlen : (l.take k).length = k:=by rw [List.length_take]; omega
  have hb1 : ((l.take k).length + 1) * 248 ≤ 140737488355328:=by omega
  have h1:=hO x (hm x (List.mem_of_getElem? hx))
  have hnx : Next (fun n st => ∃ k,k ≤ l.length ∧ n = l.length - k ∧ st = owHt l k) n
    ⟨[(1,vD (.func (.func 24) #[] #[])),(5,xD),(8,sD 17 (encLl l)),(9,vI l.length),(10,vI ((k : Int) + 1))],[],[((5,none),(51,17,some (encLl (l.take k) ++ [aD (encLn x)])))]⟩:=by
   rw [← ll_snoc,show l.take k ++ [x] = l.take (k + 1) by rw [List.take_add_one,hx]; rfl]
   exact ⟨l.length - (k + 1),_,by omega,Le.refl _,k + 1,by omega,rfl,by simp only [owHt,Int.natCast_add,Int.cast_ofNat_Int]⟩
  generalize (fun n st => ∃ k,k ≤ l.length ∧ n = l.length - k ∧ st = owHt l k) = J at *
  simp only [owHt,encLn] at g3 h1 hnx ⊢
  generalize l.take k = G at *
  refine wk (an7 @g1 @g2 @g3 @callLn @hb1 @len_ll @Int.toNat_natCast) ?_
  refine cg [[aD (encLn x)]] (an4 @encLn.eq_1 @callLn @hb1 @len_ll) ?_ ?_
  ·exact obl_cons h1 obl_nil
  refine wk @g4 ?_
  exact hnx
 ·have hk'' : k = l.length:=by omega
  subst hk''
  have g1 : ¬ (l.length : Int) < (l.length : Int):=by omega
  simp only [owHt,List.take_length]
  refine wk @g1 ?_
  exact hQ
theorem ownW_told (hO : CLOwn 24) (l : List Ln) (hl : l.length ≤ 1048576) (hm : ∀ m ∈ l,GoodL m) : Told Try.prog 30 [sD 17 (encLl l),vD (.func (.func 24) #[] #[])] [sD 17 (encLl l)] :=
 told_list_OwnW rfl (ownW_core hO l hl hm _ ⟨[sD 17 (encLl l)],rfl,ValsLe.refl _⟩)
theorem ownW_toldH (hO : CLOwn 24) (l : List Ln) (hl : l.length ≤ 1048576) (hm : ∀ m ∈ l,GoodL m) : ToldO Try.prog 30 [sD 17 (encLl l),vD (.func (.func 24) #[] #[])] [xD] none 51 (17,some (encLl l)) :=
 toldO_list_OwnW rfl (ownWH_core hO l hl hm _ ⟨xD,rfl,rfl,CVLe.refl _,rfl⟩)
def CWOwn (f : Nat) : Prop:=∀ w,GoodW w → Told Try.prog f [aD (encWd w)] [aD (encWd w)]
def CWNew (f : Nat) : Prop:=(∀ n : Nat,1 ≤ n → n ≤ 3 → Told Try.prog f [vI n] [aD (encWd (newW n)),vI 0]) ∧ ∀ n : Int,n < 1 ∨ 3 < n → Told Try.prog f [vI n] [aD (encWd ⟨[],0⟩),vI 3]
def CWDo (f : Nat) : Prop:=∀ w s,GoodW w → w.ticks ≤ 1000000 → Told Try.prog f [aD (encWd w),aD (encSp s)] [aD (encWd (doW w s).1),vI (doW w s).2]
theorem ownWd_told (hO : CLOwn 24) : CWOwn 20:=by
 intro w hw
 refine told_world_Own rfl ?_
 have h1:=ownW_told hO w.lanes (by have:=hw.n; omega) hw.l
 simp only [encWd]
 refine wk0 ?_
 refine cg0 [[sD 17 (encLl w.lanes)]] ?_ ?_
 ·exact obl_cons h1 obl_nil
 refine wk0 ?_
 exact ValsLe.refl _
theorem ownWd_toldO (hO : CLOwn 24) (w : Wd) (hw : GoodW w) : ToldO Try.prog 20 [aD (encWd w)] [aD [xD,vI w.ticks]] (some 0) 51 (17,some (encLl w.lanes)):=by
 refine toldO_world_OwnO rfl ?_
 have h1:=ownW_toldH hO w.lanes (by have:=hw.n; omega) hw.l
 simp only [encWd]
 refine wk0 ?_
 refine cg0 [[mO xD 51 17 (aD (encLl w.lanes))]] ?_ ?_
 ·exact obl_out h1 obl_nil
 refine wk0 ?_
 refine ⟨1,2,_,_,0,_,rfl,rfl,by decide,rfl,rfl,rfl,rfl,rfl,by decide,rfl,?_⟩
 refine wk0 ?_
 exact fin1_ret ⟨2,_,rfl,rfl,rfl,rfl,row_refl _,by decide,rfl⟩
theorem newWd_told : CWNew 18:=by
 refine ⟨fun n h1 h2 => ?_,fun n h => ?_⟩
 ·refine told_world_New rfl ?_
  have h3 : n = 1 ∨ n = 2 ∨ n = 3:=by omega
  rcases h3 with rfl | rfl | rfl
  ·simp only [newW,encWd,encLl,List.replicate,List.map_cons,List.map_nil,encLn,zeroL,zeroS,zeroR,encMl,encCl,encPk]
   refine wk (an4 @Int.toNat_natCast @zrs @zr0 @zcons) ?_
   repeat' (first | exact vals_nil | exact row_nil | exact es_nil | exact CVLe.refl _ | exact LfLe.refl _ | exact LfLe.nil _ | exact EsLe.refl _ | refine vals_cons ?_ ?_ | refine row_cons ?_ ?_ | refine es_cons ?_ ?_ | refine EsLe.app ?_ ?_ | refine CVLe.row ?_ | refine CVLe.leafV ?_ | refine CVLe.leafS ?_ | refine LfLe.s ?_)
  ·simp only [newW,encWd,encLl,List.replicate,List.map_cons,List.map_nil,encLn,zeroL,zeroS,zeroR,encMl,encCl,encPk]
   refine wk (an4 @Int.toNat_natCast @zrs @zr0 @zcons) ?_
   repeat' (first | exact vals_nil | exact row_nil | exact es_nil | exact CVLe.refl _ | exact LfLe.refl _ | exact LfLe.nil _ | exact EsLe.refl _ | refine vals_cons ?_ ?_ | refine row_cons ?_ ?_ | refine es_cons ?_ ?_ | refine EsLe.app ?_ ?_ | refine CVLe.row ?_ | refine CVLe.leafV ?_ | refine CVLe.leafS ?_ | refine LfLe.s ?_)
  ·simp only [newW,encWd,encLl,List.replicate,List.map_cons,List.map_nil,encLn,zeroL,zeroS,zeroR,encMl,encCl,encPk]
   refine wk (an4 @Int.toNat_natCast @zrs @zr0 @zcons) ?_
   repeat' (first | exact vals_nil | exact row_nil | exact es_nil | exact CVLe.refl _ | exact LfLe.refl _ | exact LfLe.nil _ | exact EsLe.refl _ | refine vals_cons ?_ ?_ | refine row_cons ?_ ?_ | refine es_cons ?_ ?_ | refine EsLe.app ?_ ?_ | refine CVLe.row ?_ | refine CVLe.leafV ?_ | refine CVLe.leafS ?_ | refine LfLe.s ?_)
 ·refine told_world_New rfl ?_
  simp only [encWd,encLl,List.map_nil]
  by_cases h1 : n < 1
  ·refine wk @h1 ?_
   repeat' (first | exact vals_nil | exact row_nil | exact es_nil | exact CVLe.refl _ | exact LfLe.refl _ | exact LfLe.nil _ | exact EsLe.refl _ | refine vals_cons ?_ ?_ | refine row_cons ?_ ?_ | refine es_cons ?_ ?_ | refine EsLe.app ?_ ?_ | refine CVLe.row ?_ | refine CVLe.leafV ?_ | refine CVLe.leafS ?_ | refine LfLe.s ?_)
  ·have h2 : 3 < n:=by omega
   refine wk (an2 @h1 @h2) ?_
   repeat' (first | exact vals_nil | exact row_nil | exact es_nil | exact CVLe.refl _ | exact LfLe.refl _ | exact LfLe.nil _ | exact EsLe.refl _ | refine vals_cons ?_ ?_ | refine row_cons ?_ ?_ | refine es_cons ?_ ?_ | refine EsLe.app ?_ ?_ | refine CVLe.row ?_ | refine CVLe.leafV ?_ | refine CVLe.leafS ?_ | refine LfLe.s ?_)
set_option maxRecDepth 100000
def Q57r0 : IC:=cReg Try.prog [⟨some 4,none,iMov 4 (.const (.int .i64 0)) true⟩,⟨some 5,none,iMov 5 (.const (.int .i64 0)) true⟩] [0,1] []
def Q57r1 : IC:=cReg Try.prog [xM 6 0,xC 7 .lss 6 0,xM 8 7,xG 8 false (xM 9 1),xG 8 false (xC 10 .lss 9 1),xP 11 8 10,xM 12 11,xG 12 false (xM 13 1),xG 12 false (xC 14 .gtr 13 3),xP 15 12 14] [0,1,15] []
def Q57r2 : IC:=cReg Try.prog [⟨some 4,none,iMov 4 (.const (.int .i64 0)) true⟩,⟨some 5,none,iMov 5 (.const (.int .i64 3)) true⟩] [4,5] []
def Q57c1a : IC:=(cSeq Q57r2 cRet)
def Q57c1 : IC:=cCond (.tmp 15) Q57c1a cSkip
def Q57r3 : IC:=cReg Try.prog [xM 16 0,xM 17 1,xB 18 .rem 16 17,xT 4 18,⟨some 5,none,iMov 5 (.const (.int .i64 0)) true⟩] [4,5] []
def slot_Whose : IC:=(cSeq Q57r0 (cSeq (cSeq Q57r1 Q57c1) (cSeq Q57r3 cRet)))
theorem told_slot_Whose {args r : List D} (hl : args.length = 2) (h : slot_Whose (start args) (fin [(4,none),(5,none)] r)) : Told Try.prog 39 args r :=
 told_of follows Try.func39 rfl (an:=[([],[0,1],[],[]),([],[0,1,15],[],[]),([],[4,5],[],[]),([],[4,5],[],[])]) (by kernel_rfl) (by kernel_rfl) (by rw [hl]; decide +kernel) h
end Go.Proofs.Ytgaofjiidedcbad.ab
namespace Go.Proofs.Ytgaofjiidedcbad.mth
def aheadP (tick n tenant : Int) : Int:=(tenant - tick % n + n) % n
def turnsP (tick many n tenant : Int) : Nat:=if many ≤ aheadP tick n tenant then 0 else ((many - aheadP tick n tenant - 1) / n + 1).toNat
theorem ahead_ok {tick n tenant : Int} (hn : n = 1 ∨ n = 2 ∨ n = 3) : 0 ≤ aheadP tick n tenant ∧ aheadP tick n tenant < n:=by
 unfold aheadP; rcases hn with rfl | rfl | rfl <;> omega
theorem turns_lt {tick many n tenant : Int} (hn : n = 1 ∨ n = 2 ∨ n = 3) {k : Nat} : k < turnsP tick many n tenant ↔ aheadP tick n tenant + (k : Int) * n < many:=by
 have:=ahead_ok (tick:=tick) (tenant:=tenant) hn
 unfold turnsP; split
 ·rcases hn with rfl | rfl | rfl <;> omega
 ·rcases hn with rfl | rfl | rfl <;> omega
structure Behind (tick many n tenant t : Int) (k : Nat) : Prop where
 lo : tick ≤ t
 hi : t ≤ tick + many
 ahead : t ≤ tick + aheadP tick n tenant + (k : Int) * n
 last : k = 0 ∨ tick + aheadP tick n tenant + ((k : Int) - 1) * n < t
theorem Behind.start {tick many n tenant : Int} (hn : n = 1 ∨ n = 2 ∨ n = 3) (hm : 0 ≤ many) : Behind tick many n tenant tick 0:=by
 have:=ahead_ok (tick:=tick) (tenant:=tenant) hn
 exact ⟨by omega,by omega,by simp; omega,.inl rfl⟩
theorem Behind.done {tick many n tenant : Int} {k : Nat} (hn : n = 1 ∨ n = 2 ∨ n = 3) (h : Behind tick many n tenant (tick + many) k) (hk : k ≤ turnsP tick many n tenant) : k = turnsP tick many n tenant:=by
 obtain ⟨a,b,c,d⟩:=h
 by_cases q : k < turnsP tick many n tenant
 ·have:=(turns_lt hn).1 q; omega
 ·omega
end Go.Proofs.Ytgaofjiidedcbad.mth
namespace Go.Proofs.Ytgaofjiidedcbad.ab
open Go Go.RowKit
open mth
theorem whose_ok (t n : Int) (ht : 0 ≤ t) (hn : 1 ≤ n ∧ n ≤ 3) : Told Try.prog 39 [vI t,vI n] [vI (t % n),vI 0]:=by
 refine told_slot_Whose rfl ?_
 have g1 : ¬ t < 0:=by omega
 have g2 : ¬ n < 1:=by omega
 have g3 : ¬ 3 < n:=by omega
 have g4 : n ≠ 0:=by omega
 have g5 : t.tmod n = t % n:=Int.tmod_eq_emod_of_nonneg ht
 refine wk (an5 @g1 @g2 @g3 @g4 @g5) ?_
 exact ValsLe.refl _
def CPutS (f : Nat) : Prop:=∀ s m,GoodS s → Told Try.prog f [aD (encSd s),aD (encMs m)] [aD (encSd (putS s m)),vI (putE s m)]
def CSayS (f : Nat) : Prop:=∀ s,GoodS s → Told Try.prog f [aD (encSd s)] [aD (encSd (sayL s).1),aD (encCh (sayL s).2.1),vB (sayL s).2.2]
def CHearS (f : Nat) : Prop:=∀ s c,GoodS s → wrongL c = 0 → Told Try.prog f [aD (encSd s),aD (encCh c)] [aD (encSd (hearS s c))]
theorem early_right {c : Ch} (h : wrongL c = 0) : c.early.length ≤ 3:=by
 unfold wrongL at h
 split at h
 ·cases h
 ·split at h
  ·cases h
  ·split at h
   ·split at h
    ·cases h
    ·split at h
     ·cases h
     ·rename_i he; omega
   ·split at h
    ·cases h
    ·split at h
     ·cases h
     ·rename_i he; omega
theorem say_early {s : Sd} (h : GoodS s) : (sayL s).2.1.early.length ≤ 3:=by
 unfold sayL
 split
 ·split
  ·simp [zeroC]
  ·rename_i hf
   have hk:=againK_lt h (by omega)
   have hlt : (againK s).toNat < s.flight.length:=by omega
   simp only [List.getD_eq_getElem?_getD,List.getElem?_eq_getElem hlt,Option.getD_some]
   rw [h.early _ (List.getElem_mem hlt)]
   simp
 ·split
  ·rename_i hf
   have hk:=againK_lt h (by omega)
   have hlt : (againK s).toNat < s.flight.length:=by omega
   simp only [List.getD_eq_getElem?_getD,List.getElem?_eq_getElem hlt,Option.getD_some]
   rw [h.early _ (List.getElem_mem hlt)]
   simp
  ·simp [newC]
end Go.Proofs.Ytgaofjiidedcbad.ab
