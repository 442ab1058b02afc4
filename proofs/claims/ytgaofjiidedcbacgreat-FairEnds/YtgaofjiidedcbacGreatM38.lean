import Derived.Test.YtgaofjiidedcbacGreatM20
import Derived.Test.YtgaofjiidedcbacGreatM37
import Derived.Test.YtgaofjiidedcbacGreatProg
import Derived.Test.YtgaofjiidedcbacGreatM27
import Derived.Test.YtgaofjiidedcbacGreatM25
set_option maxHeartbeats 4000000
set_option linter.unusedVariables false
set_option linter.unusedSimpArgs false
namespace Go.Proofs.YtgaofjiidedcbacGreat.ab
set_option maxRecDepth 100000
open Go Go.RowKit
def Q29r0 : IC:=cReg Tryz.prog [⟨some 4,none,iMov 4 (.const (.slice none 0 0)) true⟩] [0,1] []
def Q29r1 : IC:=cReg Tryz.prog [⟨some 5,none,iMov 5 (.const (.slice none 0 0)) true⟩] [0,1,5] []
def Q29r2 : IC:=cReg Tryz.prog [xM 8 0,xN 9 8,⟨some 10,none,iMov 10 (.const (.int .i64 0)) false⟩] [1,5,8,9,10] []
def Q29r3 : IC:=cReg Tryz.prog [xB 11 .lss 10 9] [1,5,8,9,10,11] []
def Q29c3 : IC:=cCond (.tmp 11) cSkip (cExit 0)
def Q29r4 : IC:=cReg Tryz.prog [xI 12 17 8 10,xA 13 17 12,⟨some 7,none,iAlo 7 [zS,zI,zI,zI,zI,zS,zI,zI,zS,zI,zI,zI,zS,zS,zF,zS,zS]⟩,xS 17 7 13] [1,5,7,8,9,10] [7]
def Q29r5 : IC:=cReg Tryz.prog [xT 14 5,xM 15 1,xA 16 17 7,⟨some 17,none,iCallV 17 Tryz.prog 15 [(.tmp 16)]⟩,xR 18 56 17 17,xW 19 56 17 248 14 18,xT 5 19] [1,5,8,9,10] []
def Q29b4 : IC:=cBlock 1 (cSeq Q29r4 Q29r5)
def Q29r6 : IC:=cReg Tryz.prog [xC 20 .add 10 1,xM 10 20] [1,5,8,9,10] []
def Q29l2a : IC:=(cSeq Q29r3 (cSeq Q29c3 (cSeq Q29b4 Q29r6)))
def Q29l2 : IC:=cLoop Q29l2a
def Q29b1 : IC:=cBlock 0 Q29l2
def Q29r7 : IC:=cReg Tryz.prog [xT 21 5,xT 4 21] [4] []
def list_OwnW : IC:=(cSeq Q29r0 (cSeq Q29r1 (cSeq (cSeq Q29r2 Q29b1) (cSeq Q29r7 cRet))))
theorem toldO_list_OwnW {args : List D} {r : D} {e : Nat} {z : Pay} (hl : args.length = 2) (h : list_OwnW (start args) (fin1 fun st => ∃ r',look st.tm 4 = some r' ∧ isC r' = true ∧ CVLe r' r ∧ lookF st.fl (4,none) = some (e,z))) : ToldO Tryz.prog 35 args [r] none e z :=
 toldO_slot follows Tryz.func35 rfl (an:=[([],[0,1],[],[]),([],[0,1,5],[],[]),([],[1,5,8,9,10],[],[]),([],[1,5,8,9,10,11],[],[]),([],[1,5,7,8,9,10],[7],[]),([],[1,5,8,9,10],[],[]),([],[1,5,8,9,10],[],[]),([],[4],[],[21])]) (by kernel_rfl) rfl (by rw [hl]; decide +kernel) h
theorem told_list_OwnW {args r : List D} (hl : args.length = 2) (h : list_OwnW (start args) (fin [(4,none)] r)) : Told Tryz.prog 35 args r :=
 told_of follows Tryz.func35 rfl (an:=[([],[0,1],[],[]),([],[0,1,5],[],[]),([],[1,5,8,9,10],[],[]),([],[1,5,8,9,10,11],[],[]),([],[1,5,7,8,9,10],[7],[]),([],[1,5,8,9,10],[],[]),([],[1,5,8,9,10],[],[]),([],[4],[],[21])]) (by kernel_rfl) (by kernel_rfl) (by rw [hl]; decide +kernel) h
def Q87r0 : IC:=cReg Tryz.prog [xX 1 0,⟨some 2,none,iAlo 2 [zS,zI]⟩] [1,2] [1,2]
def Q87r1 : IC:=cReg Tryz.prog [xF 3 0 1,xL 4 1 3,⟨some 5,none,iCall 5 35 [(.tmp 4),(.func 36)]⟩,xF 6 0 1,xS 1 6 5] [1,2] [1,2]
def Q87r2 : IC:=cReg Tryz.prog [xA 7 2 1,xS 2 2 7] [2] [2]
def world_Own : IC:=(cSeq Q87r0 (cSeq Q87r1 (cSeq Q87r2 cRet)))
theorem told_world_Own {args r : List D} (hl : args.length = 1) (h : world_Own (start args) (fin [(2,some (2,true))] r)) : Told Tryz.prog 22 args r :=
 told_of follows Tryz.func22 rfl (an:=[([],[1,2],[1,2],[]),([],[1,2],[1,2],[]),([],[2],[2],[])]) (by kernel_rfl) (by kernel_rfl) (by rw [hl]; decide +kernel) h
def Q88r0 : IC:=cReg Tryz.prog [xX 1 0,⟨some 2,none,iAlo 2 [zS,zI]⟩] [1,2] [1,2]
def Q88r1 : IC:=cReg Tryz.prog [xF 3 0 1,xL 4 1 3,⟨some 5,none,iCall 5 35 [(.tmp 4),(.func 36)]⟩,xF 6 0 1,xS 1 6 5] [1,2] [1,2]
def Q88r2_0 : IC:=cCpy 1 2 7 2
def Q88r2_1 : IC:=cReg Tryz.prog [] [2] [2]
def Q88r2 : IC:=(cSeq Q88r2_0 Q88r2_1)
def world_OwnO : IC:=(cSeq Q88r0 (cSeq Q88r1 (cSeq Q88r2 cRet)))
theorem toldO_world_OwnO {args rs : List D} {off e : Nat} {z : Pay} (hl : args.length = 1) (h : world_OwnO (start args) (fin1 fun st => ∃ b cs,look st.tm 2 = some (pD b 0) ∧ look st.bx b = some cs ∧ cs.length = 2 ∧ cs.all isL = true ∧ RowLe cs rs ∧ off < 2 ∧ lookF st.fl (b,some off) = some (e,z))) : ToldO Tryz.prog 22 args [aD rs] (some off) e z :=
 toldO_cell follows Tryz.func22 rfl (an:=[([],[1,2],[1,2],[]),([],[1,2],[1,2],[]),([(2002,[],[])],[2],[2],[])]) (by kernel_rfl) rfl (by kernel_rfl) (by kernel_rfl) (by rw [hl]; decide +kernel) h
def Q86r0 : IC:=cReg Tryz.prog [⟨some 2,none,iAlo 2 [zS,zI]⟩,⟨some 3,none,iMov 3 (.const (.int .i64 0)) true⟩] [0,2] [2]
def Q86r1 : IC:=cReg Tryz.prog [xM 4 0,xC 5 .lss 4 1,xM 6 5,xG 6 false (xM 7 0),xG 6 false (xC 8 .gtr 7 3),xP 9 6 8] [0,2,9] [2]
def Q86r2 : IC:=cReg Tryz.prog [⟨some 10,none,iBld 10 [zS,zI] [] []⟩,xS 2 2 10,⟨some 3,none,iMov 3 (.const (.int .i64 3)) true⟩] [2,3] [2]
def Q86c1a : IC:=(cSeq Q86r2 cRet)
def Q86c1 : IC:=cCond (.tmp 9) Q86c1a cSkip
def Q86r3_0 : IC:=cReg Tryz.prog [xM 11 0,⟨some 12,none,iMkS 12 17 248 (aD [zS,zI,zI,zI,zI,zS,zI,zI,zS,zI,zI,zI,zS,zS,zF,zS,zS]) (.tmp 11) (.tmp 11)⟩] [2,12] [2]
def Q86r3_1 : IC:=cReg Tryz.prog [⟨some 13,none,iBld 13 [zS,zI] [(0,1)] [(.tmp 12)]⟩,xS 2 2 13,⟨some 3,none,iMov 3 (.const (.int .i64 0)) true⟩] [2,3] [2]
def Q86r3 : IC:=(cSeq Q86r3_0 Q86r3_1)
def world_New : IC:=(cSeq Q86r0 (cSeq (cSeq Q86r1 Q86c1) (cSeq Q86r3 cRet)))
theorem told_world_New {args r : List D} (hl : args.length = 1) (h : world_New (start args) (fin [(2,some (2,true)),(3,none)] r)) : Told Tryz.prog 19 args r :=
 told_of follows Tryz.func19 rfl (an:=[([],[0,2],[2],[]),([],[0,2,9],[2],[]),([],[2,3],[2],[]),([(2,[2,12],[2])],[2,3],[2],[])]) (by kernel_rfl) (by kernel_rfl) (by rw [hl]; decide +kernel) h
set_option maxRecDepth 100000
def Q4r0 : IC:=cReg Tryz.prog [xX 1 0,⟨some 2,none,iAlo 2 [zI,zS]⟩] [1,2] [1,2]
def Q4r1 : IC:=cReg Tryz.prog [xF 3 1 1,xL 4 1 3,⟨some 5,none,iApp 5 5 1 1 (.const (.slice none 0 0)) (.tmp 4)⟩,xF 6 1 1,xS 1 6 5] [1,2] [1,2]
def Q4r2 : IC:=cReg Tryz.prog [xA 7 2 1,xS 2 2 7] [2] [2]
def chunk_OwnMsg : IC:=(cSeq Q4r0 (cSeq Q4r1 (cSeq Q4r2 cRet)))
theorem told_chunk_OwnMsg {args r : List D} (hl : args.length = 1) (h : chunk_OwnMsg (start args) (fin [(2,some (2,true))] r)) : Told Tryz.prog 75 args r :=
 told_of follows Tryz.func75 rfl (an:=[([],[1,2],[1,2],[]),([],[1,2],[1,2],[]),([],[2],[2],[])]) (by kernel_rfl) (by kernel_rfl) (by rw [hl]; decide +kernel) h
def Q3r0 : IC:=cReg Tryz.prog [xX 1 0,⟨some 2,none,iAlo 2 [zI,zI,zI,zI,zS,zS]⟩] [1,2] [1,2]
def Q3r1 : IC:=cReg Tryz.prog [xF 3 4 1,xL 4 1 3,⟨some 5,none,iApp 5 5 1 1 (.const (.slice none 0 0)) (.tmp 4)⟩,xF 6 4 1,xS 1 6 5] [1,2] [1,2]
def Q3r2 : IC:=cReg Tryz.prog [xF 7 5 1,xL 8 1 7,⟨some 9,none,iApp 9 3 1 8 (.const (.slice none 0 0)) (.tmp 8)⟩,xF 10 5 1,xS 1 10 9] [1,2] [1,2]
def Q3r3 : IC:=cReg Tryz.prog [xA 11 6 1,xS 6 2 11] [2] [2]
def chunk_Own : IC:=(cSeq Q3r0 (cSeq Q3r1 (cSeq Q3r2 (cSeq Q3r3 cRet))))
theorem told_chunk_Own {args r : List D} (hl : args.length = 1) (h : chunk_Own (start args) (fin [(2,some (6,true))] r)) : Told Tryz.prog 83 args r :=
 told_of follows Tryz.func83 rfl (an:=[([],[1,2],[1,2],[]),([],[1,2],[1,2],[]),([],[1,2],[1,2],[]),([],[2],[2],[])]) (by kernel_rfl) (by kernel_rfl) (by rw [hl]; decide +kernel) h
def Q27r0 : IC:=cReg Tryz.prog [⟨some 4,none,iMov 4 (.const (.slice none 0 0)) true⟩] [0,1] []
def Q27r1 : IC:=cReg Tryz.prog [⟨some 5,none,iMov 5 (.const (.slice none 0 0)) true⟩] [0,1,5] []
def Q27r2 : IC:=cReg Tryz.prog [xM 8 0,xN 9 8,⟨some 10,none,iMov 10 (.const (.int .i64 0)) false⟩] [1,5,8,9,10] []
def Q27r3 : IC:=cReg Tryz.prog [xB 11 .lss 10 9] [1,5,8,9,10,11] []
def Q27c3 : IC:=cCond (.tmp 11) cSkip (cExit 0)
def Q27r4 : IC:=cReg Tryz.prog [xI 12 2 8 10,xA 13 2 12,⟨some 7,none,iAlo 7 [zI,zS]⟩,xS 2 7 13] [1,5,7,8,9,10] [7]
def Q27r5 : IC:=cReg Tryz.prog [xT 14 5,xM 15 1,xA 16 2 7,⟨some 17,none,iCallV 17 Tryz.prog 15 [(.tmp 16)]⟩,xR 18 43 2 17,xW 19 43 2 32 14 18,xT 5 19] [1,5,8,9,10] []
def Q27b4 : IC:=cBlock 1 (cSeq Q27r4 Q27r5)
def Q27r6 : IC:=cReg Tryz.prog [xC 20 .add 10 1,xM 10 20] [1,5,8,9,10] []
def Q27l2a : IC:=(cSeq Q27r3 (cSeq Q27c3 (cSeq Q27b4 Q27r6)))
def Q27l2 : IC:=cLoop Q27l2a
def Q27b1 : IC:=cBlock 0 Q27l2
def Q27r7 : IC:=cReg Tryz.prog [xT 21 5,xT 4 21] [4] []
def list_OwnM : IC:=(cSeq Q27r0 (cSeq Q27r1 (cSeq (cSeq Q27r2 Q27b1) (cSeq Q27r7 cRet))))
theorem toldO_list_OwnM {args : List D} {r : D} {e : Nat} {z : Pay} (hl : args.length = 2) (h : list_OwnM (start args) (fin1 fun st => ∃ r',look st.tm 4 = some r' ∧ isC r' = true ∧ CVLe r' r ∧ lookF st.fl (4,none) = some (e,z))) : ToldO Tryz.prog 81 args [r] none e z :=
 toldO_slot follows Tryz.func81 rfl (an:=[([],[0,1],[],[]),([],[0,1,5],[],[]),([],[1,5,8,9,10],[],[]),([],[1,5,8,9,10,11],[],[]),([],[1,5,7,8,9,10],[7],[]),([],[1,5,8,9,10],[],[]),([],[1,5,8,9,10],[],[]),([],[4],[],[21])]) (by kernel_rfl) rfl (by rw [hl]; decide +kernel) h
theorem told_list_OwnM {args r : List D} (hl : args.length = 2) (h : list_OwnM (start args) (fin [(4,none)] r)) : Told Tryz.prog 81 args r :=
 told_of follows Tryz.func81 rfl (an:=[([],[0,1],[],[]),([],[0,1,5],[],[]),([],[1,5,8,9,10],[],[]),([],[1,5,8,9,10,11],[],[]),([],[1,5,7,8,9,10],[7],[]),([],[1,5,8,9,10],[],[]),([],[1,5,8,9,10],[],[]),([],[4],[],[21])]) (by kernel_rfl) (by kernel_rfl) (by rw [hl]; decide +kernel) h
def Q26r0 : IC:=cReg Tryz.prog [⟨some 4,none,iMov 4 (.const (.slice none 0 0)) true⟩] [0,1] []
def Q26r1 : IC:=cReg Tryz.prog [⟨some 5,none,iMov 5 (.const (.slice none 0 0)) true⟩] [0,1,5] []
def Q26r2 : IC:=cReg Tryz.prog [xM 8 0,xN 9 8,⟨some 10,none,iMov 10 (.const (.int .i64 0)) false⟩] [1,5,8,9,10] []
def Q26r3 : IC:=cReg Tryz.prog [xB 11 .lss 10 9] [1,5,8,9,10,11] []
def Q26c3 : IC:=cCond (.tmp 11) cSkip (cExit 0)
def Q26r4 : IC:=cReg Tryz.prog [xI 12 6 8 10,xA 13 6 12,⟨some 7,none,iAlo 7 [zI,zI,zI,zI,zS,zS]⟩,xS 6 7 13] [1,5,7,8,9,10] [7]
def Q26r5 : IC:=cReg Tryz.prog [xT 14 5,xM 15 1,xA 16 6 7,⟨some 17,none,iCallV 17 Tryz.prog 15 [(.tmp 16)]⟩,xR 18 85 6 17,xW 19 85 6 80 14 18,xT 5 19] [1,5,8,9,10] []
def Q26b4 : IC:=cBlock 1 (cSeq Q26r4 Q26r5)
def Q26r6 : IC:=cReg Tryz.prog [xC 20 .add 10 1,xM 10 20] [1,5,8,9,10] []
def Q26l2a : IC:=(cSeq Q26r3 (cSeq Q26c3 (cSeq Q26b4 Q26r6)))
def Q26l2 : IC:=cLoop Q26l2a
def Q26b1 : IC:=cBlock 0 Q26l2
def Q26r7 : IC:=cReg Tryz.prog [xT 21 5,xT 4 21] [4] []
def list_OwnC : IC:=(cSeq Q26r0 (cSeq Q26r1 (cSeq (cSeq Q26r2 Q26b1) (cSeq Q26r7 cRet))))
theorem toldO_list_OwnC {args : List D} {r : D} {e : Nat} {z : Pay} (hl : args.length = 2) (h : list_OwnC (start args) (fin1 fun st => ∃ r',look st.tm 4 = some r' ∧ isC r' = true ∧ CVLe r' r ∧ lookF st.fl (4,none) = some (e,z))) : ToldO Tryz.prog 82 args [r] none e z :=
 toldO_slot follows Tryz.func82 rfl (an:=[([],[0,1],[],[]),([],[0,1,5],[],[]),([],[1,5,8,9,10],[],[]),([],[1,5,8,9,10,11],[],[]),([],[1,5,7,8,9,10],[7],[]),([],[1,5,8,9,10],[],[]),([],[1,5,8,9,10],[],[]),([],[4],[],[21])]) (by kernel_rfl) rfl (by rw [hl]; decide +kernel) h
theorem told_list_OwnC {args r : List D} (hl : args.length = 2) (h : list_OwnC (start args) (fin [(4,none)] r)) : Told Tryz.prog 82 args r :=
 told_of follows Tryz.func82 rfl (an:=[([],[0,1],[],[]),([],[0,1,5],[],[]),([],[1,5,8,9,10],[],[]),([],[1,5,8,9,10,11],[],[]),([],[1,5,7,8,9,10],[7],[]),([],[1,5,8,9,10],[],[]),([],[1,5,8,9,10],[],[]),([],[4],[],[21])]) (by kernel_rfl) (by kernel_rfl) (by rw [hl]; decide +kernel) h
def Q69r0 : IC:=cReg Tryz.prog [xX 1 0,⟨some 2,none,iAlo 2 [zS,zI,zI,zI,zI,zS,zI]⟩] [1,2] [1,2]
def Q69r1 : IC:=cReg Tryz.prog [xF 3 0 1,xL 4 1 3,⟨some 5,none,iCall 5 81 [(.tmp 4),(.func 75)]⟩,xF 6 0 1,xS 1 6 5] [1,2] [1,2]
def Q69r2 : IC:=cReg Tryz.prog [xF 7 5 1,xL 8 1 7,⟨some 9,none,iCall 9 82 [(.tmp 8),(.func 83)]⟩,xF 10 5 1,xS 1 10 9] [1,2] [1,2]
def Q69r3 : IC:=cReg Tryz.prog [xA 11 7 1,xS 7 2 11] [2] [2]
def send_Own : IC:=(cSeq Q69r0 (cSeq Q69r1 (cSeq Q69r2 (cSeq Q69r3 cRet))))
theorem told_send_Own {args r : List D} (hl : args.length = 1) (h : send_Own (start args) (fin [(2,some (7,true))] r)) : Told Tryz.prog 59 args r :=
 told_of follows Tryz.func59 rfl (an:=[([],[1,2],[1,2],[]),([],[1,2],[1,2],[]),([],[1,2],[1,2],[]),([],[2],[2],[])]) (by kernel_rfl) (by kernel_rfl) (by rw [hl]; decide +kernel) h
def Q70r0 : IC:=cReg Tryz.prog [xX 1 0,⟨some 2,none,iAlo 2 [zS,zI,zI,zI,zI,zS,zI]⟩] [1,2] [1,2]
def Q70r1 : IC:=cReg Tryz.prog [xF 3 0 1,xL 4 1 3,⟨some 5,none,iCall 5 81 [(.tmp 4),(.func 75)]⟩,xF 6 0 1,xS 1 6 5] [1,2] [1,2]
def Q70r2 : IC:=cReg Tryz.prog [xF 7 5 1,xL 8 1 7,⟨some 9,none,iCall 9 82 [(.tmp 8),(.func 83)]⟩,xF 10 5 1,xS 1 10 9] [1,2] [1,2]
def Q70r3_0 : IC:=cCpy 1 2 11 7
def Q70r3_1 : IC:=cReg Tryz.prog [] [2] [2]
def Q70r3 : IC:=(cSeq Q70r3_0 Q70r3_1)
def send_OwnO : IC:=(cSeq Q70r0 (cSeq Q70r1 (cSeq Q70r2 (cSeq Q70r3 cRet))))
theorem toldO_send_OwnO {args rs : List D} {off e : Nat} {z : Pay} (hl : args.length = 1) (h : send_OwnO (start args) (fin1 fun st => ∃ b cs,look st.tm 2 = some (pD b 0) ∧ look st.bx b = some cs ∧ cs.length = 7 ∧ cs.all isL = true ∧ RowLe cs rs ∧ off < 7 ∧ lookF st.fl (b,some off) = some (e,z))) : ToldO Tryz.prog 59 args [aD rs] (some off) e z :=
 toldO_cell follows Tryz.func59 rfl (an:=[([],[1,2],[1,2],[]),([],[1,2],[1,2],[]),([],[1,2],[1,2],[]),([(2002,[],[])],[2],[2],[])]) (by kernel_rfl) rfl (by kernel_rfl) (by kernel_rfl) (by rw [hl]; decide +kernel) h
open mth
theorem ownMsg_told (m : Ms) (h : m.data.length ≤ 1048576) : Told Tryz.prog 75 [aD (encMs m)] [aD (encMs m)]:=by
 refine told_chunk_OwnMsg rfl ?_
 simp only [encMs]
 have h1 : m.data.length * 1 ≤ 140737488355328:=by omega
 refine wk (an2 @h1 @zmap) ?_
 exact ValsLe.refl _
theorem ownCh_told (c : Ch) (h : c.data.length ≤ 1048576) (h' : c.early.length ≤ 1048576) : Told Tryz.prog 83 [aD (encCh c)] [aD (encCh c)]:=by
 refine told_chunk_Own rfl ?_
 simp only [encCh]
 have h1 : c.data.length * 1 ≤ 140737488355328:=by omega
 have h2 : c.early.length * 8 ≤ 140737488355328:=by omega
 refine wk (an3 @h1 @h2 @zmap) ?_
 exact ValsLe.refl _
theorem callM : callableB Tryz.prog 75 = true:=by kernel_rfl
theorem callC : callableB Tryz.prog 83 = true:=by kernel_rfl
def omSt (l : List Ms) (k : Nat) : St:=⟨[(1,vD (.func (.func 75) #[] #[])),(5,sD 2 (encMl (l.take k))),(8,sD 2 (encMl l)),(9,vI l.length),(10,vI k)],[],[((5,none),(43,2,none))]⟩
theorem ml_snoc (l : List Ms) (m : Ms) : encMl (l ++ [m]) = encMl l ++ [aD [vI m.stream,sD 1 (m.data.map encB)]]:=by simp [encMl,encMs]
theorem ownM_core (l : List Ms) (hl : l.length ≤ 1048576) (hm : ∀ m ∈ l,m.data.length ≤ 1048576) (Q : AX → St → Prop) (hQ : Q (some none) ⟨[(4,sD 2 (encMl l))],[],[((4,none),(43,2,none))]⟩) : list_OwnM (start [sD 2 (encMl l),vD (.func (.func 75) #[] #[])]) Q:=by
 refine wk @len_ml ?_
 refine aw_loop (fun n st => ∃ k,k ≤ l.length ∧ n = l.length - k ∧ st = omSt l k) l.length (omSt l 0) ((Le.nilS 5 43 2 rfl).trans (Le.keep (lv:=[1,5,8,9,10]) (lb:=[]) (by simp only [ev0,ev1,ev2,look,lookF,cellsFrom,offT,offP,List.tail_nil,List.length_nil,Int.cast_ofNat_Int,Nat.reduceEqDiff,Nat.reduceAdd,Nat.reduceMul,Nat.reduceLeDiff,Nat.reduceLT,↓reduceIte,reduceCtorEq,Int.reduceBEq,Int.reduceBNe,Int.reduceLT,Int.reduceLE,Int.reduceToNat]; rfl))) ⟨0,by omega,by omega,rfl⟩ ?_
 rintro n st ⟨k,hk',hn,rfl⟩
 by_cases hlt : k < l.length
 ·obtain ⟨x,hx⟩ : ∃ m,l[k]? = some m:=⟨l[k],List.getElem?_eq_getElem hlt⟩
  have g1 : (k : Int) < (l.length : Int):=by omega
  have g2 : (0 : Int) ≤ (k : Int):=by omega
  have g3:=at_ml hx
  have g4 : inR .i64 ((k : Int) + 1) = true:=inR_of (by omega)
  have hlen : (l.take k).length = k:=by rw [List.length_take]; omega
  have hb1 : ((l.take k).length + 1) * 32 ≤ 140737488355328:=by omega
  have hnx : Next (fun n st => ∃ k,k ≤ l.length ∧ n = l.length - k ∧ st = omSt l k) n
    ⟨[(1,vD (.func (.func 75) #[] #[])),(5,sD 2 (encMl (l.take k) ++ [aD [vI x.stream,sD 1 (x.data.map encB)]])),(8,sD 2 (encMl l)),(9,vI l.length),(10,vI ((k : Int) + 1))],[],[((5,none),(43,2,none))]⟩:=by
   rw [← ml_snoc,show l.take k ++ [x] = l.take (k + 1) by rw [List.take_add_one,hx]; rfl]
   exact ⟨l.length - (k + 1),_,by omega,Le.refl _,k + 1,by omega,rfl,by simp only [omSt,Int.natCast_add,Int.cast_ofNat_Int]⟩
  generalize (fun n st => ∃ k,k ≤ l.length ∧ n = l.length - k ∧ st = omSt l k) = J at *
  simp only [omSt]
  generalize l.take k = G at *
  refine wk (an6 @g1 @g2 @g3 @callM @hb1 @len_ml) ?_
  refine cg [[aD [vI x.stream,sD 1 (x.data.map encB)]]] (an3 @callM @hb1 @len_ml) ?_ ?_
  ·exact obl_cons (ownMsg_told x (hm x (List.mem_of_getElem? hx))) obl_nil
  refine wk @g4 ?_
  exact hnx
 ·have hk'' : k = l.length:=by omega
  subst hk''
  have g1 : ¬ (l.length : Int) < (l.length : Int):=by omega
  simp only [omSt,List.take_length]
  refine wk @g1 ?_
  exact hQ
theorem ownM_told (l : List Ms) (hl : l.length ≤ 1048576) (hm : ∀ m ∈ l,m.data.length ≤ 1048576) : Told Tryz.prog 81 [sD 2 (encMl l),vD (.func (.func 75) #[] #[])] [sD 2 (encMl l)] :=
 told_list_OwnM rfl (ownM_core l hl hm _ ⟨[sD 2 (encMl l)],rfl,ValsLe.refl _⟩)
theorem ownM_toldO (l : List Ms) (hl : l.length ≤ 1048576) (hm : ∀ m ∈ l,m.data.length ≤ 1048576) : ToldO Tryz.prog 81 [sD 2 (encMl l),vD (.func (.func 75) #[] #[])] [sD 2 (encMl l)] none 43 (2,none) :=
 toldO_list_OwnM rfl (ownM_core l hl hm _ ⟨sD 2 (encMl l),rfl,rfl,CVLe.refl _,rfl⟩)
theorem cl_snoc' (l : List Ch) (c : Ch) : encCl (l ++ [c]) = encCl l ++ [aD [vI c.kind,vI c.number,vI c.stream,vI c.place,sD 1 (c.data.map encB),sD 1 (c.early.map vI)]]:=by simp [encCl,encCh]
def ocSt (l : List Ch) (k : Nat) : St:=⟨[(1,vD (.func (.func 83) #[] #[])),(5,sD 6 (encCl (l.take k))),(8,sD 6 (encCl l)),(9,vI l.length),(10,vI k)],[],[((5,none),(85,6,none))]⟩
theorem ownC_core (l : List Ch) (hl : l.length ≤ 1048576) (hm : ∀ m ∈ l,m.data.length ≤ 1048576 ∧ m.early.length ≤ 1048576) (Q : AX → St → Prop) (hQ : Q (some none) ⟨[(4,sD 6 (encCl l))],[],[((4,none),(85,6,none))]⟩) : list_OwnC (start [sD 6 (encCl l),vD (.func (.func 83) #[] #[])]) Q:=by
 refine wk @len_cl ?_
 refine aw_loop (fun n st => ∃ k,k ≤ l.length ∧ n = l.length - k ∧ st = ocSt l k) l.length (ocSt l 0) ((Le.nilS 5 85 6 rfl).trans (Le.keep (lv:=[1,5,8,9,10]) (lb:=[]) (by simp only [ev0,ev1,ev2,look,lookF,cellsFrom,offT,offP,List.tail_nil,List.length_nil,Int.cast_ofNat_Int,Nat.reduceEqDiff,Nat.reduceAdd,Nat.reduceMul,Nat.reduceLeDiff,Nat.reduceLT,↓reduceIte,reduceCtorEq,Int.reduceBEq,Int.reduceBNe,Int.reduceLT,Int.reduceLE,Int.reduceToNat]; rfl))) ⟨0,by omega,by omega,rfl⟩ ?_
 rintro n st ⟨k,hk',hn,rfl⟩
 by_cases hlt : k < l.length
 ·obtain ⟨x,hx⟩ : ∃ m,l[k]? = some m:=⟨l[k],List.getElem?_eq_getElem hlt⟩
  have g1 : (k : Int) < (l.length : Int):=by omega
  have g2 : (0 : Int) ≤ (k : Int):=by omega
  have g3:=at_cl hx
  have g4 : inR .i64 ((k : Int) + 1) = true:=inR_of (by omega)
  have hlen : (l.take k).length = k:=by rw [List.length_take]; omega
  have hb1 : ((l.take k).length + 1) * 80 ≤ 140737488355328:=by omega
  have hnx : Next (fun n st => ∃ k,k ≤ l.length ∧ n = l.length - k ∧ st = ocSt l k) n
    ⟨[(1,vD (.func (.func 83) #[] #[])),(5,sD 6 (encCl (l.take k) ++ [aD [vI x.kind,vI x.number,vI x.stream,vI x.place,sD 1 (x.data.map encB),sD 1 (x.early.map vI)]])),(8,sD 6 (encCl l)),(9,vI l.length),(10,vI ((k : Int) + 1))],[],[((5,none),(85,6,none))]⟩:=by
   rw [← cl_snoc',show l.take k ++ [x] = l.take (k + 1) by rw [List.take_add_one,hx]; rfl]
   exact ⟨l.length - (k + 1),_,by omega,Le.refl _,k + 1,by omega,rfl,by simp only [ocSt,Int.natCast_add,Int.cast_ofNat_Int]⟩
  generalize (fun n st => ∃ k,k ≤ l.length ∧ n = l.length - k ∧ st = ocSt l k) = J at *
  simp only [ocSt]
  generalize l.take k = G at *
  refine wk (an6 @g1 @g2 @g3 @callC @hb1 @len_cl) ?_
  refine cg [[aD [vI x.kind,vI x.number,vI x.stream,vI x.place,sD 1 (x.data.map encB),sD 1 (x.early.map vI)]]] (an3 @callC @hb1 @len_cl) ?_ ?_
  ·exact obl_cons (ownCh_told x (hm x (List.mem_of_getElem? hx)).1 (hm x (List.mem_of_getElem? hx)).2) obl_nil
  refine wk @g4 ?_
  exact hnx
 ·have hk'' : k = l.length:=by omega
  subst hk''
  have g1 : ¬ (l.length : Int) < (l.length : Int):=by omega
  simp only [ocSt,List.take_length]
  refine wk @g1 ?_
  exact hQ
def ohSt (l : List Ch) (k : Nat) : St:=⟨[(1,vD (.func (.func 83) #[] #[])),(5,xD),(8,sD 6 (encCl l)),(9,vI l.length),(10,vI k)],[],[((5,none),(85,6,some (encCl (l.take k))))]⟩
theorem ownH_core (l : List Ch) (hl : l.length ≤ 1048576) (hm : ∀ m ∈ l,m.data.length ≤ 1048576 ∧ m.early.length ≤ 1048576) (Q : AX → St → Prop) (hQ : Q (some none) ⟨[(4,xD)],[],[((4,none),(85,6,some (encCl l)))]⟩) : list_OwnC (start [sD 6 (encCl l),vD (.func (.func 83) #[] #[])]) Q:=by
 refine wk @len_cl ?_
 refine aw_loop (fun n st => ∃ k,k ≤ l.length ∧ n = l.length - k ∧ st = ohSt l k) l.length (ohSt l 0) ((le_nilH 5 85 6 rfl).trans (Le.keep (lv:=[1,5,8,9,10]) (lb:=[]) (by simp only [ev0,ev1,ev2,look,lookF,cellsFrom,offT,offP,List.tail_nil,List.length_nil,Int.cast_ofNat_Int,Nat.reduceEqDiff,Nat.reduceAdd,Nat.reduceMul,Nat.reduceLeDiff,Nat.reduceLT,↓reduceIte,reduceCtorEq,Int.reduceBEq,Int.reduceBNe,Int.reduceLT,Int.reduceLE,Int.reduceToNat]; rfl))) ⟨0,by omega,by omega,rfl⟩ ?_
 rintro n st ⟨k,hk',hn,rfl⟩
 by_cases hlt : k < l.length
 ·obtain ⟨x,hx⟩ : ∃ m,l[k]? = some m:=⟨l[k],List.getElem?_eq_getElem hlt⟩
  have g1 : (k : Int) < (l.length : Int):=by omega
  have g2 : (0 : Int) ≤ (k : Int):=by omega
  have g3:=at_cl hx
  have g4 : inR .i64 ((k : Int) + 1) = true:=inR_of (by omega)
  have hlen : (l.take k).length = k:=by rw [List.length_take]; omega
  have hb1 : ((l.take k).length + 1) * 80 ≤ 140737488355328:=by omega
  have hnx : Next (fun n st => ∃ k,k ≤ l.length ∧ n = l.length - k ∧ st = ohSt l k) n
    ⟨[(1,vD (.func (.func 83) #[] #[])),(5,xD),(8,sD 6 (encCl l)),(9,vI l.length),(10,vI ((k : Int) + 1))],[],[((5,none),(85,6,some (encCl (l.take k) ++ [aD [vI x.kind,vI x.number,vI x.stream,vI x.place,sD 1 (x.data.map encB),sD 1 (x.early.map vI)]])))]⟩:=by
   rw [← cl_snoc',show l.take k ++ [x] = l.take (k + 1) by rw [List.take_add_one,hx]; rfl]
   exact ⟨l.length - (k + 1),_,by omega,Le.refl _,k + 1,by omega,rfl,by simp only [ohSt,Int.natCast_add,Int.cast_ofNat_Int]⟩
  generalize (fun n st => ∃ k,k ≤ l.length ∧ n = l.length - k ∧ st = ohSt l k) = J at *
  simp only [ohSt]
  generalize l.take k = G at *
  refine wk (an6 @g1 @g2 @g3 @callC @hb1 @len_cl) ?_
  refine cg [[aD [vI x.kind,vI x.number,vI x.stream,vI x.place,sD 1 (x.data.map encB),sD 1 (x.early.map vI)]]] (an3 @callC @hb1 @len_cl) ?_ ?_
  ·exact obl_cons (ownCh_told x (hm x (List.mem_of_getElem? hx)).1 (hm x (List.mem_of_getElem? hx)).2) obl_nil
  refine wk @g4 ?_
  exact hnx
 ·have hk'' : k = l.length:=by omega
  subst hk''
  have g1 : ¬ (l.length : Int) < (l.length : Int):=by omega
  simp only [ohSt,List.take_length]
  refine wk @g1 ?_
  exact hQ
theorem ownC_told (l : List Ch) (hl : l.length ≤ 1048576) (hm : ∀ m ∈ l,m.data.length ≤ 1048576 ∧ m.early.length ≤ 1048576) : Told Tryz.prog 82 [sD 6 (encCl l),vD (.func (.func 83) #[] #[])] [sD 6 (encCl l)] :=
 told_list_OwnC rfl (ownC_core l hl hm _ ⟨[sD 6 (encCl l)],rfl,ValsLe.refl _⟩)
theorem ownC_toldO (l : List Ch) (hl : l.length ≤ 1048576) (hm : ∀ m ∈ l,m.data.length ≤ 1048576 ∧ m.early.length ≤ 1048576) : ToldO Tryz.prog 82 [sD 6 (encCl l),vD (.func (.func 83) #[] #[])] [sD 6 (encCl l)] none 85 (6,none) :=
 toldO_list_OwnC rfl (ownC_core l hl hm _ ⟨sD 6 (encCl l),rfl,rfl,CVLe.refl _,rfl⟩)
theorem ownC_toldH (l : List Ch) (hl : l.length ≤ 1048576) (hm : ∀ m ∈ l,m.data.length ≤ 1048576 ∧ m.early.length ≤ 1048576) : ToldO Tryz.prog 82 [sD 6 (encCl l),vD (.func (.func 83) #[] #[])] [xD] none 85 (6,some (encCl l)) :=
 toldO_list_OwnC rfl (ownH_core l hl hm _ ⟨xD,rfl,rfl,CVLe.refl _,rfl⟩)
structure SmallS (s : Sd) : Prop where
 q : s.queue.length ≤ 1048576
 m : ∀ m ∈ s.queue,m.data.length ≤ 1048576
 f : s.flight.length ≤ 1048576
 c : ∀ c ∈ s.flight,c.data.length ≤ 1048576 ∧ c.early.length ≤ 1048576
theorem ownS_told (s : Sd) (h : SmallS s) : Told Tryz.prog 59 [aD (encSd s)] [aD (encSd s)]:=by
 refine told_send_Own rfl ?_
 simp only [encSd]
 refine wk0 ?_
 refine cg0 [[sD 2 (encMl s.queue)]] ?_ ?_
 ·exact obl_cons (ownM_told s.queue h.q h.m) obl_nil
 refine wk0 ?_
 refine cg0 [[sD 6 (encCl s.flight)]] ?_ ?_
 ·exact obl_cons (ownC_told s.flight h.f h.c) obl_nil
 refine wk0 ?_
 exact ValsLe.refl _
theorem row_refl : ∀ (cs : List D),RowLe cs cs
 | [] => trivial
 | _ :: r => ⟨LfLe.refl _,row_refl r⟩
theorem ownS_toldQ (s : Sd) (h : SmallS s) : ToldO Tryz.prog 59 [aD (encSd s)] [aD (encSd s)] (some 0) 43 (2,none):=by
 refine toldO_send_OwnO rfl ?_
 simp only [encSd]
 refine wk0 ?_
 refine cg0 [[mO (sD 2 (encMl s.queue)) 43 2 xD]] ?_ ?_
 ·exact obl_out (ownM_toldO s.queue h.q h.m) obl_nil
 refine wk0 ?_
 refine cg0 [[sD 6 (encCl s.flight)]] ?_ ?_
 ·exact obl_cons (ownC_told s.flight h.f h.c) obl_nil
 refine wk0 ?_
 refine ⟨1,2,_,_,0,_,rfl,rfl,by decide,rfl,rfl,rfl,rfl,rfl,by decide,rfl,?_⟩
 refine wk0 ?_
 exact fin1_ret ⟨2,_,rfl,rfl,rfl,rfl,row_refl _,by decide,rfl⟩
theorem ownS_toldF (s : Sd) (h : SmallS s) : ToldO Tryz.prog 59 [aD (encSd s)] [aD (encSd s)] (some 5) 85 (6,none):=by
 refine toldO_send_OwnO rfl ?_
 simp only [encSd]
 refine wk0 ?_
 refine cg0 [[sD 2 (encMl s.queue)]] ?_ ?_
 ·exact obl_cons (ownM_told s.queue h.q h.m) obl_nil
 refine wk0 ?_
 refine cg0 [[mO (sD 6 (encCl s.flight)) 85 6 xD]] ?_ ?_
 ·exact obl_out (ownC_toldO s.flight h.f h.c) obl_nil
 refine wk0 ?_
 refine ⟨1,2,_,_,5,_,rfl,rfl,by decide,rfl,rfl,rfl,rfl,rfl,by decide,rfl,?_⟩
 refine wk0 ?_
 exact fin1_ret ⟨2,_,rfl,rfl,rfl,rfl,row_refl _,by decide,rfl⟩
theorem ownS_toldH (s : Sd) (h : SmallS s) : ToldO Tryz.prog 59 [aD (encSd s)] [aD [sD 2 (encMl s.queue),vI s.next,vI s.p0,vI s.p1,vI s.p2,xD,vI s.turn]] (some 5) 85 (6,some (encCl s.flight)):=by
 refine toldO_send_OwnO rfl ?_
 simp only [encSd]
 refine wk0 ?_
 refine cg0 [[sD 2 (encMl s.queue)]] ?_ ?_
 ·exact obl_cons (ownM_told s.queue h.q h.m) obl_nil
 refine wk0 ?_
 refine cg0 [[mO xD 85 6 (aD (encCl s.flight))]] ?_ ?_
 ·exact obl_out (ownC_toldH s.flight h.f h.c) obl_nil
 refine wk0 ?_
 refine ⟨1,2,_,_,5,_,rfl,rfl,by decide,rfl,rfl,rfl,rfl,rfl,by decide,rfl,?_⟩
 refine wk0 ?_
 exact fin1_ret ⟨2,_,rfl,rfl,rfl,rfl,row_refl _,by decide,rfl⟩
end Go.Proofs.YtgaofjiidedcbacGreat.ab
