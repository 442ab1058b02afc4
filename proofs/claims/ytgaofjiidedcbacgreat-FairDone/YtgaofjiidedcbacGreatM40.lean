import Derived.Test.YtgaofjiidedcbacGreatM20
import Derived.Test.YtgaofjiidedcbacGreatM38
import Derived.Test.YtgaofjiidedcbacGreatProg
import Derived.Test.YtgaofjiidedcbacGreatM27
import Derived.Test.YtgaofjiidedcbacGreatM25
import Derived.Test.YtgaofjiidedcbacGreatM32
import Derived.Test.YtgaofjiidedcbacGreatM35
import Derived.WalkKit
import Derived.Test.YtgaofjiidedcbacGreatM19
set_option maxHeartbeats 4000000
set_option linter.unusedVariables false
set_option linter.unusedSimpArgs false
namespace Go.Proofs.YtgaofjiidedcbacGreat.ab
set_option maxRecDepth 100000
open Go Go.RowKit
def Q29r0 : IC:=cReg Tryz.prog [⟨some 4,none,iMov 4 (.const (.slice none 0 0)) true⟩] [0,1] []
def Q29r1 : IC:=cReg Tryz.prog [⟨some 5,none,iMov 5 (.const (.slice none 0 0)) true⟩] [0,1,5] []
def Q29r2 : IC:=cReg Tryz.prog [xM 8 0,xN 9 8,⟨some 10,none,iMov 10 (.const (.int .i64 0)) false⟩] [1,5,8,9,10] []
def Q29r3 : IC:=cReg Tryz.prog [xB 11 .lss 10 9] [1,5,8,9,10,11] []
def Q29c3 : IC:=cCond (.tmp 11) cSkip (cExit 0)
def Q29r4 : IC:=cReg Tryz.prog [xI 12 17 8 10,xA 13 17 12,⟨some 7,none,iAlo 7 [zS,zI,zI,zI,zI,zS,zI,zI,zS,zI,zI,zI,zS,zS,zF,zS,zS]⟩,xS 17 7 13] [1,5,7,8,9,10] [7]
def Q29r5 : IC:=cReg Tryz.prog [xT 14 5,xM 15 1,xA 16 17 7,⟨some 17,none,iCallV 17 Tryz.prog 15 [(.tmp 16)]⟩,xR 18 56 17 17,xW 19 56 17 248 14 18,xT 5 19] [1,5,8,9,10] []
def Q29b4 : IC:=cBlock 1 (cSeq Q29r4 Q29r5)
def Q29r6 : IC:=cReg Tryz.prog [xC 20 .add 10 1,xM 10 20] [1,5,8,9,10] []
def Q29l2a : IC:=(cSeq Q29r3 (cSeq Q29c3 (cSeq Q29b4 Q29r6)))
def Q29l2 : IC:=cLoop Q29l2a
def Q29b1 : IC:=cBlock 0 Q29l2
def Q29r7 : IC:=cReg Tryz.prog [xT 21 5,xT 4 21] [4] []
def z3f : IC:=(cSeq Q29r0 (cSeq Q29r1 (cSeq (cSeq Q29r2 Q29b1) (cSeq Q29r7 cRet))))
theorem znh {args : List D} {r : D} {e : Nat} {z : Pay} (hl : args.length = 2) (h : z3f (start args) (fin1 fun st => ∃ r',look st.tm 4 = some r' ∧ isC r' = true ∧ CVLe r' r ∧ lookF st.fl (4,none) = some (e,z))) : ToldO Tryz.prog 35 args [r] none e z :=
 zge follows Tryz.func35 rfl (an:=[([],[0,1],[],[]),([],[0,1,5],[],[]),([],[1,5,8,9,10],[],[]),([],[1,5,8,9,10,11],[],[]),([],[1,5,7,8,9,10],[7],[]),([],[1,5,8,9,10],[],[]),([],[1,5,8,9,10],[],[]),([],[4],[],[21])]) (by kernel_rfl) rfl (by rw [hl]; decide +kernel) h
theorem zyi {args r : List D} (hl : args.length = 2) (h : z3f (start args) (fin [(4,none)] r)) : Told Tryz.prog 35 args r :=
 ze follows Tryz.func35 rfl (an:=[([],[0,1],[],[]),([],[0,1,5],[],[]),([],[1,5,8,9,10],[],[]),([],[1,5,8,9,10,11],[],[]),([],[1,5,7,8,9,10],[7],[]),([],[1,5,8,9,10],[],[]),([],[1,5,8,9,10],[],[]),([],[4],[],[21])]) (by kernel_rfl) (by kernel_rfl) (by rw [hl]; decide +kernel) h
def Q91r0 : IC:=cReg Tryz.prog [xX 1 0,⟨some 2,none,iAlo 2 [zS,zI]⟩] [1,2] [1,2]
def Q91r1 : IC:=cReg Tryz.prog [xF 3 0 1,xL 4 1 3,⟨some 5,none,iCall 5 35 [(.tmp 4),(.func 36)]⟩,xF 6 0 1,xS 1 6 5] [1,2] [1,2]
def Q91r2 : IC:=cReg Tryz.prog [xA 7 2 1,xS 2 2 7] [2] [2]
def z3v : IC:=(cSeq Q91r0 (cSeq Q91r1 (cSeq Q91r2 cRet)))
theorem zoi {args r : List D} (hl : args.length = 1) (h : z3v (start args) (fin [(2,some (2,true))] r)) : Told Tryz.prog 22 args r :=
 ze follows Tryz.func22 rfl (an:=[([],[1,2],[1,2],[]),([],[1,2],[1,2],[]),([],[2],[2],[])]) (by kernel_rfl) (by kernel_rfl) (by rw [hl]; decide +kernel) h
def Q92r0 : IC:=cReg Tryz.prog [xX 1 0,⟨some 2,none,iAlo 2 [zS,zI]⟩] [1,2] [1,2]
def Q92r1 : IC:=cReg Tryz.prog [xF 3 0 1,xL 4 1 3,⟨some 5,none,iCall 5 35 [(.tmp 4),(.func 36)]⟩,xF 6 0 1,xS 1 6 5] [1,2] [1,2]
def zz4 : IC:=cCpy 1 2 7 2
def zo6 : IC:=cReg Tryz.prog [] [2] [2]
def Q92r2 : IC:=(cSeq zz4 zo6)
def zvp : IC:=(cSeq Q92r0 (cSeq Q92r1 (cSeq Q92r2 cRet)))
theorem zfg {args rs : List D} {off e : Nat} {z : Pay} (hl : args.length = 1) (h : zvp (start args) (fin1 fun st => ∃ b cs,look st.tm 2 = some (pD b 0) ∧ look st.bx b = some cs ∧ cs.length = 2 ∧ cs.all isL = true ∧ RowLe cs rs ∧ off < 2 ∧ lookF st.fl (b,some off) = some (e,z))) : ToldO Tryz.prog 22 args [aD rs] (some off) e z :=
 zwj follows Tryz.func22 rfl (an:=[([],[1,2],[1,2],[]),([],[1,2],[1,2],[]),([(2002,[],[])],[2],[2],[])]) (by kernel_rfl) rfl (by kernel_rfl) (by kernel_rfl) (by rw [hl]; decide +kernel) h
def Q90r0 : IC:=cReg Tryz.prog [⟨some 2,none,iAlo 2 [zS,zI]⟩,⟨some 3,none,iMov 3 (.const (.int .i64 0)) true⟩] [0,2] [2]
def Q90r1 : IC:=cReg Tryz.prog [xM 4 0,xC 5 .lss 4 1,xM 6 5,xG 6 false (xM 7 0),xG 6 false (xC 8 .gtr 7 3),xP 9 6 8] [0,2,9] [2]
def Q90r2 : IC:=cReg Tryz.prog [⟨some 10,none,iBld 10 [zS,zI] [] []⟩,xS 2 2 10,⟨some 3,none,iMov 3 (.const (.int .i64 3)) true⟩] [2,3] [2]
def Q90c1a : IC:=(cSeq Q90r2 cRet)
def Q90c1 : IC:=cCond (.tmp 9) Q90c1a cSkip
def z92 : IC:=cReg Tryz.prog [xM 11 0,⟨some 12,none,iMkS 12 17 248 (aD [zS,zI,zI,zI,zI,zS,zI,zI,zS,zI,zI,zI,zS,zS,zF,zS,zS]) (.tmp 11) (.tmp 11)⟩] [2,12] [2]
def z43 : IC:=cReg Tryz.prog [⟨some 13,none,iBld 13 [zS,zI] [(0,1)] [(.tmp 12)]⟩,xS 2 2 13,⟨some 3,none,iMov 3 (.const (.int .i64 0)) true⟩] [2,3] [2]
def Q90r3 : IC:=(cSeq z92 z43)
def zju : IC:=(cSeq Q90r0 (cSeq (cSeq Q90r1 Q90c1) (cSeq Q90r3 cRet)))
theorem zze {args r : List D} (hl : args.length = 1) (h : zju (start args) (fin [(2,some (2,true)),(3,none)] r)) : Told Tryz.prog 19 args r :=
 ze follows Tryz.func19 rfl (an:=[([],[0,2],[2],[]),([],[0,2,9],[2],[]),([],[2,3],[2],[]),([(2,[2,12],[2])],[2,3],[2],[])]) (by kernel_rfl) (by kernel_rfl) (by rw [hl]; decide +kernel) h
set_option maxRecDepth 100000
def Q4r0 : IC:=cReg Tryz.prog [xX 1 0,⟨some 2,none,iAlo 2 [zI,zS]⟩] [1,2] [1,2]
def Q4r1 : IC:=cReg Tryz.prog [xF 3 1 1,xL 4 1 3,⟨some 5,none,iApp 5 5 1 1 (.const (.slice none 0 0)) (.tmp 4)⟩,xF 6 1 1,xS 1 6 5] [1,2] [1,2]
def Q4r2 : IC:=cReg Tryz.prog [xA 7 2 1,xS 2 2 7] [2] [2]
def zum : IC:=(cSeq Q4r0 (cSeq Q4r1 (cSeq Q4r2 cRet)))
theorem zxf {args r : List D} (hl : args.length = 1) (h : zum (start args) (fin [(2,some (2,true))] r)) : Told Tryz.prog 75 args r :=
 ze follows Tryz.func75 rfl (an:=[([],[1,2],[1,2],[]),([],[1,2],[1,2],[]),([],[2],[2],[])]) (by kernel_rfl) (by kernel_rfl) (by rw [hl]; decide +kernel) h
def Q3r0 : IC:=cReg Tryz.prog [xX 1 0,⟨some 2,none,iAlo 2 [zI,zI,zI,zI,zS,zS]⟩] [1,2] [1,2]
def Q3r1 : IC:=cReg Tryz.prog [xF 3 4 1,xL 4 1 3,⟨some 5,none,iApp 5 5 1 1 (.const (.slice none 0 0)) (.tmp 4)⟩,xF 6 4 1,xS 1 6 5] [1,2] [1,2]
def Q3r2 : IC:=cReg Tryz.prog [xF 7 5 1,xL 8 1 7,⟨some 9,none,iApp 9 3 1 8 (.const (.slice none 0 0)) (.tmp 8)⟩,xF 10 5 1,xS 1 10 9] [1,2] [1,2]
def Q3r3 : IC:=cReg Tryz.prog [xA 11 6 1,xS 6 2 11] [2] [2]
def zfv : IC:=(cSeq Q3r0 (cSeq Q3r1 (cSeq Q3r2 (cSeq Q3r3 cRet))))
theorem zpj {args r : List D} (hl : args.length = 1) (h : zfv (start args) (fin [(2,some (6,true))] r)) : Told Tryz.prog 83 args r :=
 ze follows Tryz.func83 rfl (an:=[([],[1,2],[1,2],[]),([],[1,2],[1,2],[]),([],[1,2],[1,2],[]),([],[2],[2],[])]) (by kernel_rfl) (by kernel_rfl) (by rw [hl]; decide +kernel) h
def Q27r0 : IC:=cReg Tryz.prog [⟨some 4,none,iMov 4 (.const (.slice none 0 0)) true⟩] [0,1] []
def Q27r1 : IC:=cReg Tryz.prog [⟨some 5,none,iMov 5 (.const (.slice none 0 0)) true⟩] [0,1,5] []
def Q27r2 : IC:=cReg Tryz.prog [xM 8 0,xN 9 8,⟨some 10,none,iMov 10 (.const (.int .i64 0)) false⟩] [1,5,8,9,10] []
def Q27r3 : IC:=cReg Tryz.prog [xB 11 .lss 10 9] [1,5,8,9,10,11] []
def Q27c3 : IC:=cCond (.tmp 11) cSkip (cExit 0)
def Q27r4 : IC:=cReg Tryz.prog [xI 12 2 8 10,xA 13 2 12,⟨some 7,none,iAlo 7 [zI,zS]⟩,xS 2 7 13] [1,5,7,8,9,10] [7]
def Q27r5 : IC:=cReg Tryz.prog [xT 14 5,xM 15 1,xA 16 2 7,⟨some 17,none,iCallV 17 Tryz.prog 15 [(.tmp 16)]⟩,xR 18 43 2 17,xW 19 43 2 32 14 18,xT 5 19] [1,5,8,9,10] []
def Q27b4 : IC:=cBlock 1 (cSeq Q27r4 Q27r5)
def Q27r6 : IC:=cReg Tryz.prog [xC 20 .add 10 1,xM 10 20] [1,5,8,9,10] []
def Q27l2a : IC:=(cSeq Q27r3 (cSeq Q27c3 (cSeq Q27b4 Q27r6)))
def Q27l2 : IC:=cLoop Q27l2a
def Q27b1 : IC:=cBlock 0 Q27l2
def Q27r7 : IC:=cReg Tryz.prog [xT 21 5,xT 4 21] [4] []
def zzi : IC:=(cSeq Q27r0 (cSeq Q27r1 (cSeq (cSeq Q27r2 Q27b1) (cSeq Q27r7 cRet))))
theorem zph {args : List D} {r : D} {e : Nat} {z : Pay} (hl : args.length = 2) (h : zzi (start args) (fin1 fun st => ∃ r',look st.tm 4 = some r' ∧ isC r' = true ∧ CVLe r' r ∧ lookF st.fl (4,none) = some (e,z))) : ToldO Tryz.prog 81 args [r] none e z :=
 zge follows Tryz.func81 rfl (an:=[([],[0,1],[],[]),([],[0,1,5],[],[]),([],[1,5,8,9,10],[],[]),([],[1,5,8,9,10,11],[],[]),([],[1,5,7,8,9,10],[7],[]),([],[1,5,8,9,10],[],[]),([],[1,5,8,9,10],[],[]),([],[4],[],[21])]) (by kernel_rfl) rfl (by rw [hl]; decide +kernel) h
theorem zsi {args r : List D} (hl : args.length = 2) (h : zzi (start args) (fin [(4,none)] r)) : Told Tryz.prog 81 args r :=
 ze follows Tryz.func81 rfl (an:=[([],[0,1],[],[]),([],[0,1,5],[],[]),([],[1,5,8,9,10],[],[]),([],[1,5,8,9,10,11],[],[]),([],[1,5,7,8,9,10],[7],[]),([],[1,5,8,9,10],[],[]),([],[1,5,8,9,10],[],[]),([],[4],[],[21])]) (by kernel_rfl) (by kernel_rfl) (by rw [hl]; decide +kernel) h
def Q26r0 : IC:=cReg Tryz.prog [⟨some 4,none,iMov 4 (.const (.slice none 0 0)) true⟩] [0,1] []
def Q26r1 : IC:=cReg Tryz.prog [⟨some 5,none,iMov 5 (.const (.slice none 0 0)) true⟩] [0,1,5] []
def Q26r2 : IC:=cReg Tryz.prog [xM 8 0,xN 9 8,⟨some 10,none,iMov 10 (.const (.int .i64 0)) false⟩] [1,5,8,9,10] []
def Q26r3 : IC:=cReg Tryz.prog [xB 11 .lss 10 9] [1,5,8,9,10,11] []
def Q26c3 : IC:=cCond (.tmp 11) cSkip (cExit 0)
def Q26r4 : IC:=cReg Tryz.prog [xI 12 6 8 10,xA 13 6 12,⟨some 7,none,iAlo 7 [zI,zI,zI,zI,zS,zS]⟩,xS 6 7 13] [1,5,7,8,9,10] [7]
def Q26r5 : IC:=cReg Tryz.prog [xT 14 5,xM 15 1,xA 16 6 7,⟨some 17,none,iCallV 17 Tryz.prog 15 [(.tmp 16)]⟩,xR 18 85 6 17,xW 19 85 6 80 14 18,xT 5 19] [1,5,8,9,10] []
def Q26b4 : IC:=cBlock 1 (cSeq Q26r4 Q26r5)
def Q26r6 : IC:=cReg Tryz.prog [xC 20 .add 10 1,xM 10 20] [1,5,8,9,10] []
def Q26l2a : IC:=(cSeq Q26r3 (cSeq Q26c3 (cSeq Q26b4 Q26r6)))
def Q26l2 : IC:=cLoop Q26l2a
def Q26b1 : IC:=cBlock 0 Q26l2
def Q26r7 : IC:=cReg Tryz.prog [xT 21 5,xT 4 21] [4] []
def z7f : IC:=(cSeq Q26r0 (cSeq Q26r1 (cSeq (cSeq Q26r2 Q26b1) (cSeq Q26r7 cRet))))
theorem zwd {args : List D} {r : D} {e : Nat} {z : Pay} (hl : args.length = 2) (h : z7f (start args) (fin1 fun st => ∃ r',look st.tm 4 = some r' ∧ isC r' = true ∧ CVLe r' r ∧ lookF st.fl (4,none) = some (e,z))) : ToldO Tryz.prog 82 args [r] none e z :=
 zge follows Tryz.func82 rfl (an:=[([],[0,1],[],[]),([],[0,1,5],[],[]),([],[1,5,8,9,10],[],[]),([],[1,5,8,9,10,11],[],[]),([],[1,5,7,8,9,10],[7],[]),([],[1,5,8,9,10],[],[]),([],[1,5,8,9,10],[],[]),([],[4],[],[21])]) (by kernel_rfl) rfl (by rw [hl]; decide +kernel) h
theorem z6i {args r : List D} (hl : args.length = 2) (h : z7f (start args) (fin [(4,none)] r)) : Told Tryz.prog 82 args r :=
 ze follows Tryz.func82 rfl (an:=[([],[0,1],[],[]),([],[0,1,5],[],[]),([],[1,5,8,9,10],[],[]),([],[1,5,8,9,10,11],[],[]),([],[1,5,7,8,9,10],[7],[]),([],[1,5,8,9,10],[],[]),([],[1,5,8,9,10],[],[]),([],[4],[],[21])]) (by kernel_rfl) (by kernel_rfl) (by rw [hl]; decide +kernel) h
def Q73r0 : IC:=cReg Tryz.prog [xX 1 0,⟨some 2,none,iAlo 2 [zS,zI,zI,zI,zI,zS,zI]⟩] [1,2] [1,2]
def Q73r1 : IC:=cReg Tryz.prog [xF 3 0 1,xL 4 1 3,⟨some 5,none,iCall 5 81 [(.tmp 4),(.func 75)]⟩,xF 6 0 1,xS 1 6 5] [1,2] [1,2]
def Q73r2 : IC:=cReg Tryz.prog [xF 7 5 1,xL 8 1 7,⟨some 9,none,iCall 9 82 [(.tmp 8),(.func 83)]⟩,xF 10 5 1,xS 1 10 9] [1,2] [1,2]
def Q73r3 : IC:=cReg Tryz.prog [xA 11 7 1,xS 7 2 11] [2] [2]
def zyz : IC:=(cSeq Q73r0 (cSeq Q73r1 (cSeq Q73r2 (cSeq Q73r3 cRet))))
theorem z2j {args r : List D} (hl : args.length = 1) (h : zyz (start args) (fin [(2,some (7,true))] r)) : Told Tryz.prog 59 args r :=
 ze follows Tryz.func59 rfl (an:=[([],[1,2],[1,2],[]),([],[1,2],[1,2],[]),([],[1,2],[1,2],[]),([],[2],[2],[])]) (by kernel_rfl) (by kernel_rfl) (by rw [hl]; decide +kernel) h
def Q74r0 : IC:=cReg Tryz.prog [xX 1 0,⟨some 2,none,iAlo 2 [zS,zI,zI,zI,zI,zS,zI]⟩] [1,2] [1,2]
def Q74r1 : IC:=cReg Tryz.prog [xF 3 0 1,xL 4 1 3,⟨some 5,none,iCall 5 81 [(.tmp 4),(.func 75)]⟩,xF 6 0 1,xS 1 6 5] [1,2] [1,2]
def Q74r2 : IC:=cReg Tryz.prog [xF 7 5 1,xL 8 1 7,⟨some 9,none,iCall 9 82 [(.tmp 8),(.func 83)]⟩,xF 10 5 1,xS 1 10 9] [1,2] [1,2]
def zn2 : IC:=cCpy 1 2 11 7
def zb6 : IC:=cReg Tryz.prog [] [2] [2]
def Q74r3 : IC:=(cSeq zn2 zb6)
def zuu : IC:=(cSeq Q74r0 (cSeq Q74r1 (cSeq Q74r2 (cSeq Q74r3 cRet))))
theorem zhc {args rs : List D} {off e : Nat} {z : Pay} (hl : args.length = 1) (h : zuu (start args) (fin1 fun st => ∃ b cs,look st.tm 2 = some (pD b 0) ∧ look st.bx b = some cs ∧ cs.length = 7 ∧ cs.all isL = true ∧ RowLe cs rs ∧ off < 7 ∧ lookF st.fl (b,some off) = some (e,z))) : ToldO Tryz.prog 59 args [aD rs] (some off) e z :=
 zwj follows Tryz.func59 rfl (an:=[([],[1,2],[1,2],[]),([],[1,2],[1,2],[]),([],[1,2],[1,2],[]),([(2002,[],[])],[2],[2],[])]) (by kernel_rfl) rfl (by kernel_rfl) (by kernel_rfl) (by rw [hl]; decide +kernel) h
open mth
theorem zxh (m : Ms) (h : m.data.length ≤ 1048576) : Told Tryz.prog 75 [aD (encMs m)] [aD (encMs m)]:=by
 refine zxf rfl ?_
 simp only [encMs]
 have h1 : m.data.length * 1 ≤ 140737488355328:=by omega
 refine wk (an2 @h1 @zmap) ?_
 exact ValsLe.refl _
theorem zfd (c : Ch) (h : c.data.length ≤ 1048576) (h' : c.early.length ≤ 1048576) : Told Tryz.prog 83 [aD (encCh c)] [aD (encCh c)]:=by
 refine zpj rfl ?_
 simp only [encCh]
 have h1 : c.data.length * 1 ≤ 140737488355328:=by omega
 have h2 : c.early.length * 8 ≤ 140737488355328:=by omega
 refine wk (an3 @h1 @h2 @zmap) ?_
 exact ValsLe.refl _
theorem callM : zr Tryz.prog 75 = true:=by kernel_rfl
theorem callC : zr Tryz.prog 83 = true:=by kernel_rfl
def omSt (l : List Ms) (k : Nat) : St:=⟨[(1,vD (.func (.func 75) #[] #[])),(5,sD 2 (encMl (l.take k))),(8,sD 2 (encMl l)),(9,vI l.length),(10,vI k)],[],[((5,none),(43,2,none))]⟩
theorem zdl (l : List Ms) (m : Ms) : encMl (l ++ [m]) = encMl l ++ [aD [vI m.stream,sD 1 (m.data.map encB)]]:=by simp [encMl,encMs]
theorem z5m (l : List Ms) (hl : l.length ≤ 1048576) (hm : ∀ m ∈ l,m.data.length ≤ 1048576) (Q : AX → St → Prop) (hQ : Q (some none) ⟨[(4,sD 2 (encMl l))],[],[((4,none),(43,2,none))]⟩) : zzi (start [sD 2 (encMl l),vD (.func (.func 75) #[] #[])]) Q:=by
 refine wk @len_ml ?_
 refine zw (fun n st => ∃ k,k ≤ l.length ∧ n = l.length - k ∧ st = omSt l k) l.length (omSt l 0) ((Le.nilS 5 43 2 rfl).trans (Le.keep (lv:=[1,5,8,9,10]) (lb:=[]) (by simp only [ev0,ev1,ev2,look,lookF,zh,offT,offP,List.tail_nil,List.length_nil,Int.cast_ofNat_Int,Nat.reduceEqDiff,Nat.reduceAdd,Nat.reduceMul,Nat.reduceLeDiff,Nat.reduceLT,↓reduceIte,reduceCtorEq,Int.reduceBEq,Int.reduceBNe,Int.reduceLT,Int.reduceLE,Int.reduceToNat]; rfl))) ⟨0,by omega,by omega,rfl⟩ ?_
 rintro n st ⟨k,hk',hn,rfl⟩
 by_cases hlt : k < l.length
 ·obtain ⟨x,hx⟩ : ∃ m,l[k]? = some m:=⟨l[k],List.getElem?_eq_getElem hlt⟩
  have g1 : (k : Int) < (l.length : Int):=by omega
  have g2 : (0 : Int) ≤ (k : Int):=by omega
  have g3:=at_ml hx
  have g4 : inR .i64 ((k : Int) + 1) = true:=inR_of (by omega)
  have hlen : (l.take k).length = k:=by rw [List.length_take]; omega
  have hb1 : ((l.take k).length + 1) * 32 ≤ 140737488355328:=by omega
  have hnx : Next (fun n st => ∃ k,k ≤ l.length ∧ n = l.length - k ∧ st = omSt l k) n
    ⟨[(1,vD (.func (.func 75) #[] #[])),(5,sD 2 (encMl (l.take k) ++ [aD [vI x.stream,sD 1 (x.data.map encB)]])),(8,sD 2 (encMl l)),(9,vI l.length),(10,vI ((k : Int) + 1))],[],[((5,none),(43,2,none))]⟩:=by
   rw [← zdl,show l.take k ++ [x] = l.take (k + 1) by rw [List.take_add_one,hx]; rfl]
   exact ⟨l.length - (k + 1),_,by omega,Le.refl _,k + 1,by omega,rfl,by simp only [omSt,Int.natCast_add,Int.cast_ofNat_Int]⟩
  generalize (fun n st => ∃ k,k ≤ l.length ∧ n = l.length - k ∧ st = omSt l k) = J at *
  simp only [omSt]
  generalize l.take k = G at *
  refine wk (an6 @g1 @g2 @g3 @callM @hb1 @len_ml) ?_
  refine cg [[aD [vI x.stream,sD 1 (x.data.map encB)]]] (an3 @callM @hb1 @len_ml) ?_ ?_
  ·exact zb (zxh x (hm x (List.mem_of_getElem? hx))) zd
  refine wk @g4 ?_
  exact hnx
 ·have hk'' : k = l.length:=by omega
  subst hk''
  have g1 : ¬ (l.length : Int) < (l.length : Int):=by omega
  simp only [omSt,List.take_length]
  refine wk @g1 ?_
  exact hQ
theorem z8f (l : List Ms) (hl : l.length ≤ 1048576) (hm : ∀ m ∈ l,m.data.length ≤ 1048576) : Told Tryz.prog 81 [sD 2 (encMl l),vD (.func (.func 75) #[] #[])] [sD 2 (encMl l)] :=
 zsi rfl (z5m l hl hm _ ⟨[sD 2 (encMl l)],rfl,ValsLe.refl _⟩)
theorem zfl (l : List Ms) (hl : l.length ≤ 1048576) (hm : ∀ m ∈ l,m.data.length ≤ 1048576) : ToldO Tryz.prog 81 [sD 2 (encMl l),vD (.func (.func 75) #[] #[])] [sD 2 (encMl l)] none 43 (2,none) :=
 zph rfl (z5m l hl hm _ ⟨sD 2 (encMl l),rfl,rfl,CVLe.refl _,rfl⟩)
theorem z8l (l : List Ch) (c : Ch) : encCl (l ++ [c]) = encCl l ++ [aD [vI c.kind,vI c.number,vI c.stream,vI c.place,sD 1 (c.data.map encB),sD 1 (c.early.map vI)]]:=by simp [encCl,encCh]
def ocSt (l : List Ch) (k : Nat) : St:=⟨[(1,vD (.func (.func 83) #[] #[])),(5,sD 6 (encCl (l.take k))),(8,sD 6 (encCl l)),(9,vI l.length),(10,vI k)],[],[((5,none),(85,6,none))]⟩
theorem zon (l : List Ch) (hl : l.length ≤ 1048576) (hm : ∀ m ∈ l,m.data.length ≤ 1048576 ∧ m.early.length ≤ 1048576) (Q : AX → St → Prop) (hQ : Q (some none) ⟨[(4,sD 6 (encCl l))],[],[((4,none),(85,6,none))]⟩) : z7f (start [sD 6 (encCl l),vD (.func (.func 83) #[] #[])]) Q:=by
 refine wk @len_cl ?_
 refine zw (fun n st => ∃ k,k ≤ l.length ∧ n = l.length - k ∧ st = ocSt l k) l.length (ocSt l 0) ((Le.nilS 5 85 6 rfl).trans (Le.keep (lv:=[1,5,8,9,10]) (lb:=[]) (by simp only [ev0,ev1,ev2,look,lookF,zh,offT,offP,List.tail_nil,List.length_nil,Int.cast_ofNat_Int,Nat.reduceEqDiff,Nat.reduceAdd,Nat.reduceMul,Nat.reduceLeDiff,Nat.reduceLT,↓reduceIte,reduceCtorEq,Int.reduceBEq,Int.reduceBNe,Int.reduceLT,Int.reduceLE,Int.reduceToNat]; rfl))) ⟨0,by omega,by omega,rfl⟩ ?_
 rintro n st ⟨k,hk',hn,rfl⟩
 by_cases hlt : k < l.length
 ·obtain ⟨x,hx⟩ : ∃ m,l[k]? = some m:=⟨l[k],List.getElem?_eq_getElem hlt⟩
  have g1 : (k : Int) < (l.length : Int):=by omega
  have g2 : (0 : Int) ≤ (k : Int):=by omega
  have g3:=at_cl hx
  have g4 : inR .i64 ((k : Int) + 1) = true:=inR_of (by omega)
  have hlen : (l.take k).length = k:=by rw [List.length_take]; omega
  have hb1 : ((l.take k).length + 1) * 80 ≤ 140737488355328:=by omega
  have hnx : Next (fun n st => ∃ k,k ≤ l.length ∧ n = l.length - k ∧ st = ocSt l k) n
    ⟨[(1,vD (.func (.func 83) #[] #[])),(5,sD 6 (encCl (l.take k) ++ [aD [vI x.kind,vI x.number,vI x.stream,vI x.place,sD 1 (x.data.map encB),sD 1 (x.early.map vI)]])),(8,sD 6 (encCl l)),(9,vI l.length),(10,vI ((k : Int) + 1))],[],[((5,none),(85,6,none))]⟩:=by
   rw [← z8l,show l.take k ++ [x] = l.take (k + 1) by rw [List.take_add_one,hx]; rfl]
   exact ⟨l.length - (k + 1),_,by omega,Le.refl _,k + 1,by omega,rfl,by simp only [ocSt,Int.natCast_add,Int.cast_ofNat_Int]⟩
  generalize (fun n st => ∃ k,k ≤ l.length ∧ n = l.length - k ∧ st = ocSt l k) = J at *
  simp only [ocSt]
  generalize l.take k = G at *
  refine wk (an6 @g1 @g2 @g3 @callC @hb1 @len_cl) ?_
  refine cg [[aD [vI x.kind,vI x.number,vI x.stream,vI x.place,sD 1 (x.data.map encB),sD 1 (x.early.map vI)]]] (an3 @callC @hb1 @len_cl) ?_ ?_
  ·exact zb (zfd x (hm x (List.mem_of_getElem? hx)).1 (hm x (List.mem_of_getElem? hx)).2) zd
  refine wk @g4 ?_
  exact hnx
 ·have hk'' : k = l.length:=by omega
  subst hk''
  have g1 : ¬ (l.length : Int) < (l.length : Int):=by omega
  simp only [ocSt,List.take_length]
  refine wk @g1 ?_
  exact hQ
def ohSt (l : List Ch) (k : Nat) : St:=⟨[(1,vD (.func (.func 83) #[] #[])),(5,xD),(8,sD 6 (encCl l)),(9,vI l.length),(10,vI k)],[],[((5,none),(85,6,some (encCl (l.take k))))]⟩
theorem zsu (l : List Ch) (hl : l.length ≤ 1048576) (hm : ∀ m ∈ l,m.data.length ≤ 1048576 ∧ m.early.length ≤ 1048576) (Q : AX → St → Prop) (hQ : Q (some none) ⟨[(4,xD)],[],[((4,none),(85,6,some (encCl l)))]⟩) : z7f (start [sD 6 (encCl l),vD (.func (.func 83) #[] #[])]) Q:=by
 refine wk @len_cl ?_
 refine zw (fun n st => ∃ k,k ≤ l.length ∧ n = l.length - k ∧ st = ohSt l k) l.length (ohSt l 0) ((zgx 5 85 6 rfl).trans (Le.keep (lv:=[1,5,8,9,10]) (lb:=[]) (by simp only [ev0,ev1,ev2,look,lookF,zh,offT,offP,List.tail_nil,List.length_nil,Int.cast_ofNat_Int,Nat.reduceEqDiff,Nat.reduceAdd,Nat.reduceMul,Nat.reduceLeDiff,Nat.reduceLT,↓reduceIte,reduceCtorEq,Int.reduceBEq,Int.reduceBNe,Int.reduceLT,Int.reduceLE,Int.reduceToNat]; rfl))) ⟨0,by omega,by omega,rfl⟩ ?_
 rintro n st ⟨k,hk',hn,rfl⟩
 by_cases hlt : k < l.length
 ·obtain ⟨x,hx⟩ : ∃ m,l[k]? = some m:=⟨l[k],List.getElem?_eq_getElem hlt⟩
  have g1 : (k : Int) < (l.length : Int):=by omega
  have g2 : (0 : Int) ≤ (k : Int):=by omega
  have g3:=at_cl hx
  have g4 : inR .i64 ((k : Int) + 1) = true:=inR_of (by omega)
  have hlen : (l.take k).length = k:=by rw [List.length_take]; omega
  have hb1 : ((l.take k).length + 1) * 80 ≤ 140737488355328:=by omega
  have hnx : Next (fun n st => ∃ k,k ≤ l.length ∧ n = l.length - k ∧ st = ohSt l k) n
    ⟨[(1,vD (.func (.func 83) #[] #[])),(5,xD),(8,sD 6 (encCl l)),(9,vI l.length),(10,vI ((k : Int) + 1))],[],[((5,none),(85,6,some (encCl (l.take k) ++ [aD [vI x.kind,vI x.number,vI x.stream,vI x.place,sD 1 (x.data.map encB),sD 1 (x.early.map vI)]])))]⟩:=by
   rw [← z8l,show l.take k ++ [x] = l.take (k + 1) by rw [List.take_add_one,hx]; rfl]
   exact ⟨l.length - (k + 1),_,by omega,Le.refl _,k + 1,by omega,rfl,by simp only [ohSt,Int.natCast_add,Int.cast_ofNat_Int]⟩
  generalize (fun n st => ∃ k,k ≤ l.length ∧ n = l.length - k ∧ st = ohSt l k) = J at *
  simp only [ohSt]
  generalize l.take k = G at *
  refine wk (an6 @g1 @g2 @g3 @callC @hb1 @len_cl) ?_
  refine cg [[aD [vI x.kind,vI x.number,vI x.stream,vI x.place,sD 1 (x.data.map encB),sD 1 (x.early.map vI)]]] (an3 @callC @hb1 @len_cl) ?_ ?_
  ·exact zb (zfd x (hm x (List.mem_of_getElem? hx)).1 (hm x (List.mem_of_getElem? hx)).2) zd
  refine wk @g4 ?_
  exact hnx
 ·have hk'' : k = l.length:=by omega
  subst hk''
  have g1 : ¬ (l.length : Int) < (l.length : Int):=by omega
  simp only [ohSt,List.take_length]
  refine wk @g1 ?_
  exact hQ
theorem z3i (l : List Ch) (hl : l.length ≤ 1048576) (hm : ∀ m ∈ l,m.data.length ≤ 1048576 ∧ m.early.length ≤ 1048576) : Told Tryz.prog 82 [sD 6 (encCl l),vD (.func (.func 83) #[] #[])] [sD 6 (encCl l)] :=
 z6i rfl (zon l hl hm _ ⟨[sD 6 (encCl l)],rfl,ValsLe.refl _⟩)
theorem zvr (l : List Ch) (hl : l.length ≤ 1048576) (hm : ∀ m ∈ l,m.data.length ≤ 1048576 ∧ m.early.length ≤ 1048576) : ToldO Tryz.prog 82 [sD 6 (encCl l),vD (.func (.func 83) #[] #[])] [sD 6 (encCl l)] none 85 (6,none) :=
 zwd rfl (zon l hl hm _ ⟨sD 6 (encCl l),rfl,rfl,CVLe.refl _,rfl⟩)
theorem z5k (l : List Ch) (hl : l.length ≤ 1048576) (hm : ∀ m ∈ l,m.data.length ≤ 1048576 ∧ m.early.length ≤ 1048576) : ToldO Tryz.prog 82 [sD 6 (encCl l),vD (.func (.func 83) #[] #[])] [xD] none 85 (6,some (encCl l)) :=
 zwd rfl (zsu l hl hm _ ⟨xD,rfl,rfl,CVLe.refl _,rfl⟩)
structure SmallS (s : Sd) : Prop where
 q : s.queue.length ≤ 1048576
 m : ∀ m ∈ s.queue,m.data.length ≤ 1048576
 f : s.flight.length ≤ 1048576
 c : ∀ c ∈ s.flight,c.data.length ≤ 1048576 ∧ c.early.length ≤ 1048576
theorem zbn (s : Sd) (h : SmallS s) : Told Tryz.prog 59 [aD (encSd s)] [aD (encSd s)]:=by
 refine z2j rfl ?_
 simp only [encSd]
 refine wk0 ?_
 refine cg0 [[sD 2 (encMl s.queue)]] ?_ ?_
 ·exact zb (z8f s.queue h.q h.m) zd
 refine wk0 ?_
 refine cg0 [[sD 6 (encCl s.flight)]] ?_ ?_
 ·exact zb (z3i s.flight h.f h.c) zd
 refine wk0 ?_
 exact ValsLe.refl _
theorem zq : ∀ (cs : List D),RowLe cs cs
 | [] => trivial
 | _ :: r => ⟨LfLe.refl _,zq r⟩
theorem z7p (s : Sd) (h : SmallS s) : ToldO Tryz.prog 59 [aD (encSd s)] [aD (encSd s)] (some 0) 43 (2,none):=by
 refine zhc rfl ?_
 simp only [encSd]
 refine wk0 ?_
 refine cg0 [[mO (sD 2 (encMl s.queue)) 43 2 xD]] ?_ ?_
 ·exact zzh (zfl s.queue h.q h.m) zd
 refine wk0 ?_
 refine cg0 [[sD 6 (encCl s.flight)]] ?_ ?_
 ·exact zb (z3i s.flight h.f h.c) zd
 refine wk0 ?_
 refine ⟨1,2,_,_,0,_,rfl,rfl,by decide,rfl,rfl,rfl,rfl,rfl,by decide,rfl,?_⟩
 refine wk0 ?_
 exact zbd ⟨2,_,rfl,rfl,rfl,rfl,zq _,by decide,rfl⟩
theorem z8p (s : Sd) (h : SmallS s) : ToldO Tryz.prog 59 [aD (encSd s)] [aD (encSd s)] (some 5) 85 (6,none):=by
 refine zhc rfl ?_
 simp only [encSd]
 refine wk0 ?_
 refine cg0 [[sD 2 (encMl s.queue)]] ?_ ?_
 ·exact zb (z8f s.queue h.q h.m) zd
 refine wk0 ?_
 refine cg0 [[mO (sD 6 (encCl s.flight)) 85 6 xD]] ?_ ?_
 ·exact zzh (zvr s.flight h.f h.c) zd
 refine wk0 ?_
 refine ⟨1,2,_,_,5,_,rfl,rfl,by decide,rfl,rfl,rfl,rfl,rfl,by decide,rfl,?_⟩
 refine wk0 ?_
 exact zbd ⟨2,_,rfl,rfl,rfl,rfl,zq _,by decide,rfl⟩
theorem z7q (s : Sd) (h : SmallS s) : ToldO Tryz.prog 59 [aD (encSd s)] [aD [sD 2 (encMl s.queue),vI s.next,vI s.p0,vI s.p1,vI s.p2,xD,vI s.turn]] (some 5) 85 (6,some (encCl s.flight)):=by
 refine zhc rfl ?_
 simp only [encSd]
 refine wk0 ?_
 refine cg0 [[sD 2 (encMl s.queue)]] ?_ ?_
 ·exact zb (z8f s.queue h.q h.m) zd
 refine wk0 ?_
 refine cg0 [[mO xD 85 6 (aD (encCl s.flight))]] ?_ ?_
 ·exact zzh (z5k s.flight h.f h.c) zd
 refine wk0 ?_
 refine ⟨1,2,_,_,5,_,rfl,rfl,by decide,rfl,rfl,rfl,rfl,rfl,by decide,rfl,?_⟩
 refine wk0 ?_
 exact zbd ⟨2,_,rfl,rfl,rfl,rfl,zq _,by decide,rfl⟩
theorem callLn : zr Tryz.prog 36 = true:=by kernel_rfl
theorem z0w (l : List Ln) (x : Ln) : encLl (l ++ [x]) = encLl l ++ [aD (encLn x)]:=by simp [encLl]
def owSt (l : List Ln) (k : Nat) : St:=⟨[(1,vD (.func (.func 36) #[] #[])),(5,sD 17 (encLl (l.take k))),(8,sD 17 (encLl l)),(9,vI l.length),(10,vI k)],[],[((5,none),(56,17,none))]⟩
def owHt (l : List Ln) (k : Nat) : St:=⟨[(1,vD (.func (.func 36) #[] #[])),(5,xD),(8,sD 17 (encLl l)),(9,vI l.length),(10,vI k)],[],[((5,none),(56,17,some (encLl (l.take k))))]⟩
theorem zbv (hO : CLOwn 36) (l : List Ln) (hl : l.length ≤ 1048576) (hm : ∀ m ∈ l,GoodL m) (Q : AX → St → Prop) (hQ : Q (some none) ⟨[(4,sD 17 (encLl l))],[],[((4,none),(56,17,none))]⟩) : z3f (start [sD 17 (encLl l),vD (.func (.func 36) #[] #[])]) Q:=by
 refine wk @len_ll ?_
 refine zw (fun n st => ∃ k,k ≤ l.length ∧ n = l.length - k ∧ st = owSt l k) l.length (owSt l 0) ((Le.nilS 5 56 17 rfl).trans (Le.keep (lv:=[1,5,8,9,10]) (lb:=[]) (by simp only [ev0,ev1,ev2,look,lookF,zh,offT,offP,List.tail_nil,List.length_nil,Int.cast_ofNat_Int,Nat.reduceEqDiff,Nat.reduceAdd,Nat.reduceMul,Nat.reduceLeDiff,Nat.reduceLT,↓reduceIte,reduceCtorEq,Int.reduceBEq,Int.reduceBNe,Int.reduceLT,Int.reduceLE,Int.reduceToNat]; rfl))) ⟨0,by omega,by omega,rfl⟩ ?_
 rintro n st ⟨k,hk',hn,rfl⟩
 by_cases hlt : k < l.length
 ·obtain ⟨x,hx⟩ : ∃ m,l[k]? = some m:=⟨l[k],List.getElem?_eq_getElem hlt⟩
  have g1 : (k : Int) < (l.length : Int):=by omega
  have g2 : (0 : Int) ≤ (k : Int):=by omega
  have g3:=at_ll hx
  have g4 : inR .i64 ((k : Int) + 1) = true:=inR_of (by omega)
  have hlen : (l.take k).length = k:=by rw [List.length_take]; omega
  have hb1 : ((l.take k).length + 1) * 248 ≤ 140737488355328:=by omega
  have h1:=hO x (hm x (List.mem_of_getElem? hx))
  have hnx : Next (fun n st => ∃ k,k ≤ l.length ∧ n = l.length - k ∧ st = owSt l k) n
    ⟨[(1,vD (.func (.func 36) #[] #[])),(5,sD 17 (encLl (l.take k) ++ [aD (encLn x)])),(8,sD 17 (encLl l)),(9,vI l.length),(10,vI ((k : Int) + 1))],[],[((5,none),(56,17,none))]⟩:=by
   rw [← z0w,show l.take k ++ [x] = l.take (k + 1) by rw [List.take_add_one,hx]; rfl]
   exact ⟨l.length - (k + 1),_,by omega,Le.refl _,k + 1,by omega,rfl,by simp only [owSt,Int.natCast_add,Int.cast_ofNat_Int]⟩
  generalize (fun n st => ∃ k,k ≤ l.length ∧ n = l.length - k ∧ st = owSt l k) = J at *
  simp only [owSt,encLn] at g3 h1 hnx ⊢
  generalize l.take k = G at *
  refine wk (an7 @g1 @g2 @g3 @callLn @hb1 @len_ll @Int.toNat_natCast) ?_
  refine cg [[aD (encLn x)]] (an4 @encLn.eq_1 @callLn @hb1 @len_ll) ?_ ?_
  ·exact zb h1 zd
  refine wk @g4 ?_
  exact hnx
 ·have hk'' : k = l.length:=by omega
  subst hk''
  have g1 : ¬ (l.length : Int) < (l.length : Int):=by omega
  simp only [owSt,List.take_length]
  refine wk @g1 ?_
  exact hQ
theorem zzp (hO : CLOwn 36) (l : List Ln) (hl : l.length ≤ 1048576) (hm : ∀ m ∈ l,GoodL m) (Q : AX → St → Prop) (hQ : Q (some none) ⟨[(4,xD)],[],[((4,none),(56,17,some (encLl l)))]⟩) : z3f (start [sD 17 (encLl l),vD (.func (.func 36) #[] #[])]) Q:=by
 refine wk @len_ll ?_
 refine zw (fun n st => ∃ k,k ≤ l.length ∧ n = l.length - k ∧ st = owHt l k) l.length (owHt l 0) ((zgx 5 56 17 rfl).trans (Le.keep (lv:=[1,5,8,9,10]) (lb:=[]) (by simp only [ev0,ev1,ev2,look,lookF,zh,offT,offP,List.tail_nil,List.length_nil,Int.cast_ofNat_Int,Nat.reduceEqDiff,Nat.reduceAdd,Nat.reduceMul,Nat.reduceLeDiff,Nat.reduceLT,↓reduceIte,reduceCtorEq,Int.reduceBEq,Int.reduceBNe,Int.reduceLT,Int.reduceLE,Int.reduceToNat]; rfl))) ⟨0,by omega,by omega,rfl⟩ ?_
 rintro n st ⟨k,hk',hn,rfl⟩
 by_cases hlt : k < l.length
 ·obtain ⟨x,hx⟩ : ∃ m,l[k]? = some m:=⟨l[k],List.getElem?_eq_getElem hlt⟩
  have g1 : (k : Int) < (l.length : Int):=by omega
  have g2 : (0 : Int) ≤ (k : Int):=by omega
  have g3:=at_ll hx
  have g4 : inR .i64 ((k : Int) + 1) = true:=inR_of (by omega)
  have hlen : (l.take k).length = k:=by rw [List.length_take]; omega
  have hb1 : ((l.take k).length + 1) * 248 ≤ 140737488355328:=by omega
  have h1:=hO x (hm x (List.mem_of_getElem? hx))
  have hnx : Next (fun n st => ∃ k,k ≤ l.length ∧ n = l.length - k ∧ st = owHt l k) n
    ⟨[(1,vD (.func (.func 36) #[] #[])),(5,xD),(8,sD 17 (encLl l)),(9,vI l.length),(10,vI ((k : Int) + 1))],[],[((5,none),(56,17,some (encLl (l.take k) ++ [aD (encLn x)])))]⟩:=by
   rw [← z0w,show l.take k ++ [x] = l.take (k + 1) by rw [List.take_add_one,hx]; rfl]
   exact ⟨l.length - (k + 1),_,by omega,Le.refl _,k + 1,by omega,rfl,by simp only [owHt,Int.natCast_add,Int.cast_ofNat_Int]⟩
  generalize (fun n st => ∃ k,k ≤ l.length ∧ n = l.length - k ∧ st = owHt l k) = J at *
  simp only [owHt,encLn] at g3 h1 hnx ⊢
  generalize l.take k = G at *
  refine wk (an7 @g1 @g2 @g3 @callLn @hb1 @len_ll @Int.toNat_natCast) ?_
  refine cg [[aD (encLn x)]] (an4 @encLn.eq_1 @callLn @hb1 @len_ll) ?_ ?_
  ·exact zb h1 zd
  refine wk @g4 ?_
  exact hnx
 ·have hk'' : k = l.length:=by omega
  subst hk''
  have g1 : ¬ (l.length : Int) < (l.length : Int):=by omega
  simp only [owHt,List.take_length]
  refine wk @g1 ?_
  exact hQ
theorem zrw (hO : CLOwn 36) (l : List Ln) (hl : l.length ≤ 1048576) (hm : ∀ m ∈ l,GoodL m) : Told Tryz.prog 35 [sD 17 (encLl l),vD (.func (.func 36) #[] #[])] [sD 17 (encLl l)] :=
 zyi rfl (zbv hO l hl hm _ ⟨[sD 17 (encLl l)],rfl,ValsLe.refl _⟩)
theorem zat (hO : CLOwn 36) (l : List Ln) (hl : l.length ≤ 1048576) (hm : ∀ m ∈ l,GoodL m) : ToldO Tryz.prog 35 [sD 17 (encLl l),vD (.func (.func 36) #[] #[])] [xD] none 56 (17,some (encLl l)) :=
 znh rfl (zzp hO l hl hm _ ⟨xD,rfl,rfl,CVLe.refl _,rfl⟩)
def CWOwn (f : Nat) : Prop:=∀ w,GoodW w → Told Tryz.prog f [aD (encWd w)] [aD (encWd w)]
def CWNew (f : Nat) : Prop:=(∀ n : Nat,1 ≤ n → n ≤ 3 → Told Tryz.prog f [vI n] [aD (encWd (newW n)),vI 0]) ∧ ∀ n : Int,n < 1 ∨ 3 < n → Told Tryz.prog f [vI n] [aD (encWd ⟨[],0⟩),vI 3]
def CWDo (f : Nat) : Prop:=∀ w s,GoodW w → w.ticks ≤ 1000000 → Told Tryz.prog f [aD (encWd w),aD (encSp s)] [aD (encWd (doW w s).1),vI (doW w s).2]
theorem zdq (hO : CLOwn 36) : CWOwn 22:=by
 intro w hw
 refine zoi rfl ?_
 have h1:=zrw hO w.lanes (by have:=hw.n; omega) hw.l
 simp only [encWd]
 refine wk0 ?_
 refine cg0 [[sD 17 (encLl w.lanes)]] ?_ ?_
 ·exact zb h1 zd
 refine wk0 ?_
 exact ValsLe.refl _
theorem zoc (hO : CLOwn 36) (w : Wd) (hw : GoodW w) : ToldO Tryz.prog 22 [aD (encWd w)] [aD [xD,vI w.ticks]] (some 0) 56 (17,some (encLl w.lanes)):=by
 refine zfg rfl ?_
 have h1:=zat hO w.lanes (by have:=hw.n; omega) hw.l
 simp only [encWd]
 refine wk0 ?_
 refine cg0 [[mO xD 56 17 (aD (encLl w.lanes))]] ?_ ?_
 ·exact zzh h1 zd
 refine wk0 ?_
 refine ⟨1,2,_,_,0,_,rfl,rfl,by decide,rfl,rfl,rfl,rfl,rfl,by decide,rfl,?_⟩
 refine wk0 ?_
 exact zbd ⟨2,_,rfl,rfl,rfl,rfl,zq _,by decide,rfl⟩
theorem zpt : CWNew 19:=by
 refine ⟨fun n h1 h2 => ?_,fun n h => ?_⟩
 ·refine zze rfl ?_
  have h3 : n = 1 ∨ n = 2 ∨ n = 3:=by omega
  rcases h3 with rfl | rfl | rfl
  ·simp only [newW,encWd,encLl,List.replicate,List.map_cons,List.map_nil,encLn,zeroL,zeroS,zeroR,encMl,encCl,encPk]
   refine wk (an4 @Int.toNat_natCast @zrs @zr0 @zcons) ?_
   repeat' (first | exact zj | exact zo | exact es_nil | exact CVLe.refl _ | exact LfLe.refl _ | exact LfLe.nil _ | exact EsLe.refl _ | refine zf ?_ ?_ | refine zk ?_ ?_ | refine zp ?_ ?_ | refine EsLe.app ?_ ?_ | refine CVLe.row ?_ | refine CVLe.leafV ?_ | refine CVLe.leafS ?_ | refine LfLe.s ?_)
  ·simp only [newW,encWd,encLl,List.replicate,List.map_cons,List.map_nil,encLn,zeroL,zeroS,zeroR,encMl,encCl,encPk]
   refine wk (an4 @Int.toNat_natCast @zrs @zr0 @zcons) ?_
   repeat' (first | exact zj | exact zo | exact es_nil | exact CVLe.refl _ | exact LfLe.refl _ | exact LfLe.nil _ | exact EsLe.refl _ | refine zf ?_ ?_ | refine zk ?_ ?_ | refine zp ?_ ?_ | refine EsLe.app ?_ ?_ | refine CVLe.row ?_ | refine CVLe.leafV ?_ | refine CVLe.leafS ?_ | refine LfLe.s ?_)
  ·simp only [newW,encWd,encLl,List.replicate,List.map_cons,List.map_nil,encLn,zeroL,zeroS,zeroR,encMl,encCl,encPk]
   refine wk (an4 @Int.toNat_natCast @zrs @zr0 @zcons) ?_
   repeat' (first | exact zj | exact zo | exact es_nil | exact CVLe.refl _ | exact LfLe.refl _ | exact LfLe.nil _ | exact EsLe.refl _ | refine zf ?_ ?_ | refine zk ?_ ?_ | refine zp ?_ ?_ | refine EsLe.app ?_ ?_ | refine CVLe.row ?_ | refine CVLe.leafV ?_ | refine CVLe.leafS ?_ | refine LfLe.s ?_)
 ·refine zze rfl ?_
  simp only [encWd,encLl,List.map_nil]
  by_cases h1 : n < 1
  ·refine wk @h1 ?_
   repeat' (first | exact zj | exact zo | exact es_nil | exact CVLe.refl _ | exact LfLe.refl _ | exact LfLe.nil _ | exact EsLe.refl _ | refine zf ?_ ?_ | refine zk ?_ ?_ | refine zp ?_ ?_ | refine EsLe.app ?_ ?_ | refine CVLe.row ?_ | refine CVLe.leafV ?_ | refine CVLe.leafS ?_ | refine LfLe.s ?_)
  ·have h2 : 3 < n:=by omega
   refine wk (an2 @h1 @h2) ?_
   repeat' (first | exact zj | exact zo | exact es_nil | exact CVLe.refl _ | exact LfLe.refl _ | exact LfLe.nil _ | exact EsLe.refl _ | refine zf ?_ ?_ | refine zk ?_ ?_ | refine zp ?_ ?_ | refine EsLe.app ?_ ?_ | refine CVLe.row ?_ | refine CVLe.leafV ?_ | refine CVLe.leafS ?_ | refine LfLe.s ?_)
set_option maxRecDepth 100000
def Q86r0 : IC:=cReg Tryz.prog [⟨some 4,none,iMov 4 (.const (.int .i64 0)) true⟩,⟨some 5,none,iMov 5 (.const (.int .i64 0)) true⟩] [0,1] []
def Q86r1 : IC:=cReg Tryz.prog [xM 6 0,xC 7 .lss 6 0,xM 8 7,xG 8 false (xM 9 1),xG 8 false (xC 10 .lss 9 1),xP 11 8 10,xM 12 11,xG 12 false (xM 13 1),xG 12 false (xC 14 .gtr 13 3),xP 15 12 14] [0,1,15] []
def Q86r2 : IC:=cReg Tryz.prog [⟨some 4,none,iMov 4 (.const (.int .i64 0)) true⟩,⟨some 5,none,iMov 5 (.const (.int .i64 3)) true⟩] [4,5] []
def Q86c1a : IC:=(cSeq Q86r2 cRet)
def Q86c1 : IC:=cCond (.tmp 15) Q86c1a cSkip
def Q86r3 : IC:=cReg Tryz.prog [xM 16 0,xM 17 1,xB 18 .rem 16 17,xT 4 18,⟨some 5,none,iMov 5 (.const (.int .i64 0)) true⟩] [4,5] []
def znr : IC:=(cSeq Q86r0 (cSeq (cSeq Q86r1 Q86c1) (cSeq Q86r3 cRet)))
theorem zlh {args r : List D} (hl : args.length = 2) (h : znr (start args) (fin [(4,none),(5,none)] r)) : Told Tryz.prog 42 args r :=
 ze follows Tryz.func42 rfl (an:=[([],[0,1],[],[]),([],[0,1,15],[],[]),([],[4,5],[],[]),([],[4,5],[],[])]) (by kernel_rfl) (by kernel_rfl) (by rw [hl]; decide +kernel) h
end Go.Proofs.YtgaofjiidedcbacGreat.ab
namespace Go.Proofs.YtgaofjiidedcbacGreat.mth
def aheadP (tick n tenant : Int) : Int:=(tenant - tick % n + n) % n
def turnsP (tick many n tenant : Int) : Nat:=if many ≤ aheadP tick n tenant then 0 else ((many - aheadP tick n tenant - 1) / n + 1).toNat
theorem z2p {tick n tenant : Int} (hn : n = 1 ∨ n = 2 ∨ n = 3) : 0 ≤ aheadP tick n tenant ∧ aheadP tick n tenant < n:=by
 unfold aheadP; rcases hn with rfl | rfl | rfl <;> omega
theorem zxz {tick many n tenant : Int} (hn : n = 1 ∨ n = 2 ∨ n = 3) {k : Nat} : k < turnsP tick many n tenant ↔ aheadP tick n tenant + (k : Int) * n < many:=by
 have:=z2p (tick:=tick) (tenant:=tenant) hn
 unfold turnsP; split
 ·rcases hn with rfl | rfl | rfl <;> omega
 ·rcases hn with rfl | rfl | rfl <;> omega
structure Behind (tick many n tenant t : Int) (k : Nat) : Prop where
 lo : tick ≤ t
 hi : t ≤ tick + many
 ahead : t ≤ tick + aheadP tick n tenant + (k : Int) * n
 last : k = 0 ∨ tick + aheadP tick n tenant + ((k : Int) - 1) * n < t
theorem Behind.start {tick many n tenant : Int} (hn : n = 1 ∨ n = 2 ∨ n = 3) (hm : 0 ≤ many) : Behind tick many n tenant tick 0:=by
 have:=z2p (tick:=tick) (tenant:=tenant) hn
 exact ⟨by omega,by omega,by simp; omega,.inl rfl⟩
theorem Behind.done {tick many n tenant : Int} {k : Nat} (hn : n = 1 ∨ n = 2 ∨ n = 3) (h : Behind tick many n tenant (tick + many) k) (hk : k ≤ turnsP tick many n tenant) : k = turnsP tick many n tenant:=by
 obtain ⟨a,b,c,d⟩:=h
 by_cases q : k < turnsP tick many n tenant
 ·have:=(zxz hn).1 q; omega
 ·omega
end Go.Proofs.YtgaofjiidedcbacGreat.mth
namespace Go.Proofs.YtgaofjiidedcbacGreat.ab
open Go Go.RowKit
open mth
theorem zwz (t n : Int) (ht : 0 ≤ t) (hn : 1 ≤ n ∧ n ≤ 3) : Told Tryz.prog 42 [vI t,vI n] [vI (t % n),vI 0]:=by
 refine zlh rfl ?_
 have g1 : ¬ t < 0:=by omega
 have g2 : ¬ n < 1:=by omega
 have g3 : ¬ 3 < n:=by omega
 have g4 : n ≠ 0:=by omega
 have g5 : t.tmod n = t % n:=Int.tmod_eq_emod_of_nonneg ht
 refine wk (an5 @g1 @g2 @g3 @g4 @g5) ?_
 exact ValsLe.refl _
def CPutS (f : Nat) : Prop:=∀ s m,GoodS s → Told Tryz.prog f [aD (encSd s),aD (encMs m)] [aD (encSd (putS s m)),vI (putE s m)]
def CSayS (f : Nat) : Prop:=∀ s,GoodS s → Told Tryz.prog f [aD (encSd s)] [aD (encSd (sayL s).1),aD (encCh (sayL s).2.1),vB (sayL s).2.2]
def CHearS (f : Nat) : Prop:=∀ s c,GoodS s → wrongL c = 0 → Told Tryz.prog f [aD (encSd s),aD (encCh c)] [aD (encSd (hearS s c))]
theorem z6o {c : Ch} (h : wrongL c = 0) : c.early.length ≤ 3:=by
 unfold wrongL at h
 split at h
 ·cases h
 ·split at h
  ·cases h
  ·split at h
   ·split at h
    ·cases h
    ·split at h
     ·cases h
     ·rename_i he; omega
   ·split at h
    ·cases h
    ·split at h
     ·cases h
     ·rename_i he; omega
theorem zmw {s : Sd} (h : GoodS s) : (sayL s).2.1.early.length ≤ 3:=by
 unfold sayL
 split
 ·split
  ·simp [zeroC]
  ·rename_i hf
   have hk:=zwb h (by omega)
   have hlt : (againK s).toNat < s.flight.length:=by omega
   simp only [List.getD_eq_getElem?_getD,List.getElem?_eq_getElem hlt,Option.getD_some]
   rw [h.early _ (List.getElem_mem hlt)]
   simp
 ·split
  ·rename_i hf
   have hk:=zwb h (by omega)
   have hlt : (againK s).toNat < s.flight.length:=by omega
   simp only [List.getD_eq_getElem?_getD,List.getElem?_eq_getElem hlt,Option.getD_some]
   rw [h.early _ (List.getElem_mem hlt)]
   simp
  ·simp [newC]
end Go.Proofs.YtgaofjiidedcbacGreat.ab
