import Derived.Test.YtgaofjiidedcbadM19
import Derived.Test.YtgaofjiidedcbadProg
import Derived.Test.YtgaofjiidedcbadM31
import Derived.Test.YtgaofjiidedcbadM34
set_option maxHeartbeats 8000000
set_option linter.unusedVariables false
set_option linter.unusedSimpArgs false
namespace Go.Proofs.Ytgaofjiidedcbad.ab
set_option maxRecDepth 100000
open Go Go.RowKit
def Q35r0 : IC:=cReg Try.prog [xX 1 0,⟨some 2,none,iMov 2 (.const (.bool false)) true⟩] [1] [1]
def Q35r1 : IC:=cReg Try.prog [xF 3 0 1,xF 4 0 3,xL 5 1 4,xN 6 5,xC 7 .eql 6 0,xM 8 7,xG 8 true (xF 9 0 1),xG 8 true (xF 10 5 9),xG 8 true (xL 11 1 10),xG 8 true (xN 12 11),xG 8 true (xC 13 .eql 12 0),xQ 14 8 13,xT 2 14] [2] []
def look_Idle : IC:=(cSeq Q35r0 (cSeq Q35r1 cRet))
theorem told_look_Idle {args r : List D} (hl : args.length = 1) (h : look_Idle (start args) (fin [(2,none)] r)) : Told Try.prog 21 args r :=
 told_of follows Try.func21 rfl (an:=[([],[1],[1],[]),([],[2],[],[])]) (by kernel_rfl) (by kernel_rfl) (by rw [hl]; decide +kernel) h
def Q36r0 : IC:=cReg Try.prog [xX 1 0,⟨some 2,none,iMov 2 (.const (.bool false)) true⟩] [1] [1]
def Q36r1 : IC:=cReg Try.prog [xF 5 0 1,xL 6 1 5,xN 7 6,⟨some 8,none,iMov 8 (.const (.int .i64 0)) false⟩] [6,7,8] []
def Q36r2 : IC:=cReg Try.prog [xB 9 .lss 8 7] [6,7,8,9] []
def Q36c3 : IC:=cCond (.tmp 9) cSkip (cExit 0)
def Q36r3 : IC:=cReg Try.prog [xI 10 17 6 8,xA 11 17 10,⟨some 4,none,iAlo 4 [zS,zI,zI,zI,zI,zS,zI,zI,zS,zI,zI,zI,zS,zS,zF,zS,zS]⟩,xS 17 4 11] [4,6,7,8] [4]
def Q36r4 : IC:=cReg Try.prog [xA 12 17 4,xV1 13 21 12,xO 14 13] [6,7,8,14] []
def Q36r5 : IC:=cReg Try.prog [⟨some 2,none,iMov 2 (.const (.bool false)) true⟩] [2] []
def Q36c5a : IC:=(cSeq Q36r5 cRet)
def Q36c5 : IC:=cCond (.tmp 14) Q36c5a cSkip
def Q36b4 : IC:=cBlock 1 (cSeq Q36r3 (cSeq Q36r4 Q36c5))
def Q36r6 : IC:=cReg Try.prog [xC 15 .add 8 1,xM 8 15] [6,7,8] []
def Q36l2a : IC:=(cSeq Q36r2 (cSeq Q36c3 (cSeq Q36b4 Q36r6)))
def Q36l2 : IC:=cLoop Q36l2a
def Q36b1 : IC:=cBlock 0 Q36l2
def Q36r7 : IC:=cReg Try.prog [⟨some 2,none,iMov 2 (.const (.bool true)) true⟩] [2] []
def look_Still : IC:=(cSeq Q36r0 (cSeq (cSeq Q36r1 Q36b1) (cSeq Q36r7 cRet)))
theorem told_look_Still {args r : List D} (hl : args.length = 1) (h : look_Still (start args) (fin [(2,none)] r)) : Told Try.prog 11 args r :=
 told_of follows Try.func11 rfl (an:=[([],[1],[1],[]),([],[6,7,8],[],[]),([],[6,7,8,9],[],[]),([],[4,6,7,8],[4],[]),([],[6,7,8,14],[],[]),([],[2],[],[]),([],[6,7,8],[],[]),([],[2],[],[])]) (by kernel_rfl) (by kernel_rfl) (by rw [hl]; decide +kernel) h
open mth
theorem landK_idle : CKIdle 21:=by
 intro l hs
 refine told_look_Idle rfl ?_
 have b1:=hs.q
 have b2:=hs.f
 have e : idleL l = (decide (l.s.queue.length = 0) && decide (l.s.flight.length = 0)):=by
  unfold idleL
  cases l.s.queue <;> cases l.s.flight <;> rfl
 rw [e]
 simp only [encLn]
 by_cases h1 : l.s.queue.length = 0
 ·have g1 : ((l.s.queue.length : Int) == 0) = true:=by rw [h1]; rfl
  by_cases h2 : l.s.flight.length = 0
  ·have g2 : ((l.s.flight.length : Int) == 0) = true:=by rw [h2]; rfl
   rw [decide_eq_true h1,decide_eq_true h2]
   clear h1 h2
   refine wk (an4 @g1 @g2 @len_ml @len_cl) ?_
   exact ValsLe.refl _
  ·have g2 : ((l.s.flight.length : Int) == 0) = false:=by rw [beq_eq_false_iff_ne]; omega
   rw [decide_eq_true h1,decide_eq_false h2]
   clear h1 h2
   refine wk (an4 @g1 @g2 @len_ml @len_cl) ?_
   exact ValsLe.refl _
 ·have g1 : ((l.s.queue.length : Int) == 0) = false:=by rw [beq_eq_false_iff_ne]; omega
  rw [decide_eq_false h1]
  clear h1
  refine wk (an2 @g1 @len_ml) ?_
  exact ValsLe.refl _
def lstSt (w : Wd) (k : Nat) : St:=⟨[(6,sD 17 (encLl w.lanes)),(7,vI w.lanes.length),(8,vI k)],[],[]⟩
theorem landK_still : CKStill 11:=by
 intro w hn hs
 refine told_look_Still rfl ?_
 simp only [encWd]
 refine wk @len_ll ?_
 refine aw_loop (fun m st => ∃ k : Nat,k ≤ w.lanes.length ∧ m = w.lanes.length - k ∧ (w.lanes.take k).all idleL = true ∧ st = lstSt w k) w.lanes.length (lstSt w 0) (Le.refl _) ⟨0,by omega,by omega,by simp,rfl⟩ ?_
 rintro m st ⟨k,hk,hm,hall,rfl⟩
 by_cases hlt : k < w.lanes.length
 ·obtain ⟨x,hx⟩ : ∃ x,w.lanes[k]? = some x:=⟨w.lanes[k],List.getElem?_eq_getElem hlt⟩
  have hxm:=List.mem_of_getElem? hx
  have g1 : (k : Int) < (w.lanes.length : Int):=by omega
  have g2 : (0 : Int) ≤ (k : Int):=by omega
  have g3:=at_ll hx
  have g4 : inR .i64 ((k : Int) + 1) = true:=inR_of (by omega)
  have h1:=landK_idle x (hs x hxm)
  cases hi : idleL x with
  | true =>
   rw [hi] at h1
   have hnx : Next (fun m st => ∃ k : Nat,k ≤ w.lanes.length ∧ m = w.lanes.length - k ∧ (w.lanes.take k).all idleL = true ∧ st = lstSt w k) m (lstSt w (k + 1)):=⟨w.lanes.length - (k + 1),_,by omega,Le.refl _,k + 1,by omega,rfl,by
    rw [List.take_add_one,hx,List.all_append,hall]; simp [hi],rfl⟩
   generalize (fun m st => ∃ k : Nat,k ≤ w.lanes.length ∧ m = w.lanes.length - k ∧ (w.lanes.take k).all idleL = true ∧ st = lstSt w k) = J at *
   simp only [lstSt,encLn,Int.natCast_add,Int.cast_ofNat_Int] at g3 h1 hnx ⊢
   refine wk (an5 @g1 @g2 @g3 @len_ll @Int.toNat_natCast) ?_
   refine cg [[vB true]] Bool.not_true ?_ ?_
   ·exact obl_cons h1 obl_nil
   refine wk @g4 ?_
   exact hnx
  | false =>
   rw [hi] at h1
   have hf : stillW w = false:=by
    unfold stillW
    rw [List.all_eq_false]
    exact ⟨x,hxm,by rw [hi]; simp⟩
   rw [hf]
   generalize (fun m st => ∃ k : Nat,k ≤ w.lanes.length ∧ m = w.lanes.length - k ∧ (w.lanes.take k).all idleL = true ∧ st = lstSt w k) = J at *
   simp only [lstSt,encLn] at g3 h1 ⊢
   refine wk (an5 @g1 @g2 @g3 @len_ll @Int.toNat_natCast) ?_
   refine cg [[vB false]] Bool.not_false ?_ ?_
   ·exact obl_cons h1 obl_nil
   refine wk0 ?_
   exact ValsLe.refl _
 ·have hkn : k = w.lanes.length:=by omega
  subst hkn
  rw [List.take_length] at hall
  have hf : stillW w = true:=hall
  rw [hf]
  have g1 : ¬ (w.lanes.length : Int) < (w.lanes.length : Int):=by omega
  generalize (fun m st => ∃ k : Nat,k ≤ w.lanes.length ∧ m = w.lanes.length - k ∧ (w.lanes.take k).all idleL = true ∧ st = lstSt w k) = J at *
  simp only [lstSt]
  refine wk @g1 ?_
  exact ValsLe.refl _
set_option maxRecDepth 100000
def Q21r0 : IC:=cReg Try.prog [xX 1 0,⟨some 2,none,iAlo 2 [zS,zI,zI,zI,zI,zS,zI,zI,zS,zI,zI,zI,zS,zS,zF,zS,zS]⟩] [1,2] [1,2]
def Q21r1_0 : IC:=cXs Try.prog 1 5 6 24 17 none
def Q21r1_1 : IC:=cReg Try.prog [] [1,2] [1,2]
def Q21r1 : IC:=(cSeq Q21r1_0 Q21r1_1)
def Q21r2_0 : IC:=cLe
def Q21r2_1 : IC:=cReg Try.prog [⟨some 3,none,iAlo 3 [zI,zI,zI,zI,zS,zS]⟩] [1,2,3] [1,2,3]
def Q21r2 : IC:=(cSeq Q21r2_0 Q21r2_1)
def Q21r3 : IC:=cReg Try.prog [⟨some 4,none,iMov 4 (.const (.bool false)) true⟩] [1,2,3] [1,2,3]
def Q21r4 : IC:=cReg Try.prog [xF 8 0 1,xA 9 7 8,xV1 10 55 9,xM 7 10,xE 11 7 0,xE 12 7 1,xE 13 7 2,xF 14 0 1,xS 7 14 11,xS 6 3 12,xT 4 13] [1,2,3,4] [1,2,3]
def Q21r5 : IC:=cReg Try.prog [xM 15 4] [1,2,3,15] [1,2,3]
def Q21r6 : IC:=cRegD Try.prog [xF 16 15 1,xU 17 1 16,xA 18 6 3,xV1 19 57 18,xV2 20 56 17 19,xF 21 15 1,xS 1 21 20] [[],[0],[],[2],[1,3,0,2],[0,1,2,3,4],[5,4,0,1,2,3]] [1,2,3] [1,2,3]
def Q21c1 : IC:=cCond (.tmp 15) Q21r6 cSkip
def Q21r7 : IC:=cReg Try.prog [xF 23 7 1,xA 24 8 23,xV1 25 58 24,xM 22 25,xE 26 22 0,xE 27 22 1,xE 28 22 2,xF 29 7 1,xS 8 29 26,xS 6 3 27,xT 4 28] [1,2,3,4] [1,2,3]
def Q21r8 : IC:=cReg Try.prog [xM 30 4] [1,2,3,30] [1,2,3]
def Q21r9 : IC:=cRegD Try.prog [xF 31 16 1,xU 32 1 31,xA 33 6 3,xV1 34 57 33,xV2 35 56 32 34,xF 36 16 1,xS 1 36 35] [[],[0],[],[2],[1,3,0,2],[0,1,2,3,4],[5,4,0,1,2,3]] [1,2] [1,2]
def Q21c2 : IC:=cCond (.tmp 30) Q21r9 cSkip
def Q21r10 : IC:=cReg Try.prog [xA 37 17 1,xS 17 2 37] [2] [2]
def lane_Speak : IC:=(cSeq Q21r0 (cSeq Q21r1 (cSeq Q21r2 (cSeq Q21r3 (cSeq (cSeq Q21r4 (cSeq Q21r5 Q21c1)) (cSeq (cSeq Q21r7 (cSeq Q21r8 Q21c2)) (cSeq Q21r10 cRet)))))))
theorem told_lane_Speak {args r : List D} (hl : args.length = 1) (h : lane_Speak (start args) (fin [(2,some (17,true))] r)) : Told Try.prog 40 args r :=
 told_of follows Try.func40 rfl (an:=[([],[1,2],[1,2],[]),([(4003,[],[])],[1,2],[1,2],[]),([(12000,[],[])],[1,2,3],[1,2,3],[]),([],[1,2,3],[1,2,3],[]),([],[1,2,3,4],[1,2,3],[]),([],[1,2,3,15],[1,2,3],[]),([],[1,2,3],[1,2,3],[17]),([],[1,2,3,4],[1,2,3],[]),([],[1,2,3,30],[1,2,3],[]),([],[1,2],[1,2],[32]),([],[2],[2],[])]) (by kernel_rfl) (by kernel_rfl) (by rw [hl]; decide +kernel) h
def Q19r0 : IC:=cReg Try.prog [xX 3 0,⟨some 6,none,iAlo 6 [zS,zI,zI,zI,zI,zS,zI,zI,zS,zI,zI,zI,zS,zS,zF,zS,zS]⟩,⟨some 7,none,iMov 7 (.const (.int .i64 0)) true⟩] [1,2,3,6] [3,6]
def Q19r1_0 : IC:=cXs Try.prog 3 9 10 24 17 none
def Q19r1_1 : IC:=cReg Try.prog [] [1,2,3,6] [3,6]
def Q19r1 : IC:=(cSeq Q19r1_0 Q19r1_1)
def Q19r2_0 : IC:=cLe
def Q19r2_1 : IC:=cReg Try.prog [xM 11 2,⟨some 12,none,iCallP 12 49 [(.tmp 3),(.tmp 11)]⟩,xT 8 12] [1,3,6,8] [3,6,100001]
def Q19r2 : IC:=(cSeq Q19r2_0 Q19r2_1)
def Q19r3 : IC:=cReg Try.prog [xM 13 8,⟨some 14,none,iNck 14 (.tmp 13)⟩,xL 15 1 14,xM 16 1,⟨some 17,none,iCallL 17 50 [(.tmp 15),(.tmp 16)]⟩,xO 18 17] [1,3,6,8,18] [3,6,100001]
def Q19r4 : IC:=cReg Try.prog [xA 19 17 3,xS 17 6 19,⟨some 7,none,iMov 7 (.const (.int .i64 6)) true⟩] [6,7] [6]
def Q19c1a : IC:=(cSeq Q19r4 cRet)
def Q19c1 : IC:=cCond (.tmp 18) Q19c1a cSkip
def Q19r5 : IC:=cReg Try.prog [xM 20 8,xM 21 8,⟨some 22,none,iNck 22 (.tmp 21)⟩,xL 23 1 22,xM 24 1,xM 25 1,xC 26 .add 25 1,⟨some 27,none,iCallL 27 52 [(.tmp 23),(.tmp 24),(.tmp 26)]⟩,⟨some 28,none,iNck 28 (.tmp 20)⟩,xS 1 28 27] [3,6] [3,6]
def Q19r6 : IC:=cReg Try.prog [xA 29 17 3,xS 17 6 29,⟨some 7,none,iMov 7 (.const (.int .i64 0)) true⟩] [6,7] [6]
def lane_Lose : IC:=(cSeq Q19r0 (cSeq Q19r1 (cSeq Q19r2 (cSeq (cSeq Q19r3 Q19c1) (cSeq Q19r5 (cSeq Q19r6 cRet))))))
theorem told_lane_Lose {args r : List D} (hl : args.length = 3) (h : lane_Lose (start args) (fin [(6,some (17,true)),(7,none)] r)) : Told Try.prog 42 args r :=
 told_of follows Try.func42 rfl (an:=[([],[1,2,3,6],[3,6],[]),([(4003,[],[])],[1,2,3,6],[3,6],[]),([(12000,[],[])],[1,3,6,8],[3,6,100001],[2000012]),([],[1,3,6,8,18],[3,6,100001],[17]),([],[6,7],[6],[]),([],[3,6],[3,6],[27]),([],[6,7],[6],[])]) (by kernel_rfl) (by kernel_rfl) (by rw [hl]; decide +kernel) h
def Q23r0 : IC:=cReg Try.prog [xX 3 0,⟨some 6,none,iAlo 6 [zS,zI,zI,zI,zI,zS,zI,zI,zS,zI,zI,zI,zS,zS,zF,zS,zS]⟩,⟨some 7,none,iMov 7 (.const (.int .i64 0)) true⟩] [1,2,3,6] [3,6]
def Q23r1_0 : IC:=cXs Try.prog 3 9 10 24 17 none
def Q23r1_1 : IC:=cReg Try.prog [] [1,2,3,6] [3,6]
def Q23r1 : IC:=(cSeq Q23r1_0 Q23r1_1)
def Q23r2_0 : IC:=cLe
def Q23r2_1 : IC:=cReg Try.prog [xM 11 2,⟨some 12,none,iCallP 12 49 [(.tmp 3),(.tmp 11)]⟩,xT 8 12] [1,3,6,8] [3,6]
def Q23r2 : IC:=(cSeq Q23r2_0 Q23r2_1)
def Q23r3 : IC:=cReg Try.prog [xM 13 8,⟨some 14,none,iNck 14 (.tmp 13)⟩,xL 15 1 14,xM 16 1,⟨some 17,none,iCallL 17 50 [(.tmp 15),(.tmp 16)]⟩,xO 18 17] [1,3,6,8,18] [3,6]
def Q23r4 : IC:=cReg Try.prog [xA 19 17 3,xS 17 6 19,⟨some 7,none,iMov 7 (.const (.int .i64 6)) true⟩] [6,7] [6]
def Q23c1a : IC:=(cSeq Q23r4 cRet)
def Q23c1 : IC:=cCond (.tmp 18) Q23c1a cSkip
def Q23r5 : IC:=cRegD Try.prog [xM 20 8,xM 21 8,⟨some 22,none,iNck 22 (.tmp 21)⟩,xU 23 1 22,xM 24 8,⟨some 25,none,iNck 25 (.tmp 24)⟩,xL 26 1 25,xM 27 1,xI 28 1 26 27,xL 29 1 28,xV1 30 36 29,xV2 31 56 23 30,⟨some 32,none,iNck 32 (.tmp 20)⟩,xS 1 32 31] [[],[],[1],[2,1],[],[4],[5,4],[],[6,7,5,4],[8,6,7,5,4],[9,8,6,7,5,4],[3,10,2,1,9,8,6,7,5,4],[0,1,2,3,4,5,6,7,8,9,10,11],[12,11,0,1,2,3,4,5,6,7,8,9,10]] [3,6] [3,6]
def Q23r6 : IC:=cReg Try.prog [xA 33 17 3,xS 17 6 33,⟨some 7,none,iMov 7 (.const (.int .i64 0)) true⟩] [6,7] [6]
def lane_Twice : IC:=(cSeq Q23r0 (cSeq Q23r1 (cSeq Q23r2 (cSeq (cSeq Q23r3 Q23c1) (cSeq Q23r5 (cSeq Q23r6 cRet))))))
theorem told_lane_Twice {args r : List D} (hl : args.length = 3) (h : lane_Twice (start args) (fin [(6,some (17,true)),(7,none)] r)) : Told Try.prog 43 args r :=
 told_of follows Try.func43 rfl (an:=[([],[1,2,3,6],[3,6],[]),([(4003,[],[])],[1,2,3,6],[3,6],[]),([(12000,[],[])],[1,3,6,8],[3,6],[2000012]),([],[1,3,6,8,18],[3,6],[17]),([],[6,7],[6],[]),([],[3,6],[3,6],[23]),([],[6,7],[6],[])]) (by kernel_rfl) (by kernel_rfl) (by rw [hl]; decide +kernel) h
def Q18r0 : IC:=cReg Try.prog [xX 3 0,⟨some 6,none,iAlo 6 [zS,zI,zI,zI,zI,zS,zI,zI,zS,zI,zI,zI,zS,zS,zF,zS,zS]⟩,⟨some 7,none,iMov 7 (.const (.int .i64 0)) true⟩] [1,2,3,6] [3,6]
def Q18r1_0 : IC:=cXs Try.prog 3 11 12 24 17 none
def Q18r1_1 : IC:=cReg Try.prog [] [1,2,3,6] [3,6]
def Q18r1 : IC:=(cSeq Q18r1_0 Q18r1_1)
def Q18r2_0 : IC:=cLe
def Q18r2_1 : IC:=cReg Try.prog [xM 13 2,⟨some 14,none,iCallP 14 49 [(.tmp 3),(.tmp 13)]⟩,xT 8 14] [1,2,3,6,8] [3,6,100001]
def Q18r2 : IC:=(cSeq Q18r2_0 Q18r2_1)
def Q18r3 : IC:=cReg Try.prog [xM 15 8,⟨some 16,none,iNck 16 (.tmp 15)⟩,xL 17 1 16,xM 18 1,⟨some 19,none,iCallL 19 50 [(.tmp 17),(.tmp 18)]⟩,xO 20 19] [1,2,3,6,8,20] [3,6,100001]
def Q18r4 : IC:=cReg Try.prog [xA 21 17 3,xS 17 6 21,⟨some 7,none,iMov 7 (.const (.int .i64 6)) true⟩] [6,7] [6]
def Q18c1a : IC:=(cSeq Q18r4 cRet)
def Q18c1 : IC:=cCond (.tmp 20) Q18c1a cSkip
def Q18r5 : IC:=cReg Try.prog [xM 23 8,⟨some 24,none,iNck 24 (.tmp 23)⟩,xL 25 1 24,xM 26 1,xI 27 1 25 26,xL 28 1 27,xV1 29 51 28,xM 22 29,xE 30 22 0,xE 31 22 1,⟨some 9,none,iAlo 9 [zI,zI,zI,zI,zS,zS]⟩,xS 6 9 30,xT 10 31] [1,2,3,6,8,9,10] [3,6,9,100001]
def Q18r6 : IC:=cReg Try.prog [xM 32 8,xM 33 8,⟨some 34,none,iNck 34 (.tmp 33)⟩,xL 35 1 34,xM 36 1,xM 37 1,xC 38 .add 37 1,⟨some 39,none,iCallL 39 52 [(.tmp 35),(.tmp 36),(.tmp 38)]⟩,⟨some 40,none,iNck 40 (.tmp 32)⟩,xS 1 40 39] [2,3,6,9,10] [3,6,9]
def Q18r8 : IC:=cReg Try.prog [xM 47 10,xC 48 .neq 47 0,xT 46 48] [2,3,6,9,46] [3,6,9]
def Q18r9 : IC:=cReg Try.prog [xM 50 2,xT 49 50] [3,6,9,49] [3,6,9]
def Q18r10 : IC:=cReg Try.prog [xF 51 0 3,xA 52 7 51,xA 53 6 9,xV2 54 53 52 53,xF 55 0 3,xS 7 55 54] [3,6] [3,6]
def Q18r7 : IC:=cReg Try.prog [xF 41 7 3,xA 42 8 41,xA 43 6 9,xV2 44 54 42 43,xF 45 7 3,xS 8 45 44] [3,6] [3,6]
def Q18c4 : IC:=cCond (.tmp 49) Q18r10 Q18r7
def Q18c3b : IC:=(cSeq Q18r9 Q18c4)
def Q18c3 : IC:=cCond (.tmp 46) cSkip Q18c3b
def Q18b2 : IC:=cBlock 0 (cSeq Q18r8 Q18c3)
def Q18r11 : IC:=cReg Try.prog [xA 56 17 3,xS 17 6 56,⟨some 7,none,iMov 7 (.const (.int .i64 0)) true⟩] [6,7] [6]
def lane_Come : IC:=(cSeq Q18r0 (cSeq Q18r1 (cSeq Q18r2 (cSeq (cSeq Q18r3 Q18c1) (cSeq Q18r5 (cSeq Q18r6 (cSeq Q18b2 (cSeq Q18r11 cRet))))))))
theorem told_lane_Come {args r : List D} (hl : args.length = 3) (h : lane_Come (start args) (fin [(6,some (17,true)),(7,none)] r)) : Told Try.prog 38 args r :=
 told_of follows Try.func38 rfl (an:=[([],[1,2,3,6],[3,6],[]),([(4003,[],[])],[1,2,3,6],[3,6],[]),([(12000,[],[])],[1,2,3,6,8],[3,6,100001],[2000014]),([],[1,2,3,6,8,20],[3,6,100001],[19]),([],[6,7],[6],[]),([],[1,2,3,6,8,9,10],[3,6,9,100001],[]),([],[2,3,6,9,10],[3,6,9],[39]),([],[2,3,6,9,46],[3,6,9],[]),([],[3,6,9,49],[3,6,9],[]),([],[3,6],[3,6],[]),([],[3,6],[3,6],[]),([],[6,7],[6],[])]) (by kernel_rfl) (by kernel_rfl) (by rw [hl]; decide +kernel) h
section
variable {tm : List (Nat × D)} {bx : List (Nat × List D)} {b e : Nat} {p q : List D} {c0 c1 c2 c3 c4 c5 c6 c7 c8 c9 c10 c11 c12 c13 c14 : D}
theorem le_lane16 (hb : b < 100000) (hq : q ≠ []) (hnew : look bx 100001 = none) :
  Le ⟨tm,(b,[c0,c1,c2,c3,c4,c5,c6,c7,c8,c9,c10,c11,c12,c13,c14,xD,xD]) :: bx,[((b,some 15),(e,(1,some p))),((b,some 16),(e,(1,some q)))]⟩
   ⟨tm,(b,[c0,c1,c2,c3,c4,c5,c6,c7,c8,c9,c10,c11,c12,c13,c14,sD 1 p,oD 100001 q.length]) :: (100001,[sD 1 q]) :: (b,[c0,c1,c2,c3,c4,c5,c6,c7,c8,c9,c10,c11,c12,c13,c14,xD,oD 100001 q.length]) :: (b,[c0,c1,c2,c3,c4,c5,c6,c7,c8,c9,c10,c11,c12,c13,c14,xD,xD]) :: bx,[]⟩:=by
 have h1:=le_name (st:=⟨tm,(b,[c0,c1,c2,c3,c4,c5,c6,c7,c8,c9,c10,c11,c12,c13,c14,xD,xD]) :: bx,[((b,some 15),(e,(1,some p))),((b,some 16),(e,(1,some q)))]⟩) (b:=b) (cs:=[c0,c1,c2,c3,c4,c5,c6,c7,c8,c9,c10,c11,c12,c13,c14,xD,xD]) (off:=16) (k:=100001) (e:=e) (z:=1) (es:=q) hb (by simp [look]) (show 16 < 17 by decide) (by simp [lookF]) hq ⟨by decide,by decide⟩ (by simp only [look]; rw [if_neg (by omega)]; exact hnew)
 have e1 : over [c0,c1,c2,c3,c4,c5,c6,c7,c8,c9,c10,c11,c12,c13,c14,xD,xD] 16 [oD 100001 q.length] = [c0,c1,c2,c3,c4,c5,c6,c7,c8,c9,c10,c11,c12,c13,c14,xD,oD 100001 q.length]:=rfl
 have e2 : offP [((b,some 15),(e,(1,some p))),((b,some 16),(e,(1,some q)))] [(b,some 16)] = [((b,some 15),(e,((1,some p) : Pay)))]:=by simp [offP]
 rw [e1,e2] at h1
 have h2:=le_frzH (st:=⟨tm,(100001,[sD 1 q]) :: (b,[c0,c1,c2,c3,c4,c5,c6,c7,c8,c9,c10,c11,c12,c13,c14,xD,oD 100001 q.length]) :: (b,[c0,c1,c2,c3,c4,c5,c6,c7,c8,c9,c10,c11,c12,c13,c14,xD,xD]) :: bx,[((b,some 15),(e,(1,some p)))]⟩) (b:=b) (cs:=[c0,c1,c2,c3,c4,c5,c6,c7,c8,c9,c10,c11,c12,c13,c14,xD,oD 100001 q.length]) (off:=15) (e:=e) (z:=1) (es:=p) hb (by simp only [look]; rw [if_neg (by omega)]; simp) (show 15 < 17 by decide) (by simp [lookF])
 have e3 : over [c0,c1,c2,c3,c4,c5,c6,c7,c8,c9,c10,c11,c12,c13,c14,xD,oD 100001 q.length] 15 [sD 1 p] = [c0,c1,c2,c3,c4,c5,c6,c7,c8,c9,c10,c11,c12,c13,c14,sD 1 p,oD 100001 q.length]:=rfl
 have e4 : offP [((b,some 15),(e,((1,some p) : Pay)))] [(b,some 15)] = []:=by simp [offP]
 rw [e3,e4] at h2
 exact h1.trans h2
theorem le_lane15 (hb : b < 100000) (hp : p ≠ []) (hnew : look bx 100001 = none) :
  Le ⟨tm,(b,[c0,c1,c2,c3,c4,c5,c6,c7,c8,c9,c10,c11,c12,c13,c14,xD,xD]) :: bx,[((b,some 15),(e,(1,some p))),((b,some 16),(e,(1,some q)))]⟩
   ⟨tm,(b,[c0,c1,c2,c3,c4,c5,c6,c7,c8,c9,c10,c11,c12,c13,c14,oD 100001 p.length,sD 1 q]) :: (100001,[sD 1 p]) :: (b,[c0,c1,c2,c3,c4,c5,c6,c7,c8,c9,c10,c11,c12,c13,c14,oD 100001 p.length,xD]) :: (b,[c0,c1,c2,c3,c4,c5,c6,c7,c8,c9,c10,c11,c12,c13,c14,xD,xD]) :: bx,[]⟩:=by
 have h1:=le_name (st:=⟨tm,(b,[c0,c1,c2,c3,c4,c5,c6,c7,c8,c9,c10,c11,c12,c13,c14,xD,xD]) :: bx,[((b,some 15),(e,(1,some p))),((b,some 16),(e,(1,some q)))]⟩) (b:=b) (cs:=[c0,c1,c2,c3,c4,c5,c6,c7,c8,c9,c10,c11,c12,c13,c14,xD,xD]) (off:=15) (k:=100001) (e:=e) (z:=1) (es:=p) hb (by simp [look]) (show 15 < 17 by decide) (by simp [lookF]) hp ⟨by decide,by decide⟩ (by simp only [look]; rw [if_neg (by omega)]; exact hnew)
 have e1 : over [c0,c1,c2,c3,c4,c5,c6,c7,c8,c9,c10,c11,c12,c13,c14,xD,xD] 15 [oD 100001 p.length] = [c0,c1,c2,c3,c4,c5,c6,c7,c8,c9,c10,c11,c12,c13,c14,oD 100001 p.length,xD]:=rfl
 have e2 : offP [((b,some 15),(e,(1,some p))),((b,some 16),(e,(1,some q)))] [(b,some 15)] = [((b,some 16),(e,((1,some q) : Pay)))]:=by simp [offP]
 rw [e1,e2] at h1
 have h2:=le_frzH (st:=⟨tm,(100001,[sD 1 p]) :: (b,[c0,c1,c2,c3,c4,c5,c6,c7,c8,c9,c10,c11,c12,c13,c14,oD 100001 p.length,xD]) :: (b,[c0,c1,c2,c3,c4,c5,c6,c7,c8,c9,c10,c11,c12,c13,c14,xD,xD]) :: bx,[((b,some 16),(e,(1,some q)))]⟩) (b:=b) (cs:=[c0,c1,c2,c3,c4,c5,c6,c7,c8,c9,c10,c11,c12,c13,c14,oD 100001 p.length,xD]) (off:=16) (e:=e) (z:=1) (es:=q) hb (by simp only [look]; rw [if_neg (by omega)]; simp) (show 16 < 17 by decide) (by simp [lookF])
 have e3 : over [c0,c1,c2,c3,c4,c5,c6,c7,c8,c9,c10,c11,c12,c13,c14,oD 100001 p.length,xD] 16 [sD 1 q] = [c0,c1,c2,c3,c4,c5,c6,c7,c8,c9,c10,c11,c12,c13,c14,oD 100001 p.length,sD 1 q]:=rfl
 have e4 : offP [((b,some 16),(e,((1,some q) : Pay)))] [(b,some 16)] = []:=by simp [offP]
 rw [e3,e4] at h2
 exact h1.trans h2
theorem le_laneN (hb : b < 100000) :
  Le ⟨tm,(b,[c0,c1,c2,c3,c4,c5,c6,c7,c8,c9,c10,c11,c12,c13,c14,xD,xD]) :: bx,[((b,some 15),(e,(1,some p))),((b,some 16),(e,(1,some q)))]⟩
   ⟨tm,(b,[c0,c1,c2,c3,c4,c5,c6,c7,c8,c9,c10,c11,c12,c13,c14,sD 1 p,sD 1 q]) :: (b,[c0,c1,c2,c3,c4,c5,c6,c7,c8,c9,c10,c11,c12,c13,c14,sD 1 p,xD]) :: (b,[c0,c1,c2,c3,c4,c5,c6,c7,c8,c9,c10,c11,c12,c13,c14,xD,xD]) :: bx,[((b,some 16),(e,(1,none))),((b,some 15),(e,(1,none)))]⟩:=by
 have h1:=le_openH (st:=⟨tm,(b,[c0,c1,c2,c3,c4,c5,c6,c7,c8,c9,c10,c11,c12,c13,c14,xD,xD]) :: bx,[((b,some 15),(e,(1,some p))),((b,some 16),(e,(1,some q)))]⟩) (b:=b) (cs:=[c0,c1,c2,c3,c4,c5,c6,c7,c8,c9,c10,c11,c12,c13,c14,xD,xD]) (off:=15) (e:=e) (z:=1) (es:=p) hb (by simp [look]) (show 15 < 17 by decide) (by simp [lookF])
 have e1 : over [c0,c1,c2,c3,c4,c5,c6,c7,c8,c9,c10,c11,c12,c13,c14,xD,xD] 15 [sD 1 p] = [c0,c1,c2,c3,c4,c5,c6,c7,c8,c9,c10,c11,c12,c13,c14,sD 1 p,xD]:=rfl
 have e2 : offP [((b,some 15),(e,(1,some p))),((b,some 16),(e,(1,some q)))] [(b,some 15)] = [((b,some 16),(e,((1,some q) : Pay)))]:=by simp [offP]
 rw [e1,e2] at h1
 have h2:=le_openH (st:=⟨tm,(b,[c0,c1,c2,c3,c4,c5,c6,c7,c8,c9,c10,c11,c12,c13,c14,sD 1 p,xD]) :: (b,[c0,c1,c2,c3,c4,c5,c6,c7,c8,c9,c10,c11,c12,c13,c14,xD,xD]) :: bx,[((b,some 15),(e,(1,none))),((b,some 16),(e,(1,some q)))]⟩) (b:=b) (cs:=[c0,c1,c2,c3,c4,c5,c6,c7,c8,c9,c10,c11,c12,c13,c14,sD 1 p,xD]) (off:=16) (e:=e) (z:=1) (es:=q) hb (by simp [look]) (show 16 < 17 by decide) (by simp [lookF])
 have e3 : over [c0,c1,c2,c3,c4,c5,c6,c7,c8,c9,c10,c11,c12,c13,c14,sD 1 p,xD] 16 [sD 1 q] = [c0,c1,c2,c3,c4,c5,c6,c7,c8,c9,c10,c11,c12,c13,c14,sD 1 p,sD 1 q]:=rfl
 have e4 : offP [((b,some 15),(e,((1,none) : Pay))),((b,some 16),(e,(1,some q)))] [(b,some 16)] = [((b,some 15),(e,((1,none) : Pay)))]:=by simp [offP]
 rw [e3,e4] at h2
 exact h1.trans h2
end
set_option maxRecDepth 100000
def Q26r0 : IC:=cReg Try.prog [⟨some 4,none,iMov 4 (.const (.slice none 0 0)) true⟩] [0,1] []
def Q26r1 : IC:=cReg Try.prog [xM 5 0,xN 6 5,xC 7 .geq 6 6] [0,1,7] []
def Q26r2 : IC:=cReg Try.prog [xM 8 0,xT 4 8] [4] []
def Q26c1a : IC:=(cSeq Q26r2 cRet)
def Q26c1 : IC:=cCond (.tmp 7) Q26c1a cSkip
def Q26r3 : IC:=cReg Try.prog [xT 9 0,xM 10 1,xR 11 26 1 10,xW 12 26 1 24 9 11,xT 4 12] [4] []
def lane_join : IC:=(cSeq Q26r0 (cSeq (cSeq Q26r1 Q26c1) (cSeq Q26r3 cRet)))
theorem toldI_lane_join {args r : List D} {x : D} {e : Nat} {z : Pay} (hl : args.length = 1) (h : lane_join ⟨startT (x :: args) 0,[],[((0,none),(e,z))]⟩ (fin [(4,none)] r)) : ToldI Try.prog 56 (x :: args) 0 none e z r :=
 toldI_slot follows Try.func56 rfl (an:=[([],[0,1],[],[]),([],[0,1,7],[],[]),([],[4],[],[]),([],[4],[],[])]) (by kernel_rfl) (by kernel_rfl) (by rw [hl]; decide +kernel) (by rw [fin_eq]; exact h)
def Q25r0 : IC:=cReg Try.prog [⟨some 4,none,iMov 4 (.const (.bool false)) true⟩] [0,1] []
def Q25r1 : IC:=cReg Try.prog [xM 5 1,xC 6 .geq 5 0,xM 7 6,xG 7 true (xM 8 1),xG 7 true (xM 9 0),xG 7 true (xN 10 9),xG 7 true (xB 11 .lss 8 10),xQ 12 7 11,xT 4 12] [4] []
def lane_hasP : IC:=(cSeq Q25r0 (cSeq Q25r1 cRet))
theorem told_lane_hasP {args r : List D} (hl : args.length = 2) (h : lane_hasP (start args) (fin [(4,none)] r)) : Told Try.prog 50 args r :=
 told_of follows Try.func50 rfl (an:=[([],[0,1],[],[]),([],[4],[],[])]) (by kernel_rfl) (by kernel_rfl) (by rw [hl]; decide +kernel) h
def Q24r0 : IC:=cReg Try.prog [⟨some 4,none,iMov 4 (.const (.bool false)) true⟩] [0,1] []
def Q24r1 : IC:=cReg Try.prog [xM 5 1,xC 6 .geq 5 0,xM 7 6,xG 7 true (xM 8 1),xG 7 true (xM 9 0),xG 7 true (xN 10 9),xG 7 true (xB 11 .lss 8 10),xQ 12 7 11,xT 4 12] [4] []
def lane_hasB : IC:=(cSeq Q24r0 (cSeq Q24r1 cRet))
theorem told_lane_hasB {args r : List D} (hl : args.length = 2) (h : lane_hasB (start args) (fin [(4,none)] r)) : Told Try.prog 60 args r :=
 told_of follows Try.func60 rfl (an:=[([],[0,1],[],[]),([],[4],[],[])]) (by kernel_rfl) (by kernel_rfl) (by rw [hl]; decide +kernel) h
set_option maxRecDepth 100000
def Q1r0 : IC:=cReg Try.prog [⟨some 2,none,iMov 2 (.const (.slice none 0 0)) true⟩] [0] []
def Q1r1 : IC:=cReg Try.prog [xM 3 0,⟨some 4,none,iNil 4 true (.tmp 3)⟩] [0,4] []
def Q1r2 : IC:=cReg Try.prog [⟨some 2,none,iMov 2 (.const (.slice none 0 0)) true⟩] [2] []
def Q1c1a : IC:=(cSeq Q1r2 cRet)
def Q1c1 : IC:=cCond (.tmp 4) Q1c1a cSkip
def Q1r3 : IC:=cReg Try.prog [⟨some 5,none,iRow 5 5 1 []⟩,xM 6 0,xW 7 5 1 1 5 6,xT 2 7] [2] []
def bytes_CloneO : IC:=(cSeq Q1r0 (cSeq (cSeq Q1r1 Q1c1) (cSeq Q1r3 cRet)))
theorem toldO_bytes_CloneO {args : List D} {r : D} {e : Nat} {z : Pay} (hl : args.length = 1) (h : bytes_CloneO (start args) (fin1 fun st => ∃ r',look st.tm 2 = some r' ∧ isC r' = true ∧ CVLe r' r ∧ lookF st.fl (2,none) = some (e,z))) : ToldO Try.prog 36 args [r] none e z :=
 toldO_slot follows Try.func36 rfl (an:=[([],[0],[],[]),([],[0,4],[],[]),([],[2],[],[]),([],[2],[],[])]) (by kernel_rfl) rfl (by rw [hl]; decide +kernel) h
set_option maxRecDepth 100000
def Q20r0 : IC:=cReg Try.prog [xX 1 0,⟨some 2,none,iAlo 2 [zS,zI,zI,zI,zI,zS,zI,zI,zS,zI,zI,zI,zS,zS,zF,zS,zS]⟩] [1,2] [1,2]
def Q20r1 : IC:=cRegD Try.prog [xF 3 0 1,xA 4 7 3,xV1 5 33 4,xF 6 7 1,xA 7 8 6,xV1 8 34 7,xF 9 15 1,xL 10 1 9,⟨some 11,none,iCall 11 35 [(.tmp 10),(.func 36)]⟩,xF 12 16 1,xL 13 1 12,⟨some 14,none,iCall 14 35 [(.tmp 13),(.func 36)]⟩,⟨some 15,none,iBld 15 [zS,zI,zI,zI,zI,zS,zI,zI,zS,zI,zI,zI,zS,zS,zF,zS,zS] [(0,7),(7,8),(15,1),(16,1)] [(.tmp 5),(.tmp 8),(.tmp 11),(.tmp 14)]⟩,xS 17 2 15] [[],[0],[1,0],[],[3],[4,2,3,1,0],[],[6],[7,5,6,4,2,3,1,0],[],[9],[10,8,9,7,5,6,4,2,3,1,0],[2,5,8,11,1,0,4,3,7,6,10,9],[12,11,0,1,2,3,4,5,6,7,8,9,10]] [2] [2]
def lane_Own : IC:=(cSeq Q20r0 (cSeq Q20r1 cRet))
theorem told_lane_Own {args r : List D} (hl : args.length = 1) (h : lane_Own (start args) (fin [(2,some (17,true))] r)) : Told Try.prog 24 args r :=
 told_of follows Try.func24 rfl (an:=[([],[1,2],[1,2],[]),([],[2],[2],[])]) (by kernel_rfl) (by kernel_rfl) (by rw [hl]; decide +kernel) h
def Q29r0 : IC:=cReg Try.prog [⟨some 4,none,iMov 4 (.const (.slice none 0 0)) true⟩] [0,1] []
def Q29r1 : IC:=cReg Try.prog [⟨some 5,none,iMov 5 (.const (.slice none 0 0)) true⟩] [0,1,5] []
def Q29r2 : IC:=cReg Try.prog [xM 8 0,xN 9 8,⟨some 10,none,iMov 10 (.const (.int .i64 0)) false⟩] [1,5,8,9,10] []
def Q29r3 : IC:=cReg Try.prog [xB 11 .lss 10 9] [1,5,8,9,10,11] []
def Q29c3 : IC:=cCond (.tmp 11) cSkip (cExit 0)
def Q29r4 : IC:=cReg Try.prog [xI 12 1 8 10,xL 13 1 12,xT 7 13] [1,5,7,8,9,10] []
def Q29r5 : IC:=cReg Try.prog [xT 14 5,xM 15 1,xM 16 7,⟨some 17,none,iCallV 17 Try.prog 15 [(.tmp 16)]⟩,xR 18 26 1 17,xW 19 26 1 24 14 18,xT 5 19] [1,5,8,9,10] []
def Q29b4 : IC:=cBlock 1 (cSeq Q29r4 Q29r5)
def Q29r6 : IC:=cReg Try.prog [xC 20 .add 10 1,xM 10 20] [1,5,8,9,10] []
def Q29l2a : IC:=(cSeq Q29r3 (cSeq Q29c3 (cSeq Q29b4 Q29r6)))
def Q29l2 : IC:=cLoop Q29l2a
def Q29b1 : IC:=cBlock 0 Q29l2
def Q29r7 : IC:=cReg Try.prog [xM 21 5,xT 4 21] [4] []
def list_OwnP : IC:=(cSeq Q29r0 (cSeq Q29r1 (cSeq (cSeq Q29r2 Q29b1) (cSeq Q29r7 cRet))))
theorem told_list_OwnP {args r : List D} (hl : args.length = 2) (h : list_OwnP (start args) (fin [(4,none)] r)) : Told Try.prog 35 args r :=
 told_of follows Try.func35 rfl (an:=[([],[0,1],[],[]),([],[0,1,5],[],[]),([],[1,5,8,9,10],[],[]),([],[1,5,8,9,10,11],[],[]),([],[1,5,7,8,9,10],[],[]),([],[1,5,8,9,10],[],[]),([],[1,5,8,9,10],[],[]),([],[4],[],[])]) (by kernel_rfl) (by kernel_rfl) (by rw [hl]; decide +kernel) h
def Q0r0 : IC:=cReg Try.prog [⟨some 2,none,iMov 2 (.const (.slice none 0 0)) true⟩] [0] []
def Q0r1 : IC:=cReg Try.prog [xM 3 0,⟨some 4,none,iNil 4 true (.tmp 3)⟩] [0,4] []
def Q0r2 : IC:=cReg Try.prog [⟨some 2,none,iMov 2 (.const (.slice none 0 0)) true⟩] [2] []
def Q0c1a : IC:=(cSeq Q0r2 cRet)
def Q0c1 : IC:=cCond (.tmp 4) Q0c1a cSkip
def Q0r3 : IC:=cReg Try.prog [⟨some 5,none,iRow 5 5 1 []⟩,xM 6 0,xW 7 5 1 1 5 6,xT 2 7] [2] []
def bytes_CloneL : IC:=(cSeq Q0r0 (cSeq (cSeq Q0r1 Q0c1) (cSeq Q0r3 cRet)))
theorem told_bytes_CloneL {args r : List D} (hl : args.length = 1) (h : bytes_CloneL (start args) (fin [(2,none)] r)) : Told Try.prog 36 args r :=
 told_of follows Try.func36 rfl (an:=[([],[0],[],[]),([],[0,4],[],[]),([],[2],[],[]),([],[2],[],[])]) (by kernel_rfl) (by kernel_rfl) (by rw [hl]; decide +kernel) h
end Go.Proofs.Ytgaofjiidedcbad.ab
