import Derived.Test.YtgfljlmonaifgabM20
import Derived.Test.YtgfljlmonaifgabProg
import Derived.Test.YtgfljlmonaifgabM38
import Derived.Test.YtgfljlmonaifgabM36
import Derived.ChangeOld
import Derived.SizedLaws
import Derived.Test.YtgfljlmonaifgabM37
set_option maxHeartbeats 8000000
set_option linter.unusedVariables false
set_option linter.unusedSimpArgs false
namespace Go.Proofs.Ytgfljlmonaifgab.ab
set_option maxRecDepth 100000
open Go Go.RowKit
def r6_SameWorld_r0 : IC:=cReg Try.prog [
  ⟨some 2,none,iBox 2 (.tmp 0)⟩,
  ⟨some 3,none,iBox 3 (.tmp 1)⟩,
  ⟨some 4,none,iMov 4 (.const (.bool false)) true⟩] [2,3] [2,3]
def r6_SameWorld_r1 : IC:=cReg Try.prog [
  ⟨some 6,none,iFad 6 1 (.tmp 2)⟩,
  ⟨some 7,none,iLoad 7 1 false (.tmp 6) false⟩,
  ⟨some 8,none,iFad 8 1 (.tmp 3)⟩,
  ⟨some 9,none,iLoad 9 1 false (.tmp 8) false⟩,
  ⟨some 10,none,iBin 10 .neq (.tmp 7) (.tmp 9)⟩,
  ⟨some 11,none,iMov 11 (.tmp 10) false⟩,
  ⟨some 12,some (11,false),iFad 12 0 (.tmp 2)⟩,
  ⟨some 13,some (11,false),iLoad 13 1 false (.tmp 12) false⟩,
  ⟨some 14,some (11,false),iLen 14 false (.tmp 13)⟩,
  ⟨some 15,some (11,false),iFad 15 0 (.tmp 3)⟩,
  ⟨some 16,some (11,false),iLoad 16 1 false (.tmp 15) false⟩,
  ⟨some 17,some (11,false),iLen 17 false (.tmp 16)⟩,
  ⟨some 18,some (11,false),iBin 18 .neq (.tmp 14) (.tmp 17)⟩,
  ⟨some 19,none,iPick 19 (.tmp 11) (.const (.bool true)) (.tmp 18)⟩] [2,3,19] [2,3]
def r6_SameWorld_r2 : IC:=cReg Try.prog [
  ⟨some 4,none,iMov 4 (.const (.bool false)) true⟩] [4] []
def r6_SameWorld_c1a : IC:=(cSeq r6_SameWorld_r2 cRet)
def r6_SameWorld_c1 : IC:=cCond (.tmp 19) r6_SameWorld_c1a cSkip
def r6_SameWorld_r3 : IC:=cReg Try.prog [
  ⟨some 20,none,iFad 20 0 (.tmp 2)⟩,
  ⟨some 21,none,iLoad 21 1 false (.tmp 20) false⟩,
  ⟨some 22,none,iLen 22 false (.tmp 21)⟩,
  ⟨some 23,none,iMov 23 (.const (.int .i64 0)) false⟩] [2,3,22,23] [2,3]
def r6_SameWorld_r4 : IC:=cReg Try.prog [
  ⟨some 24,none,iBin 24 .lss (.tmp 23) (.tmp 22)⟩] [2,3,22,23,24] [2,3]
def r6_SameWorld_c4 : IC:=cCond (.tmp 24) cSkip (cExit 0)
def r6_SameWorld_r5 : IC:=cReg Try.prog [
  ⟨some 25,none,iMov 25 (.tmp 23) false⟩,
  ⟨some 5,none,iMov 5 (.tmp 25) true⟩] [2,3,5,22,23] [2,3]
def r6_SameWorld_r6 : IC:=cRegD Try.prog [
  ⟨some 26,none,iFad 26 0 (.tmp 2)⟩,
  ⟨some 27,none,iLoad 27 1 false (.tmp 26) false⟩,
  ⟨some 28,none,iMov 28 (.tmp 5) false⟩,
  ⟨some 29,none,iIaS 29 17 (.tmp 27) (.tmp 28)⟩,
  ⟨some 30,none,iLoad 30 17 true (.tmp 29) false⟩,
  ⟨some 31,none,iFad 31 0 (.tmp 3)⟩,
  ⟨some 32,none,iLoad 32 1 false (.tmp 31) false⟩,
  ⟨some 33,none,iMov 33 (.tmp 5) false⟩,
  ⟨some 34,none,iIaS 34 17 (.tmp 32) (.tmp 33)⟩,
  ⟨some 35,none,iLoad 35 17 true (.tmp 34) false⟩,
  ⟨some 36,none,iCall 36 33 [(.tmp 30),(.tmp 35)]⟩,
  ⟨some 37,none,iNot 37 (.tmp 36)⟩] [[],[0],[],[1,2,0],[3,1,2,0],[],[5],[],[6,7,5],[8,6,7,5],[4,9,3,1,2,0,8,6,7,5],[10,4,9,3,1,2,0,8,6,7,5]] [2,3,22,23,37] [2,3]
def r6_SameWorld_r7 : IC:=cReg Try.prog [
  ⟨some 4,none,iMov 4 (.const (.bool false)) true⟩] [4] []
def r6_SameWorld_c6a : IC:=(cSeq r6_SameWorld_r7 cRet)
def r6_SameWorld_c6 : IC:=cCond (.tmp 37) r6_SameWorld_c6a cSkip
def r6_SameWorld_b5 : IC:=cBlock 1 (cSeq r6_SameWorld_r5 (cSeq r6_SameWorld_r6 r6_SameWorld_c6))
def r6_SameWorld_r8 : IC:=cReg Try.prog [
  ⟨some 38,none,iBin 38 .add (.tmp 23) (.const (.int .i64 1))⟩,
  ⟨some 23,none,iMov 23 (.tmp 38) false⟩] [2,3,22,23] [2,3]
def r6_SameWorld_l3a : IC:=(cSeq r6_SameWorld_r4 (cSeq r6_SameWorld_c4 (cSeq r6_SameWorld_b5 r6_SameWorld_r8)))
def r6_SameWorld_l3 : IC:=cLoop r6_SameWorld_l3a
def r6_SameWorld_b2 : IC:=cBlock 0 r6_SameWorld_l3
def r6_SameWorld_r9 : IC:=cReg Try.prog [
  ⟨some 4,none,iMov 4 (.const (.bool true)) true⟩] [4] []
def r6_SameWorld : IC:=(cSeq r6_SameWorld_r0 (cSeq (cSeq r6_SameWorld_r1 r6_SameWorld_c1) (cSeq (cSeq r6_SameWorld_r3 r6_SameWorld_b2) (cSeq r6_SameWorld_r9 cRet))))
theorem told_r6_SameWorld {args r : List D} (hl : args.length = 2) (h : r6_SameWorld (start args) (fin [(4,none)] r)) : Told Try.prog 51 args r :=
 told_of follows Try.func51 rfl (an:=[([],[2,3],[2,3],[]),([],[2,3,19],[2,3],[]),([],[4],[],[]),([],[2,3,22,23],[2,3],[]),([],[2,3,22,23,24],[2,3],[]),([],[2,3,5,22,23],[2,3],[]),([],[2,3,22,23,37],[2,3],[]),([],[4],[],[]),([],[2,3,22,23],[2,3],[]),([],[4],[],[])]) (by kernel_rfl) (by kernel_rfl) (by rw [hl]; decide +kernel) h
open mth
def swSt (w : Wd) (k : Nat) : St:=⟨[(2,pD 2 0),(3,pD 3 0),(22,vI w.lanes.length),(23,vI k)],[(2,encWd w),(3,encWd w)],[]⟩
theorem sameW_told (w : Wd) (hn : w.lanes.length ≤ 3) (hg : ∀ l ∈ w.lanes,GoodL l) : Told Try.prog 51 [aD (encWd w),aD (encWd w)] [vB true]:=by
 refine told_r6_SameWorld rfl ?_
 have z1 : (w.ticks != w.ticks) = false:=bne_self_eq_false _
 have z2 : ((w.lanes.length : Int) != (w.lanes.length : Int)) = false:=bne_self_eq_false _
 simp only [encWd]
 refine wk (an3 @z1 @z2 @len_ll) ?_
 refine aw_loop (fun m st => ∃ k : Nat,k ≤ w.lanes.length ∧ m = w.lanes.length - k ∧ st = swSt w k) w.lanes.length (swSt w 0) (Le.refl _) ⟨0,by omega,by omega,rfl⟩ ?_
 rintro m st ⟨k,hk,hm,rfl⟩
 by_cases hlt : k < w.lanes.length
 ·obtain ⟨x,hx⟩ : ∃ x,w.lanes[k]? = some x:=⟨w.lanes[k],List.getElem?_eq_getElem hlt⟩
  have g1 : (k : Int) < (w.lanes.length : Int):=by omega
  have g2 : (0 : Int) ≤ (k : Int):=by omega
  have g3:=at_ll hx
  have g4 : inR .i64 ((k : Int) + 1) = true:=inR_of (by omega)
  have h1:=sameLn_good (hg x (List.mem_of_getElem? hx))
  have hnx : Next (fun m st => ∃ k : Nat,k ≤ w.lanes.length ∧ m = w.lanes.length - k ∧ st = swSt w k) m (swSt w (k + 1)):=⟨w.lanes.length - (k + 1),_,by omega,Le.refl _,k + 1,by omega,rfl,rfl⟩
  generalize (fun m st => ∃ k : Nat,k ≤ w.lanes.length ∧ m = w.lanes.length - k ∧ st = swSt w k) = J at *
  simp only [swSt,encWd,encLn,Int.natCast_add,Int.cast_ofNat_Int] at g3 h1 hnx ⊢
  refine wk (an5 @g1 @g2 @g3 @len_ll @Int.toNat_natCast) ?_
  refine cd [[vB true]] (an6 @g1 @g2 @g3 @len_ll @Int.toNat_natCast Bool.not_true) ?_ ?_
  ·exact obl_cons h1 obl_nil
  refine wk (an2 @g4 Bool.not_true) ?_
  exact hnx
 ·have : k = w.lanes.length:=by omega
  subst this
  have g1 : ¬ (w.lanes.length : Int) < (w.lanes.length : Int):=by omega
  simp only [swSt,encWd]
  refine wk @g1 ?_
  exact ValsLe.refl _
theorem sameW_good {w : Wd} (h : GoodW w) : Told Try.prog 51 [aD (encWd w),aD (encWd w)] [vB true]:=sameW_told w h.n.2 h.l
theorem refNew_not (n : Int) (h : n < 1 ∨ 3 < n) : Told Try.prog 50 [vI n] [aD (encWd ⟨[],0⟩),vI 3]:=by
 refine told_r6_NewQ rfl ?_
 simp only [encWd,encLl,List.map_nil]
 by_cases h1 : n < 1
 ·refine wk @h1 ?_
  repeat' (first | exact vals_nil | exact row_nil | exact es_nil | exact CVLe.refl _ | exact LfLe.refl _ | exact LfLe.nil _ | exact EsLe.refl _ | refine vals_cons ?_ ?_ | refine row_cons ?_ ?_ | refine es_cons ?_ ?_ | refine EsLe.app ?_ ?_ | refine CVLe.row ?_ | refine CVLe.leafV ?_ | refine CVLe.leafS ?_ | refine LfLe.s ?_)
 ·have h2 : 3 < n:=by omega
  refine wk (an2 @h1 @h2) ?_
  repeat' (first | exact vals_nil | exact row_nil | exact es_nil | exact CVLe.refl _ | exact LfLe.refl _ | exact LfLe.nil _ | exact EsLe.refl _ | refine vals_cons ?_ ?_ | refine row_cons ?_ ?_ | refine es_cons ?_ ?_ | refine EsLe.app ?_ ?_ | refine CVLe.row ?_ | refine CVLe.leafV ?_ | refine CVLe.leafS ?_ | refine LfLe.s ?_)
set_option maxRecDepth 100000
def w9_WorldTells_r0 : IC:=cReg Try.prog [
  ⟨some 5,none,iBox 5 (.tmp 2)⟩,
  ⟨some 6,none,iMov 6 (.const (.bool false)) true⟩] [0,1,5] [5]
def w9_WorldTells_r1 : IC:=cReg Try.prog [
  ⟨some 16,none,iMov 16 (.tmp 0) false⟩,
  ⟨some 17,none,iCall 17 49 [(.tmp 16)]⟩,
  ⟨some 15,none,iMov 15 (.tmp 17) false⟩,
  ⟨some 18,none,iExt 18 (.tmp 15) 0⟩,
  ⟨some 19,none,iExt 19 (.tmp 15) 1⟩,
  ⟨some 7,none,iAlo 7 [vD (.slice none 0 0),vD (.int .i64 0)]⟩,
  ⟨none,none,iStor 2 (.tmp 7) (.tmp 18)⟩,
  ⟨some 8,none,iMov 8 (.tmp 19) true⟩] [0,1,5,7,8] [5,7]
def w9_WorldTells_r2 : IC:=cReg Try.prog [
  ⟨some 21,none,iMov 21 (.tmp 0) false⟩,
  ⟨some 22,none,iCall 22 50 [(.tmp 21)]⟩,
  ⟨some 20,none,iMov 20 (.tmp 22) false⟩,
  ⟨some 23,none,iExt 23 (.tmp 20) 0⟩,
  ⟨some 24,none,iExt 24 (.tmp 20) 1⟩,
  ⟨some 9,none,iAlo 9 [vD (.slice none 0 0),vD (.int .i64 0)]⟩,
  ⟨none,none,iStor 2 (.tmp 9) (.tmp 23)⟩,
  ⟨some 10,none,iMov 10 (.tmp 24) true⟩] [0,1,5,7,8,9,10] [5,7,9]
def w9_WorldTells_r3 : IC:=cReg Try.prog [
  ⟨some 25,none,iMov 25 (.tmp 8) false⟩,
  ⟨some 26,none,iMov 26 (.tmp 10) false⟩,
  ⟨some 27,none,iBin 27 .neq (.tmp 25) (.tmp 26)⟩,
  ⟨some 28,none,iMov 28 (.tmp 27) false⟩,
  ⟨some 29,some (28,false),iLoad 29 2 true (.tmp 7) false⟩,
  ⟨some 30,some (28,false),iLoad 30 2 true (.tmp 9) false⟩,
  ⟨some 31,some (28,false),iCall 31 51 [(.tmp 29),(.tmp 30)]⟩,
  ⟨some 32,some (28,false),iNot 32 (.tmp 31)⟩,
  ⟨some 33,none,iPick 33 (.tmp 28) (.const (.bool true)) (.tmp 32)⟩] [0,1,5,10,33] [5]
def w9_WorldTells_r4 : IC:=cReg Try.prog [
  ⟨some 6,none,iMov 6 (.const (.bool false)) true⟩] [6] []
def w9_WorldTells_c1a : IC:=(cSeq w9_WorldTells_r4 cRet)
def w9_WorldTells_c1 : IC:=cCond (.tmp 33) w9_WorldTells_c1a cSkip
def w9_WorldTells_r5 : IC:=cReg Try.prog [
  ⟨some 34,none,iMov 34 (.tmp 10) false⟩,
  ⟨some 35,none,iBin 35 .neq (.tmp 34) (.const (.int .i64 0))⟩] [0,1,5,35] [5]
def w9_WorldTells_r6 : IC:=cReg Try.prog [
  ⟨some 6,none,iMov 6 (.const (.bool true)) true⟩] [6] []
def w9_WorldTells_c2a : IC:=(cSeq w9_WorldTells_r6 cRet)
def w9_WorldTells_c2 : IC:=cCond (.tmp 35) w9_WorldTells_c2a cSkip
def w9_WorldTells_r7 : IC:=cReg Try.prog [
  ⟨some 37,none,iMov 37 (.tmp 0) false⟩,
  ⟨some 38,none,iMov 38 (.tmp 1) false⟩,
  ⟨some 39,none,iCall 39 43 [(.tmp 37),(.tmp 38)]⟩,
  ⟨some 36,none,iMov 36 (.tmp 39) false⟩,
  ⟨some 40,none,iExt 40 (.tmp 36) 0⟩,
  ⟨some 41,none,iExt 41 (.tmp 36) 1⟩,
  ⟨some 11,none,iAlo 11 [vD (.slice none 0 0),vD (.int .i64 0)]⟩,
  ⟨none,none,iStor 2 (.tmp 11) (.tmp 40)⟩,
  ⟨some 12,none,iMov 12 (.tmp 41) true⟩] [5,11] [5,11]
def w9_WorldTells_r8 : IC:=cReg Try.prog [
  ⟨some 43,none,iLoad 43 2 true (.tmp 11) false⟩,
  ⟨some 44,none,iLoad 44 7 true (.tmp 5) false⟩,
  ⟨some 45,none,iCall 45 52 [(.tmp 43),(.tmp 44)]⟩,
  ⟨some 42,none,iMov 42 (.tmp 45) false⟩,
  ⟨some 46,none,iExt 46 (.tmp 42) 0⟩,
  ⟨some 47,none,iExt 47 (.tmp 42) 1⟩,
  ⟨some 13,none,iAlo 13 [vD (.slice none 0 0),vD (.int .i64 0)]⟩,
  ⟨none,none,iStor 2 (.tmp 13) (.tmp 46)⟩,
  ⟨some 8,none,iMov 8 (.tmp 47) true⟩] [5,8,11,13] [5,11,13]
def w9_WorldTells_r9 : IC:=cReg Try.prog [
  ⟨some 49,none,iLoad 49 2 true (.tmp 11) false⟩,
  ⟨some 50,none,iLoad 50 7 true (.tmp 5) false⟩,
  ⟨some 51,none,iCall 51 53 [(.tmp 49),(.tmp 50)]⟩,
  ⟨some 48,none,iMov 48 (.tmp 51) false⟩,
  ⟨some 52,none,iExt 52 (.tmp 48) 0⟩,
  ⟨some 53,none,iExt 53 (.tmp 48) 1⟩,
  ⟨some 14,none,iAlo 14 [vD (.slice none 0 0),vD (.int .i64 0)]⟩,
  ⟨none,none,iStor 2 (.tmp 14) (.tmp 52)⟩,
  ⟨some 10,none,iMov 10 (.tmp 53) true⟩] [8,10,11,13,14] [11,13,14]
def w9_WorldTells_r10 : IC:=cRegD Try.prog [
  ⟨some 54,none,iMov 54 (.tmp 8) false⟩,
  ⟨some 55,none,iMov 55 (.tmp 10) false⟩,
  ⟨some 56,none,iBin 56 .eql (.tmp 54) (.tmp 55)⟩,
  ⟨some 57,none,iMov 57 (.tmp 56) false⟩,
  ⟨some 58,some (57,true),iLoad 58 2 true (.tmp 13) false⟩,
  ⟨some 59,some (57,true),iLoad 59 2 true (.tmp 14) false⟩,
  ⟨some 60,some (57,true),iCall 60 51 [(.tmp 58),(.tmp 59)]⟩,
  ⟨some 61,none,iPick 61 (.tmp 57) (.tmp 60) (.const (.bool false))⟩,
  ⟨some 62,none,iMov 62 (.tmp 61) false⟩,
  ⟨some 63,some (62,true),iLoad 63 2 true (.tmp 11) false⟩,
  ⟨some 64,some (62,true),iCall 64 54 [(.tmp 63)]⟩,
  ⟨some 65,some (62,true),iLoad 65 2 true (.tmp 11) false⟩,
  ⟨some 66,some (62,true),iCall 66 51 [(.tmp 64),(.tmp 65)]⟩,
  ⟨some 67,none,iPick 67 (.tmp 62) (.tmp 66) (.const (.bool false))⟩,
  ⟨some 6,none,iMov 6 (.tmp 67) true⟩] [[],[],[0,1],[2,0,1],[3,2,0,1],[3,2,0,1],[4,5,3,2,0,1],[3,6,2,0,1,4,5],[7,6,3,2,0,1,4,5],[8,7,6,3,2,0,1,4,5],[9,8,7,6,3,2,0,1,4,5],[8,7,6,3,2,0,1,4,5],[10,11,8,9,7,6,3,2,0,1,4,5],[8,12,7,6,3,2,0,1,4,5,10,11,9],[13,12,0,1,2,3,4,5,6,7,8,9,10,11]] [6] []
def w9_WorldTells : IC:=(cSeq w9_WorldTells_r0 (cSeq w9_WorldTells_r1 (cSeq w9_WorldTells_r2 (cSeq (cSeq w9_WorldTells_r3 w9_WorldTells_c1) (cSeq (cSeq w9_WorldTells_r5 w9_WorldTells_c2) (cSeq w9_WorldTells_r7 (cSeq w9_WorldTells_r8 (cSeq w9_WorldTells_r9 (cSeq w9_WorldTells_r10 cRet)))))))))
theorem told_w9_WorldTells {args r : List D} (hl : args.length = 3) (h : w9_WorldTells (start args) (fin [(6,none)] r)) : Told Try.prog 14 args r :=
 told_of follows Try.func14 rfl (an:=[([],[0,1,5],[5],[]),([],[0,1,5,7,8],[5,7],[]),([],[0,1,5,7,8,9,10],[5,7,9],[]),([],[0,1,5,10,33],[5],[]),([],[6],[],[]),([],[0,1,5,35],[5],[]),([],[6],[],[]),([],[5,11],[5,11],[]),([],[5,8,11,13],[5,11,13],[]),([],[8,10,11,13,14],[11,13,14],[]),([],[6],[],[])]) (by kernel_rfl) (by kernel_rfl) (by rw [hl]; decide +kernel) h
theorem worldTells_not (hN : CWNew 49) (n : Int) (hn : n < 1 ∨ 3 < n) (l : List Sp) (s : Sp) : Told Try.prog 14 [vI n,sD 7 (encSl l),aD (encSp s)] [vB true]:=by
 refine told_w9_WorldTells rfl ?_
 have h1:=hN.2 n hn
 have h2:=refNew_not n hn
 have h3:=sameW_told ⟨[],0⟩ (by decide) (by simp)
 rw [show encWd ⟨[],0⟩ = [sD 17 [],vI 0] from rfl] at h1 h2 h3
 simp only [encSp]
 refine wk0 ?_
 refine cg0 [[aD [sD 17 [],vI 0],vI 3]] ?_ ?_
 ·exact obl_cons h1 obl_nil
 refine wk0 ?_
 refine cg0 [[aD [sD 17 [],vI 0],vI 3]] ?_ ?_
 ·exact obl_cons h2 obl_nil
 refine wk0 ?_
 refine cg [[vB true]] Bool.not_true ?_ ?_
 ·exact obl_cons h3 obl_nil
 refine wk0 ?_
 exact ValsLe.refl _
theorem worldTells_good (hS : CSpoilR 38) (hO : CWOwn 54) (hN : CWNew 49) (hD : CWDo 52) (n : Nat) (hn : 1 ≤ n ∧ n ≤ 3) (l : List Sp) (hl : l.length ≤ 9223372036854775807) (s : Sp) : Told Try.prog 14 [vI n,sD 7 (encSl l),aD (encSp s)] [vB true]:=by
 refine told_w9_WorldTells rfl ?_
 have h1:=hN.1 n hn.1 hn.2
 have h2:=new_told n hn
 have h3:=sameW_good (good_new hn)
 have h4:=play_told hS n hn l hl
 obtain ⟨hw,hk,_⟩:=good_run (good_new hn) l 160
 have ht0 : (newW n).ticks = 0:=rfl
 generalize newW n = w0 at *
 generalize (runW w0 (l.take 160)).2 = es at *
 generalize (runW w0 (l.take 160)).1 = w at *
 have h5:=hD w s hw (by rw [ht0] at hk; omega)
 have h6:=do_told hS w hw (by rw [ht0] at hk; omega) s
 have h7:=sameW_good (hw.step s)
 have h8:=hO w hw
 have h9:=sameW_good hw
 generalize doW w s = R at *
 obtain ⟨w',e⟩:=R
 have z1 : (e == e) = true:=beq_self_eq_true e
 simp only [encWd,encSp] at h1 h2 h3 h4 h5 h6 h7 h8 h9 ⊢
 refine wk0 ?_
 refine cg [[aD (encWd w0),vI 0]] @encWd.eq_1 ?_ ?_
 ·exact obl_cons h1 obl_nil
 refine wk0 ?_
 refine cg [[aD (encWd w0),vI 0]] @encWd.eq_1 ?_ ?_
 ·exact obl_cons h2 obl_nil
 refine wk0 ?_
 refine cg [[vB true]] Bool.not_true ?_ ?_
 ·exact obl_cons h3 obl_nil
 refine wk0 ?_
 refine cg [[aD (encWd w),sD 1 (es.map vI)]] @encWd.eq_1 ?_ ?_
 ·exact obl_cons h4 obl_nil
 refine wk0 ?_
 refine cg [[aD (encWd w'),vI e]] @encWd.eq_1 ?_ ?_
 ·exact obl_cons h5 obl_nil
 refine wk0 ?_
 refine cg [[aD (encWd w'),vI e]] @encWd.eq_1 ?_ ?_
 ·exact obl_cons h6 obl_nil
 refine wk @z1 ?_
 refine cd [[vB true],[aD (encWd w)],[vB true]] (an2 @encWd.eq_1 @z1) ?_ ?_
 ·exact obl_cons h7 (obl_cons h8 (obl_cons h9 obl_nil))
 refine wk0 ?_
 exact ValsLe.refl _
theorem worldTells_told (hS : CSpoilR 38) (hO : CWOwn 54) (hN : CWNew 49) (hD : CWDo 52) (n : Int) (l : List Sp) (hl : l.length ≤ 9223372036854775807) (s : Sp) : Told Try.prog 14 [vI n,sD 7 (encSl l),aD (encSp s)] [vB true]:=by
 by_cases hn : n < 1 ∨ 3 < n
 ·exact worldTells_not hN n hn l s
 ·obtain ⟨q,rfl⟩ : ∃ q : Nat,n = q:=⟨n.toNat,by omega⟩
  exact worldTells_good hS hO hN hD q (by omega) l hl s
end Go.Proofs.Ytgfljlmonaifgab.ab
namespace Go.Proofs.Ytgfljlmonaifgab.worldTells
open Go Go.ChangeShapes Go.WideShapes Go.ChangeAt Go.RowKit
open ab mth
set_option maxRecDepth 100000 in
theorem lifted (hS : CSpoilR 38) (hO : CWOwn 54) (hN : CWNew 49) (hD : CWDo 52) (os : Os) (started : os.Started) (H : Type) (enc : TypeId × Value → H) :
  ReturnsInHanded {} Try.checked os 14 .any (Rows.worldTellsSpec.pre6 enc Try.prog Try.f14 Rows.worldTellsRow.domain false) (Rows.worldTellsSpec.post enc Try.prog Try.f14 false true false false):=by
 refine returnsInHanded_of_change_sized (C:=Try.checked) own started (by kernel_rfl) Try.func14
  (ChangeSpec.witness6 (enc:=enc) (C:=Try.checked) false ⟨#[],#[.int .i64 0,.slice none 0 0,.agg #[.int .i64 0,.int .i64 0,.int .i64 0,.int .i64 0,.bool false,.int .i64 0,.slice none 0 0]],[]⟩ 8 (by kernel_rfl) (by kernel_rfl) (by kernel_rfl) (by kernel_rfl)) ?_
 intro W base args ds gs before hval0 hW0 hcnd hsz0 _
 have hval : ∀ (j : Nat) t v,Try.f14.params[j]? = some t → args[j]? = some v → Value.okWide Try.prog W .any base t v:=hval0
 have hW':=hW0
 obtain ⟨p,q,hA0,hV,rfl,hfz,hnd⟩:=hW0
 have hA : DataW.TrodAll enc Try.prog W 0 (fun _ => true) true Try.f14.params.toList args.toList ds p:=hA0
 rw [Try.params14] at hA hval
 obtain ⟨v0,vs0,d0,ds0,p0,q0,hargs,rfl,rfl,h0,r0⟩:=trodAll_cons hA
 obtain ⟨v1,vs1,d1,ds1,p1,q1,rfl,rfl,rfl,h1,r1⟩:=trodAll_cons r0
 obtain ⟨v2,vs2,d2,ds2,p2,q2,rfl,rfl,rfl,h2,r2⟩:=trodAll_cons r1
 obtain ⟨rfl,rfl,rfl⟩:=trodAll_nil r2
 obtain rfl : args = #[v0,v1,v2]:=by cases args; simp_all
 obtain ⟨rfl,rfl⟩:=trodVars_none hV
 have lt0 : ∀ x ∈ p0,x.block < W.heap.size:=by obtain ⟨m,hm⟩:=h0; exact DataW.trod_lt m _ _ _ hm
 have lt1 : ∀ x ∈ p1,x.block < W.heap.size:=by obtain ⟨m,hm⟩:=h1; exact DataW.trod_lt m _ _ _ hm
 have lt2 : ∀ x ∈ p2,x.block < W.heap.size:=by obtain ⟨m,hm⟩:=h2; exact DataW.trod_lt m _ _ _ hm
 obtain ⟨n0,rfl⟩:=okWide_int Try.underlying3 (hval 0 3 v0 rfl rfl)
 obtain ⟨a1,len1,cap1,rfl⟩:=okWide_slice Try.underlying58 (hval 1 58 v1 rfl rfl)
 obtain ⟨x1,hM1,_,_⟩:=(by obtain ⟨fuel,hf⟩:=h1; exact in_steps hf : ∃ cs : List Sp,CRep (AllOf W) W (sD 7 (encSl cs)) (.slice a1 len1 cap1) ∧ cs.length ≤ Rows.uptoBulk d1 ∧ ∀ c ∈ cs,True)
 have hl1:=hM1.len
 rw [len_sl] at hl1
 obtain ⟨s2,hM2⟩:=arg_step (hval 2 72 v2 rfl rfl) h2
 clear hA0 hval0
 refine ((worldTells_told hS hO hN hD n0 x1 hl1 s2).yes (W:=W) (vs:=[.int .i64 n0,.slice a1 len1 cap1,v2]) (Vals.cons (.inl (CRep.v rfl)) (Vals.cons (.inl hM1) (Vals.cons hM2 Vals.nil)))).mono fun e W' ⟨he,bel⟩ => ?_
 subst he
 exact ⟨_,rfl,_,_,_,[],_,[],hW',trodAll_mk1 (shut_bool Try.underlying4 _),(trodAll_cons_mk (Below.trod laidOut (by kernel_rfl) (of_decide_eq_true (by kernel_rfl)) h0 bel lt0) (trodAll_cons_mk (Below.trod laidOut (by kernel_rfl) (of_decide_eq_true (by kernel_rfl)) h1 bel lt1) (trodAll_cons_mk (Below.trod laidOut (by kernel_rfl) (of_decide_eq_true (by kernel_rfl)) h2 bel lt2) trodAll_mk0))),rfl,bel.frame _,fun h => by cases h⟩
theorem over (hS : CSpoilR 38) (hO : CWOwn 54) (hN : CWNew 49) (hD : CWDo 52) : Rows.worldTellsRow.holds Try.pinned (OpenSpec.ofChange Rows.worldTellsSpec) :=
 OpenClaim.holds_of_wide 14 Try.f14 rfl rfl rfl rfl rfl rfl rfl ⟨rfl,rfl,rfl,rfl,rfl⟩ rfl rfl rfl rfl rfl (by kernel_rfl) Try.func14 (by kernel_rfl)
  (of_decide_eq_true (by kernel_rfl)) (by unfold Func.isWrapper; first | (rw [if_pos (by decide +kernel)]; kernel_rfl) | (rw [if_neg (by decide +kernel)]; exact ⟨rfl,rfl⟩))
  (fun os started H enc _ => lifted hS hO hN hD os started H enc)
end Go.Proofs.Ytgfljlmonaifgab.worldTells
namespace Go.Proofs.Ytgfljlmonaifgab.ab
open Go Go.RowKit
theorem own_repN {base : Nat → Prop} {I : Still} {ρ : Nat → Option Nat} {w : World} {e z : Nat} {es : List D} {u : Value} (h : Own I ρ base w e (z,some es) u) {I1 : Still} (hI : ∀ b j,I b j → I1 b j) (hu : ∀ g j,u.ownBlock = some g → j < es.length * z → I1 g j) : CRep I1 w (sD z es) u:=by
 obtain ⟨n,xs,hrow,_,hh⟩:=h
 obtain ⟨hn,hel⟩:=hh es rfl
 simp only at hrow hel
 subst hn
 rcases hrow.2 with ⟨q1,q2⟩ | ⟨g,cap,cur,q1,_,hg,hnc,hcm,hcs,htk⟩
 ·have : es = []:=List.eq_nil_of_length_eq_zero q2
  subst this; rw [q1]; exact nil_rep z
 ·rw [q1]
  refine CRep.s ⟨fun i j => (xs[i * z + j]?).getD undef,hnc,(fun e => by cases e),hcm,hel.1,fun hne => ⟨g,0,rfl,fun i j hi hj => ?_⟩,fun i j x l hx hl => ?_⟩
  ·have hlt : i * z + j < xs.length:=by rw [hrow.1]; exact cell_in hi hj
   refine ⟨?_,?_⟩
   ·show _ = some ((xs[i * z + j]?).getD undef)
    rw [show 0 + i * z + j = i * z + j by omega,cell_of_row w g _ cur e (0,0) hg,List.getElem?_eq_getElem hlt]
    have h3 : xs[i * z + j]? = cur[i * z + j]?:=by
     rw [← htk,List.getElem?_take,if_pos (cell_in hi hj)]; simp
    rw [← h3,List.getElem?_eq_getElem hlt]; rfl
   ·rw [show 0 + i * z + j = i * z + j by omega]
    exact hu g _ (by rw [q1]; rfl) (cell_in hi hj)
  ·obtain ⟨y,r1,r2⟩:=hel.2.2 i j x l hx hl
   show CRep _ _ l ((xs[i * z + j]?).getD undef)
   rw [r1]
   exact r2.keep hI (fun _ _ _ => rfl)
theorem le_openH {st : St} {b off e z : Nat} {es cs : List D} (hlt : b < 100000) (hb : look st.bx b = some cs) (hoff : off < cs.length) (hf : lookF st.fl (b,some off) = some (e,z,some es)) :
  Le st ⟨st.tm,(b,over cs off [sD z es]) :: st.bx,((b,some off),(e,z,none)) :: offP st.fl [(b,some off)]⟩:=by
 intro base w0 I0 N a w ⟨I,ρ,hr⟩
 obtain ⟨u,hat,hown⟩:=hr.fl b (some off) e (z,some es) hf
 obtain ⟨gb,hgb,hbb,hbox,hnIb⟩:=hr.bx b cs hb
 obtain ⟨us,tyB,hblk,hrowL⟩:=hbox.cells hlt
 have huo : us[off]? = some u:=by
  simp only [At,hgb,Option.bind_some] at hat
  rw [cell_of_row w gb off us.toArray tyB (0,0) hblk] at hat
  simpa using hat
 let I' : Still:=fun k j => I k j ∨ (u.ownBlock = some k ∧ k < w.heap.size ∧ j < es.length * z)
 have hI : ∀ k j,I k j → I' k j:=fun _ _ => .inl
 have hrep : CRep I' w (sD z es) u:=own_repN hown hI (fun k j hk hj => .inr ⟨hk,(own_lt hown k hk).2,hj⟩)
 have hfl : ∀ s o x,lookF (((b,some off),(e,z,none)) :: offP st.fl [(b,some off)]) (s,o) = some x → ((s = b ∧ o = some off) ∧ x = (e,z,none)) ∨ (¬ (s = b ∧ o = some off) ∧ st.F.fl s o = some x):=by
  intro s o x hx
  simp only [lookF] at hx
  split at hx
  ·rename_i hm; cases hx; cases hm; exact .inl ⟨⟨rfl,rfl⟩,rfl⟩
  ·rw [lookF_off] at hx
   split at hx
   ·cases hx
   ·rename_i hm
    simp only [List.mem_singleton,Prod.mk.injEq] at hm
    exact .inr ⟨hm,hx⟩
 have hfl' : ∀ s o x,lookF (((b,some off),(e,z,none)) :: offP st.fl [(b,some off)]) (s,o) = some x → ∃ y,st.F.fl s o = some y:=fun s o x hx => by
  rcases hfl s o x hx with ⟨⟨rfl,rfl⟩,_⟩ | ⟨_,q⟩
  ·exact ⟨_,hf⟩
  ·exact ⟨_,q⟩
 have hρu : ∀ c g,ρ c = some g → u.ownBlock ≠ some g:=fun c g hc hu => by
  obtain ⟨n,xs,_,k2,_⟩:=hown
  exact (k2 g hu).2.2 c hc
 refine ⟨I',ρ,hr.defers,hr.size,fun s v hv => ?_,hr.cap,fun c o' x hx => by obtain ⟨y,q⟩:=hfl' _ _ _ hx; exact hr.flc c o' y q,fun c ds hc => ?_,hr.inj,fun c hc => ?_,fun s o e' z' hx => ?_,fun s o s' o' x x' y y' g' h1 h2 h3 h4 h5 h6 => ?_,fun k j hi => hi.elim (hr.lt k j) (fun q => q.2.1),fun k j hi => hi.elim (hr.sub k j) (fun q => .inr (own_lt hown k q.1).1),hr.below,hr.room,fun k j hi => ⟨hI k j (hr.mon k j hi).1,(hr.mon k j hi).2⟩⟩
 ·obtain ⟨y,q1,q2⟩:=hr.tm s v hv
  exact ⟨y,q1,q2.keep hI (fun _ _ _ h => h) (fun _ _ _ => rfl)⟩
 ·have hc' : look ((b,over cs off [sD z es]) :: st.bx) c = some ds:=hc
  simp only [look] at hc'
  split at hc'
  ·rename_i ebc; cases hc'; subst ebc
   refine ⟨gb,hgb,hbb,.inl ⟨hlt,us,tyB,hblk,by rw [over_len (by simp; omega)]; exact hrowL.1,fun j c' y hj hy => ?_⟩,fun j hj => hj.elim (hnIb j) (fun q => hρu _ _ hgb q.1)⟩
   by_cases hjo : j = off
   ·subst hjo
    have:=over_in (cs:=cs) (ds:=[sD z es]) (off:=j) (j:=0) (by simp; omega) (by simp)
    rw [Nat.add_zero] at this
    rw [this] at hj
    simp at hj; subst hj
    rw [huo] at hy; cases hy
    exact .inl hrep
   ·rw [over_out (by simp; omega) (by simp; omega)] at hj
    exact (hrowL.2 j c' y hj hy).keep hI (fun _ _ _ h => h) (fun _ _ _ => rfl)
  ·obtain ⟨g',q1,q2,q3,q4⟩:=hr.bx c ds hc'
   exact ⟨g',q1,q2,q3.keep hI (fun _ _ _ h => h) (fun _ _ _ => rfl) rfl,fun j hj => hj.elim (q4 j) (fun q => hρu _ _ q1 q.1)⟩
 ·have hc' : look ((b,over cs off [sD z es]) :: st.bx) c = none:=hc
  simp only [look] at hc'
  split at hc'
  ·cases hc'
  ·exact hr.nob c hc'
 ·rcases hfl _ _ _ hx with ⟨⟨rfl,rfl⟩,q⟩ | ⟨n1,q⟩
  ·cases q
   obtain ⟨n,xs,k1,k2,k3⟩:=hown
   obtain ⟨k4,_⟩:=k3 es rfl
   refine ⟨u,hat,n,xs,k1,fun g hg => ⟨(k2 g hg).1,fun j hj hi => ?_,(k2 g hg).2.2⟩,fun es he => by cases he⟩
   rcases hi with hi | hi
   ·exact (k2 g hg).2.1 j (fun q => by cases q) hi
   ·have:=hj rfl; simp only at this; rw [k4] at this; omega
  ·obtain ⟨y,q1,q2⟩:=hr.fl s o e' z' q
   refine ⟨y,q1,own_keep q2 (fun _ _ => rfl) (fun g' j hg' hi => hi.elim id (fun k => absurd (hr.apart s o b (some off) _ _ y u g' q hf q1 hat hg' k.1) n1)) (fun _ _ _ h => h) hI (fun _ _ _ => rfl)⟩
 ·obtain ⟨y1,q1⟩:=hfl' _ _ _ h1
  obtain ⟨y2,q2⟩:=hfl' _ _ _ h2
  exact hr.apart s o s' o' y1 y2 y y' g' q1 q2 h3 h4 h5 h6
end Go.Proofs.Ytgfljlmonaifgab.ab
