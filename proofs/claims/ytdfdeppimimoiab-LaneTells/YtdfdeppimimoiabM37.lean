import Derived.Test.YtdfdeppimimoiabM36
import Derived.Test.YtdfdeppimimoiabM20
import Derived.Test.YtdfdeppimimoiabProg
namespace Go.Proofs.Ytdfdeppimimoiab.ab
set_option linter.unusedVariables false
set_option linter.unusedSimpArgs false
open Go Go.RowKit
open mth
def encSl (l : List Sp) : List D:=l.map fun s => aD (encSp s)
theorem len_sl (l : List Sp) : (encSl l).length = l.length:=by simp [encSl]
theorem at_sl {l : List Sp} {i : Nat} {s : Sp} (h : l[i]? = some s) : (encSl l)[i]? = some (aD [vI s.kind,vI s.tenant,vI s.n,vI s.m,vB s.back,vI s.msg.stream,sD 1 (s.msg.data.map encB)]):=by simp [encSl,h,encSp]
def plSt (l : List Sp) (w : Wd) (es : List Int) (k : Nat) : St :=
 ⟨[(4,pD 4 0),(6,pD 6 0),(8,sD 1 (es.map vI)),(18,sD 7 (encSl l)),(19,vI l.length),(20,vI k)],[(4,[vD (.slice none 0 0),vI 0]),(6,encWd w)],[((8,none),(37,1,none))]⟩
def plJ (n : Nat) (l : List Sp) : Nat → St → Prop:=fun m st => ∃ k : Nat,k ≤ l.length ∧ k ≤ 160 ∧ m = l.length - k ∧ st = plSt l (runW (newW n) (l.take k)).1 (runW (newW n) (l.take k)).2 k
set_option maxHeartbeats 8000000 in
theorem play_told (hS : CSpoilR 37) (n : Nat) (hn : 1 ≤ n ∧ n ≤ 3) (l : List Sp) (hl : l.length ≤ 9223372036854775807) : Told Try.prog 42 [vI n,sD 7 (encSl l)] [aD (encWd (runW (newW n) (l.take 160)).1),sD 1 ((runW (newW n) (l.take 160)).2.map vI)]:=by
 refine told_r6_Play rfl ?_
 have hN:=new_told n hn
 have hgood:=good_run (good_new hn) l
 simp only [encWd] at hN
 refine wk0 ?_
 refine cg [[aD (encWd (newW n)),vI 0]] @encWd.eq_1 ?_ ?_
 ·exact obl_cons hN obl_nil
 refine wk @len_sl ?_
 refine aw_loop (plJ n l) l.length (plSt l (newW n) [] 0) ?_ ⟨0,by omega,by omega,rfl,rfl⟩ ?_
 ·exact (Le.nilS 8 37 1 rfl).trans (Le.keep (lv:=[4,6,8,18,19,20]) (lb:=[4,6]) (by simp only [ev0,ev1,ev2,look,lookF,cellsFrom,offT,offP,List.tail_nil,List.length_nil,Int.cast_ofNat_Int,Nat.reduceEqDiff,Nat.reduceAdd,Nat.reduceMul,Nat.reduceLeDiff,Nat.reduceLT,↓reduceIte,reduceCtorEq,Int.reduceBEq,Int.reduceBNe,Int.reduceLT,Int.reduceLE,Int.reduceToNat]; rfl))
 rintro m st ⟨k,hk,hk160,hm,rfl⟩
 obtain ⟨hw,htk,hel⟩:=hgood k
 by_cases hlt : k < l.length
 ·obtain ⟨s,hs⟩ : ∃ s,l[k]? = some s:=⟨l[k],List.getElem?_eq_getElem hlt⟩
  have g1 : (k : Int) < (l.length : Int):=by omega
  have g2 : (0 : Int) ≤ (k : Int):=by omega
  have g3:=at_sl hs
  have g4 : inR .i64 ((k : Int) + 1) = true:=inR_of (by omega)
  by_cases h160 : k = 160
  ·subst h160
   have g5 : ((160 : Int) == 160) = true:=rfl
   have g6 : (160 : Int) < (l.length : Int):=by omega
   have g7 : (0 : Int) ≤ 160:=by omega
   have e160 : ((160 : Nat) : Int) = 160:=rfl
   generalize plJ n l = J at *
   generalize (runW (newW n) (l.take 160)).1 = w at *
   generalize (runW (newW n) (l.take 160)).2 = es at *
   simp only [plSt,encWd,e160]
   refine wk (an5 @g5 @g6 @g7 @g3 @len_sl) ?_
   exact ValsLe.refl _
  ·have g5 : ((k : Int) == 160) = false:=by rw [beq_eq_false_iff_ne]; omega
   have ht0 : (newW n).ticks = 0:=rfl
   have hD:=do_told hS _ hw (by rw [ht0] at htk; omega) s
   have hnx : Next (plJ n l) m (plSt l (doW (runW (newW n) (l.take k)).1 s).1 ((runW (newW n) (l.take k)).2 ++ [(doW (runW (newW n) (l.take k)).1 s).2]) (k + 1)):=by
    refine ⟨l.length - (k + 1),_,by omega,Le.refl _,k + 1,by omega,by omega,rfl,?_⟩
    rw [List.take_add_one,hs,Option.toList_some,runW_snoc]
   generalize plJ n l = J at *
   generalize (runW (newW n) (l.take k)).1 = w at *
   generalize (runW (newW n) (l.take k)).2 = es at *
   generalize doW w s = R at *
   obtain ⟨w',e⟩:=R
   have b1 : (es.length + 1) * 8 ≤ 140737488355328:=by omega
   simp only [plSt,encWd,encSp,Int.natCast_add,Int.cast_ofNat_Int,List.map_append,List.map_cons,List.map_nil] at hD hnx ⊢
   refine wk (an6 @g1 @g2 @g3 @g5 @len_sl @Int.toNat_natCast) ?_
   refine cg [[aD (encWd w'),vI e]] (an7 @encWd.eq_1 @g1 @g2 @g3 @g5 @len_sl @Int.toNat_natCast) ?_ ?_
   ·exact obl_cons hD obl_nil
   refine wk (an3 @g4 @b1 @zmap) ?_
   exact hnx
 ·have : k = l.length:=by omega
  subst this
  have g1 : ¬ (l.length : Int) < (l.length : Int):=by omega
  have e1 : l.take 160 = l.take l.length:=by rw [List.take_of_length_le (by omega),List.take_of_length_le (Nat.le_refl _)]
  rw [e1]
  generalize plJ n l = J at *
  generalize (runW (newW n) (l.take l.length)).1 = w at *
  generalize (runW (newW n) (l.take l.length)).2 = es at *
  simp only [plSt,encWd]
  refine wk @g1 ?_
  exact ValsLe.refl _
end Go.Proofs.Ytdfdeppimimoiab.ab
namespace Go.Proofs.Ytdfdeppimimoiab.ab
set_option linter.unusedSimpArgs false
set_option linter.unusedVariables false
open Go Go.ChangeShapes Go.WideShapes Go.RowKit
open mth
theorem cellsSp : Try.prog.cellsOf 72 = 7:=by kernel_rfl
theorem cells4 : Try.prog.cellsOf 4 = 1:=by kernel_rfl
section
variable {H : Type} {enc : TypeId × Value → H} {W : World}
set_option maxRecDepth 100000 in
theorem in_step {n : Nat} {cs : List Value} {y : DataW H × List MemPlace} (hf : DataW.trod enc Try.prog W 0 (fun _ => true) true n 72 cs = some y) (hl7 : cs.length = 7) :
  ∃ s : Sp,Row (AllOf W) W (encSp s) cs ∧ True:=by
 obtain ⟨v0,v1,v2,v3,v4,v5,v6,rfl⟩ : ∃ v0 v1 v2 v3 v4 v5 v6,cs = [v0,v1,v2,v3,v4,v5,v6]:=by
  match cs,hl7 with
  | [v0,v1,v2,v3,v4,v5,v6],_ => exact ⟨v0,v1,v2,v3,v4,v5,v6,rfl⟩
 obtain ⟨ys,n',_,hx,hl,hlen,hfs⟩:=DataW.trod_struct Try.underlying72 hf
 have f0:=hfs 0 _ rfl
 have f1:=hfs 1 _ rfl
 have f2:=hfs 2 _ rfl
 have f3:=hfs 3 _ rfl
 have f4:=hfs 4 _ rfl
 have f5:=hfs 5 _ rfl
 obtain ⟨y0,y1,y2,y3,y4,y5,rfl⟩ : ∃ y0 y1 y2 y3 y4 y5,ys = [y0,y1,y2,y3,y4,y5]:=by
  match ys,hlen with
  | [y0,y1,y2,y3,y4,y5],_ => exact ⟨y0,y1,y2,y3,y4,y5,rfl⟩
 simp [cells3,cells4,cellsMs] at f0 f1 f2 f3 f4 f5
 obtain ⟨a0,h0,_,k0⟩:=DataW.trod_int Try.underlying3 f0
 obtain ⟨a1,h1,_,k1⟩:=DataW.trod_int Try.underlying3 f1
 obtain ⟨a2,h2,_,k2⟩:=DataW.trod_int Try.underlying3 f2
 obtain ⟨a3,h3,_,k3⟩:=DataW.trod_int Try.underlying3 f3
 obtain ⟨a4,h4,_⟩:=DataW.trod_bool Try.underlying4 f4
 simp at h0 h1 h2 h3 h4
 subst h0 h1 h2 h3 h4
 obtain ⟨m,hm,_⟩:=in_msg f5 rfl
 exact ⟨⟨a0,a1,a2,a3,a4,m⟩,(Row.single (CRep.v rfl)).app ((Row.single (CRep.v rfl)).app ((Row.single (CRep.v rfl)).app ((Row.single (CRep.v rfl)).app ((Row.single (CRep.v rfl)).app hm)))),trivial⟩
theorem in_steps {n : Nat} {v : Value} {y : DataW H × List MemPlace} (hf : DataW.trod enc Try.prog W 0 (fun _ => true) true n 58 [v] = some y) :
  ∃ cs : List Sp,CRep (AllOf W) W (sD 7 (encSl cs)) v ∧ cs.length ≤ Rows.uptoBulk y.1 ∧ ∀ c ∈ cs,True :=
 in_slice (α:=Sp) (encA:=fun c => aD (encSp c)) (Pa:=fun c => True) (size:=7) Try.underlying58 cellsSp (by omega) (fun n cs' y h hl => in_step h hl) hf
end
end Go.Proofs.Ytdfdeppimimoiab.ab
namespace Go.Proofs.Ytdfdeppimimoiab.ab
set_option linter.unusedSimpArgs false
set_option linter.unusedVariables false
set_option maxRecDepth 100000
open Go Go.RowKit
def w7_laneOf_r0 : IC:=cReg Try.prog [
  ⟨some 4,none,iAlo 4 [vD (.slice none 0 0),vD (.int .i64 0),vD (.int .i64 0),vD (.int .i64 0),vD (.int .i64 0),vD (.slice none 0 0),vD (.int .i64 0),vD (.int .i64 0),vD (.slice none 0 0),vD (.int .i64 0),vD (.int .i64 0),vD (.int .i64 0),vD (.slice none 0 0),vD (.slice none 0 0),vD (.bool false),vD (.slice none 0 0),vD (.slice none 0 0)]⟩,
  ⟨some 5,none,iMov 5 (.const (.bool false)) true⟩] [0,1,4] [4]
def w7_laneOf_r1 : IC:=cReg Try.prog [
  ⟨some 8,none,iMov 8 (.tmp 0) false⟩,
  ⟨some 9,none,iBin 9 .lss (.tmp 8) (.const (.int .i64 1))⟩,
  ⟨some 10,none,iMov 10 (.tmp 9) false⟩,
  ⟨some 11,some (10,false),iMov 11 (.tmp 0) false⟩,
  ⟨some 12,some (10,false),iBin 12 .gtr (.tmp 11) (.const (.int .i64 3))⟩,
  ⟨some 13,none,iPick 13 (.tmp 10) (.const (.bool true)) (.tmp 12)⟩] [0,1,4,13] [4]
def w7_laneOf_r2 : IC:=cReg Try.prog [
  ⟨some 14,none,iBld 14 [vD (.slice none 0 0),vD (.int .i64 0),vD (.int .i64 0),vD (.int .i64 0),vD (.int .i64 0),vD (.slice none 0 0),vD (.int .i64 0),vD (.int .i64 0),vD (.slice none 0 0),vD (.int .i64 0),vD (.int .i64 0),vD (.int .i64 0),vD (.slice none 0 0),vD (.slice none 0 0),vD (.bool false),vD (.slice none 0 0),vD (.slice none 0 0)] [] []⟩,
  ⟨none,none,iStor 17 (.tmp 4) (.tmp 14)⟩,
  ⟨some 5,none,iMov 5 (.const (.bool false)) true⟩] [4,5] [4]
def w7_laneOf_c1a : IC:=(cSeq w7_laneOf_r2 cRet)
def w7_laneOf_c1 : IC:=cCond (.tmp 13) w7_laneOf_c1a cSkip
def w7_laneOf_r3 : IC:=cReg Try.prog [
  ⟨some 16,none,iMov 16 (.tmp 0) false⟩,
  ⟨some 17,none,iMov 17 (.tmp 1) false⟩,
  ⟨some 18,none,iCall 18 42 [(.tmp 16),(.tmp 17)]⟩,
  ⟨some 15,none,iMov 15 (.tmp 18) false⟩,
  ⟨some 19,none,iExt 19 (.tmp 15) 0⟩,
  ⟨some 20,none,iExt 20 (.tmp 15) 1⟩,
  ⟨some 6,none,iAlo 6 [vD (.slice none 0 0),vD (.int .i64 0)]⟩,
  ⟨none,none,iStor 2 (.tmp 6) (.tmp 19)⟩,
  ⟨some 7,none,iMov 7 (.tmp 20) true⟩] [4,6] [4,6]
def w7_laneOf_r4 : IC:=cReg Try.prog [
  ⟨some 21,none,iFad 21 0 (.tmp 6)⟩,
  ⟨some 22,none,iLoad 22 1 false (.tmp 21) false⟩,
  ⟨some 23,none,iIaS 23 17 (.tmp 22) (.const (.int .i64 0))⟩,
  ⟨some 24,none,iLoad 24 17 true (.tmp 23) false⟩,
  ⟨none,none,iStor 17 (.tmp 4) (.tmp 24)⟩,
  ⟨some 5,none,iMov 5 (.const (.bool true)) true⟩] [4,5] [4]
def w7_laneOf : IC:=(cSeq w7_laneOf_r0 (cSeq (cSeq w7_laneOf_r1 w7_laneOf_c1) (cSeq w7_laneOf_r3 (cSeq w7_laneOf_r4 cRet))))
theorem told_w7_laneOf {args r : List D} (hl : args.length = 2) (h : w7_laneOf (start args) (fin [(4,some (17,true)),(5,none)] r)) : Told Try.prog 31 args r :=
 told_of follows Try.func31 rfl (an:=[([],[0,1,4],[4],[]),([],[0,1,4,13],[4],[]),([],[4,5],[4],[]),([],[4,6],[4,6],[]),([],[4,5],[4],[])]) (by kernel_rfl) (by kernel_rfl) (by rw [hl]; decide +kernel) h
def w7_LaneTells_r0 : IC:=cReg Try.prog [
  ⟨some 10,none,iMov 10 (.const (.bool false)) true⟩] [0,1,2,3,4] []
def w7_LaneTells_r1 : IC:=cReg Try.prog [
  ⟨some 18,none,iMov 18 (.tmp 0) false⟩,
  ⟨some 19,none,iMov 19 (.tmp 1) false⟩,
  ⟨some 20,none,iCall 20 31 [(.tmp 18),(.tmp 19)]⟩,
  ⟨some 17,none,iMov 17 (.tmp 20) false⟩,
  ⟨some 21,none,iExt 21 (.tmp 17) 0⟩,
  ⟨some 22,none,iExt 22 (.tmp 17) 1⟩,
  ⟨some 11,none,iAlo 11 [vD (.slice none 0 0),vD (.int .i64 0),vD (.int .i64 0),vD (.int .i64 0),vD (.int .i64 0),vD (.slice none 0 0),vD (.int .i64 0),vD (.int .i64 0),vD (.slice none 0 0),vD (.int .i64 0),vD (.int .i64 0),vD (.int .i64 0),vD (.slice none 0 0),vD (.slice none 0 0),vD (.bool false),vD (.slice none 0 0),vD (.slice none 0 0)]⟩,
  ⟨none,none,iStor 17 (.tmp 11) (.tmp 21)⟩,
  ⟨some 12,none,iMov 12 (.tmp 22) true⟩] [2,3,4,11,12] [11]
def w7_LaneTells_r2 : IC:=cReg Try.prog [
  ⟨some 23,none,iMov 23 (.tmp 12) false⟩,
  ⟨some 24,none,iNot 24 (.tmp 23)⟩] [2,3,4,11,24] [11]
def w7_LaneTells_r3 : IC:=cReg Try.prog [
  ⟨some 10,none,iMov 10 (.const (.bool true)) true⟩] [10] []
def w7_LaneTells_c1a : IC:=(cSeq w7_LaneTells_r3 cRet)
def w7_LaneTells_c1 : IC:=cCond (.tmp 24) w7_LaneTells_c1a cSkip
def w7_LaneTells_r4 : IC:=cRegD Try.prog [
  ⟨some 25,none,iLoad 25 17 true (.tmp 11) false⟩,
  ⟨some 26,none,iCall 26 33 [(.tmp 25)]⟩,
  ⟨some 27,none,iLoad 27 17 true (.tmp 11) false⟩,
  ⟨some 28,none,iCall 28 32 [(.tmp 26),(.tmp 27)]⟩,
  ⟨some 29,none,iNot 29 (.tmp 28)⟩,
  ⟨some 30,none,iMov 30 (.tmp 29) false⟩,
  ⟨some 31,some (30,false),iLoad 31 17 true (.tmp 11) false⟩,
  ⟨some 32,some (30,false),iCall 32 34 [(.tmp 31)]⟩,
  ⟨some 33,some (30,false),iLoad 33 17 true (.tmp 11) false⟩,
  ⟨some 34,some (30,false),iCall 34 35 [(.tmp 33)]⟩,
  ⟨some 35,some (30,false),iCall 35 32 [(.tmp 32),(.tmp 34)]⟩,
  ⟨some 36,some (30,false),iNot 36 (.tmp 35)⟩,
  ⟨some 37,none,iPick 37 (.tmp 30) (.const (.bool true)) (.tmp 36)⟩] [[],[0],[],[1,2,0],[3,1,2,0],[4,3,1,2,0],[5,4,3,1,2,0],[6,5,4,3,1,2,0],[5,4,3,1,2,0],[8,7,5,4,3,1,2,0,6],[7,9,5,6,4,3,1,2,0,8],[10,5,7,9,6,4,3,1,2,0,8],[5,11,4,3,1,2,0,10,7,9,6,8]] [2,3,4,11,37] [11]
def w7_LaneTells_r5 : IC:=cReg Try.prog [
  ⟨some 10,none,iMov 10 (.const (.bool false)) true⟩] [10] []
def w7_LaneTells_c2a : IC:=(cSeq w7_LaneTells_r5 cRet)
def w7_LaneTells_c2 : IC:=cCond (.tmp 37) w7_LaneTells_c2a cSkip
def w7_LaneTells_r6 : IC:=cReg Try.prog [
  ⟨some 39,none,iLoad 39 17 true (.tmp 11) false⟩,
  ⟨some 40,none,iMov 40 (.tmp 2) false⟩,
  ⟨some 41,none,iMov 41 (.tmp 4) false⟩,
  ⟨some 42,none,iCall 42 36 [(.tmp 39),(.tmp 40),(.tmp 41)]⟩,
  ⟨some 38,none,iMov 38 (.tmp 42) false⟩,
  ⟨some 43,none,iExt 43 (.tmp 38) 0⟩,
  ⟨some 44,none,iExt 44 (.tmp 38) 1⟩,
  ⟨some 13,none,iAlo 13 [vD (.slice none 0 0),vD (.int .i64 0),vD (.int .i64 0),vD (.int .i64 0),vD (.int .i64 0),vD (.slice none 0 0),vD (.int .i64 0),vD (.int .i64 0),vD (.slice none 0 0),vD (.int .i64 0),vD (.int .i64 0),vD (.int .i64 0),vD (.slice none 0 0),vD (.slice none 0 0),vD (.bool false),vD (.slice none 0 0),vD (.slice none 0 0)]⟩,
  ⟨none,none,iStor 17 (.tmp 13) (.tmp 43)⟩,
  ⟨some 14,none,iMov 14 (.tmp 44) true⟩] [2,3,4,11,13,14] [11,13]
def w7_LaneTells_r7 : IC:=cReg Try.prog [
  ⟨some 46,none,iLoad 46 17 true (.tmp 11) false⟩,
  ⟨some 47,none,iMov 47 (.tmp 2) false⟩,
  ⟨some 48,none,iMov 48 (.tmp 4) false⟩,
  ⟨some 49,none,iCall 49 37 [(.tmp 46),(.const (.int .i64 3)),(.tmp 47),(.const (.int .i64 0)),(.tmp 48)]⟩,
  ⟨some 45,none,iMov 45 (.tmp 49) false⟩,
  ⟨some 50,none,iExt 50 (.tmp 45) 0⟩,
  ⟨some 51,none,iExt 51 (.tmp 45) 1⟩,
  ⟨some 15,none,iAlo 15 [vD (.slice none 0 0),vD (.int .i64 0),vD (.int .i64 0),vD (.int .i64 0),vD (.int .i64 0),vD (.slice none 0 0),vD (.int .i64 0),vD (.int .i64 0),vD (.slice none 0 0),vD (.int .i64 0),vD (.int .i64 0),vD (.int .i64 0),vD (.slice none 0 0),vD (.slice none 0 0),vD (.bool false),vD (.slice none 0 0),vD (.slice none 0 0)]⟩,
  ⟨none,none,iStor 17 (.tmp 15) (.tmp 50)⟩,
  ⟨some 16,none,iMov 16 (.tmp 51) true⟩] [2,3,4,11,13,14,15,16] [11,13,15]
def w7_LaneTells_r8 : IC:=cReg Try.prog [
  ⟨some 52,none,iMov 52 (.tmp 14) false⟩,
  ⟨some 53,none,iMov 53 (.tmp 16) false⟩,
  ⟨some 54,none,iBin 54 .neq (.tmp 52) (.tmp 53)⟩,
  ⟨some 55,none,iMov 55 (.tmp 54) false⟩,
  ⟨some 56,some (55,false),iLoad 56 17 true (.tmp 13) false⟩,
  ⟨some 57,some (55,false),iLoad 57 17 true (.tmp 15) false⟩,
  ⟨some 58,some (55,false),iCall 58 32 [(.tmp 56),(.tmp 57)]⟩,
  ⟨some 59,some (55,false),iNot 59 (.tmp 58)⟩,
  ⟨some 60,none,iPick 60 (.tmp 55) (.const (.bool true)) (.tmp 59)⟩] [2,3,4,11,13,15,60] [11,13,15]
def w7_LaneTells_r9 : IC:=cReg Try.prog [
  ⟨some 10,none,iMov 10 (.const (.bool false)) true⟩] [10] []
def w7_LaneTells_c3a : IC:=(cSeq w7_LaneTells_r9 cRet)
def w7_LaneTells_c3 : IC:=cCond (.tmp 60) w7_LaneTells_c3a cSkip
def w7_LaneTells_r10 : IC:=cReg Try.prog [
  ⟨some 62,none,iLoad 62 17 true (.tmp 11) false⟩,
  ⟨some 63,none,iMov 63 (.tmp 2) false⟩,
  ⟨some 64,none,iMov 64 (.tmp 4) false⟩,
  ⟨some 65,none,iCall 65 38 [(.tmp 62),(.tmp 63),(.tmp 64)]⟩,
  ⟨some 61,none,iMov 61 (.tmp 65) false⟩,
  ⟨some 66,none,iExt 66 (.tmp 61) 0⟩,
  ⟨some 67,none,iExt 67 (.tmp 61) 1⟩,
  ⟨none,none,iStor 17 (.tmp 13) (.tmp 66)⟩,
  ⟨some 14,none,iMov 14 (.tmp 67) true⟩] [2,3,4,11,13,14,15] [11,13,15]
def w7_LaneTells_r11 : IC:=cReg Try.prog [
  ⟨some 69,none,iLoad 69 17 true (.tmp 11) false⟩,
  ⟨some 70,none,iMov 70 (.tmp 2) false⟩,
  ⟨some 71,none,iMov 71 (.tmp 4) false⟩,
  ⟨some 72,none,iCall 72 37 [(.tmp 69),(.const (.int .i64 4)),(.tmp 70),(.const (.int .i64 0)),(.tmp 71)]⟩,
  ⟨some 68,none,iMov 68 (.tmp 72) false⟩,
  ⟨some 73,none,iExt 73 (.tmp 68) 0⟩,
  ⟨some 74,none,iExt 74 (.tmp 68) 1⟩,
  ⟨none,none,iStor 17 (.tmp 15) (.tmp 73)⟩,
  ⟨some 16,none,iMov 16 (.tmp 74) true⟩] [2,3,4,11,13,14,15,16] [11,13,15]
def w7_LaneTells_r12 : IC:=cReg Try.prog [
  ⟨some 75,none,iMov 75 (.tmp 14) false⟩,
  ⟨some 76,none,iMov 76 (.tmp 16) false⟩,
  ⟨some 77,none,iBin 77 .neq (.tmp 75) (.tmp 76)⟩,
  ⟨some 78,none,iMov 78 (.tmp 77) false⟩,
  ⟨some 79,some (78,false),iLoad 79 17 true (.tmp 13) false⟩,
  ⟨some 80,some (78,false),iLoad 80 17 true (.tmp 15) false⟩,
  ⟨some 81,some (78,false),iCall 81 32 [(.tmp 79),(.tmp 80)]⟩,
  ⟨some 82,some (78,false),iNot 82 (.tmp 81)⟩,
  ⟨some 83,none,iPick 83 (.tmp 78) (.const (.bool true)) (.tmp 82)⟩] [2,3,4,11,13,15,83] [11,13,15]
def w7_LaneTells_r13 : IC:=cReg Try.prog [
  ⟨some 10,none,iMov 10 (.const (.bool false)) true⟩] [10] []
def w7_LaneTells_c4a : IC:=(cSeq w7_LaneTells_r13 cRet)
def w7_LaneTells_c4 : IC:=cCond (.tmp 83) w7_LaneTells_c4a cSkip
def w7_LaneTells_r14 : IC:=cReg Try.prog [
  ⟨some 85,none,iLoad 85 17 true (.tmp 11) false⟩,
  ⟨some 86,none,iMov 86 (.tmp 2) false⟩,
  ⟨some 87,none,iMov 87 (.tmp 4) false⟩,
  ⟨some 88,none,iCall 88 39 [(.tmp 85),(.tmp 86),(.tmp 87)]⟩,
  ⟨some 84,none,iMov 84 (.tmp 88) false⟩,
  ⟨some 89,none,iExt 89 (.tmp 84) 0⟩,
  ⟨some 90,none,iExt 90 (.tmp 84) 1⟩,
  ⟨none,none,iStor 17 (.tmp 13) (.tmp 89)⟩,
  ⟨some 14,none,iMov 14 (.tmp 90) true⟩] [2,3,4,11,13,14,15] [11,13,15]
def w7_LaneTells_r15 : IC:=cReg Try.prog [
  ⟨some 92,none,iLoad 92 17 true (.tmp 11) false⟩,
  ⟨some 93,none,iMov 93 (.tmp 2) false⟩,
  ⟨some 94,none,iMov 94 (.tmp 4) false⟩,
  ⟨some 95,none,iCall 95 37 [(.tmp 92),(.const (.int .i64 5)),(.tmp 93),(.const (.int .i64 0)),(.tmp 94)]⟩,
  ⟨some 91,none,iMov 91 (.tmp 95) false⟩,
  ⟨some 96,none,iExt 96 (.tmp 91) 0⟩,
  ⟨some 97,none,iExt 97 (.tmp 91) 1⟩,
  ⟨none,none,iStor 17 (.tmp 15) (.tmp 96)⟩,
  ⟨some 16,none,iMov 16 (.tmp 97) true⟩] [2,3,4,11,13,14,15,16] [11,13,15]
def w7_LaneTells_r16 : IC:=cReg Try.prog [
  ⟨some 98,none,iMov 98 (.tmp 14) false⟩,
  ⟨some 99,none,iMov 99 (.tmp 16) false⟩,
  ⟨some 100,none,iBin 100 .neq (.tmp 98) (.tmp 99)⟩,
  ⟨some 101,none,iMov 101 (.tmp 100) false⟩,
  ⟨some 102,some (101,false),iLoad 102 17 true (.tmp 13) false⟩,
  ⟨some 103,some (101,false),iLoad 103 17 true (.tmp 15) false⟩,
  ⟨some 104,some (101,false),iCall 104 32 [(.tmp 102),(.tmp 103)]⟩,
  ⟨some 105,some (101,false),iNot 105 (.tmp 104)⟩,
  ⟨some 106,none,iPick 106 (.tmp 101) (.const (.bool true)) (.tmp 105)⟩] [2,3,4,11,13,15,106] [11,13,15]
def w7_LaneTells_r17 : IC:=cReg Try.prog [
  ⟨some 10,none,iMov 10 (.const (.bool false)) true⟩] [10] []
def w7_LaneTells_c5a : IC:=(cSeq w7_LaneTells_r17 cRet)
def w7_LaneTells_c5 : IC:=cCond (.tmp 106) w7_LaneTells_c5a cSkip
def w7_LaneTells_r18 : IC:=cReg Try.prog [
  ⟨some 108,none,iLoad 108 17 true (.tmp 11) false⟩,
  ⟨some 109,none,iMov 109 (.tmp 2) false⟩,
  ⟨some 110,none,iMov 110 (.tmp 3) false⟩,
  ⟨some 111,none,iMov 111 (.tmp 4) false⟩,
  ⟨some 112,none,iCall 112 40 [(.tmp 108),(.tmp 109),(.tmp 110),(.tmp 111)]⟩,
  ⟨some 107,none,iMov 107 (.tmp 112) false⟩,
  ⟨some 113,none,iExt 113 (.tmp 107) 0⟩,
  ⟨some 114,none,iExt 114 (.tmp 107) 1⟩,
  ⟨none,none,iStor 17 (.tmp 13) (.tmp 113)⟩,
  ⟨some 14,none,iMov 14 (.tmp 114) true⟩] [2,3,4,11,13,14,15] [11,13,15]
def w7_LaneTells_r19 : IC:=cReg Try.prog [
  ⟨some 116,none,iLoad 116 17 true (.tmp 11) false⟩,
  ⟨some 117,none,iMov 117 (.tmp 2) false⟩,
  ⟨some 118,none,iMov 118 (.tmp 3) false⟩,
  ⟨some 119,none,iMov 119 (.tmp 4) false⟩,
  ⟨some 120,none,iCall 120 37 [(.tmp 116),(.const (.int .i64 6)),(.tmp 117),(.tmp 118),(.tmp 119)]⟩,
  ⟨some 115,none,iMov 115 (.tmp 120) false⟩,
  ⟨some 121,none,iExt 121 (.tmp 115) 0⟩,
  ⟨some 122,none,iExt 122 (.tmp 115) 1⟩,
  ⟨none,none,iStor 17 (.tmp 15) (.tmp 121)⟩,
  ⟨some 16,none,iMov 16 (.tmp 122) true⟩] [13,14,15,16] [13,15]
def w7_LaneTells_r20 : IC:=cReg Try.prog [
  ⟨some 123,none,iMov 123 (.tmp 14) false⟩,
  ⟨some 124,none,iMov 124 (.tmp 16) false⟩,
  ⟨some 125,none,iBin 125 .eql (.tmp 123) (.tmp 124)⟩,
  ⟨some 126,none,iMov 126 (.tmp 125) false⟩,
  ⟨some 127,some (126,true),iLoad 127 17 true (.tmp 13) false⟩,
  ⟨some 128,some (126,true),iLoad 128 17 true (.tmp 15) false⟩,
  ⟨some 129,some (126,true),iCall 129 32 [(.tmp 127),(.tmp 128)]⟩,
  ⟨some 130,none,iPick 130 (.tmp 126) (.tmp 129) (.const (.bool false))⟩,
  ⟨some 10,none,iMov 10 (.tmp 130) true⟩] [10] []
def w7_LaneTells : IC:=(cSeq w7_LaneTells_r0 (cSeq w7_LaneTells_r1 (cSeq (cSeq w7_LaneTells_r2 w7_LaneTells_c1) (cSeq (cSeq w7_LaneTells_r4 w7_LaneTells_c2) (cSeq w7_LaneTells_r6 (cSeq w7_LaneTells_r7 (cSeq (cSeq w7_LaneTells_r8 w7_LaneTells_c3) (cSeq w7_LaneTells_r10 (cSeq w7_LaneTells_r11 (cSeq (cSeq w7_LaneTells_r12 w7_LaneTells_c4) (cSeq w7_LaneTells_r14 (cSeq w7_LaneTells_r15 (cSeq (cSeq w7_LaneTells_r16 w7_LaneTells_c5) (cSeq w7_LaneTells_r18 (cSeq w7_LaneTells_r19 (cSeq w7_LaneTells_r20 cRet))))))))))))))))
theorem told_w7_LaneTells {args r : List D} (hl : args.length = 5) (h : w7_LaneTells (start args) (fin [(10,none)] r)) : Told Try.prog 8 args r :=
 told_of follows Try.func8 rfl (an:=[([],[0,1,2,3,4],[],[]),([],[2,3,4,11,12],[11],[]),([],[2,3,4,11,24],[11],[]),([],[10],[],[]),([],[2,3,4,11,37],[11],[]),([],[10],[],[]),([],[2,3,4,11,13,14],[11,13],[]),([],[2,3,4,11,13,14,15,16],[11,13,15],[]),([],[2,3,4,11,13,15,60],[11,13,15],[]),([],[10],[],[]),([],[2,3,4,11,13,14,15],[11,13,15],[]),([],[2,3,4,11,13,14,15,16],[11,13,15],[]),([],[2,3,4,11,13,15,83],[11,13,15],[]),([],[10],[],[]),([],[2,3,4,11,13,14,15],[11,13,15],[]),([],[2,3,4,11,13,14,15,16],[11,13,15],[]),([],[2,3,4,11,13,15,106],[11,13,15],[]),([],[10],[],[]),([],[2,3,4,11,13,14,15],[11,13,15],[]),([],[13,14,15,16],[13,15],[]),([],[10],[],[])]) (by kernel_rfl) (by kernel_rfl) (by rw [hl]; decide +kernel) h
end Go.Proofs.Ytdfdeppimimoiab.ab
