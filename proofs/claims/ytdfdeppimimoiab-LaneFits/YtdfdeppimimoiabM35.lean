import Derived.Test.YtdfdeppimimoiabM34
import Derived.Test.YtdfdeppimimoiabM19
import Derived.Test.YtdfdeppimimoiabProg
import Derived.Test.YtdfdeppimimoiabM33
import Derived.Test.YtdfdeppimimoiabM30
namespace Go.Proofs.Ytdfdeppimimoiab.ab
set_option linter.unusedVariables false
set_option linter.unusedSimpArgs false
open Go Go.RowKit
open mth
def encSl (l : List Sp) : List D:=l.map fun s => aD (encSp s)
theorem len_sl (l : List Sp) : (encSl l).length = l.length:=by simp [encSl]
theorem at_sl {l : List Sp} {i : Nat} {s : Sp} (h : l[i]? = some s) : (encSl l)[i]? = some (aD [vI s.kind,vI s.tenant,vI s.n,vI s.m,vB s.back,vI s.msg.stream,sD 1 (s.msg.data.map encB)]):=by simp [encSl,h,encSp]
def plSt (l : List Sp) (w : Wd) (es : List Int) (k : Nat) : St :=
 ⟨[(4,pD 4 0),(6,pD 6 0),(8,sD 1 (es.map vI)),(18,sD 7 (encSl l)),(19,vI l.length),(20,vI k)],[(4,[vD (.slice none 0 0),vI 0]),(6,encWd w)],[((8,none),(37,1,none))]⟩
def plJ (n : Nat) (l : List Sp) : Nat → St → Prop:=fun m st => ∃ k : Nat,k ≤ l.length ∧ k ≤ 160 ∧ m = l.length - k ∧ st = plSt l (runW (newW n) (l.take k)).1 (runW (newW n) (l.take k)).2 k
set_option maxHeartbeats 8000000 in
theorem play_told (hS : CSpoilR 37) (n : Nat) (hn : 1 ≤ n ∧ n ≤ 3) (l : List Sp) (hl : l.length ≤ 9223372036854775807) : Told Try.prog 42 [vI n,sD 7 (encSl l)] [aD (encWd (runW (newW n) (l.take 160)).1),sD 1 ((runW (newW n) (l.take 160)).2.map vI)]:=by
 refine told_r6_Play rfl ?_
 have hN:=new_told n hn
 have hgood:=good_run (good_new hn) l
 simp only [encWd] at hN
 refine wk0 ?_
 refine cg [[aD (encWd (newW n)),vI 0]] @encWd.eq_1 ?_ ?_
 ·exact obl_cons hN obl_nil
 refine wk @len_sl ?_
 refine aw_loop (plJ n l) l.length (plSt l (newW n) [] 0) ?_ ⟨0,by omega,by omega,rfl,rfl⟩ ?_
 ·exact (Le.nilS 8 37 1 rfl).trans (Le.keep (lv:=[4,6,8,18,19,20]) (lb:=[4,6]) (by simp only [ev0,ev1,ev2,look,lookF,cellsFrom,offT,offP,List.tail_nil,List.length_nil,Int.cast_ofNat_Int,Nat.reduceEqDiff,Nat.reduceAdd,Nat.reduceMul,Nat.reduceLeDiff,Nat.reduceLT,↓reduceIte,reduceCtorEq,Int.reduceBEq,Int.reduceBNe,Int.reduceLT,Int.reduceLE,Int.reduceToNat]; rfl))
 rintro m st ⟨k,hk,hk160,hm,rfl⟩
 obtain ⟨hw,htk,hel⟩:=hgood k
 by_cases hlt : k < l.length
 ·obtain ⟨s,hs⟩ : ∃ s,l[k]? = some s:=⟨l[k],List.getElem?_eq_getElem hlt⟩
  have g1 : (k : Int) < (l.length : Int):=by omega
  have g2 : (0 : Int) ≤ (k : Int):=by omega
  have g3:=at_sl hs
  have g4 : inR .i64 ((k : Int) + 1) = true:=inR_of (by omega)
  by_cases h160 : k = 160
  ·subst h160
   have g5 : ((160 : Int) == 160) = true:=rfl
   have g6 : (160 : Int) < (l.length : Int):=by omega
   have g7 : (0 : Int) ≤ 160:=by omega
   have e160 : ((160 : Nat) : Int) = 160:=rfl
   generalize plJ n l = J at *
   generalize (runW (newW n) (l.take 160)).1 = w at *
   generalize (runW (newW n) (l.take 160)).2 = es at *
   simp only [plSt,encWd,e160]
   refine wk (an5 @g5 @g6 @g7 @g3 @len_sl) ?_
   exact ValsLe.refl _
  ·have g5 : ((k : Int) == 160) = false:=by rw [beq_eq_false_iff_ne]; omega
   have ht0 : (newW n).ticks = 0:=rfl
   have hD:=do_told hS _ hw (by rw [ht0] at htk; omega) s
   have hnx : Next (plJ n l) m (plSt l (doW (runW (newW n) (l.take k)).1 s).1 ((runW (newW n) (l.take k)).2 ++ [(doW (runW (newW n) (l.take k)).1 s).2]) (k + 1)):=by
    refine ⟨l.length - (k + 1),_,by omega,Le.refl _,k + 1,by omega,by omega,rfl,?_⟩
    rw [List.take_add_one,hs,Option.toList_some,runW_snoc]
   generalize plJ n l = J at *
   generalize (runW (newW n) (l.take k)).1 = w at *
   generalize (runW (newW n) (l.take k)).2 = es at *
   generalize doW w s = R at *
   obtain ⟨w',e⟩:=R
   have b1 : (es.length + 1) * 8 ≤ 140737488355328:=by omega
   simp only [plSt,encWd,encSp,Int.natCast_add,Int.cast_ofNat_Int,List.map_append,List.map_cons,List.map_nil] at hD hnx ⊢
   refine wk (an6 @g1 @g2 @g3 @g5 @len_sl @Int.toNat_natCast) ?_
   refine cg [[aD (encWd w'),vI e]] (an7 @encWd.eq_1 @g1 @g2 @g3 @g5 @len_sl @Int.toNat_natCast) ?_ ?_
   ·exact obl_cons hD obl_nil
   refine wk (an3 @g4 @b1 @zmap) ?_
   exact hnx
 ·have : k = l.length:=by omega
  subst this
  have g1 : ¬ (l.length : Int) < (l.length : Int):=by omega
  have e1 : l.take 160 = l.take l.length:=by rw [List.take_of_length_le (by omega),List.take_of_length_le (Nat.le_refl _)]
  rw [e1]
  generalize plJ n l = J at *
  generalize (runW (newW n) (l.take l.length)).1 = w at *
  generalize (runW (newW n) (l.take l.length)).2 = es at *
  simp only [plSt,encWd]
  refine wk @g1 ?_
  exact ValsLe.refl _
end Go.Proofs.Ytdfdeppimimoiab.ab
namespace Go.Proofs.Ytdfdeppimimoiab.ab
set_option linter.unusedSimpArgs false
set_option linter.unusedVariables false
open Go Go.ChangeShapes Go.WideShapes Go.RowKit
open mth
theorem cellsSp : Try.prog.cellsOf 72 = 7:=by kernel_rfl
theorem cells4 : Try.prog.cellsOf 4 = 1:=by kernel_rfl
section
variable {H : Type} {enc : TypeId × Value → H} {W : World}
set_option maxRecDepth 100000 in
theorem in_step {n : Nat} {cs : List Value} {y : DataW H × List MemPlace} (hf : DataW.trod enc Try.prog W 0 (fun _ => true) true n 72 cs = some y) (hl7 : cs.length = 7) :
  ∃ s : Sp,Row (AllOf W) W (encSp s) cs ∧ True:=by
 obtain ⟨v0,v1,v2,v3,v4,v5,v6,rfl⟩ : ∃ v0 v1 v2 v3 v4 v5 v6,cs = [v0,v1,v2,v3,v4,v5,v6]:=by
  match cs,hl7 with
  | [v0,v1,v2,v3,v4,v5,v6],_ => exact ⟨v0,v1,v2,v3,v4,v5,v6,rfl⟩
 obtain ⟨ys,n',_,hx,hl,hlen,hfs⟩:=DataW.trod_struct Try.underlying72 hf
 have f0:=hfs 0 _ rfl
 have f1:=hfs 1 _ rfl
 have f2:=hfs 2 _ rfl
 have f3:=hfs 3 _ rfl
 have f4:=hfs 4 _ rfl
 have f5:=hfs 5 _ rfl
 obtain ⟨y0,y1,y2,y3,y4,y5,rfl⟩ : ∃ y0 y1 y2 y3 y4 y5,ys = [y0,y1,y2,y3,y4,y5]:=by
  match ys,hlen with
  | [y0,y1,y2,y3,y4,y5],_ => exact ⟨y0,y1,y2,y3,y4,y5,rfl⟩
 simp [cells3,cells4,cellsMs] at f0 f1 f2 f3 f4 f5
 obtain ⟨a0,h0,_,k0⟩:=DataW.trod_int Try.underlying3 f0
 obtain ⟨a1,h1,_,k1⟩:=DataW.trod_int Try.underlying3 f1
 obtain ⟨a2,h2,_,k2⟩:=DataW.trod_int Try.underlying3 f2
 obtain ⟨a3,h3,_,k3⟩:=DataW.trod_int Try.underlying3 f3
 obtain ⟨a4,h4,_⟩:=DataW.trod_bool Try.underlying4 f4
 simp at h0 h1 h2 h3 h4
 subst h0 h1 h2 h3 h4
 obtain ⟨m,hm,_⟩:=in_msg f5 rfl
 exact ⟨⟨a0,a1,a2,a3,a4,m⟩,(Row.single (CRep.v rfl)).app ((Row.single (CRep.v rfl)).app ((Row.single (CRep.v rfl)).app ((Row.single (CRep.v rfl)).app ((Row.single (CRep.v rfl)).app hm)))),trivial⟩
theorem in_steps {n : Nat} {v : Value} {y : DataW H × List MemPlace} (hf : DataW.trod enc Try.prog W 0 (fun _ => true) true n 58 [v] = some y) :
  ∃ cs : List Sp,CRep (AllOf W) W (sD 7 (encSl cs)) v ∧ cs.length ≤ Rows.uptoBulk y.1 ∧ ∀ c ∈ cs,True :=
 in_slice (α:=Sp) (encA:=fun c => aD (encSp c)) (Pa:=fun c => True) (size:=7) Try.underlying58 cellsSp (by omega) (fun n cs' y h hl => in_step h hl) hf
end
end Go.Proofs.Ytdfdeppimimoiab.ab
namespace Go.Proofs.Ytdfdeppimimoiab.ab
set_option linter.unusedSimpArgs false
set_option linter.unusedVariables false
set_option maxRecDepth 100000
open Go Go.RowKit
def w7_laneOf_r0 : IC:=cReg Try.prog [
  ⟨some 4,none,iAlo 4 [vD (.slice none 0 0),vD (.int .i64 0),vD (.int .i64 0),vD (.int .i64 0),vD (.int .i64 0),vD (.slice none 0 0),vD (.int .i64 0),vD (.int .i64 0),vD (.slice none 0 0),vD (.int .i64 0),vD (.int .i64 0),vD (.int .i64 0),vD (.slice none 0 0),vD (.slice none 0 0),vD (.bool false),vD (.slice none 0 0),vD (.slice none 0 0)]⟩,
  ⟨some 5,none,iMov 5 (.const (.bool false)) true⟩] [0,1,4] [4]
def w7_laneOf_r1 : IC:=cReg Try.prog [
  ⟨some 8,none,iMov 8 (.tmp 0) false⟩,
  ⟨some 9,none,iBin 9 .lss (.tmp 8) (.const (.int .i64 1))⟩,
  ⟨some 10,none,iMov 10 (.tmp 9) false⟩,
  ⟨some 11,some (10,false),iMov 11 (.tmp 0) false⟩,
  ⟨some 12,some (10,false),iBin 12 .gtr (.tmp 11) (.const (.int .i64 3))⟩,
  ⟨some 13,none,iPick 13 (.tmp 10) (.const (.bool true)) (.tmp 12)⟩] [0,1,4,13] [4]
def w7_laneOf_r2 : IC:=cReg Try.prog [
  ⟨some 14,none,iBld 14 [vD (.slice none 0 0),vD (.int .i64 0),vD (.int .i64 0),vD (.int .i64 0),vD (.int .i64 0),vD (.slice none 0 0),vD (.int .i64 0),vD (.int .i64 0),vD (.slice none 0 0),vD (.int .i64 0),vD (.int .i64 0),vD (.int .i64 0),vD (.slice none 0 0),vD (.slice none 0 0),vD (.bool false),vD (.slice none 0 0),vD (.slice none 0 0)] [] []⟩,
  ⟨none,none,iStor 17 (.tmp 4) (.tmp 14)⟩,
  ⟨some 5,none,iMov 5 (.const (.bool false)) true⟩] [4,5] [4]
def w7_laneOf_c1a : IC:=(cSeq w7_laneOf_r2 cRet)
def w7_laneOf_c1 : IC:=cCond (.tmp 13) w7_laneOf_c1a cSkip
def w7_laneOf_r3 : IC:=cReg Try.prog [
  ⟨some 16,none,iMov 16 (.tmp 0) false⟩,
  ⟨some 17,none,iMov 17 (.tmp 1) false⟩,
  ⟨some 18,none,iCall 18 42 [(.tmp 16),(.tmp 17)]⟩,
  ⟨some 15,none,iMov 15 (.tmp 18) false⟩,
  ⟨some 19,none,iExt 19 (.tmp 15) 0⟩,
  ⟨some 20,none,iExt 20 (.tmp 15) 1⟩,
  ⟨some 6,none,iAlo 6 [vD (.slice none 0 0),vD (.int .i64 0)]⟩,
  ⟨none,none,iStor 2 (.tmp 6) (.tmp 19)⟩,
  ⟨some 7,none,iMov 7 (.tmp 20) true⟩] [4,6] [4,6]
def w7_laneOf_r4 : IC:=cReg Try.prog [
  ⟨some 21,none,iFad 21 0 (.tmp 6)⟩,
  ⟨some 22,none,iLoad 22 1 false (.tmp 21) false⟩,
  ⟨some 23,none,iIaS 23 17 (.tmp 22) (.const (.int .i64 0))⟩,
  ⟨some 24,none,iLoad 24 17 true (.tmp 23) false⟩,
  ⟨none,none,iStor 17 (.tmp 4) (.tmp 24)⟩,
  ⟨some 5,none,iMov 5 (.const (.bool true)) true⟩] [4,5] [4]
def w7_laneOf : IC:=(cSeq w7_laneOf_r0 (cSeq (cSeq w7_laneOf_r1 w7_laneOf_c1) (cSeq w7_laneOf_r3 (cSeq w7_laneOf_r4 cRet))))
theorem told_w7_laneOf {args r : List D} (hl : args.length = 2) (h : w7_laneOf (start args) (fin [(4,some (17,true)),(5,none)] r)) : Told Try.prog 31 args r :=
 told_of follows Try.func31 rfl (an:=[([],[0,1,4],[4],[]),([],[0,1,4,13],[4],[]),([],[4,5],[4],[]),([],[4,6],[4,6],[]),([],[4,5],[4],[])]) (by kernel_rfl) (by kernel_rfl) (by rw [hl]; decide +kernel) h
end Go.Proofs.Ytdfdeppimimoiab.ab
namespace Go.Proofs.Ytdfdeppimimoiab.ab
set_option linter.unusedSimpArgs false
set_option linter.unusedVariables false
set_option maxRecDepth 100000
open Go Go.RowKit
end Go.Proofs.Ytdfdeppimimoiab.ab
namespace Go.Proofs.Ytdfdeppimimoiab.ab
set_option linter.unusedVariables false
set_option linter.unusedSimpArgs false
open Go Go.RowKit
open mth
end Go.Proofs.Ytdfdeppimimoiab.ab
namespace Go.Proofs.Ytdfdeppimimoiab.ab
set_option linter.unusedSimpArgs false
set_option linter.unusedVariables false
set_option maxRecDepth 100000
open Go Go.RowKit
end Go.Proofs.Ytdfdeppimimoiab.ab
