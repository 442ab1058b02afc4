import Derived.Test.YtgfljlmonaifgacM35
import Derived.Test.YtgfljlmonaifgacM37
import Derived.Test.YtgfljlmonaifgacM20
import Derived.Test.YtgfljlmonaifgacProg
set_option maxHeartbeats 8000000
set_option linter.unusedVariables false
set_option linter.unusedSimpArgs false
namespace Go.Proofs.Ytgfljlmonaifgac.mth
def actW (l : List Ln) (s : Sp) : List Ln × Int :=
 if s.kind < 1 ∨ 6 < s.kind then (l,1) else if s.tenant < 0 ∨ (l.length : Int) ≤ s.tenant then (l,6) else (l.set s.tenant.toNat (laneW (l.getD s.tenant.toNat zeroL) s).1,(laneW (l.getD s.tenant.toNat zeroL) s).2)
theorem do_act {w : Wd} {s : Sp} (h1 : s.kind ≠ 1) : doW w s = (⟨(actW w.lanes s).1,w.ticks⟩,(actW w.lanes s).2):=by
 unfold doW whoW ticksW actW
 rw [if_neg h1,if_neg h1]
 split
 ·rfl
 ·split
  ·rfl
  ·rfl
theorem act_bad {l : List Ln} {s : Sp} (h : s.kind < 1 ∨ 6 < s.kind) : actW l s = (l,1):=by unfold actW; rw [if_pos h]
theorem act_none {l : List Ln} {s : Sp} (h : ¬ (s.kind < 1 ∨ 6 < s.kind)) (h2 : s.tenant < 0 ∨ (l.length : Int) ≤ s.tenant) : actW l s = (l,6):=by unfold actW; rw [if_neg h,if_pos h2]
theorem act_lane {l : List Ln} {s : Sp} (h : ¬ (s.kind < 1 ∨ 6 < s.kind)) (h2 : ¬ (s.tenant < 0 ∨ (l.length : Int) ≤ s.tenant)) : actW l s = (l.set s.tenant.toNat (laneW (l.getD s.tenant.toNat zeroL) s).1,(laneW (l.getD s.tenant.toNat zeroL) s).2):=by unfold actW; rw [if_neg h,if_neg h2]
theorem getD_set_ne {α : Type} {l : List α} {i j : Nat} {x d : α} (h : i ≠ j) : (l.set i x).getD j d = l.getD j d:=by
 rw [List.getD_eq_getElem?_getD,List.getD_eq_getElem?_getD,List.getElem?_set_ne h]
theorem act_len (l : List Ln) (s : Sp) : (actW l s).1.length = l.length:=by
 unfold actW
 split
 ·rfl
 ·split
  ·rfl
  ·simp
theorem act_other {l : List Ln} {a b : Sp} (ht : a.tenant ≠ b.tenant) : actW (actW l a).1 b = ((actW (actW l a).1 b).1,(actW l b).2):=by
 by_cases b1 : b.kind < 1 ∨ 6 < b.kind
 ·rw [act_bad b1,act_bad b1]
 by_cases b2 : b.tenant < 0 ∨ (l.length : Int) ≤ b.tenant
 ·rw [act_none b1 b2,act_none b1 (by rw [act_len]; exact b2)]
 rw [act_lane b1 b2,act_lane b1 (by rw [act_len]; exact b2)]
 by_cases a1 : a.kind < 1 ∨ 6 < a.kind
 ·rw [act_bad a1]
 by_cases a2 : a.tenant < 0 ∨ (l.length : Int) ≤ a.tenant
 ·rw [act_none a1 a2]
 rw [act_lane a1 a2]
 simp only
 rw [getD_set_ne (by omega)]
theorem act_comm {l : List Ln} {a b : Sp} (ht : a.tenant ≠ b.tenant) : (actW (actW l a).1 b).1 = (actW (actW l b).1 a).1:=by
 by_cases a1 : a.kind < 1 ∨ 6 < a.kind
 ·rw [act_bad a1,act_bad a1]
 by_cases b1 : b.kind < 1 ∨ 6 < b.kind
 ·rw [act_bad b1,act_bad b1]
 by_cases a2 : a.tenant < 0 ∨ (l.length : Int) ≤ a.tenant
 ·rw [act_none a1 a2,act_none a1 (by rw [act_len]; exact a2)]
 by_cases b2 : b.tenant < 0 ∨ (l.length : Int) ≤ b.tenant
 ·rw [act_none b1 b2,act_none b1 (by rw [act_len]; exact b2)]
 have hne : a.tenant.toNat ≠ b.tenant.toNat:=by omega
 rw [act_lane b1 (l:=(actW l a).1) (by rw [act_len]; exact b2),act_lane a1 (l:=(actW l b).1) (by rw [act_len]; exact a2),act_lane a1 a2,act_lane b1 b2]
 simp only
 rw [getD_set_ne hne,getD_set_ne (Ne.symm hne),List.set_comm _ _ hne]
theorem do_apart (w : Wd) (a b : Sp) (ht : a.tenant ≠ b.tenant) (ha : a.kind ≠ 1) (hb : b.kind ≠ 1) :
  (doW (doW w a).1 b).1 = (doW (doW w b).1 a).1 ∧ (doW (doW w a).1 b).2 = (doW w b).2 ∧ (doW (doW w b).1 a).2 = (doW w a).2:=by
 rw [do_act hb,do_act ha,do_act hb,do_act ha]
 simp only
 refine ⟨by rw [act_comm ht],?_,?_⟩
 ·rw [act_other ht]
 ·rw [act_other (Ne.symm ht)]
end Go.Proofs.Ytgfljlmonaifgac.mth
namespace Go.Proofs.Ytgfljlmonaifgac.ab
open Go Go.RowKit
open mth
theorem callLn : callableB Try.prog 20 = true:=by kernel_rfl
theorem ll_snoc (l : List Ln) (x : Ln) : encLl (l ++ [x]) = encLl l ++ [aD (encLn x)]:=by simp [encLl]
def owSt (l : List Ln) (k : Nat) : St:=⟨[(1,vD (.func (.func 20) #[] #[])),(5,sD 17 (encLl (l.take k))),(8,sD 17 (encLl l)),(9,vI l.length),(10,vI k)],[],[((5,none),(51,17,none))]⟩
def owHt (l : List Ln) (k : Nat) : St:=⟨[(1,vD (.func (.func 20) #[] #[])),(5,xD),(8,sD 17 (encLl l)),(9,vI l.length),(10,vI k)],[],[((5,none),(51,17,some (encLl (l.take k))))]⟩
theorem ownW_core (hO : CLOwn 20) (l : List Ln) (hl : l.length ≤ 1048576) (hm : ∀ m ∈ l,GoodL m) (Q : AX → St → Prop) (hQ : Q (some none) ⟨[(4,sD 17 (encLl l))],[],[((4,none),(51,17,none))]⟩) : list_OwnW (start [sD 17 (encLl l),vD (.func (.func 20) #[] #[])]) Q:=by
 refine wk @len_ll ?_
 refine aw_loop (fun n st => ∃ k,k ≤ l.length ∧ n = l.length - k ∧ st = owSt l k) l.length (owSt l 0) ((Le.nilS 5 51 17 rfl).trans (Le.keep (lv:=[1,5,8,9,10]) (lb:=[]) (by simp only [ev0,ev1,ev2,look,lookF,cellsFrom,offT,offP,List.tail_nil,List.length_nil,Int.cast_ofNat_Int,Nat.reduceEqDiff,Nat.reduceAdd,Nat.reduceMul,Nat.reduceLeDiff,Nat.reduceLT,↓reduceIte,reduceCtorEq,Int.reduceBEq,Int.reduceBNe,Int.reduceLT,Int.reduceLE,Int.reduceToNat]; rfl))) ⟨0,by omega,by omega,rfl⟩ ?_
 rintro n st ⟨k,hk',hn,rfl⟩
 by_cases hlt : k < l.length
 ·obtain ⟨x,hx⟩ : ∃ m,l[k]? = some m:=⟨l[k],List.getElem?_eq_getElem hlt⟩
  have g1 : (k : Int) < (l.length : Int):=by omega
  have g2 : (0 : Int) ≤ (k : Int):=by omega
  have g3:=at_ll hx
  have g4 : inR .i64 ((k : Int) + 1) = true:=inR_of (by omega)
  have hlen : (l.take k).length = k:=by rw [List.length_take]; omega
  have hb1 : ((l.take k).length + 1) * 248 ≤ 140737488355328:=by omega
  have h1:=hO x (hm x (List.mem_of_getElem? hx))
  have hnx : Next (fun n st => ∃ k,k ≤ l.length ∧ n = l.length - k ∧ st = owSt l k) n
    ⟨[(1,vD (.func (.func 20) #[] #[])),(5,sD 17 (encLl (l.take k) ++ [aD (encLn x)])),(8,sD 17 (encLl l)),(9,vI l.length),(10,vI ((k : Int) + 1))],[],[((5,none),(51,17,none))]⟩:=by
   rw [← ll_snoc,show l.take k ++ [x] = l.take (k + 1) by rw [List.take_add_one,hx]; rfl]
   exact ⟨l.length - (k + 1),_,by omega,Le.refl _,k + 1,by omega,rfl,by simp only [owSt,Int.natCast_add,Int.cast_ofNat_Int]⟩
  generalize (fun n st => ∃ k,k ≤ l.length ∧ n = l.length - k ∧ st = owSt l k) = J at *
  simp only [owSt,encLn] at g3 h1 hnx ⊢
  generalize l.take k = G at *
  refine wk (an7 @g1 @g2 @g3 @callLn @hb1 @len_ll @Int.toNat_natCast) ?_
  refine cg [[aD (encLn x)]] (an4 @encLn.eq_1 @callLn @hb1 @len_ll) ?_ ?_
  ·exact obl_cons h1 obl_nil
  refine wk @g4 ?_
  exact hnx
 ·have hk'' : k = l.length:=by omega
  subst hk''
  have g1 : ¬ (l.length : Int) < (l.length : Int):=by omega
  simp only [owSt,List.take_length]
  refine wk @g1 ?_
  exact hQ
theorem ownWH_core (hO : CLOwn 20) (l : List Ln) (hl : l.length ≤ 1048576) (hm : ∀ m ∈ l,GoodL m) (Q : AX → St → Prop) (hQ : Q (some none) ⟨[(4,xD)],[],[((4,none),(51,17,some (encLl l)))]⟩) : list_OwnW (start [sD 17 (encLl l),vD (.func (.func 20) #[] #[])]) Q:=by
 refine wk @len_ll ?_
 refine aw_loop (fun n st => ∃ k,k ≤ l.length ∧ n = l.length - k ∧ st = owHt l k) l.length (owHt l 0) ((le_nilH 5 51 17 rfl).trans (Le.keep (lv:=[1,5,8,9,10]) (lb:=[]) (by simp only [ev0,ev1,ev2,look,lookF,cellsFrom,offT,offP,List.tail_nil,List.length_nil,Int.cast_ofNat_Int,Nat.reduceEqDiff,Nat.reduceAdd,Nat.reduceMul,Nat.reduceLeDiff,Nat.reduceLT,↓reduceIte,reduceCtorEq,Int.reduceBEq,Int.reduceBNe,Int.reduceLT,Int.reduceLE,Int.reduceToNat]; rfl))) ⟨0,by omega,by omega,rfl⟩ ?_
 rintro n st ⟨k,hk',hn,rfl⟩
 by_cases hlt : k < l.length
 ·obtain ⟨x,hx⟩ : ∃ m,l[k]? = some m:=⟨l[k],List.getElem?_eq_getElem hlt⟩
  have g1 : (k : Int) < (l.length : Int):=by omega
  have g2 : (0 : Int) ≤ (k : Int):=by omega
  have g3:=at_ll hx
  have g4 : inR .i64 ((k : Int) + 1) = true:=inR_of (by omega)
  have hlen : (l.take k).length = k:=by rw [List.length_take]; omega
  have hb1 : ((l.take k).length + 1) * 248 ≤ 140737488355328:=by omega
  have h1:=hO x (hm x (List.mem_of_getElem? hx))
  have hnx : Next (fun n st => ∃ k,k ≤ l.length ∧ n = l.length - k ∧ st = owHt l k) n
    ⟨[(1,vD (.func (.func 20) #[] #[])),(5,xD),(8,sD 17 (encLl l)),(9,vI l.length),(10,vI ((k : Int) + 1))],[],[((5,none),(51,17,some (encLl (l.take k) ++ [aD (encLn x)])))]⟩:=by
   rw [← ll_snoc,show l.take k ++ [x] = l.take (k + 1) by rw [List.take_add_one,hx]; rfl]
   exact ⟨l.length - (k + 1),_,by omega,Le.refl _,k + 1,by omega,rfl,by simp only [owHt,Int.natCast_add,Int.cast_ofNat_Int]⟩
  generalize (fun n st => ∃ k,k ≤ l.length ∧ n = l.length - k ∧ st = owHt l k) = J at *
  simp only [owHt,encLn] at g3 h1 hnx ⊢
  generalize l.take k = G at *
  refine wk (an7 @g1 @g2 @g3 @callLn @hb1 @len_ll @Int.toNat_natCast) ?_
  refine cg [[aD (encLn x)]] (an4 @encLn.eq_1 @callLn @hb1 @len_ll) ?_ ?_
  ·exact obl_cons h1 obl_nil
  refine wk @g4 ?_
  exact hnx
 ·have hk'' : k = l.length:=by omega
  subst hk''
  have g1 : ¬ (l.length : Int) < (l.length : Int):=by omega
  simp only [owHt,List.take_length]
  refine wk @g1 ?_
  exact hQ
theorem ownW_told (hO : CLOwn 20) (l : List Ln) (hl : l.length ≤ 1048576) (hm : ∀ m ∈ l,GoodL m) : Told Try.prog 19 [sD 17 (encLl l),vD (.func (.func 20) #[] #[])] [sD 17 (encLl l)] :=
 told_list_OwnW rfl (ownW_core hO l hl hm _ ⟨[sD 17 (encLl l)],rfl,ValsLe.refl _⟩)
theorem ownW_toldH (hO : CLOwn 20) (l : List Ln) (hl : l.length ≤ 1048576) (hm : ∀ m ∈ l,GoodL m) : ToldO Try.prog 19 [sD 17 (encLl l),vD (.func (.func 20) #[] #[])] [xD] none 51 (17,some (encLl l)) :=
 toldO_list_OwnW rfl (ownWH_core hO l hl hm _ ⟨xD,rfl,rfl,CVLe.refl _,rfl⟩)
def CWOwn (f : Nat) : Prop:=∀ w,GoodW w → Told Try.prog f [aD (encWd w)] [aD (encWd w)]
def CWNew (f : Nat) : Prop:=(∀ n : Nat,1 ≤ n → n ≤ 3 → Told Try.prog f [vI n] [aD (encWd (newW n)),vI 0]) ∧ ∀ n : Int,n < 1 ∨ 3 < n → Told Try.prog f [vI n] [aD (encWd ⟨[],0⟩),vI 3]
def CWDo (f : Nat) : Prop:=∀ w s,GoodW w → w.ticks ≤ 1000000 → Told Try.prog f [aD (encWd w),aD (encSp s)] [aD (encWd (doW w s).1),vI (doW w s).2]
theorem ownWd_told (hO : CLOwn 20) : CWOwn 11:=by
 intro w hw
 refine told_world_Own rfl ?_
 have h1:=ownW_told hO w.lanes (by have:=hw.n; omega) hw.l
 simp only [encWd]
 refine wk0 ?_
 refine cg0 [[sD 17 (encLl w.lanes)]] ?_ ?_
 ·exact obl_cons h1 obl_nil
 refine wk0 ?_
 exact ValsLe.refl _
theorem ownWd_toldO (hO : CLOwn 20) (w : Wd) (hw : GoodW w) : ToldO Try.prog 11 [aD (encWd w)] [aD [xD,vI w.ticks]] (some 0) 51 (17,some (encLl w.lanes)):=by
 refine toldO_world_OwnO rfl ?_
 have h1:=ownW_toldH hO w.lanes (by have:=hw.n; omega) hw.l
 simp only [encWd]
 refine wk0 ?_
 refine cg0 [[mO xD 51 17 (aD (encLl w.lanes))]] ?_ ?_
 ·exact obl_out h1 obl_nil
 refine wk0 ?_
 refine ⟨1,2,_,_,0,_,rfl,rfl,by decide,rfl,rfl,rfl,rfl,rfl,by decide,rfl,?_⟩
 refine wk0 ?_
 exact fin1_ret ⟨2,_,rfl,rfl,rfl,rfl,row_refl _,by decide,rfl⟩
theorem newWd_told : CWNew 10:=by
 refine ⟨fun n h1 h2 => ?_,fun n h => ?_⟩
 ·refine told_world_New rfl ?_
  have h3 : n = 1 ∨ n = 2 ∨ n = 3:=by omega
  rcases h3 with rfl | rfl | rfl
  ·simp only [newW,encWd,encLl,List.replicate,List.map_cons,List.map_nil,encLn,zeroL,zeroS,zeroR,encMl,encCl,encPk]
   refine wk (an4 @Int.toNat_natCast @zrs @zr0 @zcons) ?_
   repeat' (first | exact vals_nil | exact row_nil | exact es_nil | exact CVLe.refl _ | exact LfLe.refl _ | exact LfLe.nil _ | exact EsLe.refl _ | refine vals_cons ?_ ?_ | refine row_cons ?_ ?_ | refine es_cons ?_ ?_ | refine EsLe.app ?_ ?_ | refine CVLe.row ?_ | refine CVLe.leafV ?_ | refine CVLe.leafS ?_ | refine LfLe.s ?_)
  ·simp only [newW,encWd,encLl,List.replicate,List.map_cons,List.map_nil,encLn,zeroL,zeroS,zeroR,encMl,encCl,encPk]
   refine wk (an4 @Int.toNat_natCast @zrs @zr0 @zcons) ?_
   repeat' (first | exact vals_nil | exact row_nil | exact es_nil | exact CVLe.refl _ | exact LfLe.refl _ | exact LfLe.nil _ | exact EsLe.refl _ | refine vals_cons ?_ ?_ | refine row_cons ?_ ?_ | refine es_cons ?_ ?_ | refine EsLe.app ?_ ?_ | refine CVLe.row ?_ | refine CVLe.leafV ?_ | refine CVLe.leafS ?_ | refine LfLe.s ?_)
  ·simp only [newW,encWd,encLl,List.replicate,List.map_cons,List.map_nil,encLn,zeroL,zeroS,zeroR,encMl,encCl,encPk]
   refine wk (an4 @Int.toNat_natCast @zrs @zr0 @zcons) ?_
   repeat' (first | exact vals_nil | exact row_nil | exact es_nil | exact CVLe.refl _ | exact LfLe.refl _ | exact LfLe.nil _ | exact EsLe.refl _ | refine vals_cons ?_ ?_ | refine row_cons ?_ ?_ | refine es_cons ?_ ?_ | refine EsLe.app ?_ ?_ | refine CVLe.row ?_ | refine CVLe.leafV ?_ | refine CVLe.leafS ?_ | refine LfLe.s ?_)
 ·refine told_world_New rfl ?_
  simp only [encWd,encLl,List.map_nil]
  by_cases h1 : n < 1
  ·refine wk @h1 ?_
   repeat' (first | exact vals_nil | exact row_nil | exact es_nil | exact CVLe.refl _ | exact LfLe.refl _ | exact LfLe.nil _ | exact EsLe.refl _ | refine vals_cons ?_ ?_ | refine row_cons ?_ ?_ | refine es_cons ?_ ?_ | refine EsLe.app ?_ ?_ | refine CVLe.row ?_ | refine CVLe.leafV ?_ | refine CVLe.leafS ?_ | refine LfLe.s ?_)
  ·have h2 : 3 < n:=by omega
   refine wk (an2 @h1 @h2) ?_
   repeat' (first | exact vals_nil | exact row_nil | exact es_nil | exact CVLe.refl _ | exact LfLe.refl _ | exact LfLe.nil _ | exact EsLe.refl _ | refine vals_cons ?_ ?_ | refine row_cons ?_ ?_ | refine es_cons ?_ ?_ | refine EsLe.app ?_ ?_ | refine CVLe.row ?_ | refine CVLe.leafV ?_ | refine CVLe.leafS ?_ | refine LfLe.s ?_)
set_option maxRecDepth 100000
def r6_SameWorld_r0 : IC:=cReg Try.prog [
  ⟨some 2,none,iBox 2 (.tmp 0)⟩,
  ⟨some 3,none,iBox 3 (.tmp 1)⟩,
  ⟨some 4,none,iMov 4 (.const (.bool false)) true⟩] [2,3] [2,3]
def r6_SameWorld_r1 : IC:=cReg Try.prog [
  ⟨some 6,none,iFad 6 1 (.tmp 2)⟩,
  ⟨some 7,none,iLoad 7 1 false (.tmp 6) false⟩,
  ⟨some 8,none,iFad 8 1 (.tmp 3)⟩,
  ⟨some 9,none,iLoad 9 1 false (.tmp 8) false⟩,
  ⟨some 10,none,iBin 10 .neq (.tmp 7) (.tmp 9)⟩,
  ⟨some 11,none,iMov 11 (.tmp 10) false⟩,
  ⟨some 12,some (11,false),iFad 12 0 (.tmp 2)⟩,
  ⟨some 13,some (11,false),iLoad 13 1 false (.tmp 12) false⟩,
  ⟨some 14,some (11,false),iLen 14 false (.tmp 13)⟩,
  ⟨some 15,some (11,false),iFad 15 0 (.tmp 3)⟩,
  ⟨some 16,some (11,false),iLoad 16 1 false (.tmp 15) false⟩,
  ⟨some 17,some (11,false),iLen 17 false (.tmp 16)⟩,
  ⟨some 18,some (11,false),iBin 18 .neq (.tmp 14) (.tmp 17)⟩,
  ⟨some 19,none,iPick 19 (.tmp 11) (.const (.bool true)) (.tmp 18)⟩] [2,3,19] [2,3]
def r6_SameWorld_r2 : IC:=cReg Try.prog [
  ⟨some 4,none,iMov 4 (.const (.bool false)) true⟩] [4] []
def r6_SameWorld_c1a : IC:=(cSeq r6_SameWorld_r2 cRet)
def r6_SameWorld_c1 : IC:=cCond (.tmp 19) r6_SameWorld_c1a cSkip
def r6_SameWorld_r3 : IC:=cReg Try.prog [
  ⟨some 20,none,iFad 20 0 (.tmp 2)⟩,
  ⟨some 21,none,iLoad 21 1 false (.tmp 20) false⟩,
  ⟨some 22,none,iLen 22 false (.tmp 21)⟩,
  ⟨some 23,none,iMov 23 (.const (.int .i64 0)) false⟩] [2,3,22,23] [2,3]
def r6_SameWorld_r4 : IC:=cReg Try.prog [
  ⟨some 24,none,iBin 24 .lss (.tmp 23) (.tmp 22)⟩] [2,3,22,23,24] [2,3]
def r6_SameWorld_c4 : IC:=cCond (.tmp 24) cSkip (cExit 0)
def r6_SameWorld_r5 : IC:=cReg Try.prog [
  ⟨some 25,none,iMov 25 (.tmp 23) false⟩,
  ⟨some 5,none,iMov 5 (.tmp 25) true⟩] [2,3,5,22,23] [2,3]
def r6_SameWorld_r6 : IC:=cRegD Try.prog [
  ⟨some 26,none,iFad 26 0 (.tmp 2)⟩,
  ⟨some 27,none,iLoad 27 1 false (.tmp 26) false⟩,
  ⟨some 28,none,iMov 28 (.tmp 5) false⟩,
  ⟨some 29,none,iIaS 29 17 (.tmp 27) (.tmp 28)⟩,
  ⟨some 30,none,iLoad 30 17 true (.tmp 29) false⟩,
  ⟨some 31,none,iFad 31 0 (.tmp 3)⟩,
  ⟨some 32,none,iLoad 32 1 false (.tmp 31) false⟩,
  ⟨some 33,none,iMov 33 (.tmp 5) false⟩,
  ⟨some 34,none,iIaS 34 17 (.tmp 32) (.tmp 33)⟩,
  ⟨some 35,none,iLoad 35 17 true (.tmp 34) false⟩,
  ⟨some 36,none,iCall 36 9 [(.tmp 30),(.tmp 35)]⟩,
  ⟨some 37,none,iNot 37 (.tmp 36)⟩] [[],[0],[],[1,2,0],[3,1,2,0],[],[5],[],[6,7,5],[8,6,7,5],[4,9,3,1,2,0,8,6,7,5],[10,4,9,3,1,2,0,8,6,7,5]] [2,3,22,23,37] [2,3]
def r6_SameWorld_r7 : IC:=cReg Try.prog [
  ⟨some 4,none,iMov 4 (.const (.bool false)) true⟩] [4] []
def r6_SameWorld_c6a : IC:=(cSeq r6_SameWorld_r7 cRet)
def r6_SameWorld_c6 : IC:=cCond (.tmp 37) r6_SameWorld_c6a cSkip
def r6_SameWorld_b5 : IC:=cBlock 1 (cSeq r6_SameWorld_r5 (cSeq r6_SameWorld_r6 r6_SameWorld_c6))
def r6_SameWorld_r8 : IC:=cReg Try.prog [
  ⟨some 38,none,iBin 38 .add (.tmp 23) (.const (.int .i64 1))⟩,
  ⟨some 23,none,iMov 23 (.tmp 38) false⟩] [2,3,22,23] [2,3]
def r6_SameWorld_l3a : IC:=(cSeq r6_SameWorld_r4 (cSeq r6_SameWorld_c4 (cSeq r6_SameWorld_b5 r6_SameWorld_r8)))
def r6_SameWorld_l3 : IC:=cLoop r6_SameWorld_l3a
def r6_SameWorld_b2 : IC:=cBlock 0 r6_SameWorld_l3
def r6_SameWorld_r9 : IC:=cReg Try.prog [
  ⟨some 4,none,iMov 4 (.const (.bool true)) true⟩] [4] []
def r6_SameWorld : IC:=(cSeq r6_SameWorld_r0 (cSeq (cSeq r6_SameWorld_r1 r6_SameWorld_c1) (cSeq (cSeq r6_SameWorld_r3 r6_SameWorld_b2) (cSeq r6_SameWorld_r9 cRet))))
theorem told_r6_SameWorld {args r : List D} (hl : args.length = 2) (h : r6_SameWorld (start args) (fin [(4,none)] r)) : Told Try.prog 8 args r :=
 told_of follows Try.func8 rfl (an:=[([],[2,3],[2,3],[]),([],[2,3,19],[2,3],[]),([],[4],[],[]),([],[2,3,22,23],[2,3],[]),([],[2,3,22,23,24],[2,3],[]),([],[2,3,5,22,23],[2,3],[]),([],[2,3,22,23,37],[2,3],[]),([],[4],[],[]),([],[2,3,22,23],[2,3],[]),([],[4],[],[])]) (by kernel_rfl) (by kernel_rfl) (by rw [hl]; decide +kernel) h
def swSt (w : Wd) (k : Nat) : St:=⟨[(2,pD 2 0),(3,pD 3 0),(22,vI w.lanes.length),(23,vI k)],[(2,encWd w),(3,encWd w)],[]⟩
theorem sameW_told (w : Wd) (hn : w.lanes.length ≤ 3) (hg : ∀ l ∈ w.lanes,GoodL l) : Told Try.prog 8 [aD (encWd w),aD (encWd w)] [vB true]:=by
 refine told_r6_SameWorld rfl ?_
 have z1 : (w.ticks != w.ticks) = false:=bne_self_eq_false _
 have z2 : ((w.lanes.length : Int) != (w.lanes.length : Int)) = false:=bne_self_eq_false _
 simp only [encWd]
 refine wk (an3 @z1 @z2 @len_ll) ?_
 refine aw_loop (fun m st => ∃ k : Nat,k ≤ w.lanes.length ∧ m = w.lanes.length - k ∧ st = swSt w k) w.lanes.length (swSt w 0) (Le.refl _) ⟨0,by omega,by omega,rfl⟩ ?_
 rintro m st ⟨k,hk,hm,rfl⟩
 by_cases hlt : k < w.lanes.length
 ·obtain ⟨x,hx⟩ : ∃ x,w.lanes[k]? = some x:=⟨w.lanes[k],List.getElem?_eq_getElem hlt⟩
  have g1 : (k : Int) < (w.lanes.length : Int):=by omega
  have g2 : (0 : Int) ≤ (k : Int):=by omega
  have g3:=at_ll hx
  have g4 : inR .i64 ((k : Int) + 1) = true:=inR_of (by omega)
  have h1:=sameLn_good (hg x (List.mem_of_getElem? hx))
  have hnx : Next (fun m st => ∃ k : Nat,k ≤ w.lanes.length ∧ m = w.lanes.length - k ∧ st = swSt w k) m (swSt w (k + 1)):=⟨w.lanes.length - (k + 1),_,by omega,Le.refl _,k + 1,by omega,rfl,rfl⟩
  generalize (fun m st => ∃ k : Nat,k ≤ w.lanes.length ∧ m = w.lanes.length - k ∧ st = swSt w k) = J at *
  simp only [swSt,encWd,encLn,Int.natCast_add,Int.cast_ofNat_Int] at g3 h1 hnx ⊢
  refine wk (an5 @g1 @g2 @g3 @len_ll @Int.toNat_natCast) ?_
  refine cd [[vB true]] (an6 @g1 @g2 @g3 @len_ll @Int.toNat_natCast Bool.not_true) ?_ ?_
  ·exact obl_cons h1 obl_nil
  refine wk (an2 @g4 Bool.not_true) ?_
  exact hnx
 ·have : k = w.lanes.length:=by omega
  subst this
  have g1 : ¬ (w.lanes.length : Int) < (w.lanes.length : Int):=by omega
  simp only [swSt,encWd]
  refine wk @g1 ?_
  exact ValsLe.refl _
theorem sameW_good {w : Wd} (h : GoodW w) : Told Try.prog 8 [aD (encWd w),aD (encWd w)] [vB true]:=sameW_told w h.n.2 h.l
end Go.Proofs.Ytgfljlmonaifgac.ab
