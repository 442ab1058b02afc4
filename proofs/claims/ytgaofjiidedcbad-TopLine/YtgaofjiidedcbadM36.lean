import Derived.Test.YtgaofjiidedcbadM35
import Derived.Test.YtgaofjiidedcbadM28
import Derived.Test.YtgaofjiidedcbadM30
import Derived.Test.YtgaofjiidedcbadM19
import Derived.Test.YtgaofjiidedcbadProg
import Derived.WalkKit
import Derived.Test.YtgaofjiidedcbadM18
import Derived.Test.YtgaofjiidedcbadM24
set_option maxHeartbeats 4000000
set_option linter.unusedVariables false
set_option linter.unusedSimpArgs false
namespace Go.Proofs.Ytgaofjiidedcbad.ab
open Go Go.RowKit
open mth
theorem callLn : callableB Try.prog 24 = true:=by kernel_rfl
theorem ll_snoc (l : List Ln) (x : Ln) : encLl (l ++ [x]) = encLl l ++ [aD (encLn x)]:=by simp [encLl]
def owSt (l : List Ln) (k : Nat) : St:=⟨[(1,vD (.func (.func 24) #[] #[])),(5,sD 17 (encLl (l.take k))),(8,sD 17 (encLl l)),(9,vI l.length),(10,vI k)],[],[((5,none),(51,17,none))]⟩
def owHt (l : List Ln) (k : Nat) : St:=⟨[(1,vD (.func (.func 24) #[] #[])),(5,xD),(8,sD 17 (encLl l)),(9,vI l.length),(10,vI k)],[],[((5,none),(51,17,some (encLl (l.take k))))]⟩
theorem ownW_core (hO : CLOwn 24) (l : List Ln) (hl : l.length ≤ 1048576) (hm : ∀ m ∈ l,GoodL m) (Q : AX → St → Prop) (hQ : Q (some none) ⟨[(4,sD 17 (encLl l))],[],[((4,none),(51,17,none))]⟩) : list_OwnW (start [sD 17 (encLl l),vD (.func (.func 24) #[] #[])]) Q:=by
 refine wk @len_ll ?_
 refine aw_loop (fun n st => ∃ k,k ≤ l.length ∧ n = l.length - k ∧ st = owSt l k) l.length (owSt l 0) ((Le.nilS 5 51 17 rfl).trans (Le.keep (lv:=[1,5,8,9,10]) (lb:=[]) (by simp only [ev0,ev1,ev2,look,lookF,cellsFrom,offT,offP,List.tail_nil,List.length_nil,Int.cast_ofNat_Int,Nat.reduceEqDiff,Nat.reduceAdd,Nat.reduceMul,Nat.reduceLeDiff,Nat.reduceLT,↓reduceIte,reduceCtorEq,Int.reduceBEq,Int.reduceBNe,Int.reduceLT,Int.reduceLE,Int.reduceToNat]; rfl))) ⟨0,by omega,by omega,rfl⟩ ?_
 rintro n st ⟨k,hk',hn,rfl⟩
 by_cases hlt : k < l.length
 ·obtain ⟨x,hx⟩ : ∃ m,l[k]? = some m:=⟨l[k],List.getElem?_eq_getElem hlt⟩
  have g1 : (k : Int) < (l.length : Int):=by omega
  have g2 : (0 : Int) ≤ (k : Int):=by omega
  have g3:=at_ll hx
  have g4 : inR .i64 ((k : Int) + 1) = true:=inR_of (by omega)
  have hlen : (l.take k).length = k:=by rw [List.length_take]; omega
  have hb1 : ((l.take k).length + 1) * 248 ≤ 140737488355328:=by omega
  have h1:=hO x (hm x (List.mem_of_getElem? hx))
  have hnx : Next (fun n st => ∃ k,k ≤ l.length ∧ n = l.length - k ∧ st = owSt l k) n
    ⟨[(1,vD (.func (.func 24) #[] #[])),(5,sD 17 (encLl (l.take k) ++ [aD (encLn x)])),(8,sD 17 (encLl l)),(9,vI l.length),(10,vI ((k : Int) + 1))],[],[((5,none),(51,17,none))]⟩:=by
   rw [← ll_snoc,show l.take k ++ [x] = l.take (k + 1) by rw [List.take_add_one,hx]; rfl]
   exact ⟨l.length - (k + 1),_,by omega,Le.refl _,k + 1,by omega,rfl,by simp only [owSt,Int.natCast_add,Int.cast_ofNat_Int]⟩
  generalize (fun n st => ∃ k,k ≤ l.length ∧ n = l.length - k ∧ st = owSt l k) = J at *
  simp only [owSt,encLn] at g3 h1 hnx ⊢
  generalize l.take k = G at *
  refine wk (an7 @g1 @g2 @g3 @callLn @hb1 @len_ll @Int.toNat_natCast) ?_
  refine cg [[aD (encLn x)]] (an4 @encLn.eq_1 @callLn @hb1 @len_ll) ?_ ?_
  ·exact obl_cons h1 obl_nil
  refine wk @g4 ?_
  exact hnx
 ·have hk'' : k = l.length:=by omega
  subst hk''
  have g1 : ¬ (l.length : Int) < (l.length : Int):=by omega
  simp only [owSt,List.take_length]
  refine wk @g1 ?_
  exact hQ
theorem ownWH_core (hO : CLOwn 24) (l : List Ln) (hl : l.length ≤ 1048576) (hm : ∀ m ∈ l,GoodL m) (Q : AX → St → Prop) (hQ : Q (some none) ⟨[(4,xD)],[],[((4,none),(51,17,some (encLl l)))]⟩) : list_OwnW (start [sD 17 (encLl l),vD (.func (.func 24) #[] #[])]) Q:=by
 refine wk @len_ll ?_
 refine aw_loop (fun n st => ∃ k,k ≤ l.length ∧ n = l.length - k ∧ st = owHt l k) l.length (owHt l 0) ((le_nilH 5 51 17 rfl).trans (Le.keep (lv:=[1,5,8,9,10]) (lb:=[]) (by simp only [ev0,ev1,ev2,look,lookF,cellsFrom,offT,offP,List.tail_nil,List.length_nil,Int.cast_ofNat_Int,Nat.reduceEqDiff,Nat.reduceAdd,Nat.reduceMul,Nat.reduceLeDiff,Nat.reduceLT,↓reduceIte,reduceCtorEq,Int.reduceBEq,Int.reduceBNe,Int.reduceLT,Int.reduceLE,Int.reduceToNat]; rfl))) ⟨0,by omega,by omega,rfl⟩ ?_
 rintro n st ⟨k,hk',hn,rfl⟩
 by_cases hlt : k < l.length
 ·obtain ⟨x,hx⟩ : ∃ m,l[k]? = some m:=⟨l[k],List.getElem?_eq_getElem hlt⟩
  have g1 : (k : Int) < (l.length : Int):=by omega
  have g2 : (0 : Int) ≤ (k : Int):=by omega
  have g3:=at_ll hx
  have g4 : inR .i64 ((k : Int) + 1) = true:=inR_of (by omega)
  have hlen : (l.take k).length = k:=by rw [List.length_take]; omega
  have hb1 : ((l.take k).length + 1) * 248 ≤ 140737488355328:=by omega
  have h1:=hO x (hm x (List.mem_of_getElem? hx))
  have hnx : Next (fun n st => ∃ k,k ≤ l.length ∧ n = l.length - k ∧ st = owHt l k) n
    ⟨[(1,vD (.func (.func 24) #[] #[])),(5,xD),(8,sD 17 (encLl l)),(9,vI l.length),(10,vI ((k : Int) + 1))],[],[((5,none),(51,17,some (encLl (l.take k) ++ [aD (encLn x)])))]⟩:=by
   rw [← ll_snoc,show l.take k ++ [x] = l.take (k + 1) by rw [List.take_add_one,hx]; rfl]
   exact ⟨l.length - (k + 1),_,by omega,Le.refl _,k + 1,by omega,rfl,by simp only [owHt,Int.natCast_add,Int.cast_ofNat_Int]⟩
  generalize (fun n st => ∃ k,k ≤ l.length ∧ n = l.length - k ∧ st = owHt l k) = J at *
  simp only [owHt,encLn] at g3 h1 hnx ⊢
  generalize l.take k = G at *
  refine wk (an7 @g1 @g2 @g3 @callLn @hb1 @len_ll @Int.toNat_natCast) ?_
  refine cg [[aD (encLn x)]] (an4 @encLn.eq_1 @callLn @hb1 @len_ll) ?_ ?_
  ·exact obl_cons h1 obl_nil
  refine wk @g4 ?_
  exact hnx
 ·have hk'' : k = l.length:=by omega
  subst hk''
  have g1 : ¬ (l.length : Int) < (l.length : Int):=by omega
  simp only [owHt,List.take_length]
  refine wk @g1 ?_
  exact hQ
theorem ownW_told (hO : CLOwn 24) (l : List Ln) (hl : l.length ≤ 1048576) (hm : ∀ m ∈ l,GoodL m) : Told Try.prog 30 [sD 17 (encLl l),vD (.func (.func 24) #[] #[])] [sD 17 (encLl l)] :=
 told_list_OwnW rfl (ownW_core hO l hl hm _ ⟨[sD 17 (encLl l)],rfl,ValsLe.refl _⟩)
theorem ownW_toldH (hO : CLOwn 24) (l : List Ln) (hl : l.length ≤ 1048576) (hm : ∀ m ∈ l,GoodL m) : ToldO Try.prog 30 [sD 17 (encLl l),vD (.func (.func 24) #[] #[])] [xD] none 51 (17,some (encLl l)) :=
 toldO_list_OwnW rfl (ownWH_core hO l hl hm _ ⟨xD,rfl,rfl,CVLe.refl _,rfl⟩)
def CWOwn (f : Nat) : Prop:=∀ w,GoodW w → Told Try.prog f [aD (encWd w)] [aD (encWd w)]
def CWNew (f : Nat) : Prop:=(∀ n : Nat,1 ≤ n → n ≤ 3 → Told Try.prog f [vI n] [aD (encWd (newW n)),vI 0]) ∧ ∀ n : Int,n < 1 ∨ 3 < n → Told Try.prog f [vI n] [aD (encWd ⟨[],0⟩),vI 3]
def CWDo (f : Nat) : Prop:=∀ w s,GoodW w → w.ticks ≤ 1000000 → Told Try.prog f [aD (encWd w),aD (encSp s)] [aD (encWd (doW w s).1),vI (doW w s).2]
theorem ownWd_told (hO : CLOwn 24) : CWOwn 20:=by
 intro w hw
 refine told_world_Own rfl ?_
 have h1:=ownW_told hO w.lanes (by have:=hw.n; omega) hw.l
 simp only [encWd]
 refine wk0 ?_
 refine cg0 [[sD 17 (encLl w.lanes)]] ?_ ?_
 ·exact obl_cons h1 obl_nil
 refine wk0 ?_
 exact ValsLe.refl _
theorem ownWd_toldO (hO : CLOwn 24) (w : Wd) (hw : GoodW w) : ToldO Try.prog 20 [aD (encWd w)] [aD [xD,vI w.ticks]] (some 0) 51 (17,some (encLl w.lanes)):=by
 refine toldO_world_OwnO rfl ?_
 have h1:=ownW_toldH hO w.lanes (by have:=hw.n; omega) hw.l
 simp only [encWd]
 refine wk0 ?_
 refine cg0 [[mO xD 51 17 (aD (encLl w.lanes))]] ?_ ?_
 ·exact obl_out h1 obl_nil
 refine wk0 ?_
 refine ⟨1,2,_,_,0,_,rfl,rfl,by decide,rfl,rfl,rfl,rfl,rfl,by decide,rfl,?_⟩
 refine wk0 ?_
 exact fin1_ret ⟨2,_,rfl,rfl,rfl,rfl,row_refl _,by decide,rfl⟩
theorem newWd_told : CWNew 18:=by
 refine ⟨fun n h1 h2 => ?_,fun n h => ?_⟩
 ·refine told_world_New rfl ?_
  have h3 : n = 1 ∨ n = 2 ∨ n = 3:=by omega
  rcases h3 with rfl | rfl | rfl
  ·simp only [newW,encWd,encLl,List.replicate,List.map_cons,List.map_nil,encLn,zeroL,zeroS,zeroR,encMl,encCl,encPk]
   refine wk (an4 @Int.toNat_natCast @zrs @zr0 @zcons) ?_
   repeat' (first | exact vals_nil | exact row_nil | exact es_nil | exact CVLe.refl _ | exact LfLe.refl _ | exact LfLe.nil _ | exact EsLe.refl _ | refine vals_cons ?_ ?_ | refine row_cons ?_ ?_ | refine es_cons ?_ ?_ | refine EsLe.app ?_ ?_ | refine CVLe.row ?_ | refine CVLe.leafV ?_ | refine CVLe.leafS ?_ | refine LfLe.s ?_)
  ·simp only [newW,encWd,encLl,List.replicate,List.map_cons,List.map_nil,encLn,zeroL,zeroS,zeroR,encMl,encCl,encPk]
   refine wk (an4 @Int.toNat_natCast @zrs @zr0 @zcons) ?_
   repeat' (first | exact vals_nil | exact row_nil | exact es_nil | exact CVLe.refl _ | exact LfLe.refl _ | exact LfLe.nil _ | exact EsLe.refl _ | refine vals_cons ?_ ?_ | refine row_cons ?_ ?_ | refine es_cons ?_ ?_ | refine EsLe.app ?_ ?_ | refine CVLe.row ?_ | refine CVLe.leafV ?_ | refine CVLe.leafS ?_ | refine LfLe.s ?_)
  ·simp only [newW,encWd,encLl,List.replicate,List.map_cons,List.map_nil,encLn,zeroL,zeroS,zeroR,encMl,encCl,encPk]
   refine wk (an4 @Int.toNat_natCast @zrs @zr0 @zcons) ?_
   repeat' (first | exact vals_nil | exact row_nil | exact es_nil | exact CVLe.refl _ | exact LfLe.refl _ | exact LfLe.nil _ | exact EsLe.refl _ | refine vals_cons ?_ ?_ | refine row_cons ?_ ?_ | refine es_cons ?_ ?_ | refine EsLe.app ?_ ?_ | refine CVLe.row ?_ | refine CVLe.leafV ?_ | refine CVLe.leafS ?_ | refine LfLe.s ?_)
 ·refine told_world_New rfl ?_
  simp only [encWd,encLl,List.map_nil]
  by_cases h1 : n < 1
  ·refine wk @h1 ?_
   repeat' (first | exact vals_nil | exact row_nil | exact es_nil | exact CVLe.refl _ | exact LfLe.refl _ | exact LfLe.nil _ | exact EsLe.refl _ | refine vals_cons ?_ ?_ | refine row_cons ?_ ?_ | refine es_cons ?_ ?_ | refine EsLe.app ?_ ?_ | refine CVLe.row ?_ | refine CVLe.leafV ?_ | refine CVLe.leafS ?_ | refine LfLe.s ?_)
  ·have h2 : 3 < n:=by omega
   refine wk (an2 @h1 @h2) ?_
   repeat' (first | exact vals_nil | exact row_nil | exact es_nil | exact CVLe.refl _ | exact LfLe.refl _ | exact LfLe.nil _ | exact EsLe.refl _ | refine vals_cons ?_ ?_ | refine row_cons ?_ ?_ | refine es_cons ?_ ?_ | refine EsLe.app ?_ ?_ | refine CVLe.row ?_ | refine CVLe.leafV ?_ | refine CVLe.leafS ?_ | refine LfLe.s ?_)
set_option maxRecDepth 100000
def Q63r0 : IC:=cReg Try.prog [⟨some 4,none,iMov 4 (.const (.int .i64 0)) true⟩,⟨some 5,none,iMov 5 (.const (.int .i64 0)) true⟩] [0,1] []
def Q63r1 : IC:=cReg Try.prog [xM 6 0,xC 7 .lss 6 0,xM 8 7,xG 8 false (xM 9 1),xG 8 false (xC 10 .lss 9 1),xP 11 8 10,xM 12 11,xG 12 false (xM 13 1),xG 12 false (xC 14 .gtr 13 3),xP 15 12 14] [0,1,15] []
def Q63r2 : IC:=cReg Try.prog [⟨some 4,none,iMov 4 (.const (.int .i64 0)) true⟩,⟨some 5,none,iMov 5 (.const (.int .i64 3)) true⟩] [4,5] []
def Q63c1a : IC:=(cSeq Q63r2 cRet)
def Q63c1 : IC:=cCond (.tmp 15) Q63c1a cSkip
def Q63r3 : IC:=cReg Try.prog [xM 16 0,xM 17 1,xB 18 .rem 16 17,xT 4 18,⟨some 5,none,iMov 5 (.const (.int .i64 0)) true⟩] [4,5] []
def slot_Whose : IC:=(cSeq Q63r0 (cSeq (cSeq Q63r1 Q63c1) (cSeq Q63r3 cRet)))
theorem told_slot_Whose {args r : List D} (hl : args.length = 2) (h : slot_Whose (start args) (fin [(4,none),(5,none)] r)) : Told Try.prog 39 args r :=
 told_of follows Try.func39 rfl (an:=[([],[0,1],[],[]),([],[0,1,15],[],[]),([],[4,5],[],[]),([],[4,5],[],[])]) (by kernel_rfl) (by kernel_rfl) (by rw [hl]; decide +kernel) h
end Go.Proofs.Ytgaofjiidedcbad.ab
namespace Go.Proofs.Ytgaofjiidedcbad.mth
def aheadP (tick n tenant : Int) : Int:=(tenant - tick % n + n) % n
def turnsP (tick many n tenant : Int) : Nat:=if many ≤ aheadP tick n tenant then 0 else ((many - aheadP tick n tenant - 1) / n + 1).toNat
theorem ahead_ok {tick n tenant : Int} (hn : n = 1 ∨ n = 2 ∨ n = 3) : 0 ≤ aheadP tick n tenant ∧ aheadP tick n tenant < n:=by
 unfold aheadP; rcases hn with rfl | rfl | rfl <;> omega
theorem turns_lt {tick many n tenant : Int} (hn : n = 1 ∨ n = 2 ∨ n = 3) {k : Nat} : k < turnsP tick many n tenant ↔ aheadP tick n tenant + (k : Int) * n < many:=by
 have:=ahead_ok (tick:=tick) (tenant:=tenant) hn
 unfold turnsP; split
 ·rcases hn with rfl | rfl | rfl <;> omega
 ·rcases hn with rfl | rfl | rfl <;> omega
structure Behind (tick many n tenant t : Int) (k : Nat) : Prop where
 lo : tick ≤ t
 hi : t ≤ tick + many
 ahead : t ≤ tick + aheadP tick n tenant + (k : Int) * n
 last : k = 0 ∨ tick + aheadP tick n tenant + ((k : Int) - 1) * n < t
theorem Behind.start {tick many n tenant : Int} (hn : n = 1 ∨ n = 2 ∨ n = 3) (hm : 0 ≤ many) : Behind tick many n tenant tick 0:=by
 have:=ahead_ok (tick:=tick) (tenant:=tenant) hn
 exact ⟨by omega,by omega,by simp; omega,.inl rfl⟩
theorem Behind.done {tick many n tenant : Int} {k : Nat} (hn : n = 1 ∨ n = 2 ∨ n = 3) (h : Behind tick many n tenant (tick + many) k) (hk : k ≤ turnsP tick many n tenant) : k = turnsP tick many n tenant:=by
 obtain ⟨a,b,c,d⟩:=h
 by_cases q : k < turnsP tick many n tenant
 ·have:=(turns_lt hn).1 q; omega
 ·omega
end Go.Proofs.Ytgaofjiidedcbad.mth
namespace Go.Proofs.Ytgaofjiidedcbad.ab
open Go Go.RowKit
open mth
theorem whose_ok (t n : Int) (ht : 0 ≤ t) (hn : 1 ≤ n ∧ n ≤ 3) : Told Try.prog 39 [vI t,vI n] [vI (t % n),vI 0]:=by
 refine told_slot_Whose rfl ?_
 have g1 : ¬ t < 0:=by omega
 have g2 : ¬ n < 1:=by omega
 have g3 : ¬ 3 < n:=by omega
 have g4 : n ≠ 0:=by omega
 have g5 : t.tmod n = t % n:=Int.tmod_eq_emod_of_nonneg ht
 refine wk (an5 @g1 @g2 @g3 @g4 @g5) ?_
 exact ValsLe.refl _
def CPutS (f : Nat) : Prop:=∀ s m,GoodS s → Told Try.prog f [aD (encSd s),aD (encMs m)] [aD (encSd (putS s m)),vI (putE s m)]
def CSayS (f : Nat) : Prop:=∀ s,GoodS s → Told Try.prog f [aD (encSd s)] [aD (encSd (sayL s).1),aD (encCh (sayL s).2.1),vB (sayL s).2.2]
def CHearS (f : Nat) : Prop:=∀ s c,GoodS s → wrongL c = 0 → Told Try.prog f [aD (encSd s),aD (encCh c)] [aD (encSd (hearS s c))]
theorem early_right {c : Ch} (h : wrongL c = 0) : c.early.length ≤ 3:=by
 unfold wrongL at h
 split at h
 ·cases h
 ·split at h
  ·cases h
  ·split at h
   ·split at h
    ·cases h
    ·split at h
     ·cases h
     ·rename_i he; omega
   ·split at h
    ·cases h
    ·split at h
     ·cases h
     ·rename_i he; omega
theorem say_early {s : Sd} (h : GoodS s) : (sayL s).2.1.early.length ≤ 3:=by
 unfold sayL
 split
 ·split
  ·simp [zeroC]
  ·rename_i hf
   have hk:=againK_lt h (by omega)
   have hlt : (againK s).toNat < s.flight.length:=by omega
   simp only [List.getD_eq_getElem?_getD,List.getElem?_eq_getElem hlt,Option.getD_some]
   rw [h.early _ (List.getElem_mem hlt)]
   simp
 ·split
  ·rename_i hf
   have hk:=againK_lt h (by omega)
   have hlt : (againK s).toNat < s.flight.length:=by omega
   simp only [List.getD_eq_getElem?_getD,List.getElem?_eq_getElem hlt,Option.getD_some]
   rw [h.early _ (List.getElem_mem hlt)]
   simp
  ·simp [newC]
end Go.Proofs.Ytgaofjiidedcbad.ab
