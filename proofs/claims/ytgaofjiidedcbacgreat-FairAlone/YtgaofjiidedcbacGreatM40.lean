import Derived.Test.YtgaofjiidedcbacGreatM39
import Derived.Test.YtgaofjiidedcbacGreatM32
import Derived.Test.YtgaofjiidedcbacGreatM35
import Derived.Test.YtgaofjiidedcbacGreatM20
import Derived.Test.YtgaofjiidedcbacGreatProg
import Derived.WalkKit
import Derived.Test.YtgaofjiidedcbacGreatM19
import Derived.Test.YtgaofjiidedcbacGreatM27
import Derived.Test.YtgaofjiidedcbacGreatM38
import Derived.Test.YtgaofjiidedcbacGreatM36
set_option maxHeartbeats 8000000
set_option linter.unusedVariables false
set_option linter.unusedSimpArgs false
namespace Go.Proofs.YtgaofjiidedcbacGreat.ab
open Go Go.RowKit
open mth
theorem callLn : callableB Tryz.prog 36 = true:=by kernel_rfl
theorem ll_snoc (l : List Ln) (x : Ln) : encLl (l ++ [x]) = encLl l ++ [aD (encLn x)]:=by simp [encLl]
def owSt (l : List Ln) (k : Nat) : St:=⟨[(1,vD (.func (.func 36) #[] #[])),(5,sD 17 (encLl (l.take k))),(8,sD 17 (encLl l)),(9,vI l.length),(10,vI k)],[],[((5,none),(56,17,none))]⟩
def owHt (l : List Ln) (k : Nat) : St:=⟨[(1,vD (.func (.func 36) #[] #[])),(5,xD),(8,sD 17 (encLl l)),(9,vI l.length),(10,vI k)],[],[((5,none),(56,17,some (encLl (l.take k))))]⟩
theorem ownW_core (hO : CLOwn 36) (l : List Ln) (hl : l.length ≤ 1048576) (hm : ∀ m ∈ l,GoodL m) (Q : AX → St → Prop) (hQ : Q (some none) ⟨[(4,sD 17 (encLl l))],[],[((4,none),(56,17,none))]⟩) : list_OwnW (start [sD 17 (encLl l),vD (.func (.func 36) #[] #[])]) Q:=by
 refine wk @len_ll ?_
 refine aw_loop (fun n st => ∃ k,k ≤ l.length ∧ n = l.length - k ∧ st = owSt l k) l.length (owSt l 0) ((Le.nilS 5 56 17 rfl).trans (Le.keep (lv:=[1,5,8,9,10]) (lb:=[]) (by simp only [ev0,ev1,ev2,look,lookF,cellsFrom,offT,offP,List.tail_nil,List.length_nil,Int.cast_ofNat_Int,Nat.reduceEqDiff,Nat.reduceAdd,Nat.reduceMul,Nat.reduceLeDiff,Nat.reduceLT,↓reduceIte,reduceCtorEq,Int.reduceBEq,Int.reduceBNe,Int.reduceLT,Int.reduceLE,Int.reduceToNat]; rfl))) ⟨0,by omega,by omega,rfl⟩ ?_
 rintro n st ⟨k,hk',hn,rfl⟩
 by_cases hlt : k < l.length
 ·obtain ⟨x,hx⟩ : ∃ m,l[k]? = some m:=⟨l[k],List.getElem?_eq_getElem hlt⟩
  have g1 : (k : Int) < (l.length : Int):=by omega
  have g2 : (0 : Int) ≤ (k : Int):=by omega
  have g3:=at_ll hx
  have g4 : inR .i64 ((k : Int) + 1) = true:=inR_of (by omega)
  have hlen : (l.take k).length = k:=by rw [List.length_take]; omega
  have hb1 : ((l.take k).length + 1) * 248 ≤ 140737488355328:=by omega
  have h1:=hO x (hm x (List.mem_of_getElem? hx))
  have hnx : Next (fun n st => ∃ k,k ≤ l.length ∧ n = l.length - k ∧ st = owSt l k) n
    ⟨[(1,vD (.func (.func 36) #[] #[])),(5,sD 17 (encLl (l.take k) ++ [aD (encLn x)])),(8,sD 17 (encLl l)),(9,vI l.length),(10,vI ((k : Int) + 1))],[],[((5,none),(56,17,none))]⟩:=by
   rw [← ll_snoc,show l.take k ++ [x] = l.take (k + 1) by rw [List.take_add_one,hx]; rfl]
   exact ⟨l.length - (k + 1),_,by omega,Le.refl _,k + 1,by omega,rfl,by simp only [owSt,Int.natCast_add,Int.cast_ofNat_Int]⟩
  generalize (fun n st => ∃ k,k ≤ l.length ∧ n = l.length - k ∧ st = owSt l k) = J at *
  simp only [owSt,encLn] at g3 h1 hnx ⊢
  generalize l.take k = G at *
  refine wk (an7 @g1 @g2 @g3 @callLn @hb1 @len_ll @Int.toNat_natCast) ?_
  refine cg [[aD (encLn x)]] (an4 @encLn.eq_1 @callLn @hb1 @len_ll) ?_ ?_
  ·exact obl_cons h1 obl_nil
  refine wk @g4 ?_
  exact hnx
 ·have hk'' : k = l.length:=by omega
  subst hk''
  have g1 : ¬ (l.length : Int) < (l.length : Int):=by omega
  simp only [owSt,List.take_length]
  refine wk @g1 ?_
  exact hQ
theorem ownWH_core (hO : CLOwn 36) (l : List Ln) (hl : l.length ≤ 1048576) (hm : ∀ m ∈ l,GoodL m) (Q : AX → St → Prop) (hQ : Q (some none) ⟨[(4,xD)],[],[((4,none),(56,17,some (encLl l)))]⟩) : list_OwnW (start [sD 17 (encLl l),vD (.func (.func 36) #[] #[])]) Q:=by
 refine wk @len_ll ?_
 refine aw_loop (fun n st => ∃ k,k ≤ l.length ∧ n = l.length - k ∧ st = owHt l k) l.length (owHt l 0) ((le_nilH 5 56 17 rfl).trans (Le.keep (lv:=[1,5,8,9,10]) (lb:=[]) (by simp only [ev0,ev1,ev2,look,lookF,cellsFrom,offT,offP,List.tail_nil,List.length_nil,Int.cast_ofNat_Int,Nat.reduceEqDiff,Nat.reduceAdd,Nat.reduceMul,Nat.reduceLeDiff,Nat.reduceLT,↓reduceIte,reduceCtorEq,Int.reduceBEq,Int.reduceBNe,Int.reduceLT,Int.reduceLE,Int.reduceToNat]; rfl))) ⟨0,by omega,by omega,rfl⟩ ?_
 rintro n st ⟨k,hk',hn,rfl⟩
 by_cases hlt : k < l.length
 ·obtain ⟨x,hx⟩ : ∃ m,l[k]? = some m:=⟨l[k],List.getElem?_eq_getElem hlt⟩
  have g1 : (k : Int) < (l.length : Int):=by omega
  have g2 : (0 : Int) ≤ (k : Int):=by omega
  have g3:=at_ll hx
  have g4 : inR .i64 ((k : Int) + 1) = true:=inR_of (by omega)
  have hlen : (l.take k).length = k:=by rw [List.length_take]; omega
  have hb1 : ((l.take k).length + 1) * 248 ≤ 140737488355328:=by omega
  have h1:=hO x (hm x (List.mem_of_getElem? hx))
  have hnx : Next (fun n st => ∃ k,k ≤ l.length ∧ n = l.length - k ∧ st = owHt l k) n
    ⟨[(1,vD (.func (.func 36) #[] #[])),(5,xD),(8,sD 17 (encLl l)),(9,vI l.length),(10,vI ((k : Int) + 1))],[],[((5,none),(56,17,some (encLl (l.take k) ++ [aD (encLn x)])))]⟩:=by
   rw [← ll_snoc,show l.take k ++ [x] = l.take (k + 1) by rw [List.take_add_one,hx]; rfl]
   exact ⟨l.length - (k + 1),_,by omega,Le.refl _,k + 1,by omega,rfl,by simp only [owHt,Int.natCast_add,Int.cast_ofNat_Int]⟩
  generalize (fun n st => ∃ k,k ≤ l.length ∧ n = l.length - k ∧ st = owHt l k) = J at *
  simp only [owHt,encLn] at g3 h1 hnx ⊢
  generalize l.take k = G at *
  refine wk (an7 @g1 @g2 @g3 @callLn @hb1 @len_ll @Int.toNat_natCast) ?_
  refine cg [[aD (encLn x)]] (an4 @encLn.eq_1 @callLn @hb1 @len_ll) ?_ ?_
  ·exact obl_cons h1 obl_nil
  refine wk @g4 ?_
  exact hnx
 ·have hk'' : k = l.length:=by omega
  subst hk''
  have g1 : ¬ (l.length : Int) < (l.length : Int):=by omega
  simp only [owHt,List.take_length]
  refine wk @g1 ?_
  exact hQ
theorem ownW_told (hO : CLOwn 36) (l : List Ln) (hl : l.length ≤ 1048576) (hm : ∀ m ∈ l,GoodL m) : Told Tryz.prog 35 [sD 17 (encLl l),vD (.func (.func 36) #[] #[])] [sD 17 (encLl l)] :=
 told_list_OwnW rfl (ownW_core hO l hl hm _ ⟨[sD 17 (encLl l)],rfl,ValsLe.refl _⟩)
theorem ownW_toldH (hO : CLOwn 36) (l : List Ln) (hl : l.length ≤ 1048576) (hm : ∀ m ∈ l,GoodL m) : ToldO Tryz.prog 35 [sD 17 (encLl l),vD (.func (.func 36) #[] #[])] [xD] none 56 (17,some (encLl l)) :=
 toldO_list_OwnW rfl (ownWH_core hO l hl hm _ ⟨xD,rfl,rfl,CVLe.refl _,rfl⟩)
def CWOwn (f : Nat) : Prop:=∀ w,GoodW w → Told Tryz.prog f [aD (encWd w)] [aD (encWd w)]
def CWNew (f : Nat) : Prop:=(∀ n : Nat,1 ≤ n → n ≤ 3 → Told Tryz.prog f [vI n] [aD (encWd (newW n)),vI 0]) ∧ ∀ n : Int,n < 1 ∨ 3 < n → Told Tryz.prog f [vI n] [aD (encWd ⟨[],0⟩),vI 3]
def CWDo (f : Nat) : Prop:=∀ w s,GoodW w → w.ticks ≤ 1000000 → Told Tryz.prog f [aD (encWd w),aD (encSp s)] [aD (encWd (doW w s).1),vI (doW w s).2]
theorem ownWd_told (hO : CLOwn 36) : CWOwn 22:=by
 intro w hw
 refine told_world_Own rfl ?_
 have h1:=ownW_told hO w.lanes (by have:=hw.n; omega) hw.l
 simp only [encWd]
 refine wk0 ?_
 refine cg0 [[sD 17 (encLl w.lanes)]] ?_ ?_
 ·exact obl_cons h1 obl_nil
 refine wk0 ?_
 exact ValsLe.refl _
theorem ownWd_toldO (hO : CLOwn 36) (w : Wd) (hw : GoodW w) : ToldO Tryz.prog 22 [aD (encWd w)] [aD [xD,vI w.ticks]] (some 0) 56 (17,some (encLl w.lanes)):=by
 refine toldO_world_OwnO rfl ?_
 have h1:=ownW_toldH hO w.lanes (by have:=hw.n; omega) hw.l
 simp only [encWd]
 refine wk0 ?_
 refine cg0 [[mO xD 56 17 (aD (encLl w.lanes))]] ?_ ?_
 ·exact obl_out h1 obl_nil
 refine wk0 ?_
 refine ⟨1,2,_,_,0,_,rfl,rfl,by decide,rfl,rfl,rfl,rfl,rfl,by decide,rfl,?_⟩
 refine wk0 ?_
 exact fin1_ret ⟨2,_,rfl,rfl,rfl,rfl,row_refl _,by decide,rfl⟩
theorem newWd_told : CWNew 19:=by
 refine ⟨fun n h1 h2 => ?_,fun n h => ?_⟩
 ·refine told_world_New rfl ?_
  have h3 : n = 1 ∨ n = 2 ∨ n = 3:=by omega
  rcases h3 with rfl | rfl | rfl
  ·simp only [newW,encWd,encLl,List.replicate,List.map_cons,List.map_nil,encLn,zeroL,zeroS,zeroR,encMl,encCl,encPk]
   refine wk (an4 @Int.toNat_natCast @zrs @zr0 @zcons) ?_
   repeat' (first | exact vals_nil | exact row_nil | exact es_nil | exact CVLe.refl _ | exact LfLe.refl _ | exact LfLe.nil _ | exact EsLe.refl _ | refine vals_cons ?_ ?_ | refine row_cons ?_ ?_ | refine es_cons ?_ ?_ | refine EsLe.app ?_ ?_ | refine CVLe.row ?_ | refine CVLe.leafV ?_ | refine CVLe.leafS ?_ | refine LfLe.s ?_)
  ·simp only [newW,encWd,encLl,List.replicate,List.map_cons,List.map_nil,encLn,zeroL,zeroS,zeroR,encMl,encCl,encPk]
   refine wk (an4 @Int.toNat_natCast @zrs @zr0 @zcons) ?_
   repeat' (first | exact vals_nil | exact row_nil | exact es_nil | exact CVLe.refl _ | exact LfLe.refl _ | exact LfLe.nil _ | exact EsLe.refl _ | refine vals_cons ?_ ?_ | refine row_cons ?_ ?_ | refine es_cons ?_ ?_ | refine EsLe.app ?_ ?_ | refine CVLe.row ?_ | refine CVLe.leafV ?_ | refine CVLe.leafS ?_ | refine LfLe.s ?_)
  ·simp only [newW,encWd,encLl,List.replicate,List.map_cons,List.map_nil,encLn,zeroL,zeroS,zeroR,encMl,encCl,encPk]
   refine wk (an4 @Int.toNat_natCast @zrs @zr0 @zcons) ?_
   repeat' (first | exact vals_nil | exact row_nil | exact es_nil | exact CVLe.refl _ | exact LfLe.refl _ | exact LfLe.nil _ | exact EsLe.refl _ | refine vals_cons ?_ ?_ | refine row_cons ?_ ?_ | refine es_cons ?_ ?_ | refine EsLe.app ?_ ?_ | refine CVLe.row ?_ | refine CVLe.leafV ?_ | refine CVLe.leafS ?_ | refine LfLe.s ?_)
 ·refine told_world_New rfl ?_
  simp only [encWd,encLl,List.map_nil]
  by_cases h1 : n < 1
  ·refine wk @h1 ?_
   repeat' (first | exact vals_nil | exact row_nil | exact es_nil | exact CVLe.refl _ | exact LfLe.refl _ | exact LfLe.nil _ | exact EsLe.refl _ | refine vals_cons ?_ ?_ | refine row_cons ?_ ?_ | refine es_cons ?_ ?_ | refine EsLe.app ?_ ?_ | refine CVLe.row ?_ | refine CVLe.leafV ?_ | refine CVLe.leafS ?_ | refine LfLe.s ?_)
  ·have h2 : 3 < n:=by omega
   refine wk (an2 @h1 @h2) ?_
   repeat' (first | exact vals_nil | exact row_nil | exact es_nil | exact CVLe.refl _ | exact LfLe.refl _ | exact LfLe.nil _ | exact EsLe.refl _ | refine vals_cons ?_ ?_ | refine row_cons ?_ ?_ | refine es_cons ?_ ?_ | refine EsLe.app ?_ ?_ | refine CVLe.row ?_ | refine CVLe.leafV ?_ | refine CVLe.leafS ?_ | refine LfLe.s ?_)
set_option maxRecDepth 100000
def Q85r0 : IC:=cReg Tryz.prog [⟨some 4,none,iMov 4 (.const (.int .i64 0)) true⟩,⟨some 5,none,iMov 5 (.const (.int .i64 0)) true⟩] [0,1] []
def Q85r1 : IC:=cReg Tryz.prog [xM 6 0,xC 7 .lss 6 0,xM 8 7,xG 8 false (xM 9 1),xG 8 false (xC 10 .lss 9 1),xP 11 8 10,xM 12 11,xG 12 false (xM 13 1),xG 12 false (xC 14 .gtr 13 3),xP 15 12 14] [0,1,15] []
def Q85r2 : IC:=cReg Tryz.prog [⟨some 4,none,iMov 4 (.const (.int .i64 0)) true⟩,⟨some 5,none,iMov 5 (.const (.int .i64 3)) true⟩] [4,5] []
def Q85c1a : IC:=(cSeq Q85r2 cRet)
def Q85c1 : IC:=cCond (.tmp 15) Q85c1a cSkip
def Q85r3 : IC:=cReg Tryz.prog [xM 16 0,xM 17 1,xB 18 .rem 16 17,xT 4 18,⟨some 5,none,iMov 5 (.const (.int .i64 0)) true⟩] [4,5] []
def slot_Whose : IC:=(cSeq Q85r0 (cSeq (cSeq Q85r1 Q85c1) (cSeq Q85r3 cRet)))
theorem told_slot_Whose {args r : List D} (hl : args.length = 2) (h : slot_Whose (start args) (fin [(4,none),(5,none)] r)) : Told Tryz.prog 42 args r :=
 told_of follows Tryz.func42 rfl (an:=[([],[0,1],[],[]),([],[0,1,15],[],[]),([],[4,5],[],[]),([],[4,5],[],[])]) (by kernel_rfl) (by kernel_rfl) (by rw [hl]; decide +kernel) h
end Go.Proofs.YtgaofjiidedcbacGreat.ab
namespace Go.Proofs.YtgaofjiidedcbacGreat.mth
def aheadP (tick n tenant : Int) : Int:=(tenant - tick % n + n) % n
def turnsP (tick many n tenant : Int) : Nat:=if many ≤ aheadP tick n tenant then 0 else ((many - aheadP tick n tenant - 1) / n + 1).toNat
theorem ahead_ok {tick n tenant : Int} (hn : n = 1 ∨ n = 2 ∨ n = 3) : 0 ≤ aheadP tick n tenant ∧ aheadP tick n tenant < n:=by
 unfold aheadP; rcases hn with rfl | rfl | rfl <;> omega
theorem ahead_mod {tick n tenant : Int} (hn : n = 1 ∨ n = 2 ∨ n = 3) (ht : 0 ≤ tenant ∧ tenant < n) (h0 : 0 ≤ tick) (k : Int) : (tick + aheadP tick n tenant + k * n) % n = tenant:=by
 unfold aheadP; rcases hn with rfl | rfl | rfl <;> omega
theorem turns_lt {tick many n tenant : Int} (hn : n = 1 ∨ n = 2 ∨ n = 3) {k : Nat} : k < turnsP tick many n tenant ↔ aheadP tick n tenant + (k : Int) * n < many:=by
 have:=ahead_ok (tick:=tick) (tenant:=tenant) hn
 unfold turnsP; split
 ·rcases hn with rfl | rfl | rfl <;> omega
 ·rcases hn with rfl | rfl | rfl <;> omega
structure Behind (tick many n tenant t : Int) (k : Nat) : Prop where
 lo : tick ≤ t
 hi : t ≤ tick + many
 ahead : t ≤ tick + aheadP tick n tenant + (k : Int) * n
 last : k = 0 ∨ tick + aheadP tick n tenant + ((k : Int) - 1) * n < t
theorem Behind.start {tick many n tenant : Int} (hn : n = 1 ∨ n = 2 ∨ n = 3) (hm : 0 ≤ many) : Behind tick many n tenant tick 0:=by
 have:=ahead_ok (tick:=tick) (tenant:=tenant) hn
 exact ⟨by omega,by omega,by simp; omega,.inl rfl⟩
theorem Behind.other {tick many n tenant t : Int} {k : Nat} (hn : n = 1 ∨ n = 2 ∨ n = 3) (ht : 0 ≤ tenant ∧ tenant < n) (h0 : 0 ≤ tick) (h : Behind tick many n tenant t k) (hlt : t < tick + many) (hne : t % n ≠ tenant) : Behind tick many n tenant (t + 1) k:=by
 have h1:=ahead_mod hn ht h0 (tick:=tick) (k : Int)
 obtain ⟨a,b,c,d⟩:=h
 refine ⟨by omega,by omega,?_,d.imp id (fun q => by omega)⟩
 have : t ≠ tick + aheadP tick n tenant + (k : Int) * n:=fun e => hne (by rw [e]; exact h1)
 omega
theorem Behind.done {tick many n tenant : Int} {k : Nat} (hn : n = 1 ∨ n = 2 ∨ n = 3) (h : Behind tick many n tenant (tick + many) k) (hk : k ≤ turnsP tick many n tenant) : k = turnsP tick many n tenant:=by
 obtain ⟨a,b,c,d⟩:=h
 by_cases q : k < turnsP tick many n tenant
 ·have:=(turns_lt hn).1 q; omega
 ·omega
end Go.Proofs.YtgaofjiidedcbacGreat.mth
namespace Go.Proofs.YtgaofjiidedcbacGreat.ab
open Go Go.RowKit
open mth
theorem whose_ok (t n : Int) (ht : 0 ≤ t) (hn : 1 ≤ n ∧ n ≤ 3) : Told Tryz.prog 42 [vI t,vI n] [vI (t % n),vI 0]:=by
 refine told_slot_Whose rfl ?_
 have g1 : ¬ t < 0:=by omega
 have g2 : ¬ n < 1:=by omega
 have g3 : ¬ 3 < n:=by omega
 have g4 : n ≠ 0:=by omega
 have g5 : t.tmod n = t % n:=Int.tmod_eq_emod_of_nonneg ht
 refine wk (an5 @g1 @g2 @g3 @g4 @g5) ?_
 exact ValsLe.refl _
def CPutS (f : Nat) : Prop:=∀ s m,GoodS s → Told Tryz.prog f [aD (encSd s),aD (encMs m)] [aD (encSd (putS s m)),vI (putE s m)]
def CSayS (f : Nat) : Prop:=∀ s,GoodS s → Told Tryz.prog f [aD (encSd s)] [aD (encSd (sayL s).1),aD (encCh (sayL s).2.1),vB (sayL s).2.2]
def CHearS (f : Nat) : Prop:=∀ s c,GoodS s → wrongL c = 0 → Told Tryz.prog f [aD (encSd s),aD (encCh c)] [aD (encSd (hearS s c))]
theorem early_right {c : Ch} (h : wrongL c = 0) : c.early.length ≤ 3:=by
 unfold wrongL at h
 split at h
 ·cases h
 ·split at h
  ·cases h
  ·split at h
   ·split at h
    ·cases h
    ·split at h
     ·cases h
     ·rename_i he; omega
   ·split at h
    ·cases h
    ·split at h
     ·cases h
     ·rename_i he; omega
theorem say_early {s : Sd} (h : GoodS s) : (sayL s).2.1.early.length ≤ 3:=by
 unfold sayL
 split
 ·split
  ·simp [zeroC]
  ·rename_i hf
   have hk:=againK_lt h (by omega)
   have hlt : (againK s).toNat < s.flight.length:=by omega
   simp only [List.getD_eq_getElem?_getD,List.getElem?_eq_getElem hlt,Option.getD_some]
   rw [h.early _ (List.getElem_mem hlt)]
   simp
 ·split
  ·rename_i hf
   have hk:=againK_lt h (by omega)
   have hlt : (againK s).toNat < s.flight.length:=by omega
   simp only [List.getD_eq_getElem?_getD,List.getElem?_eq_getElem hlt,Option.getD_some]
   rw [h.early _ (List.getElem_mem hlt)]
   simp
  ·simp [newC]
theorem step_put (hP : CPutS 44) (l : Ln) (s : Sp) (hg : GoodL l) (h : s.kind = 2) : Told Tryz.prog 31 [aD (encLn l),aD (encSp s)] [aD (encLn { l with s:=putS l.s s.msg }),vI (putE l.s s.msg)]:=by
 refine told_world_step rfl ?_
 have h1:=hP l.s s.msg hg.s
 obtain ⟨kind,tenant,n,m,back,msg⟩:=s
 simp only at h h1 ⊢
 subst h
 obtain ⟨s',r',t',k'⟩:=l
 simp only at *
 generalize putS s' msg = q at *
 generalize putE s' msg = e at *
 simp only [encLn,encSp,encSd,encMs] at h1 ⊢
 refine wk0 ?_
 refine cg [[aD (encSd q),vI e]] @encSd.eq_1 ?_ ?_
 ·exact obl_cons h1 obl_nil
 refine wk0 ?_
 exact ValsLe.refl _
theorem step_packet (hC : CLStep 37 3) (hL : CLStep 45 4) (hT : CLStep 46 5) (hS : CLSpoil 47) (l : Ln) (s : Sp) (hg : GoodL l) (h : 3 ≤ s.kind ∧ s.kind ≤ 6) : Told Tryz.prog 31 [aD (encLn l),aD (encSp s)] [aD (encLn (packetL l s.kind s.n s.m s.back).1),vI (packetL l s.kind s.n s.m s.back).2]:=by
 refine told_world_step rfl ?_
 obtain ⟨kind,tenant,n,m,back,msg⟩:=s
 simp only at h ⊢
 have hk : kind = 3 ∨ kind = 4 ∨ kind = 5 ∨ kind = 6:=by omega
 rcases hk with rfl | rfl | rfl | rfl
 ·have h1:=hC l n back hg
  rw [show packetL l 3 n m back = packetL l 3 n 0 back from rfl]
  generalize packetL l 3 n 0 back = R at *
  obtain ⟨l',e⟩:=R
  simp only [encLn,encSp] at h1 ⊢
  refine wk0 ?_
  refine cg [[aD (encLn l'),vI e]] @encLn.eq_1 ?_ ?_
  ·exact obl_cons h1 obl_nil
  refine wk0 ?_
  exact ValsLe.refl _
 ·have h1:=hL l n back hg
  rw [show packetL l 4 n m back = packetL l 4 n 0 back from rfl]
  generalize packetL l 4 n 0 back = R at *
  obtain ⟨l',e⟩:=R
  simp only [encLn,encSp] at h1 ⊢
  refine wk0 ?_
  refine cg [[aD (encLn l'),vI e]] @encLn.eq_1 ?_ ?_
  ·exact obl_cons h1 obl_nil
  refine wk0 ?_
  exact ValsLe.refl _
 ·have h1:=hT l n back hg
  rw [show packetL l 5 n m back = packetL l 5 n 0 back from rfl]
  generalize packetL l 5 n 0 back = R at *
  obtain ⟨l',e⟩:=R
  simp only [encLn,encSp] at h1 ⊢
  refine wk0 ?_
  refine cg [[aD (encLn l'),vI e]] @encLn.eq_1 ?_ ?_
  ·exact obl_cons h1 obl_nil
  refine wk0 ?_
  exact ValsLe.refl _
 ·have h1:=hS l n m back hg
  generalize packetL l 6 n m back = R at *
  obtain ⟨l',e⟩:=R
  simp only [encLn,encSp] at h1 ⊢
  refine wk0 ?_
  refine cg [[aD (encLn l'),vI e]] @encLn.eq_1 ?_ ?_
  ·exact obl_cons h1 obl_nil
  refine wk0 ?_
  exact ValsLe.refl _
theorem step_told (hP : CPutS 44) (hC : CLStep 37 3) (hL : CLStep 45 4) (hT : CLStep 46 5) (hS : CLSpoil 47) (l : Ln) (s : Sp) (hg : GoodL l) (h : 2 ≤ s.kind ∧ s.kind ≤ 6) : Told Tryz.prog 31 [aD (encLn l),aD (encSp s)] [aD (encLn (laneW l s).1),vI (laneW l s).2]:=by
 unfold laneW
 rw [if_neg (by omega)]
 by_cases h2 : s.kind = 2
 ·rw [if_pos h2]; exact step_put hP l s hg h2
 ·rw [if_neg h2]; exact step_packet hC hL hT hS l s hg (by omega)
theorem ll_ne {l : List Ln} (h : l ≠ []) : encLl l ≠ []:=by simpa [encLl] using h
theorem tick_toldI (hK : CLSpeak 43) (w : Wd) (hn : 1 ≤ w.lanes.length ∧ w.lanes.length ≤ 3) (ht : 0 ≤ w.ticks ∧ w.ticks ≤ 1000000) (j : Nat) (hj : w.ticks % w.lanes.length = j) (l : Ln) (hl : w.lanes[j]? = some l) (hg : GoodL l) :
  ToldI Tryz.prog 30 [aD [xD,vI w.ticks]] 0 (some 0) 56 (17,some (encLl w.lanes)) [aD (encWd ⟨w.lanes.set j (speakL l),w.ticks + 1⟩),vI 0]:=by
 refine toldI_world_tick ?_
 have h1:=hK l hg
 have h2:=whose_ok w.ticks w.lanes.length ht.1 (by omega)
 rw [hj] at h2
 generalize speakL l = l' at *
 have hlt : j < w.lanes.length:=(List.getElem?_eq_some_iff.1 hl).1
 have g3 : (0 : Int) ≤ (j : Int):=by omega
 have g4 : (j : Int) < (w.lanes.length : Int):=by omega
 have g5:=at_ll hl
 have g6 : inR .i64 (w.ticks + 1) = true:=inR_of (by omega)
 have hne : encLl w.lanes ≠ []:=ll_ne (by intro e; rw [e] at hlt; simp at hlt)
 obtain ⟨lanes,ticks⟩:=w
 simp only [encWd,set_ll,encLn] at *
 refine wk0 ?_
 refine ⟨_,le_name (b:=1) (off:=0) (k:=100001) (by decide) rfl (show 0 < 2 by decide) rfl hne ⟨by decide,by decide⟩ rfl,?_⟩
 refine wk @len_ll ?_
 refine cg [[vI j,vI 0]] @len_ll ?_ ?_
 ·exact obl_cons h2 obl_nil
 refine wk (an5 @g3 @g4 @g5 @len_ll @Int.toNat_natCast) ?_
 refine cd [[aD (encLn l')]] (an7 @encLn.eq_1 @g3 @g4 @g5 @len_ll @zset @Int.toNat_natCast) ?_ ?_
 ·exact obl_cons h1 obl_nil
 refine wk @g6 ?_
 exact ValsLe.refl _
theorem lDo_kind (hO : CLOwn 36) (w : Wd) (hw : GoodW w) (s : Sp) (h : s.kind < 1 ∨ 6 < s.kind) : Told Tryz.prog 20 [aD (encWd w),aD (encSp s)] [aD (encWd w),vI 1]:=by
 refine told_world_Do rfl ?_
 have h0:=ownWd_toldO hO w hw
 obtain ⟨kind,tenant,n,m,back,msg⟩:=s
 simp only at h
 have h1 : (kind == 1) = false:=by rw [beq_eq_false_iff_ne]; omega
 simp only [encWd,encSp] at h0 ⊢
 refine wk0 ?_
 refine ⟨2,_,_,_,0,_,_,rfl,rfl,rfl,rfl,row_refl _,h0,rfl,?_⟩
 by_cases h2 : kind < 1
 ·refine wk (an2 @h1 @h2) ?_
  refine ⟨_,le_frzH (b:=2) (off:=0) (by decide) rfl (show 0 < 2 by decide) rfl,?_⟩
  refine wk0 ?_
  exact ValsLe.refl _
 ·have h3 : 6 < kind:=by omega
  refine wk (an3 @h1 @h2 @h3) ?_
  refine ⟨_,le_frzH (b:=2) (off:=0) (by decide) rfl (show 0 < 2 by decide) rfl,?_⟩
  refine wk0 ?_
  exact ValsLe.refl _
theorem lDo_none (hO : CLOwn 36) (w : Wd) (hw : GoodW w) (s : Sp) (h : 2 ≤ s.kind ∧ s.kind ≤ 6) (hr : s.tenant < 0 ∨ (w.lanes.length : Int) ≤ s.tenant) : Told Tryz.prog 20 [aD (encWd w),aD (encSp s)] [aD (encWd w),vI 6]:=by
 refine told_world_Do rfl ?_
 have h0:=ownWd_toldO hO w hw
 have hn:=hw.n
 have hne : encLl w.lanes ≠ []:=ll_ne (by intro e; rw [e] at hn; simp at hn)
 obtain ⟨kind,tenant,n,m,back,msg⟩:=s
 simp only at h hr
 have h1 : (kind == 1) = false:=by rw [beq_eq_false_iff_ne]; omega
 have h2 : ¬ kind < 1:=by omega
 have h3 : ¬ 6 < kind:=by omega
 simp only [encWd,encSp] at h0 ⊢
 refine wk0 ?_
 refine ⟨2,_,_,_,0,_,_,rfl,rfl,rfl,rfl,row_refl _,h0,rfl,?_⟩
 refine wk (an3 @h1 @h2 @h3) ?_
 refine ⟨_,le_name (b:=2) (off:=0) (k:=100002) (by decide) rfl (show 0 < 2 by decide) rfl hne ⟨by decide,by decide⟩ rfl,?_⟩
 by_cases h4 : tenant < 0
 ·refine wk @h4 ?_
  refine ⟨_,(Le.keep (lv:=[2,3,4,27]) (lb:=[2,3,4]) (by simp only [ev0,ev1,ev2,look,lookF,cellsFrom,offT,offP,List.tail_nil,List.length_nil,Int.cast_ofNat_Int,Nat.reduceEqDiff,Nat.reduceAdd,Nat.reduceMul,Nat.reduceLeDiff,Nat.reduceLT,↓reduceIte,reduceCtorEq,Int.reduceBEq,Int.reduceBNe,Int.reduceLT,Int.reduceLE,Int.reduceToNat]; rfl)),?_⟩
  refine wk0 ?_
  exact ValsLe.refl _
 ·have h5 : (w.lanes.length : Int) ≤ tenant:=by omega
  refine wk (an3 @h4 @h5 @len_ll) ?_
  refine ⟨_,(Le.keep (lv:=[2,3,4,27]) (lb:=[2,3,4]) (by simp only [ev0,ev1,ev2,look,lookF,cellsFrom,offT,offP,List.tail_nil,List.length_nil,Int.cast_ofNat_Int,Nat.reduceEqDiff,Nat.reduceAdd,Nat.reduceMul,Nat.reduceLeDiff,Nat.reduceLT,↓reduceIte,reduceCtorEq,Int.reduceBEq,Int.reduceBNe,Int.reduceLT,Int.reduceLE,Int.reduceToNat,len_ll]; rfl)),?_⟩
  refine wk0 ?_
  exact ValsLe.refl _
theorem lDo_step (hO : CLOwn 36) (hP : CPutS 44) (hC : CLStep 37 3) (hL : CLStep 45 4) (hT : CLStep 46 5) (hS : CLSpoil 47) (w : Wd) (hw : GoodW w) (s : Sp) (h : 2 ≤ s.kind ∧ s.kind ≤ 6) (j : Nat) (hj : s.tenant = j) (l : Ln) (hl : w.lanes[j]? = some l) (hg : GoodL l) :
  Told Tryz.prog 20 [aD (encWd w),aD (encSp s)] [aD (encWd ⟨w.lanes.set j (laneW l s).1,w.ticks⟩),vI (laneW l s).2]:=by
 refine told_world_Do rfl ?_
 have h0:=ownWd_toldO hO w hw
 have hs:=step_told hP hC hL hT hS l s hg h
 have hn:=hw.n
 have hne : encLl w.lanes ≠ []:=ll_ne (by intro e; rw [e] at hn; simp at hn)
 generalize laneW l s = R at *
 obtain ⟨l',e⟩:=R
 obtain ⟨kind,tenant,n,m,back,msg⟩:=s
 simp only at h hj hs ⊢
 subst hj
 have hlt : j < w.lanes.length:=(List.getElem?_eq_some_iff.1 hl).1
 have h1 : (kind == 1) = false:=by rw [beq_eq_false_iff_ne]; omega
 have h2 : ¬ kind < 1:=by omega
 have h3 : ¬ 6 < kind:=by omega
 have g1 : ¬ (j : Int) < 0:=by omega
 have g2 : ¬ (w.lanes.length : Int) ≤ (j : Int):=by omega
 have g3 : (0 : Int) ≤ (j : Int):=by omega
 have g4 : (j : Int) < (w.lanes.length : Int):=by omega
 have g5:=at_ll hl
 obtain ⟨lanes,ticks⟩:=w
 simp only [encWd,encSp,set_ll,encLn] at *
 refine wk0 ?_
 refine ⟨2,_,_,_,0,_,_,rfl,rfl,rfl,rfl,row_refl _,h0,rfl,?_⟩
 refine wk (an3 @h1 @h2 @h3) ?_
 refine ⟨_,le_name (b:=2) (off:=0) (k:=100002) (by decide) rfl (show 0 < 2 by decide) rfl hne ⟨by decide,by decide⟩ rfl,?_⟩
 refine wk (an3 @g1 @g2 @len_ll) ?_
 refine cd [[aD (encLn l'),vI e]] (an7 @encLn.eq_1 @g3 @g4 @g5 @len_ll @zset @Int.toNat_natCast) ?_ ?_
 ·exact obl_cons hs obl_nil
 refine wk0 ?_
 exact ValsLe.refl _
theorem lDo_tick (hO : CLOwn 36) (hK : CLSpeak 43) (w : Wd) (hw : GoodW w) (ht : w.ticks ≤ 1000000) (s : Sp) (h : s.kind = 1) (j : Nat) (hj : w.ticks % w.lanes.length = j) (l : Ln) (hl : w.lanes[j]? = some l) (hg : GoodL l) :
  Told Tryz.prog 20 [aD (encWd w),aD (encSp s)] [aD (encWd ⟨w.lanes.set j (speakL l),w.ticks + 1⟩),vI 0]:=by
 refine told_world_Do rfl ?_
 have h0:=ownWd_toldO hO w hw
 have h1:=tick_toldI hK w hw.n ⟨hw.t,ht⟩ j hj l hl hg
 generalize (⟨w.lanes.set j (speakL l),w.ticks + 1⟩ : Wd) = w' at *
 obtain ⟨kind,tenant,n,m,back,msg⟩:=s
 simp only at h
 subst h
 simp only [encWd,encSp] at h0 h1 ⊢
 refine wk0 ?_
 refine ⟨2,_,_,_,0,_,_,rfl,rfl,rfl,rfl,row_refl _,h0,rfl,?_⟩
 refine wk0 ?_
 refine ⟨2,_,_,0,_,_,_,rfl,rfl,rfl,rfl,row_refl _,by decide,rfl,h1,?_⟩
 refine wk0 ?_
 exact ValsLe.refl _
theorem lDo_told (hO : CLOwn 36) (hK : CLSpeak 43) (hP : CPutS 44) (hC : CLStep 37 3) (hL : CLStep 45 4) (hT : CLStep 46 5) (hS : CLSpoil 47) : CWDo 20:=by
 intro w s hw ht
 unfold doW
 by_cases hk : s.kind < 1 ∨ 6 < s.kind
 ·rw [if_pos hk]; exact lDo_kind hO w hw s hk
 rw [if_neg hk]
 have hn:=hw.n
 have ht0:=hw.t
 by_cases h1 : s.kind = 1
 ·have hwho : whoW w s = w.ticks % w.lanes.length:=by unfold whoW; rw [if_pos h1,Int.tmod_eq_emod_of_nonneg ht0]
  have htk : ticksW w s = w.ticks + 1:=by unfold ticksW; rw [if_pos h1]
  rw [hwho,htk]
  have q0 : 0 ≤ w.ticks % w.lanes.length:=Int.emod_nonneg _ (by omega)
  have q1 : w.ticks % w.lanes.length < w.lanes.length:=Int.emod_lt_of_pos _ (by omega)
  obtain ⟨j,hj⟩ : ∃ j : Nat,w.ticks % w.lanes.length = j:=⟨(w.ticks % w.lanes.length).toNat,by omega⟩
  rw [hj] at q0 q1 ⊢
  rw [if_neg (by omega)]
  obtain ⟨l,hl⟩ : ∃ l,w.lanes[j]? = some l:=⟨_,List.getElem?_eq_getElem (by omega)⟩
  have e0 : w.lanes.getD j zeroL = l:=by rw [List.getD_eq_getElem?_getD,hl]; rfl
  have:=lDo_tick hO hK w hw ht s h1 j hj l hl (hw.l l (List.mem_of_getElem? hl))
  simpa only [Int.toNat_natCast,e0,laneW,h1,if_true] using this
 ·have hwho : whoW w s = s.tenant:=by unfold whoW; rw [if_neg h1]
  have htk : ticksW w s = w.ticks:=by unfold ticksW; rw [if_neg h1]
  rw [hwho,htk]
  by_cases hr : s.tenant < 0 ∨ (w.lanes.length : Int) ≤ s.tenant
  ·rw [if_pos hr]
   exact lDo_none hO w hw s (by omega) hr
  rw [if_neg hr]
  obtain ⟨j,hj⟩ : ∃ j : Nat,s.tenant = j:=⟨s.tenant.toNat,by omega⟩
  rw [hj]
  obtain ⟨l,hl⟩ : ∃ l,w.lanes[j]? = some l:=⟨_,List.getElem?_eq_getElem (by omega)⟩
  have e0 : w.lanes.getD j zeroL = l:=by rw [List.getD_eq_getElem?_getD,hl]; rfl
  have:=lDo_step hO hP hC hL hT hS w hw s (by omega) j hj l hl (hw.l l (List.mem_of_getElem? hl))
  rw [Int.toNat_natCast,e0]
  exact this
set_option maxRecDepth 100000
set_option maxRecDepth 100000
end Go.Proofs.YtgaofjiidedcbacGreat.ab
