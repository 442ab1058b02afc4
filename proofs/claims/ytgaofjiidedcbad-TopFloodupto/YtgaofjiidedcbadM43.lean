import Derived.Test.YtgaofjiidedcbadM39
import Derived.Test.YtgaofjiidedcbadM19
import Derived.Test.YtgaofjiidedcbadM34
import Derived.Test.YtgaofjiidedcbadProg
set_option maxHeartbeats 8000000
set_option linter.unusedVariables false
set_option linter.unusedSimpArgs false
namespace Go.Proofs.Ytgaofjiidedcbad.ab
open Go Go.RowKit
open mth
theorem sayNew_told (m : Ms) (r : List Ms) (next p0 p1 p2 turn : Int) (flight : List Ch) (hn : 0 ≤ next ∧ next ≤ 40) (h0 : 0 ≤ p0 ∧ p0 ≤ 40) (h1 : 0 ≤ p1 ∧ p1 ≤ 40) (h2 : 0 ≤ p2 ∧ p2 ≤ 40) (hf : flight.length ≤ 3) (hr : r.length ≤ 1000) (hm : 0 ≤ m.stream ∧ m.stream ≤ 2) :
  ToldI Try.prog 71 [aD (encSd ⟨m :: r,next,p0,p1,p2,flight,turn⟩)] 0 (some 5) 97 (6,none) [aD (encSd (newS ⟨m :: r,next,p0,p1,p2,flight,turn⟩ m r)),aD (encCh (newC ⟨m :: r,next,p0,p1,p2,flight,turn⟩ m))]:=by
 refine toldI_send_sayNew ?_
 have q3 : inR .i64 (next + 1) = true:=inR_of (by omega)
 have q4 : inR .i64 (p0 + 1) = true:=inR_of (by omega)
 have q5 : inR .i64 (p1 + 1) = true:=inR_of (by omega)
 have q6 : inR .i64 (p2 + 1) = true:=inR_of (by omega)
 have q8 : (flight.length + 1) * 80 ≤ 140737488355328:=by omega
 have q9 : (0 : Int) ≤ 1 ∧ (1 : Int) ≤ ((r.length + 1 : Nat) : Int) ∧ ((r.length + 1 : Nat) : Int) ≤ ((r.length + 1 : Nat) : Int):=by omega
 have q10 : (encMl r).take r.length = encMl r:=List.take_of_length_le (by rw [len_ml]; exact Nat.le_refl _)
 obtain ⟨ms,md⟩:=m
 simp only at hm
 rcases (by omega : ms = 0 ∨ ms = 1 ∨ ms = 2) with hs | hs | hs
 ·subst hs
  simp only [encSd,newS,newC,placeOf,encCh,ml_cons,cl_snoc,List.map_nil,if_true,Int.reduceEq,if_false]
  refine wk (an10 @len_ml @len_cl @zapp @q3 @q4 @q5 @q6 @q8 @q9 @q10) ?_
  repeat' (first | exact vals_nil | exact row_nil | exact es_nil | exact CVLe.refl _ | exact LfLe.refl _ | exact LfLe.nil _ | exact EsLe.refl _ | refine vals_cons ?_ ?_ | refine row_cons ?_ ?_ | refine es_cons ?_ ?_ | refine EsLe.app ?_ ?_ | refine CVLe.row ?_ | refine CVLe.leafV ?_ | refine CVLe.leafS ?_ | refine LfLe.s ?_)
 ·subst hs
  simp only [encSd,newS,newC,placeOf,encCh,ml_cons,cl_snoc,List.map_nil,if_true,Int.reduceEq,if_false]
  refine wk (an10 @len_ml @len_cl @zapp @q3 @q4 @q5 @q6 @q8 @q9 @q10) ?_
  repeat' (first | exact vals_nil | exact row_nil | exact es_nil | exact CVLe.refl _ | exact LfLe.refl _ | exact LfLe.nil _ | exact EsLe.refl _ | refine vals_cons ?_ ?_ | refine row_cons ?_ ?_ | refine es_cons ?_ ?_ | refine EsLe.app ?_ ?_ | refine CVLe.row ?_ | refine CVLe.leafV ?_ | refine CVLe.leafS ?_ | refine LfLe.s ?_)
 ·subst hs
  simp only [encSd,newS,newC,placeOf,encCh,ml_cons,cl_snoc,List.map_nil,if_true,Int.reduceEq,if_false]
  refine wk (an10 @len_ml @len_cl @zapp @q3 @q4 @q5 @q6 @q8 @q9 @q10) ?_
  repeat' (first | exact vals_nil | exact row_nil | exact es_nil | exact CVLe.refl _ | exact LfLe.refl _ | exact LfLe.nil _ | exact EsLe.refl _ | refine vals_cons ?_ ?_ | refine row_cons ?_ ?_ | refine es_cons ?_ ?_ | refine EsLe.app ?_ ?_ | refine CVLe.row ?_ | refine CVLe.leafV ?_ | refine CVLe.leafS ?_ | refine LfLe.s ?_)
theorem tmod_eq {t : Int} {n : Nat} (ht : 0 ≤ t) : t.tmod (n : Int) = t % (n : Int):=Int.tmod_eq_emod_of_nonneg ht
theorem sayAgain_told (queue : List Ms) (next p0 p1 p2 turn : Int) (flight : List Ch) (ht : 0 ≤ turn ∧ turn ≤ 1000) (hf0 : 0 < flight.length) (hf : flight.length ≤ 4) :
  Told Try.prog 72 [aD (encSd ⟨queue,next,p0,p1,p2,flight,turn⟩)] [aD (encSd ⟨queue,next,p0,p1,p2,flight,turn % (flight.length : Int) + 1⟩),aD (encCh (flight.getD (turn % (flight.length : Int)).toNat zeroC))]:=by
 refine told_send_sayAgain rfl ?_
 have hn0 : ¬ (flight.length : Int) = 0:=by omega
 have hae:=tmod_eq (t:=turn) (n:=flight.length) ht.1
 have hm0 : 0 ≤ turn % (flight.length : Int):=Int.emod_nonneg _ hn0
 have hm1 : turn % (flight.length : Int) < flight.length:=Int.emod_lt_of_pos _ (by omega)
 generalize hk : turn % (flight.length : Int) = k at *
 have r4 : inR .i64 (k + 1) = true:=inR_of (by omega)
 have hlt : k.toNat < flight.length:=by omega
 have hget : (encCl flight)[k.toNat]? = some (aD (encCh (flight.getD k.toNat zeroC))):=by
  rw [encCl,List.getElem?_map,List.getElem?_eq_getElem hlt,List.getD_eq_getElem?_getD,List.getElem?_eq_getElem hlt]; rfl
 obtain ⟨c0,hc0⟩ : ∃ c0,c0 = flight.getD k.toNat zeroC:=⟨_,rfl⟩
 rw [← hc0] at hget ⊢
 simp only [encSd,encCh] at hget ⊢
 refine wk (an6 @len_cl @hn0 @hae @r4 @hm0 @hget) ?_
 repeat' (first | exact vals_nil | exact row_nil | exact es_nil | exact CVLe.refl _ | exact LfLe.refl _ | exact LfLe.nil _ | exact EsLe.refl _ | refine vals_cons ?_ ?_ | refine row_cons ?_ ?_ | refine es_cons ?_ ?_ | refine EsLe.app ?_ ?_ | refine CVLe.row ?_ | refine CVLe.leafV ?_ | refine CVLe.leafS ?_ | refine LfLe.s ?_)
theorem lsay_told (s : Sd) (h : GoodS s) : Told Try.prog 55 [aD (encSd s)] [aD (encSd (sayL s).1),aD (encCh (sayL s).2.1),vB (sayL s).2.2]:=by
 refine told_send_Say rfl ?_
 have hown:=ownS_toldF s (good_small h)
 have hsm:=good_small h
 have hdat:=say_early h
 have hgd : (sayL s).2.1.data.length ≤ 1048576 ∧ (sayL s).2.1.early.length ≤ 1048576:=by
  refine ⟨?_,by omega⟩
  unfold sayL
  split
  ·split
   ·simp [zeroC]
   ·rename_i hf
    have hk:=againK_lt h (by omega)
    have hlt : (againK s).toNat < s.flight.length:=by omega
    simp only [List.getD_eq_getElem?_getD,List.getElem?_eq_getElem hlt,Option.getD_some]
    exact (hsm.c _ (List.getElem_mem hlt)).1
  ·rename_i m r hq
   split
   ·rename_i hf
    have hk:=againK_lt h (by omega)
    have hlt : (againK s).toNat < s.flight.length:=by omega
    simp only [List.getD_eq_getElem?_getD,List.getElem?_eq_getElem hlt,Option.getD_some]
    exact (hsm.c _ (List.getElem_mem hlt)).1
   ·exact hsm.m m (by rw [hq]; simp)
 have hn:=h.n
 have hp:=h.p
 have ht:=h.t
 have hf:=h.f
 have hq:=h.q
 have hms:=h.m
 obtain ⟨queue,next,p0,p1,p2,flight,turn⟩:=s
 simp only at hn hp ht hf hq hms
 have hown':=ownCh_told _ hgd.1 hgd.2
 by_cases hnew : queue = [] ∨ 3 < flight.length
 ·by_cases hf0 : flight.length = 0
  ·have hqn : queue = []:=by rcases hnew with q | q <;> first | exact q | omega
   subst hqn
   have hfn : flight = []:=List.eq_nil_of_length_eq_zero hf0
   subst hfn
   simp only [sayL,List.length_nil,if_true]
   simp only [encSd,encCh,zeroC,List.map_nil,ml_nil,cl_nil] at hown ⊢
   refine wk0 ?_
   refine ⟨1,_,_,_,5,_,_,rfl,rfl,rfl,rfl,row_refl _,hown,rfl,?_⟩
   refine wk (an3 @znil @Int.natCast_zero @Int.lt_irrefl) ?_
   repeat' (first | exact vals_nil | exact row_nil | exact es_nil | exact CVLe.refl _ | exact LfLe.refl _ | exact LfLe.nil _ | exact EsLe.refl _ | refine vals_cons ?_ ?_ | refine row_cons ?_ ?_ | refine es_cons ?_ ?_ | refine EsLe.app ?_ ?_ | refine CVLe.row ?_ | refine CVLe.leafV ?_ | refine CVLe.leafS ?_ | refine LfLe.s ?_)
  ·have hsay : sayL ⟨queue,next,p0,p1,p2,flight,turn⟩ = (⟨queue,next,p0,p1,p2,flight,turn % (flight.length : Int) + 1⟩,flight.getD (turn % (flight.length : Int)).toNat zeroC,true):=by
    unfold sayL
    simp only
    split
    ·rw [if_neg hf0]; rfl
    ·rcases hnew with q | q
     ·cases q
     ·rw [if_pos q]; rfl
   rw [hsay] at hown' ⊢
   have hag:=sayAgain_told queue next p0 p1 p2 turn flight ⟨ht.1,by omega⟩ (by omega) hf
   generalize turn % (flight.length : Int) + 1 = t' at *
   generalize flight.getD (turn % (flight.length : Int)).toNat zeroC = c0 at *
   have g1 : 0 < (flight.length : Int):=by omega
   simp only [encSd,encCh] at hown hown' hag ⊢
   have fin2 : ∀ st,st = (⟨[(1,pD 1 0),(2,pD 2 0),(3,pD 3 0),(5,pD 5 0)],[(1,[sD 2 (encMl queue),vI next,vI p0,vI p1,vI p2,sD 6 (encCl flight),vI t']),(2,[vD (.slice none 0 0),vI 0,vI 0,vI 0,vI 0,vD (.slice none 0 0),vI 0]),(3,[vI 0,vI 0,vI 0,vI 0,vD (.slice none 0 0),vD (.slice none 0 0)]),(5,[vI c0.kind,vI c0.number,vI c0.stream,vI c0.place,sD 1 (c0.data.map encB),sD 1 (c0.early.map vI)])],[]⟩ : St) →
     cSeq Q52r8 cRet st (fin [(2,some (7,true)),(3,some (6,true)),(4,none)] [aD [sD 2 (encMl queue),vI next,vI p0,vI p1,vI p2,sD 6 (encCl flight),vI t'],aD [vI c0.kind,vI c0.number,vI c0.stream,vI c0.place,sD 1 (c0.data.map encB),sD 1 (c0.early.map vI)],vB true]):=by
    rintro st rfl
    refine wk0 ?_
    refine cd0 [[aD [vI c0.kind,vI c0.number,vI c0.stream,vI c0.place,sD 1 (c0.data.map encB),sD 1 (c0.early.map vI)]]] ?_ ?_
    ·exact obl_cons hown' obl_nil
    refine wk0 ?_
    exact ValsLe.refl _
   by_cases hqn : queue = []
   ·subst hqn
    simp only [ml_nil] at *
    refine wk0 ?_
    refine ⟨1,_,_,_,5,_,_,rfl,rfl,rfl,rfl,row_refl _,hown,rfl,?_⟩
    refine wk (an5 @znil @Int.natCast_zero @Int.lt_irrefl @g1 @len_cl) ?_
    refine cg0 [[aD [sD 2 [],vI next,vI p0,vI p1,vI p2,sD 6 (encCl flight),vI t'],aD [vI c0.kind,vI c0.number,vI c0.stream,vI c0.place,sD 1 (c0.data.map encB),sD 1 (c0.early.map vI)]]] ?_ ?_
    ·exact obl_cons hag obl_nil
    refine blk_normal ?_
    refine thn_normal ?_
    exact fin2 _ rfl
   ·have hq3 : 0 < (queue.length : Int):=by
     have : queue.length ≠ 0:=fun h => hqn (List.eq_nil_of_length_eq_zero h)
     omega
    have hf3 : ¬ (flight.length : Int) < 4:=by
     rcases hnew with q | q
     ·exact absurd q hqn
     ·omega
    refine wk0 ?_
    refine ⟨1,_,_,_,5,_,_,rfl,rfl,rfl,rfl,row_refl _,hown,rfl,?_⟩
    refine wk (an5 @hq3 @hf3 @g1 @len_cl @len_ml) ?_
    refine cg0 [[aD [sD 2 (encMl queue),vI next,vI p0,vI p1,vI p2,sD 6 (encCl flight),vI t'],aD [vI c0.kind,vI c0.number,vI c0.stream,vI c0.place,sD 1 (c0.data.map encB),sD 1 (c0.early.map vI)]]] ?_ ?_
    ·exact obl_cons hag obl_nil
    refine blk_normal ?_
    refine thn_normal ?_
    exact fin2 _ rfl
 ·obtain ⟨m,r,rfl⟩ : ∃ m r,queue = m :: r:=by
   cases queue with
   | nil => exact absurd (Or.inl rfl) hnew
   | cons m r => exact ⟨m,r,rfl⟩
  have hf3 : flight.length ≤ 3:=by
   have : ¬ 3 < flight.length:=fun q => hnew (Or.inr q)
   omega
  have hsay : sayL ⟨m :: r,next,p0,p1,p2,flight,turn⟩ = (newS ⟨m :: r,next,p0,p1,p2,flight,turn⟩ m r,newC ⟨m :: r,next,p0,p1,p2,flight,turn⟩ m,true):=by
   unfold sayL
   simp only
   rw [if_neg (by omega)]
  have hm : 0 ≤ m.stream ∧ m.stream ≤ 2:=by
   have:=hms m (by simp)
   unfold wrongMsgL at this
   split at this
   ·cases this
   ·omega
  have hnw:=sayNew_told m r next p0 p1 p2 turn flight (by omega) (by omega) (by omega) (by omega) hf3 (by simp only [List.length_cons] at hq; omega) hm
  rw [hsay] at hown' ⊢
  simp only at hown' ⊢
  generalize newS ⟨m :: r,next,p0,p1,p2,flight,turn⟩ m r = s' at *
  generalize newC ⟨m :: r,next,p0,p1,p2,flight,turn⟩ m = c0 at *
  have g1 : 0 < (((r.length + 1 : Nat)) : Int):=by omega
  have g2 : (flight.length : Int) < 4:=by omega
  simp only [encSd,encCh,ml_cons] at hown hown' hnw ⊢
  refine wk0 ?_
  refine ⟨1,_,_,_,5,_,_,rfl,rfl,rfl,rfl,row_refl _,hown,rfl,?_⟩
  refine wk (an4 @g1 @g2 @len_cl @len_ml) ?_
  refine ⟨1,_,_,5,_,_,_,rfl,rfl,rfl,rfl,row_refl _,by decide,rfl,hnw,?_⟩
  refine wk0 ?_
  refine cd0 [[aD [vI c0.kind,vI c0.number,vI c0.stream,vI c0.place,sD 1 (c0.data.map encB),sD 1 (c0.early.map vI)]]] ?_ ?_
  ·exact obl_cons hown' obl_nil
  refine wk0 ?_
  exact ValsLe.refl _
def idxG {α : Type} (p : α → Bool) (l : List α) : Int:=if l.findIdx p < l.length then (l.findIdx p : Int) else -1
theorem idxG_at {α : Type} {p : α → Bool} {l : List α} {j : Nat} {x : α} (hx : l[j]? = some x) (hp : p x = true) (hb : ∀ i y,i < j → l[i]? = some y → p y = false) : idxG p l = j:=by
 have hj : j < l.length:=(List.getElem?_eq_some_iff.1 hx).1
 have hxe : l[j] = x:=(List.getElem?_eq_some_iff.1 hx).2
 have : l.findIdx p = j:=(List.findIdx_eq hj).2 ⟨by rw [hxe]; exact hp,fun i hi => hb i _ hi (List.getElem?_eq_getElem (by omega))⟩
 unfold idxG
 rw [this,if_pos hj]
theorem idxG_no {α : Type} {p : α → Bool} {l : List α} (hb : ∀ (i : Nat) y,l[i]? = some y → p y = false) : idxG p l = -1:=by
 have : l.findIdx p = l.length:=List.findIdx_eq_length.2 (fun x hx => by
  obtain ⟨i,hi,rfl⟩:=List.mem_iff_getElem.1 hx
  exact hb i _ (List.getElem?_eq_getElem hi))
 unfold idxG
 rw [this,if_neg (Nat.lt_irrefl _)]
theorem idxG_contains (l : List Int) (n : Int) : decide (0 ≤ idxG (fun y => n == y) l) = l.contains n:=by
 unfold idxG
 by_cases h : l.findIdx (fun y => n == y) < l.length
 ·rw [if_pos h]
  have hc : l.contains n = true:=by
   have:=List.findIdx_getElem (w:=h)
   rw [List.contains_iff_mem]
   have e : n = l[l.findIdx (fun y => n == y)]:=by simpa using this
   rw [e]
   exact List.getElem_mem _
  rw [hc]
  simp
 ·rw [if_neg h]
  have hc : l.contains n = false:=by
   have h' : l.findIdx (fun y => n == y) = l.length:=by have:=List.findIdx_le_length (p:=fun y => n == y) (xs:=l); omega
   have:=List.findIdx_eq_length.1 h'
   cases hcc : l.contains n with
   | false => rfl
   | true =>
    have hm:=List.contains_iff_mem.1 hcc
    have:=this n hm
    simp at this
  rw [hc]
  simp
def ixSt (l : List Int) (n : Int) (k : Nat) : St:=⟨[(0,sD 1 (l.map vI)),(1,vI n),(7,vI l.length),(8,vI k)],[],[]⟩
theorem index_told (l : List Int) (n : Int) (hl : l.length ≤ 9223372036854775807) : Told Try.prog 87 [sD 1 (l.map vI),vI n] [vI (idxG (fun y => n == y) l)]:=by
 refine told_slices_Index rfl ?_
 refine wk @zmap ?_
 refine aw_loop (fun m st => ∃ k : Nat,k ≤ l.length ∧ m = l.length - k ∧ (∀ i y,i < k → l[i]? = some y → (n == y) = false) ∧ st = ixSt l n k) l.length (ixSt l n 0) (Le.keep (lv:=[0,1,7,8]) (lb:=[]) (by simp only [ev0,ev1,ev2,look,lookF,cellsFrom,offT,offP,List.tail_nil,List.length_nil,Int.cast_ofNat_Int,Nat.reduceEqDiff,Nat.reduceAdd,Nat.reduceMul,Nat.reduceLeDiff,Nat.reduceLT,↓reduceIte,reduceCtorEq,Int.reduceBEq,Int.reduceBNe,Int.reduceLT,Int.reduceLE,Int.reduceToNat]; rfl)) ⟨0,by omega,by omega,(fun i y hi => by omega),rfl⟩ ?_
 rintro m st ⟨k,hk,hm,hb,rfl⟩
 by_cases hlt : k < l.length
 ·obtain ⟨x,hx⟩ : ∃ m,l[k]? = some m:=⟨l[k],List.getElem?_eq_getElem hlt⟩
  have g1 : (k : Int) < (l.length : Int):=by omega
  have g2 : (0 : Int) ≤ (k : Int):=by omega
  have g3:=at_il hx
  have g4 : inR .i64 ((k : Int) + 1) = true:=inR_of (by omega)
  cases hp : (n == x) with
  | true =>
   rw [idxG_at (p:=fun y => n == y) hx hp hb]
   generalize (fun m st => ∃ k : Nat,k ≤ l.length ∧ m = l.length - k ∧ (∀ i y,i < k → l[i]? = some y → (n == y) = false) ∧ st = ixSt l n k) = J at *
   simp only [ixSt]
   refine wk (an4 @g1 @g2 @g3 @hp) ?_
   exact ValsLe.refl _
  | false =>
   have hnx : Next (fun m st => ∃ k : Nat,k ≤ l.length ∧ m = l.length - k ∧ (∀ i y,i < k → l[i]? = some y → (n == y) = false) ∧ st = ixSt l n k) m ⟨[(0,sD 1 (l.map vI)),(1,vI n),(7,vI l.length),(8,vI ((k : Int) + 1))],[],[]⟩:=by
    refine ⟨l.length - (k + 1),_,by omega,Le.refl _,k + 1,by omega,rfl,fun i y hi hy => ?_,by simp only [ixSt,Int.natCast_add,Int.cast_ofNat_Int]⟩
    by_cases hik : i = k
    ·subst hik; rw [hx] at hy; cases hy; exact hp
    ·exact hb i y (by omega) hy
   generalize (fun m st => ∃ k : Nat,k ≤ l.length ∧ m = l.length - k ∧ (∀ i y,i < k → l[i]? = some y → (n == y) = false) ∧ st = ixSt l n k) = J at *
   simp only [ixSt]
   refine wk (an5 @g1 @g2 @g3 @g4 @hp) ?_
   exact hnx
 ·have hk' : k = l.length:=by omega
  subst hk'
  have g1 : ¬ (l.length : Int) < (l.length : Int):=by omega
  rw [idxG_no (fun i y hy => hb i y (List.getElem?_eq_some_iff.1 hy).1 hy)]
  simp only [ixSt]
  refine wk @g1 ?_
  exact ValsLe.refl _
theorem contains_told (l : List Int) (n : Int) (hl : l.length ≤ 9223372036854775807) : Told Try.prog 80 [sD 1 (l.map vI),vI n] [vB (l.contains n)]:=by
 refine told_slices_Contains rfl ?_
 rw [← idxG_contains]
 refine wk0 ?_
 refine cg0 [[vI (idxG (fun y => n == y) l)]] ?_ ?_
 ·exact obl_cons (index_told l n hl) obl_nil
 refine wk0 ?_
 exact ValsLe.refl _
def goneP (c x : Ch) : Bool:=c.kind == 2 && cameL c x.number
theorem cameS_told (c x : Ch) (he : c.early.length ≤ 9223372036854775807) : Told Try.prog 79 [aD (encCh x),jD 0 0 (encCh c)] [vB (goneP c x)]:=by
 refine told_send_cameByS1 rfl ?_
 simp only [encCh]
 unfold goneP
 cases hk : (c.kind == 2) with
 | false =>
  refine wk @hk ?_
  exact ValsLe.refl _
 | true =>
  unfold cameL
  by_cases hn : x.number < c.number
  ·rw [decide_eq_true hn]
   refine wk (an2 @hk @hn) ?_
   exact ValsLe.refl _
  ·rw [decide_eq_false hn]
   refine wk (an2 @hk @hn) ?_
   refine cg0 [[vB (c.early.contains x.number)]] ?_ ?_
   ·exact obl_cons (contains_told c.early x.number he) obl_nil
   refine wk0 ?_
   exact ValsLe.refl _
theorem cameBy_told (c : Ch) : Told Try.prog 67 [aD (encCh c)] [jD 1 79 (encCh c)]:=by
 refine told_send_cameBy rfl ?_
 simp only [encCh]
 refine wk0 ?_
 exact ValsLe.refl _
theorem callS : callableB Try.prog 79 = true:=by kernel_rfl
def ifSt (l : List Ch) (c : Ch) (k : Nat) : St:=⟨[(0,sD 6 (encCl l)),(1,jD 1 79 (encCh c)),(7,vI l.length),(8,vI k)],[],[]⟩
theorem indexF_told (l : List Ch) (c : Ch) (hl : l.length ≤ 1048576) (he : c.early.length ≤ 9223372036854775807) : Told Try.prog 78 [sD 6 (encCl l),jD 1 79 (encCh c)] [vI (idxG (goneP c) l)]:=by
 refine told_slices_IndexFunc rfl ?_
 refine wk @len_cl ?_
 refine aw_loop (fun m st => ∃ k : Nat,k ≤ l.length ∧ m = l.length - k ∧ (∀ i y,i < k → l[i]? = some y → goneP c y = false) ∧ st = ifSt l c k) l.length (ifSt l c 0) (Le.keep (lv:=[0,1,7,8]) (lb:=[]) (by simp only [ev0,ev1,ev2,look,lookF,cellsFrom,offT,offP,List.tail_nil,List.length_nil,Int.cast_ofNat_Int,Nat.reduceEqDiff,Nat.reduceAdd,Nat.reduceMul,Nat.reduceLeDiff,Nat.reduceLT,↓reduceIte,reduceCtorEq,Int.reduceBEq,Int.reduceBNe,Int.reduceLT,Int.reduceLE,Int.reduceToNat]; rfl)) ⟨0,by omega,by omega,(fun i y hi => by omega),rfl⟩ ?_
 rintro m st ⟨k,hk,hm,hb,rfl⟩
 by_cases hlt : k < l.length
 ·obtain ⟨x,hx⟩ : ∃ m,l[k]? = some m:=⟨l[k],List.getElem?_eq_getElem hlt⟩
  have g1 : (k : Int) < (l.length : Int):=by omega
  have g2 : (0 : Int) ≤ (k : Int):=by omega
  have g3:=at_cl hx
  have g4 : inR .i64 ((k : Int) + 1) = true:=inR_of (by omega)
  have hS:=cameS_told c x he
  cases hp : goneP c x with
  | true =>
   rw [idxG_at hx hp hb]
   rw [hp] at hS
   generalize (fun m st => ∃ k : Nat,k ≤ l.length ∧ m = l.length - k ∧ (∀ i y,i < k → l[i]? = some y → goneP c y = false) ∧ st = ifSt l c k) = J at *
   simp only [ifSt]
   generalize encCh c = E at *
   simp only [encCh] at hS
   refine wk (an4 @g1 @g2 @g3 @callS) ?_
   refine cg [[vB true]] (an3 @g2 @g3 @callS) ?_ ?_
   ·exact obl_cons hS obl_nil
   refine wk0 ?_
   exact ValsLe.refl _
  | false =>
   rw [hp] at hS
   have hnx : Next (fun m st => ∃ k : Nat,k ≤ l.length ∧ m = l.length - k ∧ (∀ i y,i < k → l[i]? = some y → goneP c y = false) ∧ st = ifSt l c k) m ⟨[(0,sD 6 (encCl l)),(1,jD 1 79 (encCh c)),(7,vI l.length),(8,vI ((k : Int) + 1))],[],[]⟩:=by
    refine ⟨l.length - (k + 1),_,by omega,Le.refl _,k + 1,by omega,rfl,fun i y hi hy => ?_,by simp only [ifSt,Int.natCast_add,Int.cast_ofNat_Int]⟩
    by_cases hik : i = k
    ·subst hik; rw [hx] at hy; cases hy; exact hp
    ·exact hb i y (by omega) hy
   generalize (fun m st => ∃ k : Nat,k ≤ l.length ∧ m = l.length - k ∧ (∀ i y,i < k → l[i]? = some y → goneP c y = false) ∧ st = ifSt l c k) = J at *
   simp only [ifSt]
   generalize encCh c = E at *
   simp only [encCh] at hS
   refine wk (an4 @g1 @g2 @g3 @callS) ?_
   refine cg [[vB false]] (an3 @g2 @g3 @callS) ?_ ?_
   ·exact obl_cons hS obl_nil
   refine wk @g4 ?_
   exact hnx
 ·have hk' : k = l.length:=by omega
  subst hk'
  have g1 : ¬ (l.length : Int) < (l.length : Int):=by omega
  rw [idxG_no (fun i y hy => hb i y (List.getElem?_eq_some_iff.1 hy).1 hy)]
  simp only [ifSt]
  refine wk @g1 ?_
  exact ValsLe.refl _
theorem no_filter {c : Ch} {l : List Ch} (h : idxG (goneP c) l = -1) : l.filter (fun x => !goneP c x) = l:=by
 unfold idxG at h
 split at h
 ·omega
 ·rename_i hlt
  have h' : l.findIdx (goneP c) = l.length:=by have:=List.findIdx_le_length (p:=goneP c) (xs:=l); omega
  have:=List.findIdx_eq_length.1 h'
  exact List.filter_eq_self.2 (fun x hx => by rw [this x hx]; rfl)
def dlSt (arr : List Ch) (c : Ch) (i j : Nat) : St:=⟨[(0,oD 100000 arr.length),(1,jD 1 79 (encCh c)),(5,vI i),(6,vI j)],[(100000,[sD 6 (encCl arr)]),(100000,[sD 6 (encCl arr)])],[]⟩
theorem dlSt_def (arr : List Ch) (c : Ch) (i j : Nat) : dlSt arr c i j = ⟨[(0,oD 100000 arr.length),(1,jD 1 79 (encCh c)),(5,vI i),(6,vI j)],[(100000,[sD 6 (encCl arr)]),(100000,[sD 6 (encCl arr)])],[]⟩:=rfl
structure DlOk (l arr : List Ch) (c : Ch) (i j : Nat) : Prop where
 len : arr.length = l.length
 le : j ≤ l.length
 lt : i < j
 front : arr.take i = (l.take j).filter (fun x => !goneP c x)
 back : arr.drop j = l.drop j
theorem cl_set (l : List Ch) (i : Nat) (x : Ch) : (encCl l).set i (aD [vI x.kind,vI x.number,vI x.stream,vI x.place,sD 1 (x.data.map encB),sD 1 (x.early.map vI)]) = encCl (l.set i x):=by
 simp [encCl,encCh,List.map_set]
theorem DlOk.gone {l arr : List Ch} {c x : Ch} {i j : Nat} (h : DlOk l arr c i j) (hx : l[j]? = some x) (hp : goneP c x = true) : DlOk l arr c i (j + 1):=by
 have hj : j < l.length:=(List.getElem?_eq_some_iff.1 hx).1
 refine ⟨h.len,by omega,by have:=h.lt; omega,?_,?_⟩
 ·rw [h.front,List.take_add_one,hx]
  simp [hp]
 ·have:=congrArg List.tail h.back
  simpa using this
theorem DlOk.kept {l arr : List Ch} {c x : Ch} {i j : Nat} (h : DlOk l arr c i j) (hx : l[j]? = some x) (hp : goneP c x = false) : DlOk l (arr.set i x) c (i + 1) (j + 1):=by
 have hj : j < l.length:=(List.getElem?_eq_some_iff.1 hx).1
 have hi:=h.lt
 refine ⟨by rw [List.length_set,h.len],by omega,by omega,?_,?_⟩
 ·rw [List.take_add_one (l:=l),hx,List.filter_append,← h.front]
  rw [List.take_add_one,List.getElem?_set_self (by rw [h.len]; omega),List.take_set_of_le (Nat.le_refl _)]
  simp [hp]
 ·rw [List.drop_set_of_lt (by omega)]
  have:=congrArg List.tail h.back
  simpa using this
theorem deleteF_core (l : List Ch) (c : Ch) (hl : l.length ≤ 1048576) (hne : l ≠ []) (he : c.early.length ≤ 9223372036854775807) :
  slices_DeleteFunc ⟨startT (oD 100000 (encCl l).length :: [jD 1 79 (encCh c)]) 0,[(100000,[sD 6 (encCl l)])],[]⟩ (fin [(4,none)] [sD 6 (encCl (l.filter fun x => !goneP c x))]):=by
 have hI:=indexF_told l c hl he
 have hl0 : 0 < l.length:=List.length_pos_iff.2 hne
 by_cases hno : idxG (goneP c) l = -1
 ·rw [no_filter hno]
  rw [hno] at hI
  generalize encCh c = E at *
  refine wk @len_cl ?_
  refine cg [[vI (-1)]] (an2 @len_cl @hl0) ?_ ?_
  ·exact obl_cons hI obl_nil
  refine wk @len_cl ?_
  exact ValsLe.refl _
 ·obtain ⟨i0,hi0,hix⟩ : ∃ i0 : Nat,i0 < l.length ∧ idxG (goneP c) l = i0:=by
   unfold idxG at hno ⊢
   split
   ·rename_i q; exact ⟨_,q,rfl⟩
   ·rename_i q; rw [if_neg q] at hno; exact absurd rfl hno
  have hfi : l.findIdx (goneP c) = i0:=by
   unfold idxG at hix
   split at hix
   ·omega
   ·omega
  have hpi:=List.findIdx_eq hi0 |>.1 hfi
  rw [hix] at hI
  have hne1 : ((i0 : Int) == -1) = false:=by
   have : ¬ (i0 : Int) = -1:=by omega
   rw [beq_eq_false_iff_ne]; exact this
  have hr0 : inR .i64 ((i0 : Int) + 1) = true:=inR_of (by omega)
  have hst0 : DlOk l l c i0 (i0 + 1):=by
   refine ⟨rfl,by omega,by omega,?_,rfl⟩
   rw [List.take_add_one,List.getElem?_eq_getElem hi0,List.filter_append]
   have h1 : (l.take i0).filter (fun x => !goneP c x) = l.take i0:=List.filter_eq_self.2 (fun x hx => by
    obtain ⟨j,hj,rfl⟩:=List.mem_iff_getElem.1 hx
    rw [List.getElem_take]
    have hj' : j < i0:=by rw [List.length_take] at hj; omega
    rw [hpi.2 j hj']; rfl)
   rw [h1]
   simp [hpi.1]
  have hle : Le ⟨[(0,oD 100000 l.length),(1,jD 1 79 (encCh c)),(5,vI i0),(6,vI ((i0 : Int) + 1))],[(100000,[sD 6 (encCl l)]),(100000,[sD 6 (encCl l)])],[]⟩ (dlSt l c i0 (i0 + 1)):=by
   rw [dlSt_def,Int.natCast_add,Int.cast_ofNat_Int]; exact Le.refl _
  have hbody : ∀ Q : AX → St → Prop,(∀ arr i,DlOk l arr c i l.length → Q (some (some 0)) (⟨[(0,oD 100000 arr.length),(1,jD 1 79 (encCh c)),(5,vI i),(6,vI l.length),(19,vB false)],[(100000,[sD 6 (encCl arr)]),(100000,[sD 6 (encCl arr)])],[]⟩ : St)) →
    ∀ n st,(∃ arr i j,DlOk l arr c i j ∧ n = l.length - j ∧ st = dlSt arr c i j) → Q59l3a st (thn (Next (fun n st => ∃ arr i j,DlOk l arr c i j ∧ n = l.length - j ∧ st = dlSt arr c i j) n) Q):=by
   rintro Q hQ n st ⟨arr,i,j,hok,hn,rfl⟩
   have hlen:=hok.len
   by_cases hlt : j < l.length
   ·obtain ⟨x,hx⟩ : ∃ m,l[j]? = some m:=⟨l[j],List.getElem?_eq_getElem hlt⟩
    have hxa : arr[j]? = some x:=by
     have:=congrArg (fun t => t[0]?) hok.back
     simp only [List.getElem?_drop,Nat.add_zero] at this
     rw [this]; exact hx
    have hij:=hok.lt
    obtain ⟨y,hy⟩ : ∃ y,arr[i]? = some y:=⟨arr[i]'(by omega),List.getElem?_eq_getElem (by omega)⟩
    have g1 : (j : Int) < (arr.length : Int):=by omega
    have g2 : (0 : Int) ≤ (j : Int):=by omega
    have g3:=at_cl hxa
    have g4 : inR .i64 ((j : Int) + 1) = true:=inR_of (by omega)
    have g5 : (0 : Int) ≤ (i : Int):=by omega
    have g6 : (i : Int) < (arr.length : Int):=by omega
    have g7:=at_cl hy
    have g8 : inR .i64 ((i : Int) + 1) = true:=inR_of (by omega)
    have hS:=cameS_told c x he
    cases hp : goneP c x with
    | true =>
     rw [hp] at hS
     have hnx : Next (fun n st => ∃ arr i j,DlOk l arr c i j ∧ n = l.length - j ∧ st = dlSt arr c i j) n ⟨[(0,oD 100000 arr.length),(1,jD 1 79 (encCh c)),(5,vI i),(6,vI ((j : Int) + 1))],[(100000,[sD 6 (encCl arr)]),(100000,[sD 6 (encCl arr)])],[]⟩ :=
      ⟨l.length - (j + 1),_,by omega,Le.refl _,arr,i,j + 1,hok.gone hx hp,rfl,by rw [dlSt_def,Int.natCast_add,Int.cast_ofNat_Int]⟩
     generalize (fun n st => ∃ arr i j,DlOk l arr c i j ∧ n = l.length - j ∧ st = dlSt arr c i j) = J at *
     simp only [dlSt_def]
     generalize encCh c = E at *
     simp only [encCh] at hS
     refine wk (an5 @g1 @g2 @g3 @callS @len_cl) ?_
     refine cg [[vB true]] @callS ?_ ?_
     ·exact obl_cons hS obl_nil
     refine wk @g4 ?_
     exact hnx
    | false =>
     rw [hp] at hS
     have hnx : Next (fun n st => ∃ arr i j,DlOk l arr c i j ∧ n = l.length - j ∧ st = dlSt arr c i j) n ⟨[(0,oD 100000 arr.length),(1,jD 1 79 (encCh c)),(5,vI ((i : Int) + 1)),(6,vI ((j : Int) + 1))],[(100000,[sD 6 ((encCl arr).set i (aD [vI x.kind,vI x.number,vI x.stream,vI x.place,sD 1 (x.data.map encB),sD 1 (x.early.map vI)]))]),(100000,[sD 6 ((encCl arr).set i (aD [vI x.kind,vI x.number,vI x.stream,vI x.place,sD 1 (x.data.map encB),sD 1 (x.early.map vI)]))])],[]⟩ :=
      ⟨l.length - (j + 1),_,by omega,Le.refl _,arr.set i x,i + 1,j + 1,hok.kept hx hp,rfl,by rw [dlSt_def,List.length_set,← cl_set,Int.natCast_add,Int.natCast_add,Int.cast_ofNat_Int]⟩
     generalize (fun n st => ∃ arr i j,DlOk l arr c i j ∧ n = l.length - j ∧ st = dlSt arr c i j) = J at *
     simp only [dlSt_def]
     generalize encCh c = E at *
     simp only [encCh] at hS
     refine wk (an5 @g1 @g2 @g3 @callS @len_cl) ?_
     refine cg [[vB false]] @callS ?_ ?_
     ·exact obl_cons hS obl_nil
     refine wk (an6 @g4 @g5 @g6 @g7 @g8 @len_cl) ?_
     exact hnx
   ·have hj : j = l.length:=by have:=hok.le; omega
    subst hj
    have g1 : ¬ (l.length : Int) < (arr.length : Int):=by omega
    generalize (fun n st => ∃ arr i j,DlOk l arr c i j ∧ n = l.length - j ∧ st = dlSt arr c i j) = J at *
    simp only [dlSt_def]
    refine wk (an2 @g1 @len_cl) ?_
    exact hQ arr i hok
  generalize hEE : encCh c = E at *
  refine wk @len_cl ?_
  refine cg [[vI i0]] (an2 @len_cl @hl0) ?_ ?_
  ·exact obl_cons hI obl_nil
  refine wk (an2 @hne1 @hr0) ?_
  refine aw_loop (fun n st => ∃ arr i j,DlOk l arr c i j ∧ n = l.length - j ∧ st = dlSt arr c i j) (l.length - (i0 + 1)) (dlSt l c i0 (i0 + 1)) hle ⟨l,i0,i0 + 1,hst0,rfl,rfl⟩ ?_
  refine hbody _ ?_
  intro arr i hok
  have hlen:=hok.len
  have hil:=hok.lt
  have g5 : (0 : Int) ≤ (i : Int):=by omega
  have g6 : (i : Int) < (arr.length : Int):=by omega
  have g7 : i + (arr.length - i) = arr.length:=by omega
  have g8 : 0 < arr.length - i:=by omega
  have g9 : arr.length = (List.take i (encCl arr) ++ List.replicate (arr.length - i) (aD (List.replicate 6 xD))).length:=by
   rw [List.length_append,List.length_take,List.length_replicate,len_cl]; omega
  have g10 : (i : Int) ≤ ((List.take i (encCl arr) ++ List.replicate (arr.length - i) (aD (List.replicate 6 xD))).length : Nat):=by rw [← g9]; omega
  have g11 : (List.take i (encCl arr) ++ List.replicate (arr.length - i) (aD (List.replicate 6 xD))).take i = encCl (l.filter fun x => !goneP c x):=by
   rw [List.take_append_of_le_length (by rw [List.length_take,len_cl]; omega),List.take_take,Nat.min_self]
   have:=hok.front
   rw [List.take_length] at this
   rw [← this]
   simp [encCl,List.map_take]
  refine wk (an5 @g5 @g6 @g7 @g8 @len_cl) ?_
  rw [if_pos g9]
  simp only
  generalize (List.take i (encCl arr) ++ List.replicate (arr.length - i) (aD (List.replicate 6 xD))) = es at *
  have g12 : (0 : Int) ≤ 0 ∧ (0 : Int) ≤ (i : Int) ∧ (i : Int) ≤ (es.length : Nat):=⟨by omega,g5,g10⟩
  refine wk (an2 @g12 @g11) ?_
  exact ValsLe.refl _
theorem deleteF_told (l : List Ch) (c : Ch) (hl : l.length ≤ 1048576) (he : c.early.length ≤ 9223372036854775807) {e : Nat} :
  ToldI Try.prog 66 [xD,jD 1 79 (encCh c)] 0 none e (6,some (encCl l)) [sD 6 (encCl (l.filter fun x => !goneP c x))]:=by
 refine toldI_slices_DeleteFunc rfl (by decide) (fun h0 => ?_) (fun hne => deleteF_core l c hl (fun e => hne (by rw [e]; rfl)) he)
 have hl0 : l = []:=by
  cases l with
  | nil => rfl
  | cons x r => cases h0
 subst hl0
 have hI:=indexF_told [] c (by simp) he
 have hno : idxG (goneP c) [] = -1:=rfl
 rw [hno] at hI
 refine told_slices_DeleteFunc rfl ?_
 simp only [cl_nil,List.filter_nil] at hI ⊢
 generalize encCh c = E at *
 refine wk0 ?_
 refine cg0 [[vI (-1)]] ?_ ?_
 ·exact obl_cons hI obl_nil
 refine wk0 ?_
 exact ValsLe.refl _
theorem hearS_eq (s : Sd) (c : Ch) : hearS s c = { s with flight:=s.flight.filter fun x => !goneP c x }:=by
 unfold hearS goneP
 by_cases h : c.kind = 2
 ·rw [if_pos h,h]
  rfl
 ·rw [if_neg h]
  have h' : (c.kind == 2) = false:=by simpa using h
  have hf : s.flight.filter (fun x => !(c.kind == 2 && cameL c x.number)) = s.flight:=List.filter_eq_self.2 (fun x _ => by rw [h']; rfl)
  rw [hf]
theorem lhear_told (s : Sd) (c : Ch) (h : GoodS s) (hc : wrongL c = 0) : Told Try.prog 53 [aD (encSd s),aD (encCh c)] [aD (encSd (hearS s c))]:=by
 refine told_send_Hear rfl ?_
 have hown:=ownS_toldH s (good_small h)
 have he:=early_right hc
 have hdel:=deleteF_told s.flight c (good_small h).f (by omega) (e:=97)
 have hcb:=cameBy_told c
 rw [hearS_eq]
 simp only [encSd] at hown ⊢
 generalize s.flight.filter (fun x => !goneP c x) = F at *
 simp only [encCh] at hdel hcb ⊢
 refine wk0 ?_
 refine ⟨2,_,_,_,5,_,_,rfl,rfl,rfl,rfl,row_refl _,hown,rfl,?_⟩
 refine wk0 ?_
 refine cd0 [[jD 1 79 [vI c.kind,vI c.number,vI c.stream,vI c.place,sD 1 (c.data.map encB),sD 1 (c.early.map vI)]],[mI 0 97 6 (aD (encCl s.flight)),sD 6 (encCl F)]] ?_ ?_
 ·exact obl_cons hcb (obl_in hdel obl_nil)
 refine wk0 ?_
 exact ValsLe.refl _
theorem land_say : CSayS 55:=fun s h => lsay_told s h
theorem land_hear : CHearS 53:=fun s c h hc => lhear_told s c h hc
set_option maxRecDepth 100000
def Q45r0 : IC:=cReg Try.prog [xX 2 0,⟨some 4,none,iMov 4 (.const (.bool false)) true⟩] [1,2] [2]
def Q45r1 : IC:=cReg Try.prog [xM 5 1,xF 6 0 2,xL 7 1 6,xB 8 .lss 5 7,xM 9 8,xG 9 false (xF 10 1 2),xG 9 false (xL 11 1 10),xG 9 false (xM 12 1),xG 9 false (xV2 13 80 11 12),xP 14 9 13] [1,2,14] [2]
def Q45r2 : IC:=cReg Try.prog [⟨some 4,none,iMov 4 (.const (.bool false)) true⟩] [4] []
def Q45c1a : IC:=(cSeq Q45r2 cRet)
def Q45c1 : IC:=cCond (.tmp 14) Q45c1a cSkip
def Q45r3 : IC:=cReg Try.prog [xM 15 1,xF 16 0 2,xL 17 1 16,xB 18 .eql 15 17,xM 19 18,xG 19 false (xF 20 1 2),xG 19 false (xL 21 1 20),xG 19 false (xN 22 21),xG 19 false (xC 23 .lss 22 3),xP 24 19 23,xT 4 24] [4] []
def recv_takes : IC:=(cSeq Q45r0 (cSeq (cSeq Q45r1 Q45c1) (cSeq Q45r3 cRet)))
theorem told_recv_takes {args r : List D} (hl : args.length = 2) (h : recv_takes (start args) (fin [(4,none)] r)) : Told Try.prog 68 args r :=
 told_of follows Try.func68 rfl (an:=[([],[1,2],[2],[]),([],[1,2,14],[2],[]),([],[4],[],[]),([],[4],[],[])]) (by kernel_rfl) (by kernel_rfl) (by rw [hl]; decide +kernel) h
def Q44r0 : IC:=cReg Try.prog [⟨some 4,none,iAlo 4 [zI,zS,zI,zI,zI,zS,zS,zF]⟩] [1,2,4] [2,4]
def Q44r1_0 : IC:=cLf Try.prog 2 1 8 9 1 10 81 11
def Q44r1_1 : IC:=cReg Try.prog [xM 7 11,xE 12 7 0,xE 13 7 1,xT 5 12,xT 6 13] [1,2,4,5] [2,4]
def Q44r1 : IC:=(cSeq Q44r1_0 Q44r1_1)
def Q44r2_0 : IC:=cIns Try.prog 2 1 14 15 5 16 1 17 18 82 19
def Q44r2_1 : IC:=cReg Try.prog [xF 20 1 2,xS 1 20 19] [2,4] [2,4]
def Q44r2 : IC:=(cSeq Q44r2_0 Q44r2_1)
def Q44r3 : IC:=cRegD Try.prog [xF 21 1 2,xL 22 1 21,xN 23 22,xC 24 .gtr 23 0,xM 25 24,xG 25 true (xF 26 1 2),xG 25 true (xL 27 1 26),⟨some 28,some (25,true),iIaS 28 1 (.tmp 27) (.const (.int .i64 0))⟩,xG 25 true (xL 29 1 28),xG 25 true (xF 30 0 2),xG 25 true (xL 31 1 30),xG 25 true (xB 32 .eql 29 31),xQ 33 25 32] [[],[0],[1,0],[2,1,0],[3,2,1,0],[4,3,2,1,0],[5,4,3,2,1,0],[6,4,5,3,2,1,0],[7,4,6,5,3,2,1,0],[4,3,2,1,0],[9,4,3,2,1,0],[8,10,4,7,6,5,3,2,1,0,9],[4,11,3,2,1,0,8,10,7,6,5,9]] [2,4,33] [2,4]
def Q44c3 : IC:=cCond (.tmp 33) cSkip (cExit 0)
def Q44r4 : IC:=cReg Try.prog [xF 34 1 2,xL 35 1 34,⟨some 36,none,iSlc 36 1 (.tmp 35) (some (.const (.int .i64 1))) none⟩,xF 37 1 2,xS 1 37 36] [2,4] [2,4]
def Q44r5 : IC:=cReg Try.prog [xF 38 0 2,xL 39 1 38,xC 40 .add 39 1,xF 41 0 2,xS 1 41 40] [2,4] [2,4]
def Q44b4 : IC:=cBlock 1 (cSeq Q44r4 Q44r5)
def Q44l2a : IC:=(cSeq (cSeq Q44r3 Q44c3) Q44b4)
def Q44l2 : IC:=cLoop Q44l2a
def Q44b1 : IC:=cBlock 0 Q44l2
def Q44r6_0 : IC:=cCpX 2 4 42 8
def Q44r6_1 : IC:=cReg Try.prog [] [4] [4]
def Q44r6 : IC:=(cSeq Q44r6_0 Q44r6_1)
def recv_came : IC:=cSeq Q44r0 (cSeq Q44r1 (cSeq Q44r2 (cSeq Q44b1 (cSeq Q44r6 cRet))))
theorem toldX_recv_came {cs ex rs : List D} {ri ro : List (Nat × Nat × Pay)} (hx : ex.length = 1) (hnd : (ri.map (·.1)).Nodup) (h : ∃ st1,Le ⟨(2,pD 2 0) :: startT (aD cs :: ex) 0,[(2,cs)],flOf 2 ri⟩ st1 ∧ recv_came st1 (fin1 (cellFin 4 8 rs ro))) : ToldX Try.prog 69 (aD cs :: ex) (upR ri) [aD rs] (upR ro) :=
 toldX_boxed follows Try.func69 rfl rfl rfl rfl rfl (by rw [hx]; decide +kernel) (rw:=[]) (cuts:=[]) (lv:=[1,2,4]) (lb:=[2,4]) (an:=[([(9004,[],[])],[1,2,4,5],[2,4],[]),([(11006,[],[])],[2,4],[2,4],[]),([],[2,4,33],[2,4],[]),([],[2,4],[2,4],[]),([],[2,4],[2,4],[]),([(8002,[],[])],[4],[4],[])]) (by kernel_rfl) (by kernel_rfl) (by decide +kernel) hnd h
  (fun _ _ _ _ _ _ _ _ ⟨_,_,h1,h2,h3,h4,h5,h6⟩ hr => cell_out rfl (by kernel_rfl) (by kernel_rfl) h1 h2 h3 h4 h5 h6 hr)
def Q47r0 : IC:=cReg Try.prog [xX 2 0,⟨some 3,none,iMov 3 (.const (.bool false)) true⟩] [1,2] [2]
def Q47r1 : IC:=cRegD Try.prog [xF 4 3 2,xL 5 1 4,xF 6 2 2,xL 7 1 6,xF 8 2 1,⟨some 9,none,iIaA 9 3 1 (.tmp 8) (.tmp 7)⟩,xL 10 1 9,xB 11 .eql 5 10,xT 3 11] [[],[0],[],[2],[],[4,3,2],[5,4,3,2],[1,6,0,5,4,3,2],[7,0,1,2,3,4,5,6]] [3] []
def recv_tellDueS1 : IC:=(cSeq Q47r0 (cSeq Q47r1 cRet))
theorem told_recv_tellDueS1 {args r : List D} (hl : args.length = 2) (h : recv_tellDueS1 (start args) (fin [(3,none)] r)) : Told Try.prog 83 args r :=
 told_of follows Try.func83 rfl (an:=[([],[1,2],[2],[]),([],[3],[],[])]) (by kernel_rfl) (by kernel_rfl) (by rw [hl]; decide +kernel) h
def Q46r0 : IC:=cReg Try.prog [⟨some 2,none,iAlo 2 [zI,zS,zI,zI,zI,zS,zS,zF]⟩] [1,2] [1,2,100001]
def Q46r1 : IC:=cReg Try.prog [⟨some 6,none,iMkf 6 83 1⟩,xT 3 6] [1,2,3] [1,2,100001]
def Q46r2 : IC:=cReg Try.prog [xF 7 5 1,xL 8 1 7,xM 9 3,⟨some 10,none,iCallL 10 78 [(.tmp 8),(.tmp 9)]⟩,xT 4 10] [1,2,3,4] [1,2,100001]
def Q46r3 : IC:=cReg Try.prog [xM 11 4,xC 12 .geq 11 0] [1,2,3,4,12] [1,2,100001]
def Q46c3 : IC:=cCond (.tmp 12) cSkip (cExit 0)
def Q46r5 : IC:=cReg Try.prog [xF 17 5 1,xL 18 1 17,xM 19 4,xI 20 6 18 19,xA 21 6 20,⟨some 5,none,iAlo 5 [zI,zI,zI,zI,zS,zS]⟩,xS 6 5 21] [1,2,3,4,5] [1,2,5,100001]
def Q46r6 : IC:=cReg Try.prog [xF 22 5 1,xL 23 1 22,xM 24 4,xM 25 4,xC 26 .add 25 1,⟨some 27,none,iCallL 27 84 [(.tmp 23),(.tmp 24),(.tmp 26)]⟩,xF 28 5 1,xS 1 28 27] [1,2,3,5] [1,2,5,100001]
def Q46r7 : IC:=cReg Try.prog [xF 29 6 1,xU 30 1 29,xF 31 2 5,xL 32 1 31,xF 33 4 5,xL 34 1 33,⟨some 35,none,iBld 35 [zI,zS] [(0,1),(1,1)] [(.tmp 32),(.tmp 34)]⟩,xR 36 28 2 35,xW 37 28 2 32 30 36,xF 38 6 1,xS 1 38 37] [1,2,3,5] [1,2,5,100001]
def Q46r8 : IC:=cReg Try.prog [xF 39 2 5,xL 40 1 39,xF 41 2 1,⟨some 42,none,iIaA 42 3 1 (.tmp 41) (.tmp 40)⟩,xL 43 1 42,xC 44 .add 43 1,xF 45 2 1,⟨some 46,none,iIaA 46 3 1 (.tmp 45) (.tmp 40)⟩,xS 1 46 44] [1,2,3] [1,2,100001]
def Q46b4 : IC:=cBlock 1 (cSeq Q46r5 (cSeq Q46r6 (cSeq Q46r7 Q46r8)))
def Q46r4 : IC:=cReg Try.prog [xF 13 5 1,xL 14 1 13,xM 15 3,⟨some 16,none,iCallL 16 78 [(.tmp 14),(.tmp 15)]⟩,xT 4 16] [1,2,3,4] [1,2,100001]
def Q46l2a : IC:=(cSeq (cSeq Q46r3 Q46c3) (cSeq Q46b4 Q46r4))
def Q46l2 : IC:=cLoop Q46l2a
def Q46b1 : IC:=cBlock 0 Q46l2
def Q46r9_0 : IC:=cReg Try.prog [] [1,2] [1,2]
def Q46r9_1 : IC:=cReg Try.prog [xA 47 8 1,xS 8 2 47] [2] [2]
def Q46r9 : IC:=(cSeq Q46r9_0 Q46r9_1)
def recv_tellDue : IC:=cSeq Q46r0 (cSeq Q46r1 (cSeq (cSeq Q46r2 Q46b1) (cSeq Q46r9 cRet)))
theorem toldX_recv_tellDue {cs ex rs : List D} {ri ro : List (Nat × Nat × Pay)} (hx : ex.length = 0) (hnd : (ri.map (·.1)).Nodup) (h : ∃ st1,Le ⟨(1,pD 1 0) :: startT (aD cs :: ex) 0,[(1,cs)],flOf 1 ri⟩ st1 ∧ recv_tellDue st1 (fin1 (cellFin 2 8 rs ro))) : ToldX Try.prog 70 (aD cs :: ex) (upR ri) [aD rs] (upR ro) :=
 toldX_boxed follows Try.func70 rfl rfl rfl rfl rfl (by rw [hx]; decide +kernel) (rw:=[]) (cuts:=[]) (lv:=[1,2]) (lb:=[1,2,100001]) (an:=[([],[1,2,3],[1,2,100001],[]),([],[1,2,3,4],[1,2,100001],[10]),([],[1,2,3,4,12],[1,2,100001],[]),([],[1,2,3,4,5],[1,2,5,100001],[]),([],[1,2,3,5],[1,2,5,100001],[27]),([],[1,2,3,5],[1,2,5,100001],[]),([],[1,2,3],[1,2,100001],[]),([],[1,2,3,4],[1,2,100001],[16]),([(0,[1,2],[1,2])],[2],[2],[])]) (by kernel_rfl) (by kernel_rfl) (by decide +kernel) hnd h
  (fun _ _ _ _ _ _ _ _ ⟨_,_,h1,h2,h3,h4,h5,h6⟩ hr => cell_out rfl (by kernel_rfl) (by kernel_rfl) h1 h2 h3 h4 h5 h6 hr)
def Q40r0 : IC:=cReg Try.prog [xX 2 0,xX 3 1,⟨some 4,none,iAlo 4 [zI,zS,zI,zI,zI,zS,zS,zF]⟩] [2,3,4] [2,3,4]
def Q40r1_0 : IC:=cXs Try.prog 2 5 6 34 8 none
def Q40r1_1 : IC:=cReg Try.prog [] [2,3,4] [2,3,4]
def Q40r1 : IC:=(cSeq Q40r1_0 Q40r1_1)
def Q40r2 : IC:=cReg Try.prog [xF 7 0 3,xL 8 1 7,xC 9 .neq 8 1] [2,3,4,9] [2,3,4]
def Q40r3_0 : IC:=cLe
def Q40r3_1 : IC:=cReg Try.prog [xA 10 8 2,xS 8 4 10] [4] [4]
def Q40r3 : IC:=(cSeq Q40r3_0 Q40r3_1)
def Q40c1a : IC:=(cSeq Q40r3 cRet)
def Q40c1 : IC:=cCond (.tmp 9) Q40c1a cSkip
def Q40r4 : IC:=cReg Try.prog [xF 11 7 2,⟨none,none,iStor 1 (.tmp 11) (.const (.bool true))⟩] [2,3,4] [2,3,4]
def Q40r5_0 : IC:=cLn Try.prog 2 12 15 68 8 (some (3,1,13,14))
def Q40r5_1 : IC:=cReg Try.prog [xO 16 15] [2,3,4,16] [2,3,4]
def Q40r5 : IC:=(cSeq Q40r5_0 Q40r5_1)
def Q40r6_0 : IC:=cLe
def Q40r6_1 : IC:=cReg Try.prog [xA 17 8 2,xS 8 4 17] [4] [4]
def Q40r6 : IC:=(cSeq Q40r6_0 Q40r6_1)
def Q40c2a : IC:=(cSeq Q40r6 cRet)
def Q40c2 : IC:=cCond (.tmp 16) Q40c2a cSkip
def Q40r7_0 : IC:=cXs Try.prog 2 18 21 69 8 (some (3,1,19,20))
def Q40r7_1 : IC:=cReg Try.prog [] [2,3,4] [2,3,4]
def Q40r7 : IC:=(cSeq Q40r7_0 Q40r7_1)
def Q40r8 : IC:=cRegD Try.prog [xF 22 5 2,xU 23 1 22,xA 24 6 3,xV1 25 48 24,xR 26 97 6 25,xW 27 97 6 80 23 26,xF 28 5 2,xS 1 28 27] [[],[0],[],[2],[3,2],[1,4,3,0,2],[0,1,2,3,4,5],[6,5,0,1,2,3,4]] [2,4] [2,4]
def Q40r9_0 : IC:=cXn Try.prog 2 29 30 70 8 none
def Q40r9_1 : IC:=cReg Try.prog [xS 8 4 30] [4] [4]
def Q40r9 : IC:=(cSeq Q40r9_0 Q40r9_1)
def recv_Hear : IC:=(cSeq Q40r0 (cSeq Q40r1 (cSeq (cSeq Q40r2 Q40c1) (cSeq Q40r4 (cSeq (cSeq Q40r5 Q40c2) (cSeq Q40r7 (cSeq Q40r8 (cSeq Q40r9 cRet))))))))
theorem told_recv_Hear {args r : List D} (hl : args.length = 2) (h : recv_Hear (start args) (fin [(4,some (8,true))] r)) : Told Try.prog 54 args r :=
 told_of follows Try.func54 rfl (an:=[([],[2,3,4],[2,3,4],[]),([(4003,[],[])],[2,3,4],[2,3,4],[]),([],[2,3,4,9],[2,3,4],[]),([(12000,[],[])],[4],[4],[]),([],[2,3,4],[2,3,4],[]),([(7004,[],[])],[2,3,4,16],[2,3,4],[]),([(12000,[],[])],[4],[4],[]),([(5005,[],[])],[2,3,4],[2,3,4],[]),([],[2,4],[2,4],[]),([(6002,[],[])],[4],[4],[])]) (by kernel_rfl) (by kernel_rfl) (by rw [hl]; decide +kernel) h
end Go.Proofs.Ytgaofjiidedcbad.ab
