import Derived.Test.YtgaofjiidedcbacGreatM43
set_option maxHeartbeats 8000000
set_option linter.unusedVariables false
set_option linter.unusedSimpArgs false
namespace Go.Proofs.YtgaofjiidedcbacGreat.ab
open Go Go.RowKit
open mth
theorem sayNew_told (m : Ms) (r : List Ms) (next p0 p1 p2 turn : Int) (flight : List Ch) (hn : 0 ≤ next ∧ next ≤ 40) (h0 : 0 ≤ p0 ∧ p0 ≤ 40) (h1 : 0 ≤ p1 ∧ p1 ≤ 40) (h2 : 0 ≤ p2 ∧ p2 ≤ 40) (hf : flight.length ≤ 3) (hr : r.length ≤ 1000) (hm : 0 ≤ m.stream ∧ m.stream ≤ 2) :
  ToldI Tryz.prog 93 [aD (encSd ⟨m :: r,next,p0,p1,p2,flight,turn⟩)] 0 (some 5) 85 (6,none) [aD (encSd (newS ⟨m :: r,next,p0,p1,p2,flight,turn⟩ m r)),aD (encCh (newC ⟨m :: r,next,p0,p1,p2,flight,turn⟩ m))]:=by
 refine toldI_send_sayNew ?_
 have q3 : inR .i64 (next + 1) = true:=inR_of (by omega)
 have q4 : inR .i64 (p0 + 1) = true:=inR_of (by omega)
 have q5 : inR .i64 (p1 + 1) = true:=inR_of (by omega)
 have q6 : inR .i64 (p2 + 1) = true:=inR_of (by omega)
 have q8 : (flight.length + 1) * 80 ≤ 140737488355328:=by omega
 have q9 : (0 : Int) ≤ 1 ∧ (1 : Int) ≤ ((r.length + 1 : Nat) : Int) ∧ ((r.length + 1 : Nat) : Int) ≤ ((r.length + 1 : Nat) : Int):=by omega
 have q10 : (encMl r).take r.length = encMl r:=List.take_of_length_le (by rw [len_ml]; exact Nat.le_refl _)
 obtain ⟨ms,md⟩:=m
 simp only at hm
 rcases (by omega : ms = 0 ∨ ms = 1 ∨ ms = 2) with hs | hs | hs
 ·subst hs
  simp only [encSd,newS,newC,placeOf,encCh,ml_cons,cl_snoc,List.map_nil,if_true,Int.reduceEq,if_false]
  refine wk (an10 @len_ml @len_cl @zapp @q3 @q4 @q5 @q6 @q8 @q9 @q10) ?_
  repeat' (first | exact vals_nil | exact row_nil | exact es_nil | exact CVLe.refl _ | exact LfLe.refl _ | exact LfLe.nil _ | exact EsLe.refl _ | refine vals_cons ?_ ?_ | refine row_cons ?_ ?_ | refine es_cons ?_ ?_ | refine EsLe.app ?_ ?_ | refine CVLe.row ?_ | refine CVLe.leafV ?_ | refine CVLe.leafS ?_ | refine LfLe.s ?_)
 ·subst hs
  simp only [encSd,newS,newC,placeOf,encCh,ml_cons,cl_snoc,List.map_nil,if_true,Int.reduceEq,if_false]
  refine wk (an10 @len_ml @len_cl @zapp @q3 @q4 @q5 @q6 @q8 @q9 @q10) ?_
  repeat' (first | exact vals_nil | exact row_nil | exact es_nil | exact CVLe.refl _ | exact LfLe.refl _ | exact LfLe.nil _ | exact EsLe.refl _ | refine vals_cons ?_ ?_ | refine row_cons ?_ ?_ | refine es_cons ?_ ?_ | refine EsLe.app ?_ ?_ | refine CVLe.row ?_ | refine CVLe.leafV ?_ | refine CVLe.leafS ?_ | refine LfLe.s ?_)
 ·subst hs
  simp only [encSd,newS,newC,placeOf,encCh,ml_cons,cl_snoc,List.map_nil,if_true,Int.reduceEq,if_false]
  refine wk (an10 @len_ml @len_cl @zapp @q3 @q4 @q5 @q6 @q8 @q9 @q10) ?_
  repeat' (first | exact vals_nil | exact row_nil | exact es_nil | exact CVLe.refl _ | exact LfLe.refl _ | exact LfLe.nil _ | exact EsLe.refl _ | refine vals_cons ?_ ?_ | refine row_cons ?_ ?_ | refine es_cons ?_ ?_ | refine EsLe.app ?_ ?_ | refine CVLe.row ?_ | refine CVLe.leafV ?_ | refine CVLe.leafS ?_ | refine LfLe.s ?_)
theorem tmod_eq {t : Int} {n : Nat} (ht : 0 ≤ t) : t.tmod (n : Int) = t % (n : Int):=Int.tmod_eq_emod_of_nonneg ht
theorem sayAgain_told (queue : List Ms) (next p0 p1 p2 turn : Int) (flight : List Ch) (ht : 0 ≤ turn ∧ turn ≤ 1000) (hf0 : 0 < flight.length) (hf : flight.length ≤ 4) :
  Told Tryz.prog 94 [aD (encSd ⟨queue,next,p0,p1,p2,flight,turn⟩)] [aD (encSd ⟨queue,next,p0,p1,p2,flight,turn % (flight.length : Int) + 1⟩),aD (encCh (flight.getD (turn % (flight.length : Int)).toNat zeroC))]:=by
 refine told_send_sayAgain rfl ?_
 have hn0 : ¬ (flight.length : Int) = 0:=by omega
 have hae:=tmod_eq (t:=turn) (n:=flight.length) ht.1
 have hm0 : 0 ≤ turn % (flight.length : Int):=Int.emod_nonneg _ hn0
 have hm1 : turn % (flight.length : Int) < flight.length:=Int.emod_lt_of_pos _ (by omega)
 generalize hk : turn % (flight.length : Int) = k at *
 have r4 : inR .i64 (k + 1) = true:=inR_of (by omega)
 have hlt : k.toNat < flight.length:=by omega
 have hget : (encCl flight)[k.toNat]? = some (aD (encCh (flight.getD k.toNat zeroC))):=by
  rw [encCl,List.getElem?_map,List.getElem?_eq_getElem hlt,List.getD_eq_getElem?_getD,List.getElem?_eq_getElem hlt]; rfl
 obtain ⟨c0,hc0⟩ : ∃ c0,c0 = flight.getD k.toNat zeroC:=⟨_,rfl⟩
 rw [← hc0] at hget ⊢
 simp only [encSd,encCh] at hget ⊢
 refine wk (an6 @len_cl @hn0 @hae @r4 @hm0 @hget) ?_
 repeat' (first | exact vals_nil | exact row_nil | exact es_nil | exact CVLe.refl _ | exact LfLe.refl _ | exact LfLe.nil _ | exact EsLe.refl _ | refine vals_cons ?_ ?_ | refine row_cons ?_ ?_ | refine es_cons ?_ ?_ | refine EsLe.app ?_ ?_ | refine CVLe.row ?_ | refine CVLe.leafV ?_ | refine CVLe.leafS ?_ | refine LfLe.s ?_)
theorem lsay_told (s : Sd) (h : GoodS s) : Told Tryz.prog 70 [aD (encSd s)] [aD (encSd (sayL s).1),aD (encCh (sayL s).2.1),vB (sayL s).2.2]:=by
 refine told_send_Say rfl ?_
 have hown:=ownS_toldF s (good_small h)
 have hsm:=good_small h
 have hdat:=say_early h
 have hgd : (sayL s).2.1.data.length ≤ 1048576 ∧ (sayL s).2.1.early.length ≤ 1048576:=by
  refine ⟨?_,by omega⟩
  unfold sayL
  split
  ·split
   ·simp [zeroC]
   ·rename_i hf
    have hk:=againK_lt h (by omega)
    have hlt : (againK s).toNat < s.flight.length:=by omega
    simp only [List.getD_eq_getElem?_getD,List.getElem?_eq_getElem hlt,Option.getD_some]
    exact (hsm.c _ (List.getElem_mem hlt)).1
  ·rename_i m r hq
   split
   ·rename_i hf
    have hk:=againK_lt h (by omega)
    have hlt : (againK s).toNat < s.flight.length:=by omega
    simp only [List.getD_eq_getElem?_getD,List.getElem?_eq_getElem hlt,Option.getD_some]
    exact (hsm.c _ (List.getElem_mem hlt)).1
   ·exact hsm.m m (by rw [hq]; simp)
 have hn:=h.n
 have hp:=h.p
 have ht:=h.t
 have hf:=h.f
 have hq:=h.q
 have hms:=h.m
 obtain ⟨queue,next,p0,p1,p2,flight,turn⟩:=s
 simp only at hn hp ht hf hq hms
 have hown':=ownCh_told _ hgd.1 hgd.2
 by_cases hnew : queue = [] ∨ 3 < flight.length
 ·by_cases hf0 : flight.length = 0
  ·have hqn : queue = []:=by rcases hnew with q | q <;> first | exact q | omega
   subst hqn
   have hfn : flight = []:=List.eq_nil_of_length_eq_zero hf0
   subst hfn
   simp only [sayL,List.length_nil,if_true]
   simp only [encSd,encCh,zeroC,List.map_nil,ml_nil,cl_nil] at hown ⊢
   refine wk0 ?_
   refine ⟨1,_,_,_,5,_,_,rfl,rfl,rfl,rfl,row_refl _,hown,rfl,?_⟩
   refine wk (an3 @znil @Int.natCast_zero @Int.lt_irrefl) ?_
   repeat' (first | exact vals_nil | exact row_nil | exact es_nil | exact CVLe.refl _ | exact LfLe.refl _ | exact LfLe.nil _ | exact EsLe.refl _ | refine vals_cons ?_ ?_ | refine row_cons ?_ ?_ | refine es_cons ?_ ?_ | refine EsLe.app ?_ ?_ | refine CVLe.row ?_ | refine CVLe.leafV ?_ | refine CVLe.leafS ?_ | refine LfLe.s ?_)
  ·have hsay : sayL ⟨queue,next,p0,p1,p2,flight,turn⟩ = (⟨queue,next,p0,p1,p2,flight,turn % (flight.length : Int) + 1⟩,flight.getD (turn % (flight.length : Int)).toNat zeroC,true):=by
    unfold sayL
    simp only
    split
    ·rw [if_neg hf0]; rfl
    ·rcases hnew with q | q
     ·cases q
     ·rw [if_pos q]; rfl
   rw [hsay] at hown' ⊢
   have hag:=sayAgain_told queue next p0 p1 p2 turn flight ⟨ht.1,by omega⟩ (by omega) hf
   generalize turn % (flight.length : Int) + 1 = t' at *
   generalize flight.getD (turn % (flight.length : Int)).toNat zeroC = c0 at *
   have g1 : 0 < (flight.length : Int):=by omega
   simp only [encSd,encCh] at hown hown' hag ⊢
   have fin2 : ∀ st,st = (⟨[(1,pD 1 0),(2,pD 2 0),(3,pD 3 0),(5,pD 5 0)],[(1,[sD 2 (encMl queue),vI next,vI p0,vI p1,vI p2,sD 6 (encCl flight),vI t']),(2,[vD (.slice none 0 0),vI 0,vI 0,vI 0,vI 0,vD (.slice none 0 0),vI 0]),(3,[vI 0,vI 0,vI 0,vI 0,vD (.slice none 0 0),vD (.slice none 0 0)]),(5,[vI c0.kind,vI c0.number,vI c0.stream,vI c0.place,sD 1 (c0.data.map encB),sD 1 (c0.early.map vI)])],[]⟩ : St) →
     cSeq Q78r8 cRet st (fin [(2,some (7,true)),(3,some (6,true)),(4,none)] [aD [sD 2 (encMl queue),vI next,vI p0,vI p1,vI p2,sD 6 (encCl flight),vI t'],aD [vI c0.kind,vI c0.number,vI c0.stream,vI c0.place,sD 1 (c0.data.map encB),sD 1 (c0.early.map vI)],vB true]):=by
    rintro st rfl
    refine wk0 ?_
    refine cd0 [[aD [vI c0.kind,vI c0.number,vI c0.stream,vI c0.place,sD 1 (c0.data.map encB),sD 1 (c0.early.map vI)]]] ?_ ?_
    ·exact obl_cons hown' obl_nil
    refine wk0 ?_
    exact ValsLe.refl _
   by_cases hqn : queue = []
   ·subst hqn
    simp only [ml_nil] at *
    refine wk0 ?_
    refine ⟨1,_,_,_,5,_,_,rfl,rfl,rfl,rfl,row_refl _,hown,rfl,?_⟩
    refine wk (an5 @znil @Int.natCast_zero @Int.lt_irrefl @g1 @len_cl) ?_
    refine cg0 [[aD [sD 2 [],vI next,vI p0,vI p1,vI p2,sD 6 (encCl flight),vI t'],aD [vI c0.kind,vI c0.number,vI c0.stream,vI c0.place,sD 1 (c0.data.map encB),sD 1 (c0.early.map vI)]]] ?_ ?_
    ·exact obl_cons hag obl_nil
    refine blk_normal ?_
    refine thn_normal ?_
    exact fin2 _ rfl
   ·have hq3 : 0 < (queue.length : Int):=by
     have : queue.length ≠ 0:=fun h => hqn (List.eq_nil_of_length_eq_zero h)
     omega
    have hf3 : ¬ (flight.length : Int) < 4:=by
     rcases hnew with q | q
     ·exact absurd q hqn
     ·omega
    refine wk0 ?_
    refine ⟨1,_,_,_,5,_,_,rfl,rfl,rfl,rfl,row_refl _,hown,rfl,?_⟩
    refine wk (an5 @hq3 @hf3 @g1 @len_cl @len_ml) ?_
    refine cg0 [[aD [sD 2 (encMl queue),vI next,vI p0,vI p1,vI p2,sD 6 (encCl flight),vI t'],aD [vI c0.kind,vI c0.number,vI c0.stream,vI c0.place,sD 1 (c0.data.map encB),sD 1 (c0.early.map vI)]]] ?_ ?_
    ·exact obl_cons hag obl_nil
    refine blk_normal ?_
    refine thn_normal ?_
    exact fin2 _ rfl
 ·obtain ⟨m,r,rfl⟩ : ∃ m r,queue = m :: r:=by
   cases queue with
   | nil => exact absurd (Or.inl rfl) hnew
   | cons m r => exact ⟨m,r,rfl⟩
  have hf3 : flight.length ≤ 3:=by
   have : ¬ 3 < flight.length:=fun q => hnew (Or.inr q)
   omega
  have hsay : sayL ⟨m :: r,next,p0,p1,p2,flight,turn⟩ = (newS ⟨m :: r,next,p0,p1,p2,flight,turn⟩ m r,newC ⟨m :: r,next,p0,p1,p2,flight,turn⟩ m,true):=by
   unfold sayL
   simp only
   rw [if_neg (by omega)]
  have hm : 0 ≤ m.stream ∧ m.stream ≤ 2:=by
   have:=hms m (by simp)
   unfold wrongMsgL at this
   split at this
   ·cases this
   ·omega
  have hnw:=sayNew_told m r next p0 p1 p2 turn flight (by omega) (by omega) (by omega) (by omega) hf3 (by simp only [List.length_cons] at hq; omega) hm
  rw [hsay] at hown' ⊢
  simp only at hown' ⊢
  generalize newS ⟨m :: r,next,p0,p1,p2,flight,turn⟩ m r = s' at *
  generalize newC ⟨m :: r,next,p0,p1,p2,flight,turn⟩ m = c0 at *
  have g1 : 0 < (((r.length + 1 : Nat)) : Int):=by omega
  have g2 : (flight.length : Int) < 4:=by omega
  simp only [encSd,encCh,ml_cons] at hown hown' hnw ⊢
  refine wk0 ?_
  refine ⟨1,_,_,_,5,_,_,rfl,rfl,rfl,rfl,row_refl _,hown,rfl,?_⟩
  refine wk (an4 @g1 @g2 @len_cl @len_ml) ?_
  refine ⟨1,_,_,5,_,_,_,rfl,rfl,rfl,rfl,row_refl _,by decide,rfl,hnw,?_⟩
  refine wk0 ?_
  refine cd0 [[aD [vI c0.kind,vI c0.number,vI c0.stream,vI c0.place,sD 1 (c0.data.map encB),sD 1 (c0.early.map vI)]]] ?_ ?_
  ·exact obl_cons hown' obl_nil
  refine wk0 ?_
  exact ValsLe.refl _
def idxG {α : Type} (p : α → Bool) (l : List α) : Int:=if l.findIdx p < l.length then (l.findIdx p : Int) else -1
theorem idxG_at {α : Type} {p : α → Bool} {l : List α} {j : Nat} {x : α} (hx : l[j]? = some x) (hp : p x = true) (hb : ∀ i y,i < j → l[i]? = some y → p y = false) : idxG p l = j:=by
 have hj : j < l.length:=(List.getElem?_eq_some_iff.1 hx).1
 have hxe : l[j] = x:=(List.getElem?_eq_some_iff.1 hx).2
 have : l.findIdx p = j:=(List.findIdx_eq hj).2 ⟨by rw [hxe]; exact hp,fun i hi => hb i _ hi (List.getElem?_eq_getElem (by omega))⟩
 unfold idxG
 rw [this,if_pos hj]
theorem idxG_no {α : Type} {p : α → Bool} {l : List α} (hb : ∀ (i : Nat) y,l[i]? = some y → p y = false) : idxG p l = -1:=by
 have : l.findIdx p = l.length:=List.findIdx_eq_length.2 (fun x hx => by
  obtain ⟨i,hi,rfl⟩:=List.mem_iff_getElem.1 hx
  exact hb i _ (List.getElem?_eq_getElem hi))
 unfold idxG
 rw [this,if_neg (Nat.lt_irrefl _)]
theorem idxG_contains (l : List Int) (n : Int) : decide (0 ≤ idxG (fun y => n == y) l) = l.contains n:=by
 unfold idxG
 by_cases h : l.findIdx (fun y => n == y) < l.length
 ·rw [if_pos h]
  have hc : l.contains n = true:=by
   have:=List.findIdx_getElem (w:=h)
   rw [List.contains_iff_mem]
   have e : n = l[l.findIdx (fun y => n == y)]:=by simpa using this
   rw [e]
   exact List.getElem_mem _
  rw [hc]
  simp
 ·rw [if_neg h]
  have hc : l.contains n = false:=by
   have h' : l.findIdx (fun y => n == y) = l.length:=by have:=List.findIdx_le_length (p:=fun y => n == y) (xs:=l); omega
   have:=List.findIdx_eq_length.1 h'
   cases hcc : l.contains n with
   | false => rfl
   | true =>
    have hm:=List.contains_iff_mem.1 hcc
    have:=this n hm
    simp at this
  rw [hc]
  simp
def ixSt (l : List Int) (n : Int) (k : Nat) : St:=⟨[(0,sD 1 (l.map vI)),(1,vI n),(7,vI l.length),(8,vI k)],[],[]⟩
theorem index_told (l : List Int) (n : Int) (hl : l.length ≤ 9223372036854775807) : Told Tryz.prog 109 [sD 1 (l.map vI),vI n] [vI (idxG (fun y => n == y) l)]:=by
 refine told_slices_Index rfl ?_
 refine wk @zmap ?_
 refine aw_loop (fun m st => ∃ k : Nat,k ≤ l.length ∧ m = l.length - k ∧ (∀ i y,i < k → l[i]? = some y → (n == y) = false) ∧ st = ixSt l n k) l.length (ixSt l n 0) (Le.keep (lv:=[0,1,7,8]) (lb:=[]) (by simp only [ev0,ev1,ev2,look,lookF,cellsFrom,offT,offP,List.tail_nil,List.length_nil,Int.cast_ofNat_Int,Nat.reduceEqDiff,Nat.reduceAdd,Nat.reduceMul,Nat.reduceLeDiff,Nat.reduceLT,↓reduceIte,reduceCtorEq,Int.reduceBEq,Int.reduceBNe,Int.reduceLT,Int.reduceLE,Int.reduceToNat]; rfl)) ⟨0,by omega,by omega,(fun i y hi => by omega),rfl⟩ ?_
 rintro m st ⟨k,hk,hm,hb,rfl⟩
 by_cases hlt : k < l.length
 ·obtain ⟨x,hx⟩ : ∃ m,l[k]? = some m:=⟨l[k],List.getElem?_eq_getElem hlt⟩
  have g1 : (k : Int) < (l.length : Int):=by omega
  have g2 : (0 : Int) ≤ (k : Int):=by omega
  have g3:=at_il hx
  have g4 : inR .i64 ((k : Int) + 1) = true:=inR_of (by omega)
  cases hp : (n == x) with
  | true =>
   rw [idxG_at (p:=fun y => n == y) hx hp hb]
   generalize (fun m st => ∃ k : Nat,k ≤ l.length ∧ m = l.length - k ∧ (∀ i y,i < k → l[i]? = some y → (n == y) = false) ∧ st = ixSt l n k) = J at *
   simp only [ixSt]
   refine wk (an4 @g1 @g2 @g3 @hp) ?_
   exact ValsLe.refl _
  | false =>
   have hnx : Next (fun m st => ∃ k : Nat,k ≤ l.length ∧ m = l.length - k ∧ (∀ i y,i < k → l[i]? = some y → (n == y) = false) ∧ st = ixSt l n k) m ⟨[(0,sD 1 (l.map vI)),(1,vI n),(7,vI l.length),(8,vI ((k : Int) + 1))],[],[]⟩:=by
    refine ⟨l.length - (k + 1),_,by omega,Le.refl _,k + 1,by omega,rfl,fun i y hi hy => ?_,by simp only [ixSt,Int.natCast_add,Int.cast_ofNat_Int]⟩
    by_cases hik : i = k
    ·subst hik; rw [hx] at hy; cases hy; exact hp
    ·exact hb i y (by omega) hy
   generalize (fun m st => ∃ k : Nat,k ≤ l.length ∧ m = l.length - k ∧ (∀ i y,i < k → l[i]? = some y → (n == y) = false) ∧ st = ixSt l n k) = J at *
   simp only [ixSt]
   refine wk (an5 @g1 @g2 @g3 @g4 @hp) ?_
   exact hnx
 ·have hk' : k = l.length:=by omega
  subst hk'
  have g1 : ¬ (l.length : Int) < (l.length : Int):=by omega
  rw [idxG_no (fun i y hy => hb i y (List.getElem?_eq_some_iff.1 hy).1 hy)]
  simp only [ixSt]
  refine wk @g1 ?_
  exact ValsLe.refl _
theorem contains_told (l : List Int) (n : Int) (hl : l.length ≤ 9223372036854775807) : Told Tryz.prog 103 [sD 1 (l.map vI),vI n] [vB (l.contains n)]:=by
 refine told_slices_Contains rfl ?_
 rw [← idxG_contains]
 refine wk0 ?_
 refine cg0 [[vI (idxG (fun y => n == y) l)]] ?_ ?_
 ·exact obl_cons (index_told l n hl) obl_nil
 refine wk0 ?_
 exact ValsLe.refl _
def goneP (c x : Ch) : Bool:=c.kind == 2 && cameL c x.number
theorem cameS_told (c x : Ch) (he : c.early.length ≤ 9223372036854775807) : Told Tryz.prog 102 [aD (encCh x),jD 0 0 (encCh c)] [vB (goneP c x)]:=by
 refine told_send_cameByS1 rfl ?_
 simp only [encCh]
 unfold goneP
 cases hk : (c.kind == 2) with
 | false =>
  refine wk @hk ?_
  exact ValsLe.refl _
 | true =>
  unfold cameL
  by_cases hn : x.number < c.number
  ·rw [decide_eq_true hn]
   refine wk (an2 @hk @hn) ?_
   exact ValsLe.refl _
  ·rw [decide_eq_false hn]
   refine wk (an2 @hk @hn) ?_
   refine cg0 [[vB (c.early.contains x.number)]] ?_ ?_
   ·exact obl_cons (contains_told c.early x.number he) obl_nil
   refine wk0 ?_
   exact ValsLe.refl _
theorem cameBy_told (c : Ch) : Told Tryz.prog 89 [aD (encCh c)] [jD 1 102 (encCh c)]:=by
 refine told_send_cameBy rfl ?_
 simp only [encCh]
 refine wk0 ?_
 exact ValsLe.refl _
theorem callS : callableB Tryz.prog 102 = true:=by kernel_rfl
end Go.Proofs.YtgaofjiidedcbacGreat.ab
