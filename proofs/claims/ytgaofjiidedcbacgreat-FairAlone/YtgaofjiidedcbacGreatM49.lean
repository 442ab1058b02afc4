import Derived.Test.YtgaofjiidedcbacGreatM48
import Derived.Test.YtgaofjiidedcbacGreatM20
import Derived.Test.YtgaofjiidedcbacGreatM38
import Derived.Test.YtgaofjiidedcbacGreatProg
import Derived.Test.YtgaofjiidedcbacGreatM44
import Derived.Test.YtgaofjiidedcbacGreatM47
set_option maxHeartbeats 16000000
set_option linter.unusedVariables false
set_option linter.unusedSimpArgs false
namespace Go.Proofs.YtgaofjiidedcbacGreat.ab
open Go Go.RowKit
open mth
def igSt (l : List Ch) (f : Nat) (E : List D) (k : Nat) : St:=⟨[(0,sD 6 (encCl l)),(1,jD 1 f E),(7,vI l.length),(8,vI k)],[],[]⟩
theorem indexG_told (l : List Ch) (f : Nat) (E : List D) (p : Ch → Bool) (hl : l.length ≤ 1048576) (hc : callableB Tryz.prog f = true) (hS : ∀ x ∈ l,Told Tryz.prog f [aD (encCh x),jD 0 0 E] [vB (p x)]) : Told Tryz.prog 101 [sD 6 (encCl l),jD 1 f E] [vI (idxG p l)]:=by
 refine told_slices_IndexFunc rfl ?_
 refine wk @len_cl ?_
 refine aw_loop (fun m st => ∃ k : Nat,k ≤ l.length ∧ m = l.length - k ∧ (∀ i y,i < k → l[i]? = some y → p y = false) ∧ st = igSt l f E k) l.length (igSt l f E 0) (Le.keep (lv:=[0,1,7,8]) (lb:=[]) (by simp only [ev0,ev1,ev2,look,lookF,cellsFrom,offT,offP,List.tail_nil,List.length_nil,Int.cast_ofNat_Int,Nat.reduceEqDiff,Nat.reduceAdd,Nat.reduceMul,Nat.reduceLeDiff,Nat.reduceLT,↓reduceIte,reduceCtorEq,Int.reduceBEq,Int.reduceBNe,Int.reduceLT,Int.reduceLE,Int.reduceToNat]; rfl)) ⟨0,by omega,by omega,(fun i y hi => by omega),rfl⟩ ?_
 rintro m st ⟨k,hk,hm,hb,rfl⟩
 by_cases hlt : k < l.length
 ·obtain ⟨x,hx⟩ : ∃ m,l[k]? = some m:=⟨l[k],List.getElem?_eq_getElem hlt⟩
  have g1 : (k : Int) < (l.length : Int):=by omega
  have g2 : (0 : Int) ≤ (k : Int):=by omega
  have g3:=at_cl hx
  have g4 : inR .i64 ((k : Int) + 1) = true:=inR_of (by omega)
  have hS:=hS x (List.mem_of_getElem? hx)
  cases hp : p x with
  | true =>
   rw [idxG_at hx hp hb]
   rw [hp] at hS
   generalize (fun m st => ∃ k : Nat,k ≤ l.length ∧ m = l.length - k ∧ (∀ i y,i < k → l[i]? = some y → p y = false) ∧ st = igSt l f E k) = J at *
   simp only [igSt]
   simp only [encCh] at hS
   refine wk (an4 @g1 @g2 @g3 @hc) ?_
   refine cg [[vB true]] (an3 @g2 @g3 @hc) ?_ ?_
   ·exact obl_cons hS obl_nil
   refine wk0 ?_
   exact ValsLe.refl _
  | false =>
   rw [hp] at hS
   have hnx : Next (fun m st => ∃ k : Nat,k ≤ l.length ∧ m = l.length - k ∧ (∀ i y,i < k → l[i]? = some y → p y = false) ∧ st = igSt l f E k) m ⟨[(0,sD 6 (encCl l)),(1,jD 1 f E),(7,vI l.length),(8,vI ((k : Int) + 1))],[],[]⟩:=by
    refine ⟨l.length - (k + 1),_,by omega,Le.refl _,k + 1,by omega,rfl,fun i y hi hy => ?_,by simp only [igSt,Int.natCast_add,Int.cast_ofNat_Int]⟩
    by_cases hik : i = k
    ·subst hik; rw [hx] at hy; cases hy; exact hp
    ·exact hb i y (by omega) hy
   generalize (fun m st => ∃ k : Nat,k ≤ l.length ∧ m = l.length - k ∧ (∀ i y,i < k → l[i]? = some y → p y = false) ∧ st = igSt l f E k) = J at *
   simp only [igSt]
   simp only [encCh] at hS
   refine wk (an4 @g1 @g2 @g3 @hc) ?_
   refine cg [[vB false]] (an3 @g2 @g3 @hc) ?_ ?_
   ·exact obl_cons hS obl_nil
   refine wk @g4 ?_
   exact hnx
 ·have hk' : k = l.length:=by omega
  subst hk'
  have g1 : ¬ (l.length : Int) < (l.length : Int):=by omega
  rw [idxG_no (fun i y hy => hb i y (List.getElem?_eq_some_iff.1 hy).1 hy)]
  simp only [igSt]
  refine wk @g1 ?_
  exact ValsLe.refl _
theorem obl_upd {P : Program} {f : Nat} {cs es es' : List D} {z : Nat} {l : List (Nat × List D × List D)} (h : ToldU P f cs z es es') (hl : Obl P l) : Obl P ((f,cs,[mU z es es']) :: l):=⟨⟨cs,ValsLe.refl _,h⟩,hl⟩
def tdSt (nx : Int) (early : List Int) (ow : Bool) (d : Dr) : St :=
 ⟨[(1,pD 1 0),(2,pD 2 0),(3,fD 1 106),(4,vI (idxG (dueP d.p0 d.p1 d.p2) d.hold))],[(1,[vI nx,sD 1 (early.map vI),vI d.p0,vI d.p1,vI d.p2,oD 100001 d.hold.length,sD 2 (encMl d.told),vB ow]),(2,[vI 0,vD (.slice none 0 0),vI 0,vI 0,vI 0,vD (.slice none 0 0),vD (.slice none 0 0),vB false]),(100001,[sD 6 (encCl d.hold)]),(100001,[sD 6 (encCl d.hold)])],[((1,some 6),(43,(2,none)))]⟩
theorem due_index (nx p0 p1 p2 : Int) (c1 c5 c6 : D) (ow : Bool) (hold : List Ch) (hl : hold.length ≤ 1000) (hs : ∀ x ∈ hold,x.stream = 0 ∨ x.stream = 1 ∨ x.stream = 2) :
  Told Tryz.prog 101 [sD 6 (encCl hold),jD 1 106 [vI nx,c1,vI p0,vI p1,vI p2,c5,c6,vB ow]] [vI (idxG (dueP p0 p1 p2) hold)] :=
 indexG_told hold _ _ _ (by omega) callDue (fun x hx => due_told nx p0 p1 p2 c1 c5 c6 ow x (hs x hx))
theorem del_cl (l : List Ch) (k : Nat) : (encCl l).take k ++ (encCl l).drop (k + 1) = encCl (l.take k ++ l.drop (k + 1)):=by
 simp [encCl,List.map_take,List.map_drop]
theorem tellDue_round (nx : Int) (early : List Int) (ow : Bool) (d : Dr) (K : Nat) (h : DrOk d K) (hK : K ≤ 1000) (R : Dr) (hR : mth.drain d.hold.length d = R) (m : Nat) (hm : m = d.hold.length) :
  Q69l2a (tdSt nx early ow d) (thn (Next (fun m st => ∃ d : Dr,DrOk d K ∧ mth.drain d.hold.length d = R ∧ m = d.hold.length ∧ st = tdSt nx early ow d) m)
   (blk 0 (thn (fun st' => cSeq Q69r9 cRet st' (fin1 (cellFin 2 8 [vI nx,sD 1 (early.map vI),vI R.p0,vI R.p1,vI R.p2,sD 6 (encCl R.hold),sD 2 (encMl R.told),vB ow] [])))
    (fin1 (cellFin 2 8 [vI nx,sD 1 (early.map vI),vI R.p0,vI R.p1,vI R.p2,sD 6 (encCl R.hold),sD 2 (encMl R.told),vB ow] []))))):=by
 have hl:=h.l
 have hp:=h.p
 by_cases hlt : d.hold.findIdx (dueP d.p0 d.p1 d.p2) < d.hold.length
 ·obtain ⟨k,hk⟩ : ∃ k,k = d.hold.findIdx (dueP d.p0 d.p1 d.p2):=⟨_,rfl⟩
  rw [← hk] at hlt
  have hidx : idxG (dueP d.p0 d.p1 d.p2) d.hold = (k : Int):=by unfold idxG; rw [← hk,if_pos hlt]
  obtain ⟨x,hx⟩ : ∃ x,d.hold[k]? = some x:=⟨d.hold[k],List.getElem?_eq_getElem hlt⟩
  have hstep:=h.step hx
  have hR' : mth.drain (stepD d k x).hold.length (stepD d k x) = R:=by
   rw [← hR]
   obtain ⟨f,hf⟩ : ∃ f,d.hold.length = f + 1:=⟨d.hold.length - 1,by omega⟩
   have hlen : (stepD d k x).hold.length = f:=by simp only [stepD,List.length_append,List.length_take,List.length_drop]; omega
   rw [hlen,hf]
   show _ = (match d.hold[d.hold.findIdx (readyD d)]? with | some x => mth.drain f (stepD d (d.hold.findIdx (readyD d)) x) | none => d)
   have e : d.hold.findIdx (readyD d) = k:=hk.symm
   rw [e,hx]
  have hs:=stream3 (wrong_one (h.h x (List.mem_of_getElem? hx)).1 (h.h x (List.mem_of_getElem? hx)).2).2.2.2
  have hstr' : ∀ y ∈ (stepD d k x).hold,y.stream = 0 ∨ y.stream = 1 ∨ y.stream = 2:=fun y hy => stream3 (wrong_one (hstep.h y hy).1 (hstep.h y hy).2).2.2.2
  have hlen' : (stepD d k x).hold.length < d.hold.length:=by simp only [stepD,List.length_append,List.length_take,List.length_drop]; omega
  have hnxt : Next (fun m st => ∃ d : Dr,DrOk d K ∧ mth.drain d.hold.length d = R ∧ m = d.hold.length ∧ st = tdSt nx early ow d) m (tdSt nx early ow (stepD d k x)) :=
   ⟨_,_,by omega,Le.refl _,stepD d k x,hstep,hR',rfl,rfl⟩
  have hdel:=delete_told (encCl d.hold) k (by rw [len_cl]; exact hlt)
  rw [del_cl] at hdel
  have hix:=due_index nx (stepD d k x).p0 (stepD d k x).p1 (stepD d k x).p2 (sD 1 (early.map vI)) xD (sD 2 (encMl (stepD d k x).told)) ow (stepD d k x).hold (by omega) hstr'
  have hhl : (d.hold.take k ++ d.hold.drop (k + 1)).length = (stepD d k x).hold.length:=rfl
  generalize (fun m st => ∃ d : Dr,DrOk d K ∧ mth.drain d.hold.length d = R ∧ m = d.hold.length ∧ st = tdSt nx early ow d) = J at *
  have g1 : (0 : Int) ≤ (k : Int):=by omega
  have g2 : (k : Int) < (d.hold.length : Int):=by omega
  have g3:=at_cl hx
  have g4 : inR .i64 ((k : Int) + 1) = true:=inR_of (by omega)
  have g5 : (d.told.length + 1) * 32 ≤ 140737488355328:=by omega
  have g6 : inR .i64 (d.p0 + 1) = true:=inR_of (by omega)
  have g7 : inR .i64 (d.p1 + 1) = true:=inR_of (by omega)
  have g8 : inR .i64 (d.p2 + 1) = true:=inR_of (by omega)
  have hne : (k : Int) = k:=rfl
  simp only [tdSt,hidx] at hnxt ⊢
  simp only [stepD] at hnxt hix hhl
  generalize d.hold.take k ++ d.hold.drop (k + 1) = H' at *
  refine wk (an5 @g1 @g2 @g3 @g4 @len_cl) ?_
  refine cg [[sD 6 (encCl H')]] (an5 @g1 @g2 @g3 @g4 @len_cl) ?_ ?_
  ·exact obl_upd hdel obl_nil
  obtain ⟨xk,xn,xs,xp,xd,xe⟩:=x
  simp only at hs hnxt hix ⊢
  clear hstr' hR' hstep hx hk g3 hhl hlen' hdel
  rcases hs with rfl | rfl | rfl
  ·simp only [if_true,Int.reduceEq,if_false,ml_snoc] at hnxt hix
   refine wk (an4 @g5 @g6 @len_cl @len_ml) ?_
   refine cg [[vI (idxG (dueP (d.p0 + 1) d.p1 d.p2) H')]] @len_cl ?_ ?_
   ·exact obl_cons hix obl_nil
   refine wk0 ?_
   exact hnxt
  ·simp only [if_true,Int.reduceEq,if_false,ml_snoc] at hnxt hix
   refine wk (an4 @g5 @g7 @len_cl @len_ml) ?_
   refine cg [[vI (idxG (dueP d.p0 (d.p1 + 1) d.p2) H')]] @len_cl ?_ ?_
   ·exact obl_cons hix obl_nil
   refine wk0 ?_
   exact hnxt
  ·simp only [if_true,Int.reduceEq,if_false,ml_snoc] at hnxt hix
   refine wk (an4 @g5 @g8 @len_cl @len_ml) ?_
   refine cg [[vI (idxG (dueP d.p0 d.p1 (d.p2 + 1)) H')]] @len_cl ?_ ?_
   ·exact obl_cons hix obl_nil
   refine wk0 ?_
   exact hnxt
 ·have hidx : idxG (dueP d.p0 d.p1 d.p2) d.hold = -1:=by unfold idxG; rw [if_neg hlt]
  have hdR : d = R:=by
   rw [← hR]
   have e : d.hold[d.hold.findIdx (readyD d)]? = none:=by
    rw [List.getElem?_eq_none]
    exact Nat.le_of_not_lt hlt
   cases hf : d.hold.length with
   | zero => rfl
   | succ f =>
    show d = (match d.hold[d.hold.findIdx (readyD d)]? with | some x => mth.drain f (stepD d (d.hold.findIdx (readyD d)) x) | none => d)
    rw [e]
  subst hdR
  clear hR
  generalize (fun m st => ∃ d' : Dr,DrOk d' K ∧ mth.drain d'.hold.length d' = d ∧ m = d'.hold.length ∧ st = tdSt nx early ow d') = J at *
  simp only [tdSt,hidx]
  refine wk @len_cl ?_
  exact fin1_ret ⟨2,_,rfl,rfl,rfl,rfl,row_refl _,fun x hx => by cases hx⟩
theorem tellDue_toldX (nx : Int) (early : List Int) (ow : Bool) (d : Dr) (K : Nat) (h : DrOk d K) (hne : d.hold ≠ []) (hK : K ≤ 1000) (R : Dr) (hR : mth.drain d.hold.length d = R) :
  ToldX Tryz.prog 92 [aD [vI nx,sD 1 (early.map vI),vI d.p0,vI d.p1,vI d.p2,xD,sD 2 (encMl d.told),vB ow]] (upR (rowsR2 d.hold)) [aD [vI nx,sD 1 (early.map vI),vI R.p0,vI R.p1,vI R.p2,sD 6 (encCl R.hold),sD 2 (encMl R.told),vB ow]] []:=by
 have hne' : encCl d.hold ≠ []:=by simpa [encCl] using hne
 refine toldX_recv_tellDue (ro:=[]) rfl (by show [5,6].Nodup; decide) ⟨_,le_name (b:=1) (off:=5) (k:=100001) (by decide) rfl (show 5 < 8 by decide) rfl hne' ⟨by decide,by decide⟩ rfl,?_⟩
 have hstart : ∀ st,st = (⟨[(1,pD 1 0),(0,aD [vI nx,sD 1 (early.map vI),vI d.p0,vI d.p1,vI d.p2,xD,sD 2 (encMl d.told),vB ow])],[(100001,[sD 6 (encCl d.hold)]),(1,[vI nx,sD 1 (early.map vI),vI d.p0,vI d.p1,vI d.p2,oD 100001 (encCl d.hold).length,sD 2 (encMl d.told),vB ow]),(1,[vI nx,sD 1 (early.map vI),vI d.p0,vI d.p1,vI d.p2,xD,sD 2 (encMl d.told),vB ow])],[((1,some 6),(43,(2,none)))]⟩ : St) → recv_tellDue st (fin1 (cellFin 2 8 [vI nx,sD 1 (early.map vI),vI R.p0,vI R.p1,vI R.p2,sD 6 (encCl R.hold),sD 2 (encMl R.told),vB ow] [])):=by
  rintro st rfl
  have hstr : ∀ x ∈ d.hold,x.stream = 0 ∨ x.stream = 1 ∨ x.stream = 2:=fun x hx => stream3 (wrong_one (h.h x hx).1 (h.h x hx).2).2.2.2
  refine wk @len_cl ?_
  refine cg [[vI (idxG (dueP d.p0 d.p1 d.p2) d.hold)]] @len_cl ?_ ?_
  ·exact obl_cons (due_index nx d.p0 d.p1 d.p2 _ _ _ ow d.hold (by have:=h.l; omega) hstr) obl_nil
  refine wk0 ?_
  refine aw_loop (fun m st => ∃ d : Dr,DrOk d K ∧ mth.drain d.hold.length d = R ∧ m = d.hold.length ∧ st = tdSt nx early ow d) d.hold.length (tdSt nx early ow d) (Le.keep (lv:=[1,2,3,4]) (lb:=[1,2,100001]) (by simp only [ev0,ev1,ev2,look,lookF,cellsFrom,offT,offP,List.tail_nil,List.length_nil,Int.cast_ofNat_Int,Nat.reduceEqDiff,Nat.reduceAdd,Nat.reduceMul,Nat.reduceLeDiff,Nat.reduceLT,↓reduceIte,reduceCtorEq,Int.reduceBEq,Int.reduceBNe,Int.reduceLT,Int.reduceLE,Int.reduceToNat]; rfl)) ⟨d,h,hR,rfl,rfl⟩ ?_
  clear hstr h hne hne' hR
  rintro m st ⟨d,h,hR,hm,rfl⟩
  exact tellDue_round nx early ow d K h hK R hR m hm
 exact hstart _ rfl
theorem all0 {α : Type} {p : α → Prop} : ∀ x ∈ ([] : List α),p x:=fun x hx => by cases hx
theorem at3 {R : Nat → D → D → Prop} {a0 a1 a2 a3 a4 a5 a6 a7 b0 b1 b2 b3 b4 b5 b6 b7 : D} (h0 : R 0 a0 b0) (h1 : R 1 a1 b1) (h2 : R 2 a2 b2) (h3 : R 3 a3 b3) (h4 : R 4 a4 b4) (h5 : R 5 a5 b5) (h6 : R 6 a6 b6) (h7 : R 7 a7 b7) :
  ∀ (j : Nat) c c',[a0,a1,a2,a3,a4,a5,a6,a7][j]? = some c → [b0,b1,b2,b3,b4,b5,b6,b7][j]? = some c' → R j c c':=by
 intro j c c' hc hc'
 match j with
 | 0 => simp at hc hc'; subst hc hc'; exact h0
 | 1 => simp at hc hc'; subst hc hc'; exact h1
 | 2 => simp at hc hc'; subst hc hc'; exact h2
 | 3 => simp at hc hc'; subst hc hc'; exact h3
 | 4 => simp at hc hc'; subst hc hc'; exact h4
 | 5 => simp at hc hc'; subst hc hc'; exact h5
 | 6 => simp at hc hc'; subst hc hc'; exact h6
 | 7 => simp at hc hc'; subst hc hc'; exact h7
 | j + 8 => simp at hc
theorem frz_two {st : St} {early : List D} {hold : List D} {e1 e2 : Nat} {x0 x1 x2 x3 x4 x5 x6 x7 : D} (hb : look st.bx 2 = some [x0,x1,x2,x3,x4,x5,x6,x7]) (h1 : lookF st.fl (2,some 1) = some (e1,1,some early)) (h5 : lookF st.fl (2,some 5) = some (e2,6,some hold)) :
  Le st ⟨st.tm,(2,[x0,sD 1 early,x2,x3,x4,sD 6 hold,x6,x7]) :: (2,[x0,sD 1 early,x2,x3,x4,x5,x6,x7]) :: st.bx,offP (offP st.fl [(2,some 1)]) [(2,some 5)]⟩:=by
 refine (le_frzH (b:=2) (off:=1) (by decide) hb (show 1 < 8 by decide) h1).trans ?_
 exact le_frzH (st:=⟨st.tm,(2,[x0,sD 1 early,x2,x3,x4,x5,x6,x7]) :: st.bx,offP st.fl [(2,some 1)]⟩) (b:=2) (off:=5) (by decide) rfl (show 5 < 8 by decide) (by rw [lookF_off,if_neg (by decide)]; exact h5)
theorem lhearR_told : CHearR 68:=by
 intro r c h hc
 refine told_recv_Hear rfl ?_
 obtain ⟨R,hR⟩ : ∃ R,R = hearR r c:=⟨_,rfl⟩
 rw [← hR]
 have hsm:=good_smallR h
 have hOwn:=ownR_toldX r hsm
 simp only [encRv,encCh]
 refine wk0 ?_
 refine ⟨2,_,_,[],[],_,rowsR r.early r.hold,⟨rfl,rfl,rfl,rfl,row_refl _,all0⟩,rfl,hOwn,rfl,by show [1,5,6].Nodup; decide,?_⟩
 simp only [flOf,rowsR,ownCells,preP,preOff,List.map_cons,List.map_nil,List.cons_append,List.nil_append]
 by_cases hk : c.kind = 1
 ·have k1 : (c.kind != 1) = false:=by simpa using hk
  obtain ⟨hn,hpl,hce,hw⟩:=wrong_one hk hc
  have hTk : Told Tryz.prog 90 [aD [vI r.next,sD 1 (r.early.map vI),vI r.p0,vI r.p1,vI r.p2,xD,sD 2 (encMl r.told),vB true],vI c.number] [vB (!seenR r c.number)]:=takes_told r.next r.early r.p0 r.p1 r.p2 xD (sD 2 (encMl r.told)) true c.number (by have:=h.l; omega)
  rw [hearR,if_pos hk] at hR
  refine wk @k1 ?_
  refine ⟨2,_,[vI r.next,sD 1 (r.early.map vI),vI r.p0,vI r.p1,vI r.p2,xD,sD 2 (encMl r.told),vB true],_,_,rfl,rfl,rfl,rfl,⟨rfl,at3 (.inl (LfLe.refl _)) (.inr ⟨_,_,_,rfl,rfl⟩) (.inl (LfLe.refl _)) (.inl (LfLe.refl _)) (.inl (LfLe.refl _)) (.inl (LfLe.refl _)) (.inl (LfLe.refl _)) (.inl (LfLe.refl _))⟩,⟨3,_,_,rfl,rfl,rfl,rfl⟩,hTk,?_⟩
  simp only [preP,preOff,List.cons_append,List.nil_append]
  cases hs : seenR r c.number with
  | true =>
   rw [hs,if_pos rfl] at hR
   subst hR
   refine wk0 ?_
   refine ⟨_,frz_two rfl rfl rfl,?_⟩
   refine wk0 ?_
   exact ValsLe.refl _
  | false =>
   rw [hs,if_neg (by simp)] at hR
   have hst:=take_strip h hn hs
   have hse : r.early.Pairwise (· ≤ ·):=by rw [h.e]; exact (earlyR_sorted _ _).imp (fun h => by omega)
   have hCame:=came_toldX r.early r.next r.p0 r.p1 r.p2 r.hold r.told true c.number (by have:=h.l; omega) hse (fun x hx => by
    have hse' : r.early.Pairwise (· < ·):=by rw [h.e]; exact earlyR_sorted _ _
    have hne : c.number ∉ r.early:=fun q => by
     unfold seenR at hs
     rw [List.contains_iff_mem.2 q] at hs
     simp at hs
    rcases ((layIn_ok hse' hne).2 x).1 hx with rfl | q
    ·exact hn
    ·have:=h.in40 x q; have:=h.n; omega) h.n
   rw [hst] at hCame
   obtain ⟨K,hK⟩ : ∃ K,K = r.told.length + (r.hold.length + 1):=⟨_,rfl⟩
   have hz:=good_sizes h
   have hD : DrOk ⟨r.p0,r.p1,r.p2,r.hold ++ [c],r.told⟩ K:=⟨h.p,fun x hx => by
    rcases List.mem_append.1 hx with q | q
    ·exact h.h x q
    ·rw [List.mem_singleton.1 q]; exact ⟨hk,hc⟩,h.m,by simp [hK]⟩
   obtain ⟨nx',hnx'⟩ : ∃ n,n = climb 41 (c.number :: r.early) r.next:=⟨_,rfl⟩
   have hDue:=fun Rd hRd => tellDue_toldX nx' (earlyR (c.number :: r.early) nx') true ⟨r.p0,r.p1,r.p2,r.hold ++ [c],r.told⟩ K hD (by simp) (by omega) Rd hRd
   have hDue:=hDue _ rfl
   rw [show (⟨r.p0,r.p1,r.p2,r.hold ++ [c],r.told⟩ : Dr).hold.length = r.hold.length + 1 by simp] at hDue
   rw [← hnx'] at hCame
   have hRR : R = ⟨nx',earlyR (c.number :: r.early) nx',(mth.drain (r.hold.length + 1) ⟨r.p0,r.p1,r.p2,r.hold ++ [c],r.told⟩).p0,(mth.drain (r.hold.length + 1) ⟨r.p0,r.p1,r.p2,r.hold ++ [c],r.told⟩).p1,(mth.drain (r.hold.length + 1) ⟨r.p0,r.p1,r.p2,r.hold ++ [c],r.told⟩).p2,(mth.drain (r.hold.length + 1) ⟨r.p0,r.p1,r.p2,r.hold ++ [c],r.told⟩).hold,(mth.drain (r.hold.length + 1) ⟨r.p0,r.p1,r.p2,r.hold ++ [c],r.told⟩).told,true⟩:=by
    rw [hR,hnx']; rfl
   generalize mth.drain (r.hold.length + 1) ⟨r.p0,r.p1,r.p2,r.hold ++ [c],r.told⟩ = RD at *
   generalize earlyR (c.number :: r.early) nx' = E' at *
   subst hRR
   clear hR
   have hOc:=ownCh_told c (by have:=wrongMsg_small hw; omega) (by rw [hce]; simp)
   have hb1 : (r.hold.length + 1) * 80 ≤ 140737488355328:=by omega
   simp only [encCh] at hOc
   refine wk0 ?_
   refine ⟨2,_,_,_,rowsR r.early r.hold,_,rowsR2 r.hold,⟨rfl,rfl,rfl,rfl,row_refl _,all3 ⟨(by decide : 1 < 8),rfl⟩ ⟨(by decide : 5 < 8),rfl⟩ ⟨(by decide : 6 < 8),rfl⟩⟩,⟨3,_,_,rfl,rfl,rfl,rfl⟩,hCame,rfl,by show [5,6].Nodup; decide,?_⟩
   simp only [flOf,rowsR2,preP,preOff,List.map_cons,List.map_nil,List.cons_append,List.nil_append]
   refine wk (an2 @hb1 @len_cl) ?_
   refine cd [[aD [vI c.kind,vI c.number,vI c.stream,vI c.place,sD 1 (c.data.map encB),sD 1 (c.early.map vI)]]] (an2 @hb1 @len_cl) ?_ ?_
   ·exact obl_cons hOc obl_nil
   refine wk0 ?_
   rw [← cl_snoc']
   refine ⟨2,_,_,[],rowsR2 (r.hold ++ [c]),_,⟨rfl,rfl,rfl,rfl,row_refl _,all2 ⟨(by decide : 5 < 8),rfl⟩ ⟨(by decide : 6 < 8),rfl⟩⟩,rfl,hDue,?_⟩
   simp only [preP,preOff,rowsR2,res,List.map_cons,List.map_nil,List.cons_append,List.nil_append]
   refine wk0 ?_
   exact ValsLe.refl _
 ·have k1 : (c.kind != 1) = true:=by simpa using hk
  rw [hearR,if_neg hk] at hR
  subst hR
  refine wk @k1 ?_
  refine ⟨_,frz_two rfl rfl rfl,?_⟩
  refine wk0 ?_
  exact ValsLe.refl _
set_option maxRecDepth 100000
def Q66r0 : IC:=cReg Tryz.prog [xX 1 0,⟨some 2,none,iAlo 2 [zI,zS,zI,zI,zI,zS,zS,zF]⟩,⟨some 3,none,iAlo 3 [zI,zI,zI,zI,zS,zS]⟩,⟨some 4,none,iMov 4 (.const (.bool false)) true⟩] [1,2,3] [1,2,3]
def Q66r1 : IC:=cReg Tryz.prog [xA 5 8 1,xV1 6 60 5,xS 8 1 6] [1,2,3] [1,2,3]
def Q66r2 : IC:=cReg Tryz.prog [xF 7 7 1,xL 8 1 7,xO 9 8] [1,2,3,9] [1,2,3]
def Q66r3 : IC:=cReg Tryz.prog [xA 10 8 1,⟨some 11,none,iBld 11 [zI,zI,zI,zI,zS,zS] [] []⟩,xS 8 2 10,xS 6 3 11,⟨some 4,none,iMov 4 (.const (.bool false)) true⟩] [2,3,4] [2,3]
def Q66c1a : IC:=(cSeq Q66r3 cRet)
def Q66c1 : IC:=cCond (.tmp 9) Q66c1a cSkip
def Q66r4 : IC:=cReg Tryz.prog [xF 12 7 1,⟨none,none,iStor 1 (.tmp 12) (.const (.bool false))⟩] [1,2,3] [1,2,3]
def Q66r5 : IC:=cRegD Tryz.prog [xA 13 8 1,xF 14 0 1,xL 15 1 14,xF 16 1 1,xL 17 1 16,⟨some 18,none,iBld 18 [zI,zI,zI,zI,zS,zS] [(0,1),(1,1),(5,1)] [(.const (.int .i64 2)),(.tmp 15),(.tmp 17)]⟩,xV1 19 83 18,xS 8 2 13,xS 6 3 19,⟨some 4,none,iMov 4 (.const (.bool true)) true⟩] [[],[],[1],[],[3],[2,4,1,3],[5,2,4,1,3],[0,6,5,2,4,1,3],[6,7,0,1,2,3,4,5],[8,0,1,2,3,4,5,6,7]] [2,3,4] [2,3]
def recv_Say : IC:=(cSeq Q66r0 (cSeq Q66r1 (cSeq (cSeq Q66r2 Q66c1) (cSeq Q66r4 (cSeq Q66r5 cRet)))))
theorem told_recv_Say {args r : List D} (hl : args.length = 1) (h : recv_Say (start args) (fin [(2,some (8,true)),(3,some (6,true)),(4,none)] r)) : Told Tryz.prog 73 args r :=
 told_of follows Tryz.func73 rfl (an:=[([],[1,2,3],[1,2,3],[]),([],[1,2,3],[1,2,3],[]),([],[1,2,3,9],[1,2,3],[]),([],[2,3,4],[2,3],[]),([],[1,2,3],[1,2,3],[]),([],[2,3,4],[2,3],[])]) (by kernel_rfl) (by kernel_rfl) (by rw [hl]; decide +kernel) h
theorem lsayR_told : CSayR 73:=by
 intro r h
 refine told_recv_Say rfl ?_
 have hOwn:=ownR_told r (good_smallR h)
 have hOc:=ownCh_told ⟨2,r.next,0,0,[],r.early⟩ (by simp) (by have:=h.l; show r.early.length ≤ 1048576; omega)
 simp only [encRv,encCh,List.map_nil] at hOwn hOc ⊢
 cases ho : r.owes with
 | true =>
  rw [ho] at hOwn
  rw [sayR,if_pos ho]
  simp only [encCh,List.map_nil]
  refine wk0 ?_
  refine cg0 [[aD [vI r.next,sD 1 (r.early.map vI),vI r.p0,vI r.p1,vI r.p2,sD 6 (encCl r.hold),sD 2 (encMl r.told),vB true]]] ?_ ?_
  ·exact obl_cons hOwn obl_nil
  refine wk0 ?_
  refine cd0 [[aD [vI 2,vI r.next,vI 0,vI 0,sD 1 [],sD 1 (r.early.map vI)]]] ?_ ?_
  ·refine obl_cons (hOc.less ?_ (ValsLe.refl _)) obl_nil
   repeat' (first | exact vals_nil | exact row_nil | exact es_nil | exact CVLe.refl _ | exact LfLe.refl _ | exact LfLe.nil _ | exact EsLe.refl _ | refine vals_cons ?_ ?_ | refine row_cons ?_ ?_ | refine es_cons ?_ ?_ | refine EsLe.app ?_ ?_ | refine CVLe.row ?_ | refine CVLe.leafV ?_ | refine CVLe.leafS ?_ | refine LfLe.s ?_)
  refine wk0 ?_
  exact ValsLe.refl _
 | false =>
  rw [ho] at hOwn
  rw [sayR,if_neg (by simp [ho])]
  simp only [zeroC,encCh,List.map_nil,ho]
  refine wk0 ?_
  refine cg0 [[aD [vI r.next,sD 1 (r.early.map vI),vI r.p0,vI r.p1,vI r.p2,sD 6 (encCl r.hold),sD 2 (encMl r.told),vB false]]] ?_ ?_
  ·exact obl_cons hOwn obl_nil
  refine wk0 ?_
  repeat' (first | exact vals_nil | exact row_nil | exact es_nil | exact CVLe.refl _ | exact LfLe.refl _ | exact LfLe.nil _ | exact EsLe.refl _ | refine vals_cons ?_ ?_ | refine row_cons ?_ ?_ | refine es_cons ?_ ?_ | refine EsLe.app ?_ ?_ | refine CVLe.row ?_ | refine CVLe.leafV ?_ | refine CVLe.leafS ?_ | refine LfLe.s ?_)
theorem landR_say : CSayR 73:=lsayR_told
theorem landR_hear : CHearR 68:=lhearR_told
theorem landL_speak : CLSpeak 43:=by
 intro l hg
 refine told_lane_Speak rfl ?_
 have s1:=land_say l.s hg.s
 have s2:=landR_say l.r hg.r
 have c1:=say_right hg.s
 have c2:=sayR_wrong hg.r
 have h1:=landL_ownX l hg
 simp only [encLn,ownLn,rowsL] at h1 ⊢
 refine wk0 ?_
 refine ⟨1,_,_,[],[],_,_,⟨rfl,rfl,rfl,rfl,row_refl _,fun x hx => by cases hx⟩,rfl,h1,rfl,by show [15,16].Nodup; decide,?_⟩
 simp only [preP,preOff,flOf,List.map_cons,List.map_nil,List.cons_append,List.nil_append]
 refine wk0 ?_
 refine ⟨_,fun b0 w0 I0 N a w hr => le_laneN (b:=1) (by decide) b0 w0 I0 N a w hr,?_⟩
 clear h1 hg
 obtain ⟨s,r,there,back⟩:=l
 simp only [speakL] at *
 generalize sayL s = A at *
 generalize sayR r = B at *
 obtain ⟨s',c,ok⟩:=A
 obtain ⟨r',d,is⟩:=B
 simp only at *
 cases ok with
 | true =>
  have b1:=bytes_told c (c1 rfl)
  generalize sealL (bodyL c) = pk at *
  have p1:=join_toldI there pk
  cases is with
  | true =>
   have b2:=bytes_told d (c2 rfl)
   generalize sealL (bodyL d) = qk at *
   have p2:=join_toldI back qk
   simp only [encSd,encRv,encCh,if_true,Bool.false_eq_true,if_false] at s1 s2 b1 b2 ⊢
   refine wk0 ?_
   refine cg [[aD (encSd s'),aD (encCh c),vB true]] (an2 @encSd.eq_1 @encCh.eq_1) ?_ ?_
   ·exact obl_cons s1 obl_nil
   refine wk0 ?_
   refine cd0 [[sD 1 (pk.map encB)],[mI 0 41 1 xD,sD 1 (encPk (joinP there pk))]] ?_ ?_
   ·exact obl_cons b1 (obl_innL p1 obl_nil)
   refine wk0 ?_
   refine cg [[aD (encRv r'),aD (encCh d),vB true]] (an2 @encRv.eq_1 @encCh.eq_1) ?_ ?_
   ·exact obl_cons s2 obl_nil
   refine wk0 ?_
   refine cd0 [[sD 1 (qk.map encB)],[mI 0 41 1 xD,sD 1 (encPk (joinP back qk))]] ?_ ?_
   ·exact obl_cons b2 (obl_innL p2 obl_nil)
   refine wk0 ?_
   exact ValsLe.refl _
  | false =>
   simp only [encSd,encRv,encCh,if_true,Bool.false_eq_true,if_false] at s1 s2 b1 ⊢
   refine wk0 ?_
   refine cg [[aD (encSd s'),aD (encCh c),vB true]] (an2 @encSd.eq_1 @encCh.eq_1) ?_ ?_
   ·exact obl_cons s1 obl_nil
   refine wk0 ?_
   refine cd0 [[sD 1 (pk.map encB)],[mI 0 41 1 xD,sD 1 (encPk (joinP there pk))]] ?_ ?_
   ·exact obl_cons b1 (obl_innL p1 obl_nil)
   refine wk0 ?_
   refine cg [[aD (encRv r'),aD (encCh d),vB false]] (an2 @encRv.eq_1 @encCh.eq_1) ?_ ?_
   ·exact obl_cons s2 obl_nil
   refine wk0 ?_
   exact ValsLe.refl _
 | false =>
  cases is with
  | true =>
   have b2:=bytes_told d (c2 rfl)
   generalize sealL (bodyL d) = qk at *
   have p2:=join_toldI back qk
   simp only [encSd,encRv,encCh,if_true,Bool.false_eq_true,if_false] at s1 s2 b2 ⊢
   refine wk0 ?_
   refine cg [[aD (encSd s'),aD (encCh c),vB false]] (an2 @encSd.eq_1 @encCh.eq_1) ?_ ?_
   ·exact obl_cons s1 obl_nil
   refine wk0 ?_
   refine cg [[aD (encRv r'),aD (encCh d),vB true]] (an2 @encRv.eq_1 @encCh.eq_1) ?_ ?_
   ·exact obl_cons s2 obl_nil
   refine wk0 ?_
   refine cd0 [[sD 1 (qk.map encB)],[mI 0 41 1 xD,sD 1 (encPk (joinP back qk))]] ?_ ?_
   ·exact obl_cons b2 (obl_innL p2 obl_nil)
   refine wk0 ?_
   exact ValsLe.refl _
  | false =>
   simp only [encSd,encRv,encCh,if_true,Bool.false_eq_true,if_false] at s1 s2 ⊢
   refine wk0 ?_
   refine cg [[aD (encSd s'),aD (encCh c),vB false]] (an2 @encSd.eq_1 @encCh.eq_1) ?_ ?_
   ·exact obl_cons s1 obl_nil
   refine wk0 ?_
   refine cg [[aD (encRv r'),aD (encCh d),vB false]] (an2 @encRv.eq_1 @encCh.eq_1) ?_ ?_
   ·exact obl_cons s2 obl_nil
   refine wk0 ?_
   exact ValsLe.refl _
end Go.Proofs.YtgaofjiidedcbacGreat.ab
