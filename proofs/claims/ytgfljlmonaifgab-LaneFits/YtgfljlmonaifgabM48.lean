import Derived.Test.YtgfljlmonaifgabM47
import Derived.Test.YtgfljlmonaifgabM20
import Derived.Test.YtgfljlmonaifgabAbsHandX
import Derived.Test.YtgfljlmonaifgabProg
set_option maxHeartbeats 8000000
set_option linter.unusedVariables false
set_option linter.unusedSimpArgs false
namespace Go.Proofs.Ytgfljlmonaifgab.ab
open Go Go.RowKit
open mth
def ifSt (l : List Ch) (c : Ch) (k : Nat) : St:=⟨[(0,sD 6 (encCl l)),(1,jD 1 112 (encCh c)),(7,vI l.length),(8,vI k)],[],[]⟩
theorem indexF_told (l : List Ch) (c : Ch) (hl : l.length ≤ 1048576) (he : c.early.length ≤ 9223372036854775807) : Told Try.prog 101 [sD 6 (encCl l),jD 1 112 (encCh c)] [vI (idxG (goneP c) l)]:=by
 refine told_slices_IndexFunc rfl ?_
 refine wk @len_cl ?_
 refine aw_loop (fun m st => ∃ k : Nat,k ≤ l.length ∧ m = l.length - k ∧ (∀ i y,i < k → l[i]? = some y → goneP c y = false) ∧ st = ifSt l c k) l.length (ifSt l c 0) (Le.keep (lv:=[0,1,7,8]) (lb:=[]) (by simp only [ev0,ev1,ev2,look,lookF,cellsFrom,offT,offP,List.tail_nil,List.length_nil,Int.cast_ofNat_Int,Nat.reduceEqDiff,Nat.reduceAdd,Nat.reduceMul,Nat.reduceLeDiff,Nat.reduceLT,↓reduceIte,reduceCtorEq,Int.reduceBEq,Int.reduceBNe,Int.reduceLT,Int.reduceLE,Int.reduceToNat]; rfl)) ⟨0,by omega,by omega,(fun i y hi => by omega),rfl⟩ ?_
 rintro m st ⟨k,hk,hm,hb,rfl⟩
 by_cases hlt : k < l.length
 ·obtain ⟨x,hx⟩ : ∃ m,l[k]? = some m:=⟨l[k],List.getElem?_eq_getElem hlt⟩
  have g1 : (k : Int) < (l.length : Int):=by omega
  have g2 : (0 : Int) ≤ (k : Int):=by omega
  have g3:=at_cl hx
  have g4 : inR .i64 ((k : Int) + 1) = true:=inR_of (by omega)
  have hS:=cameS_told c x he
  cases hp : goneP c x with
  | true =>
   rw [idxG_at hx hp hb]
   rw [hp] at hS
   generalize (fun m st => ∃ k : Nat,k ≤ l.length ∧ m = l.length - k ∧ (∀ i y,i < k → l[i]? = some y → goneP c y = false) ∧ st = ifSt l c k) = J at *
   simp only [ifSt]
   generalize encCh c = E at *
   simp only [encCh] at hS
   refine wk (an4 @g1 @g2 @g3 @callS) ?_
   refine cg [[vB true]] (an3 @g2 @g3 @callS) ?_ ?_
   ·exact obl_cons hS obl_nil
   refine wk0 ?_
   exact ValsLe.refl _
  | false =>
   rw [hp] at hS
   have hnx : Next (fun m st => ∃ k : Nat,k ≤ l.length ∧ m = l.length - k ∧ (∀ i y,i < k → l[i]? = some y → goneP c y = false) ∧ st = ifSt l c k) m ⟨[(0,sD 6 (encCl l)),(1,jD 1 112 (encCh c)),(7,vI l.length),(8,vI ((k : Int) + 1))],[],[]⟩:=by
    refine ⟨l.length - (k + 1),_,by omega,Le.refl _,k + 1,by omega,rfl,fun i y hi hy => ?_,by simp only [ifSt,Int.natCast_add,Int.cast_ofNat_Int]⟩
    by_cases hik : i = k
    ·subst hik; rw [hx] at hy; cases hy; exact hp
    ·exact hb i y (by omega) hy
   generalize (fun m st => ∃ k : Nat,k ≤ l.length ∧ m = l.length - k ∧ (∀ i y,i < k → l[i]? = some y → goneP c y = false) ∧ st = ifSt l c k) = J at *
   simp only [ifSt]
   generalize encCh c = E at *
   simp only [encCh] at hS
   refine wk (an4 @g1 @g2 @g3 @callS) ?_
   refine cg [[vB false]] (an3 @g2 @g3 @callS) ?_ ?_
   ·exact obl_cons hS obl_nil
   refine wk @g4 ?_
   exact hnx
 ·have hk' : k = l.length:=by omega
  subst hk'
  have g1 : ¬ (l.length : Int) < (l.length : Int):=by omega
  rw [idxG_no (fun i y hy => hb i y (List.getElem?_eq_some_iff.1 hy).1 hy)]
  simp only [ifSt]
  refine wk @g1 ?_
  exact ValsLe.refl _
theorem no_filter {c : Ch} {l : List Ch} (h : idxG (goneP c) l = -1) : l.filter (fun x => !goneP c x) = l:=by
 unfold idxG at h
 split at h
 ·omega
 ·rename_i hlt
  have h' : l.findIdx (goneP c) = l.length:=by have:=List.findIdx_le_length (p:=goneP c) (xs:=l); omega
  have:=List.findIdx_eq_length.1 h'
  exact List.filter_eq_self.2 (fun x hx => by rw [this x hx]; rfl)
def dlSt (arr : List Ch) (c : Ch) (i j : Nat) : St:=⟨[(0,oD 100000 arr.length),(1,jD 1 112 (encCh c)),(5,vI i),(6,vI j)],[(100000,[sD 6 (encCl arr)]),(100000,[sD 6 (encCl arr)])],[]⟩
theorem dlSt_def (arr : List Ch) (c : Ch) (i j : Nat) : dlSt arr c i j = ⟨[(0,oD 100000 arr.length),(1,jD 1 112 (encCh c)),(5,vI i),(6,vI j)],[(100000,[sD 6 (encCl arr)]),(100000,[sD 6 (encCl arr)])],[]⟩:=rfl
structure DlOk (l arr : List Ch) (c : Ch) (i j : Nat) : Prop where
 len : arr.length = l.length
 le : j ≤ l.length
 lt : i < j
 front : arr.take i = (l.take j).filter (fun x => !goneP c x)
 back : arr.drop j = l.drop j
theorem cl_set (l : List Ch) (i : Nat) (x : Ch) : (encCl l).set i (aD [vI x.kind,vI x.number,vI x.stream,vI x.place,sD 1 (x.data.map encB),sD 1 (x.early.map vI)]) = encCl (l.set i x):=by
 simp [encCl,encCh,List.map_set]
theorem DlOk.gone {l arr : List Ch} {c x : Ch} {i j : Nat} (h : DlOk l arr c i j) (hx : l[j]? = some x) (hp : goneP c x = true) : DlOk l arr c i (j + 1):=by
 have hj : j < l.length:=(List.getElem?_eq_some_iff.1 hx).1
 refine ⟨h.len,by omega,by have:=h.lt; omega,?_,?_⟩
 ·rw [h.front,List.take_add_one,hx]
  simp [hp]
 ·have:=congrArg List.tail h.back
  simpa using this
theorem DlOk.kept {l arr : List Ch} {c x : Ch} {i j : Nat} (h : DlOk l arr c i j) (hx : l[j]? = some x) (hp : goneP c x = false) : DlOk l (arr.set i x) c (i + 1) (j + 1):=by
 have hj : j < l.length:=(List.getElem?_eq_some_iff.1 hx).1
 have hi:=h.lt
 refine ⟨by rw [List.length_set,h.len],by omega,by omega,?_,?_⟩
 ·rw [List.take_add_one (l:=l),hx,List.filter_append,← h.front]
  rw [List.take_add_one,List.getElem?_set_self (by rw [h.len]; omega),List.take_set_of_le (Nat.le_refl _)]
  simp [hp]
 ·rw [List.drop_set_of_lt (by omega)]
  have:=congrArg List.tail h.back
  simpa using this
theorem deleteF_core (l : List Ch) (c : Ch) (hl : l.length ≤ 1048576) (hne : l ≠ []) (he : c.early.length ≤ 9223372036854775807) :
  slices_DeleteFunc ⟨startT (oD 100000 (encCl l).length :: [jD 1 112 (encCh c)]) 0,[(100000,[sD 6 (encCl l)])],[]⟩ (fin [(4,none)] [sD 6 (encCl (l.filter fun x => !goneP c x))]):=by
 have hI:=indexF_told l c hl he
 have hl0 : 0 < l.length:=List.length_pos_iff.2 hne
 by_cases hno : idxG (goneP c) l = -1
 ·rw [no_filter hno]
  rw [hno] at hI
  generalize encCh c = E at *
  refine wk @len_cl ?_
  refine cg [[vI (-1)]] (an2 @len_cl @hl0) ?_ ?_
  ·exact obl_cons hI obl_nil
  refine wk @len_cl ?_
  exact ValsLe.refl _
 ·obtain ⟨i0,hi0,hix⟩ : ∃ i0 : Nat,i0 < l.length ∧ idxG (goneP c) l = i0:=by
   unfold idxG at hno ⊢
   split
   ·rename_i q; exact ⟨_,q,rfl⟩
   ·rename_i q; rw [if_neg q] at hno; exact absurd rfl hno
  have hfi : l.findIdx (goneP c) = i0:=by
   unfold idxG at hix
   split at hix
   ·omega
   ·omega
  have hpi:=List.findIdx_eq hi0 |>.1 hfi
  rw [hix] at hI
  have hne1 : ((i0 : Int) == -1) = false:=by
   have : ¬ (i0 : Int) = -1:=by omega
   rw [beq_eq_false_iff_ne]; exact this
  have hr0 : inR .i64 ((i0 : Int) + 1) = true:=inR_of (by omega)
  have hst0 : DlOk l l c i0 (i0 + 1):=by
   refine ⟨rfl,by omega,by omega,?_,rfl⟩
   rw [List.take_add_one,List.getElem?_eq_getElem hi0,List.filter_append]
   have h1 : (l.take i0).filter (fun x => !goneP c x) = l.take i0:=List.filter_eq_self.2 (fun x hx => by
    obtain ⟨j,hj,rfl⟩:=List.mem_iff_getElem.1 hx
    rw [List.getElem_take]
    have hj' : j < i0:=by rw [List.length_take] at hj; omega
    rw [hpi.2 j hj']; rfl)
   rw [h1]
   simp [hpi.1]
  have hle : Le ⟨[(0,oD 100000 l.length),(1,jD 1 112 (encCh c)),(5,vI i0),(6,vI ((i0 : Int) + 1))],[(100000,[sD 6 (encCl l)]),(100000,[sD 6 (encCl l)])],[]⟩ (dlSt l c i0 (i0 + 1)):=by
   rw [dlSt_def,Int.natCast_add,Int.cast_ofNat_Int]; exact Le.refl _
  have hbody : ∀ Q : AX → St → Prop,(∀ arr i,DlOk l arr c i l.length → Q (some (some 0)) (⟨[(0,oD 100000 arr.length),(1,jD 1 112 (encCh c)),(5,vI i),(6,vI l.length),(19,vB false)],[(100000,[sD 6 (encCl arr)]),(100000,[sD 6 (encCl arr)])],[]⟩ : St)) →
    ∀ n st,(∃ arr i j,DlOk l arr c i j ∧ n = l.length - j ∧ st = dlSt arr c i j) → slices_DeleteFunc_l3a st (thn (Next (fun n st => ∃ arr i j,DlOk l arr c i j ∧ n = l.length - j ∧ st = dlSt arr c i j) n) Q):=by
   rintro Q hQ n st ⟨arr,i,j,hok,hn,rfl⟩
   have hlen:=hok.len
   by_cases hlt : j < l.length
   ·obtain ⟨x,hx⟩ : ∃ m,l[j]? = some m:=⟨l[j],List.getElem?_eq_getElem hlt⟩
    have hxa : arr[j]? = some x:=by
     have:=congrArg (fun t => t[0]?) hok.back
     simp only [List.getElem?_drop,Nat.add_zero] at this
     rw [this]; exact hx
    have hij:=hok.lt
    obtain ⟨y,hy⟩ : ∃ y,arr[i]? = some y:=⟨arr[i]'(by omega),List.getElem?_eq_getElem (by omega)⟩
    have g1 : (j : Int) < (arr.length : Int):=by omega
    have g2 : (0 : Int) ≤ (j : Int):=by omega
    have g3:=at_cl hxa
    have g4 : inR .i64 ((j : Int) + 1) = true:=inR_of (by omega)
    have g5 : (0 : Int) ≤ (i : Int):=by omega
    have g6 : (i : Int) < (arr.length : Int):=by omega
    have g7:=at_cl hy
    have g8 : inR .i64 ((i : Int) + 1) = true:=inR_of (by omega)
    have hS:=cameS_told c x he
    cases hp : goneP c x with
    | true =>
     rw [hp] at hS
     have hnx : Next (fun n st => ∃ arr i j,DlOk l arr c i j ∧ n = l.length - j ∧ st = dlSt arr c i j) n ⟨[(0,oD 100000 arr.length),(1,jD 1 112 (encCh c)),(5,vI i),(6,vI ((j : Int) + 1))],[(100000,[sD 6 (encCl arr)]),(100000,[sD 6 (encCl arr)])],[]⟩ :=
      ⟨l.length - (j + 1),_,by omega,Le.refl _,arr,i,j + 1,hok.gone hx hp,rfl,by rw [dlSt_def,Int.natCast_add,Int.cast_ofNat_Int]⟩
     generalize (fun n st => ∃ arr i j,DlOk l arr c i j ∧ n = l.length - j ∧ st = dlSt arr c i j) = J at *
     simp only [dlSt_def]
     generalize encCh c = E at *
     simp only [encCh] at hS
     refine wk (an5 @g1 @g2 @g3 @callS @len_cl) ?_
     refine cg [[vB true]] @callS ?_ ?_
     ·exact obl_cons hS obl_nil
     refine wk @g4 ?_
     exact hnx
    | false =>
     rw [hp] at hS
     have hnx : Next (fun n st => ∃ arr i j,DlOk l arr c i j ∧ n = l.length - j ∧ st = dlSt arr c i j) n ⟨[(0,oD 100000 arr.length),(1,jD 1 112 (encCh c)),(5,vI ((i : Int) + 1)),(6,vI ((j : Int) + 1))],[(100000,[sD 6 ((encCl arr).set i (aD [vI x.kind,vI x.number,vI x.stream,vI x.place,sD 1 (x.data.map encB),sD 1 (x.early.map vI)]))]),(100000,[sD 6 ((encCl arr).set i (aD [vI x.kind,vI x.number,vI x.stream,vI x.place,sD 1 (x.data.map encB),sD 1 (x.early.map vI)]))])],[]⟩ :=
      ⟨l.length - (j + 1),_,by omega,Le.refl _,arr.set i x,i + 1,j + 1,hok.kept hx hp,rfl,by rw [dlSt_def,List.length_set,← cl_set,Int.natCast_add,Int.natCast_add,Int.cast_ofNat_Int]⟩
     generalize (fun n st => ∃ arr i j,DlOk l arr c i j ∧ n = l.length - j ∧ st = dlSt arr c i j) = J at *
     simp only [dlSt_def]
     generalize encCh c = E at *
     simp only [encCh] at hS
     refine wk (an5 @g1 @g2 @g3 @callS @len_cl) ?_
     refine cg [[vB false]] @callS ?_ ?_
     ·exact obl_cons hS obl_nil
     refine wk (an6 @g4 @g5 @g6 @g7 @g8 @len_cl) ?_
     exact hnx
   ·have hj : j = l.length:=by have:=hok.le; omega
    subst hj
    have g1 : ¬ (l.length : Int) < (arr.length : Int):=by omega
    generalize (fun n st => ∃ arr i j,DlOk l arr c i j ∧ n = l.length - j ∧ st = dlSt arr c i j) = J at *
    simp only [dlSt_def]
    refine wk (an2 @g1 @len_cl) ?_
    exact hQ arr i hok
  generalize hEE : encCh c = E at *
  refine wk @len_cl ?_
  refine cg [[vI i0]] (an2 @len_cl @hl0) ?_ ?_
  ·exact obl_cons hI obl_nil
  refine wk (an2 @hne1 @hr0) ?_
  refine aw_loop (fun n st => ∃ arr i j,DlOk l arr c i j ∧ n = l.length - j ∧ st = dlSt arr c i j) (l.length - (i0 + 1)) (dlSt l c i0 (i0 + 1)) hle ⟨l,i0,i0 + 1,hst0,rfl,rfl⟩ ?_
  refine hbody _ ?_
  intro arr i hok
  have hlen:=hok.len
  have hil:=hok.lt
  have g5 : (0 : Int) ≤ (i : Int):=by omega
  have g6 : (i : Int) < (arr.length : Int):=by omega
  have g7 : i + (arr.length - i) = arr.length:=by omega
  have g8 : 0 < arr.length - i:=by omega
  have g9 : arr.length = (List.take i (encCl arr) ++ List.replicate (arr.length - i) (aD (List.replicate 6 xD))).length:=by
   rw [List.length_append,List.length_take,List.length_replicate,len_cl]; omega
  have g10 : (i : Int) ≤ ((List.take i (encCl arr) ++ List.replicate (arr.length - i) (aD (List.replicate 6 xD))).length : Nat):=by rw [← g9]; omega
  have g11 : (List.take i (encCl arr) ++ List.replicate (arr.length - i) (aD (List.replicate 6 xD))).take i = encCl (l.filter fun x => !goneP c x):=by
   rw [List.take_append_of_le_length (by rw [List.length_take,len_cl]; omega),List.take_take,Nat.min_self]
   have:=hok.front
   rw [List.take_length] at this
   rw [← this]
   simp [encCl,List.map_take]
  refine wk (an5 @g5 @g6 @g7 @g8 @len_cl) ?_
  rw [if_pos g9]
  simp only
  generalize (List.take i (encCl arr) ++ List.replicate (arr.length - i) (aD (List.replicate 6 xD))) = es at *
  have g12 : (0 : Int) ≤ 0 ∧ (0 : Int) ≤ (i : Int) ∧ (i : Int) ≤ (es.length : Nat):=⟨by omega,g5,g10⟩
  refine wk (an2 @g12 @g11) ?_
  exact ValsLe.refl _
theorem deleteF_told (l : List Ch) (c : Ch) (hl : l.length ≤ 1048576) (he : c.early.length ≤ 9223372036854775807) {e : Nat} :
  ToldI Try.prog 94 [xD,jD 1 112 (encCh c)] 0 none e (6,some (encCl l)) [sD 6 (encCl (l.filter fun x => !goneP c x))]:=by
 refine toldI_slices_DeleteFunc rfl (by decide) (fun h0 => ?_) (fun hne => deleteF_core l c hl (fun e => hne (by rw [e]; rfl)) he)
 have hl0 : l = []:=by
  cases l with
  | nil => rfl
  | cons x r => cases h0
 subst hl0
 have hI:=indexF_told [] c (by simp) he
 have hno : idxG (goneP c) [] = -1:=rfl
 rw [hno] at hI
 refine told_slices_DeleteFunc rfl ?_
 simp only [cl_nil,List.filter_nil] at hI ⊢
 generalize encCh c = E at *
 refine wk0 ?_
 refine cg0 [[vI (-1)]] ?_ ?_
 ·exact obl_cons hI obl_nil
 refine wk0 ?_
 exact ValsLe.refl _
theorem hearS_eq (s : Sd) (c : Ch) : hearS s c = { s with flight:=s.flight.filter fun x => !goneP c x }:=by
 unfold hearS goneP
 by_cases h : c.kind = 2
 ·rw [if_pos h,h]
  rfl
 ·rw [if_neg h]
  have h' : (c.kind == 2) = false:=by simpa using h
  have hf : s.flight.filter (fun x => !(c.kind == 2 && cameL c x.number)) = s.flight:=List.filter_eq_self.2 (fun x _ => by rw [h']; rfl)
  rw [hf]
theorem lhear_told (s : Sd) (c : Ch) (h : GoodS s) (hc : wrongL c = 0) : Told Try.prog 56 [aD (encSd s),aD (encCh c)] [aD (encSd (hearS s c))]:=by
 refine told_send_Hear rfl ?_
 have hown:=ownS_toldH s (good_small h)
 have he:=early_right hc
 have hdel:=deleteF_told s.flight c (good_small h).f (by omega) (e:=32)
 have hcb:=cameBy_told c
 rw [hearS_eq]
 simp only [encSd] at hown ⊢
 generalize s.flight.filter (fun x => !goneP c x) = F at *
 simp only [encCh] at hdel hcb ⊢
 refine wk0 ?_
 refine ⟨2,_,_,_,5,_,_,rfl,rfl,rfl,rfl,row_refl _,hown,rfl,?_⟩
 refine wk0 ?_
 refine cd0 [[jD 1 112 [vI c.kind,vI c.number,vI c.stream,vI c.place,sD 1 (c.data.map encB),sD 1 (c.early.map vI)]],[mI 0 32 6 (aD (encCl s.flight)),sD 6 (encCl F)]] ?_ ?_
 ·exact obl_cons hcb (obl_in hdel obl_nil)
 refine wk0 ?_
 exact ValsLe.refl _
theorem land_say : CSayS 17:=fun s h => lsay_told s h
theorem land_hear : CHearS 56:=fun s c h hc => lhear_told s c h hc
set_option maxRecDepth 100000
def recv_takes_r0 : IC:=cReg Try.prog [
  ⟨some 2,none,iBox 2 (.tmp 0)⟩,
  ⟨some 4,none,iMov 4 (.const (.bool false)) true⟩] [1,2] [2]
def recv_takes_r1 : IC:=cReg Try.prog [
  ⟨some 5,none,iMov 5 (.tmp 1) false⟩,
  ⟨some 6,none,iFad 6 0 (.tmp 2)⟩,
  ⟨some 7,none,iLoad 7 1 false (.tmp 6) false⟩,
  ⟨some 8,none,iBin 8 .lss (.tmp 5) (.tmp 7)⟩,
  ⟨some 9,none,iMov 9 (.tmp 8) false⟩,
  ⟨some 10,some (9,false),iFad 10 1 (.tmp 2)⟩,
  ⟨some 11,some (9,false),iLoad 11 1 false (.tmp 10) false⟩,
  ⟨some 12,some (9,false),iMov 12 (.tmp 1) false⟩,
  ⟨some 13,some (9,false),iCall 13 97 [(.tmp 11),(.tmp 12)]⟩,
  ⟨some 14,none,iPick 14 (.tmp 9) (.const (.bool true)) (.tmp 13)⟩] [1,2,14] [2]
def recv_takes_r2 : IC:=cReg Try.prog [
  ⟨some 4,none,iMov 4 (.const (.bool false)) true⟩] [4] []
def recv_takes_c1a : IC:=(cSeq recv_takes_r2 cRet)
def recv_takes_c1 : IC:=cCond (.tmp 14) recv_takes_c1a cSkip
def recv_takes_r3 : IC:=cReg Try.prog [
  ⟨some 15,none,iMov 15 (.tmp 1) false⟩,
  ⟨some 16,none,iFad 16 0 (.tmp 2)⟩,
  ⟨some 17,none,iLoad 17 1 false (.tmp 16) false⟩,
  ⟨some 18,none,iBin 18 .eql (.tmp 15) (.tmp 17)⟩,
  ⟨some 19,none,iMov 19 (.tmp 18) false⟩,
  ⟨some 20,some (19,false),iFad 20 1 (.tmp 2)⟩,
  ⟨some 21,some (19,false),iLoad 21 1 false (.tmp 20) false⟩,
  ⟨some 22,some (19,false),iLen 22 false (.tmp 21)⟩,
  ⟨some 23,some (19,false),iBin 23 .lss (.tmp 22) (.const (.int .i64 3))⟩,
  ⟨some 24,none,iPick 24 (.tmp 19) (.const (.bool true)) (.tmp 23)⟩,
  ⟨some 4,none,iMov 4 (.tmp 24) true⟩] [4] []
def recv_takes : IC:=(cSeq recv_takes_r0 (cSeq (cSeq recv_takes_r1 recv_takes_c1) (cSeq recv_takes_r3 cRet)))
theorem told_recv_takes {args r : List D} (hl : args.length = 2) (h : recv_takes (start args) (fin [(4,none)] r)) : Told Try.prog 69 args r :=
 told_of follows Try.func69 rfl (an:=[([],[1,2],[2],[]),([],[1,2,14],[2],[]),([],[4],[],[]),([],[4],[],[])]) (by kernel_rfl) (by kernel_rfl) (by rw [hl]; decide +kernel) h
def recv_came_r0 : IC:=cReg Try.prog [
  ⟨some 4,none,iAlo 4 [vD (.int .i64 0),vD (.slice none 0 0),vD (.int .i64 0),vD (.int .i64 0),vD (.int .i64 0),vD (.slice none 0 0),vD (.slice none 0 0),vD (.bool false)]⟩] [1,2,4] [2,4]
def recv_came_r1_0 : IC:=cLf Try.prog 2 1 8 9 1 10 98 11
def recv_came_r1_1 : IC:=cReg Try.prog [
  ⟨some 7,none,iMov 7 (.tmp 11) false⟩,
  ⟨some 12,none,iExt 12 (.tmp 7) 0⟩,
  ⟨some 13,none,iExt 13 (.tmp 7) 1⟩,
  ⟨some 5,none,iMov 5 (.tmp 12) true⟩,
  ⟨some 6,none,iMov 6 (.tmp 13) true⟩] [1,2,4,5] [2,4]
def recv_came_r1 : IC:=(cSeq recv_came_r1_0 recv_came_r1_1)
def recv_came_r2_0 : IC:=cIns Try.prog 2 1 14 15 5 16 1 17 18 99 19
def recv_came_r2_1 : IC:=cReg Try.prog [
  ⟨some 20,none,iFad 20 1 (.tmp 2)⟩,
  ⟨none,none,iStor 1 (.tmp 20) (.tmp 19)⟩] [2,4] [2,4]
def recv_came_r2 : IC:=(cSeq recv_came_r2_0 recv_came_r2_1)
def recv_came_r3 : IC:=cRegD Try.prog [
  ⟨some 21,none,iFad 21 1 (.tmp 2)⟩,
  ⟨some 22,none,iLoad 22 1 false (.tmp 21) false⟩,
  ⟨some 23,none,iLen 23 false (.tmp 22)⟩,
  ⟨some 24,none,iBin 24 .gtr (.tmp 23) (.const (.int .i64 0))⟩,
  ⟨some 25,none,iMov 25 (.tmp 24) false⟩,
  ⟨some 26,some (25,true),iFad 26 1 (.tmp 2)⟩,
  ⟨some 27,some (25,true),iLoad 27 1 false (.tmp 26) false⟩,
  ⟨some 28,some (25,true),iIaS 28 1 (.tmp 27) (.const (.int .i64 0))⟩,
  ⟨some 29,some (25,true),iLoad 29 1 false (.tmp 28) false⟩,
  ⟨some 30,some (25,true),iFad 30 0 (.tmp 2)⟩,
  ⟨some 31,some (25,true),iLoad 31 1 false (.tmp 30) false⟩,
  ⟨some 32,some (25,true),iBin 32 .eql (.tmp 29) (.tmp 31)⟩,
  ⟨some 33,none,iPick 33 (.tmp 25) (.tmp 32) (.const (.bool false))⟩] [[],[0],[1,0],[2,1,0],[3,2,1,0],[4,3,2,1,0],[5,4,3,2,1,0],[6,4,5,3,2,1,0],[7,4,6,5,3,2,1,0],[4,3,2,1,0],[9,4,3,2,1,0],[8,10,4,7,6,5,3,2,1,0,9],[4,11,3,2,1,0,8,10,7,6,5,9]] [2,4,33] [2,4]
def recv_came_c3 : IC:=cCond (.tmp 33) cSkip (cExit 0)
def recv_came_r4 : IC:=cReg Try.prog [
  ⟨some 34,none,iFad 34 1 (.tmp 2)⟩,
  ⟨some 35,none,iLoad 35 1 false (.tmp 34) false⟩,
  ⟨some 36,none,iSlc 36 1 (.tmp 35) (some (.const (.int .i64 1))) none⟩,
  ⟨some 37,none,iFad 37 1 (.tmp 2)⟩,
  ⟨none,none,iStor 1 (.tmp 37) (.tmp 36)⟩] [2,4] [2,4]
def recv_came_r5 : IC:=cReg Try.prog [
  ⟨some 38,none,iFad 38 0 (.tmp 2)⟩,
  ⟨some 39,none,iLoad 39 1 false (.tmp 38) false⟩,
  ⟨some 40,none,iBin 40 .add (.tmp 39) (.const (.int .i64 1))⟩,
  ⟨some 41,none,iFad 41 0 (.tmp 2)⟩,
  ⟨none,none,iStor 1 (.tmp 41) (.tmp 40)⟩] [2,4] [2,4]
def recv_came_b4 : IC:=cBlock 1 (cSeq recv_came_r4 recv_came_r5)
def recv_came_l2a : IC:=(cSeq (cSeq recv_came_r3 recv_came_c3) recv_came_b4)
def recv_came_l2 : IC:=cLoop recv_came_l2a
def recv_came_b1 : IC:=cBlock 0 recv_came_l2
def recv_came_r6_0 : IC:=cCpX 2 4 42 8
def recv_came_r6_1 : IC:=cReg Try.prog [] [4] [4]
def recv_came_r6 : IC:=(cSeq recv_came_r6_0 recv_came_r6_1)
def recv_came : IC:=cSeq recv_came_r0 (cSeq recv_came_r1 (cSeq recv_came_r2 (cSeq recv_came_b1 (cSeq recv_came_r6 cRet))))
theorem toldX_recv_came {cs ex rs : List D} {ri ro : List (Nat × Nat × Pay)} (hx : ex.length = 1) (hnd : (ri.map (·.1)).Nodup) (h : ∃ st1,Le ⟨(2,pD 2 0) :: startT (aD cs :: ex) 0,[(2,cs)],flOf 2 ri⟩ st1 ∧ recv_came st1 (fin1 (cellFin 4 8 rs ro))) : ToldX Try.prog 70 (aD cs :: ex) (upR ri) [aD rs] (upR ro) :=
 toldX_boxed follows Try.func70 rfl rfl rfl rfl rfl (by rw [hx]; decide +kernel) (rw:=[]) (cuts:=[]) (lv:=[1,2,4]) (lb:=[2,4]) (an:=[([(9004,[],[])],[1,2,4,5],[2,4],[]),([(11006,[],[])],[2,4],[2,4],[]),([],[2,4,33],[2,4],[]),([],[2,4],[2,4],[]),([],[2,4],[2,4],[]),([(8002,[],[])],[4],[4],[])]) (by kernel_rfl) (by kernel_rfl) (by decide +kernel) hnd h
  (fun _ _ _ _ _ _ _ _ ⟨_,_,h1,h2,h3,h4,h5,h6⟩ hr => cell_out rfl (by kernel_rfl) (by kernel_rfl) h1 h2 h3 h4 h5 h6 hr)
def recv_tellDueS1_r0 : IC:=cReg Try.prog [
  ⟨some 2,none,iBox 2 (.tmp 0)⟩,
  ⟨some 3,none,iMov 3 (.const (.bool false)) true⟩] [1,2] [2]
def recv_tellDueS1_r1 : IC:=cRegD Try.prog [
  ⟨some 4,none,iFad 4 3 (.tmp 2)⟩,
  ⟨some 5,none,iLoad 5 1 false (.tmp 4) false⟩,
  ⟨some 6,none,iFad 6 2 (.tmp 2)⟩,
  ⟨some 7,none,iLoad 7 1 false (.tmp 6) false⟩,
  ⟨some 8,none,iFad 8 2 (.tmp 1)⟩,
  ⟨some 9,none,iIaA 9 3 1 (.tmp 8) (.tmp 7)⟩,
  ⟨some 10,none,iLoad 10 1 false (.tmp 9) false⟩,
  ⟨some 11,none,iBin 11 .eql (.tmp 5) (.tmp 10)⟩,
  ⟨some 3,none,iMov 3 (.tmp 11) true⟩] [[],[0],[],[2],[],[4,3,2],[5,4,3,2],[1,6,0,5,4,3,2],[7,0,1,2,3,4,5,6]] [3] []
def recv_tellDueS1 : IC:=(cSeq recv_tellDueS1_r0 (cSeq recv_tellDueS1_r1 cRet))
theorem told_recv_tellDueS1 {args r : List D} (hl : args.length = 2) (h : recv_tellDueS1 (start args) (fin [(3,none)] r)) : Told Try.prog 100 args r :=
 told_of follows Try.func100 rfl (an:=[([],[1,2],[2],[]),([],[3],[],[])]) (by kernel_rfl) (by kernel_rfl) (by rw [hl]; decide +kernel) h
def recv_tellDue_r0 : IC:=cReg Try.prog [
  ⟨some 2,none,iAlo 2 [vD (.int .i64 0),vD (.slice none 0 0),vD (.int .i64 0),vD (.int .i64 0),vD (.int .i64 0),vD (.slice none 0 0),vD (.slice none 0 0),vD (.bool false)]⟩] [1,2] [1,2,100001]
def recv_tellDue_r1 : IC:=cReg Try.prog [
  ⟨some 6,none,iMkf 6 100 1⟩,
  ⟨some 3,none,iMov 3 (.tmp 6) true⟩] [1,2,3] [1,2,100001]
def recv_tellDue_r2 : IC:=cReg Try.prog [
  ⟨some 7,none,iFad 7 5 (.tmp 1)⟩,
  ⟨some 8,none,iLoad 8 1 false (.tmp 7) false⟩,
  ⟨some 9,none,iMov 9 (.tmp 3) false⟩,
  ⟨some 10,none,iCallL 10 101 [(.tmp 8),(.tmp 9)]⟩,
  ⟨some 4,none,iMov 4 (.tmp 10) true⟩] [1,2,3,4] [1,2,100001]
def recv_tellDue_r3 : IC:=cReg Try.prog [
  ⟨some 11,none,iMov 11 (.tmp 4) false⟩,
  ⟨some 12,none,iBin 12 .geq (.tmp 11) (.const (.int .i64 0))⟩] [1,2,3,4,12] [1,2,100001]
def recv_tellDue_c3 : IC:=cCond (.tmp 12) cSkip (cExit 0)
def recv_tellDue_r5 : IC:=cReg Try.prog [
  ⟨some 17,none,iFad 17 5 (.tmp 1)⟩,
  ⟨some 18,none,iLoad 18 1 false (.tmp 17) false⟩,
  ⟨some 19,none,iMov 19 (.tmp 4) false⟩,
  ⟨some 20,none,iIaS 20 6 (.tmp 18) (.tmp 19)⟩,
  ⟨some 21,none,iLoad 21 6 true (.tmp 20) false⟩,
  ⟨some 5,none,iAlo 5 [vD (.int .i64 0),vD (.int .i64 0),vD (.int .i64 0),vD (.int .i64 0),vD (.slice none 0 0),vD (.slice none 0 0)]⟩,
  ⟨none,none,iStor 6 (.tmp 5) (.tmp 21)⟩] [1,2,3,4,5] [1,2,5,100001]
def recv_tellDue_r6 : IC:=cReg Try.prog [
  ⟨some 22,none,iFad 22 5 (.tmp 1)⟩,
  ⟨some 23,none,iLoad 23 1 false (.tmp 22) false⟩,
  ⟨some 24,none,iMov 24 (.tmp 4) false⟩,
  ⟨some 25,none,iMov 25 (.tmp 4) false⟩,
  ⟨some 26,none,iBin 26 .add (.tmp 25) (.const (.int .i64 1))⟩,
  ⟨some 27,none,iCallL 27 102 [(.tmp 23),(.tmp 24),(.tmp 26)]⟩,
  ⟨some 28,none,iFad 28 5 (.tmp 1)⟩,
  ⟨none,none,iStor 1 (.tmp 28) (.tmp 27)⟩] [1,2,3,5] [1,2,5,100001]
def recv_tellDue_r7 : IC:=cReg Try.prog [
  ⟨some 29,none,iFad 29 6 (.tmp 1)⟩,
  ⟨some 30,none,iLoad 30 1 false (.tmp 29) true⟩,
  ⟨some 31,none,iFad 31 2 (.tmp 5)⟩,
  ⟨some 32,none,iLoad 32 1 false (.tmp 31) false⟩,
  ⟨some 33,none,iFad 33 4 (.tmp 5)⟩,
  ⟨some 34,none,iLoad 34 1 false (.tmp 33) false⟩,
  ⟨some 35,none,iBld 35 [vD (.int .i64 0),vD (.slice none 0 0)] [(0,1),(1,1)] [(.tmp 32),(.tmp 34)]⟩,
  ⟨some 36,none,iRow 36 53 2 [(.tmp 35)]⟩,
  ⟨some 37,none,iApp 37 53 2 32 (.tmp 30) (.tmp 36)⟩,
  ⟨some 38,none,iFad 38 6 (.tmp 1)⟩,
  ⟨none,none,iStor 1 (.tmp 38) (.tmp 37)⟩] [1,2,3,5] [1,2,5,100001]
def recv_tellDue_r8 : IC:=cReg Try.prog [
  ⟨some 39,none,iFad 39 2 (.tmp 5)⟩,
  ⟨some 40,none,iLoad 40 1 false (.tmp 39) false⟩,
  ⟨some 41,none,iFad 41 2 (.tmp 1)⟩,
  ⟨some 42,none,iIaA 42 3 1 (.tmp 41) (.tmp 40)⟩,
  ⟨some 43,none,iLoad 43 1 false (.tmp 42) false⟩,
  ⟨some 44,none,iBin 44 .add (.tmp 43) (.const (.int .i64 1))⟩,
  ⟨some 45,none,iFad 45 2 (.tmp 1)⟩,
  ⟨some 46,none,iIaA 46 3 1 (.tmp 45) (.tmp 40)⟩,
  ⟨none,none,iStor 1 (.tmp 46) (.tmp 44)⟩] [1,2,3] [1,2,100001]
def recv_tellDue_b4 : IC:=cBlock 1 (cSeq recv_tellDue_r5 (cSeq recv_tellDue_r6 (cSeq recv_tellDue_r7 recv_tellDue_r8)))
def recv_tellDue_r4 : IC:=cReg Try.prog [
  ⟨some 13,none,iFad 13 5 (.tmp 1)⟩,
  ⟨some 14,none,iLoad 14 1 false (.tmp 13) false⟩,
  ⟨some 15,none,iMov 15 (.tmp 3) false⟩,
  ⟨some 16,none,iCallL 16 101 [(.tmp 14),(.tmp 15)]⟩,
  ⟨some 4,none,iMov 4 (.tmp 16) true⟩] [1,2,3,4] [1,2,100001]
def recv_tellDue_l2a : IC:=(cSeq (cSeq recv_tellDue_r3 recv_tellDue_c3) (cSeq recv_tellDue_b4 recv_tellDue_r4))
def recv_tellDue_l2 : IC:=cLoop recv_tellDue_l2a
def recv_tellDue_b1 : IC:=cBlock 0 recv_tellDue_l2
def recv_tellDue_r9_0 : IC:=cReg Try.prog [] [1,2] [1,2]
def recv_tellDue_r9_1 : IC:=cReg Try.prog [
  ⟨some 47,none,iLoad 47 8 true (.tmp 1) false⟩,
  ⟨none,none,iStor 8 (.tmp 2) (.tmp 47)⟩] [2] [2]
def recv_tellDue_r9 : IC:=(cSeq recv_tellDue_r9_0 recv_tellDue_r9_1)
def recv_tellDue : IC:=cSeq recv_tellDue_r0 (cSeq recv_tellDue_r1 (cSeq (cSeq recv_tellDue_r2 recv_tellDue_b1) (cSeq recv_tellDue_r9 cRet)))
theorem toldX_recv_tellDue {cs ex rs : List D} {ri ro : List (Nat × Nat × Pay)} (hx : ex.length = 0) (hnd : (ri.map (·.1)).Nodup) (h : ∃ st1,Le ⟨(1,pD 1 0) :: startT (aD cs :: ex) 0,[(1,cs)],flOf 1 ri⟩ st1 ∧ recv_tellDue st1 (fin1 (cellFin 2 8 rs ro))) : ToldX Try.prog 71 (aD cs :: ex) (upR ri) [aD rs] (upR ro) :=
 toldX_boxed follows Try.func71 rfl rfl rfl rfl rfl (by rw [hx]; decide +kernel) (rw:=[]) (cuts:=[]) (lv:=[1,2]) (lb:=[1,2,100001]) (an:=[([],[1,2,3],[1,2,100001],[]),([],[1,2,3,4],[1,2,100001],[10]),([],[1,2,3,4,12],[1,2,100001],[]),([],[1,2,3,4,5],[1,2,5,100001],[]),([],[1,2,3,5],[1,2,5,100001],[27]),([],[1,2,3,5],[1,2,5,100001],[]),([],[1,2,3],[1,2,100001],[]),([],[1,2,3,4],[1,2,100001],[16]),([(0,[1,2],[1,2])],[2],[2],[])]) (by kernel_rfl) (by kernel_rfl) (by decide +kernel) hnd h
  (fun _ _ _ _ _ _ _ _ ⟨_,_,h1,h2,h3,h4,h5,h6⟩ hr => cell_out rfl (by kernel_rfl) (by kernel_rfl) h1 h2 h3 h4 h5 h6 hr)
def recv_Hear_r0 : IC:=cReg Try.prog [
  ⟨some 2,none,iBox 2 (.tmp 0)⟩,
  ⟨some 3,none,iBox 3 (.tmp 1)⟩,
  ⟨some 4,none,iAlo 4 [vD (.int .i64 0),vD (.slice none 0 0),vD (.int .i64 0),vD (.int .i64 0),vD (.int .i64 0),vD (.slice none 0 0),vD (.slice none 0 0),vD (.bool false)]⟩] [2,3,4] [2,3,4]
def recv_Hear_r1_0 : IC:=cXs Try.prog 2 5 6 25 8 none
def recv_Hear_r1_1 : IC:=cReg Try.prog [] [2,3,4] [2,3,4]
def recv_Hear_r1 : IC:=(cSeq recv_Hear_r1_0 recv_Hear_r1_1)
def recv_Hear_r2 : IC:=cReg Try.prog [
  ⟨some 7,none,iFad 7 0 (.tmp 3)⟩,
  ⟨some 8,none,iLoad 8 1 false (.tmp 7) false⟩,
  ⟨some 9,none,iBin 9 .neq (.tmp 8) (.const (.int .i64 1))⟩] [2,3,4,9] [2,3,4]
def recv_Hear_r3_0 : IC:=cLe
def recv_Hear_r3_1 : IC:=cReg Try.prog [
  ⟨some 10,none,iLoad 10 8 true (.tmp 2) false⟩,
  ⟨none,none,iStor 8 (.tmp 4) (.tmp 10)⟩] [4] [4]
def recv_Hear_r3 : IC:=(cSeq recv_Hear_r3_0 recv_Hear_r3_1)
def recv_Hear_c1a : IC:=(cSeq recv_Hear_r3 cRet)
def recv_Hear_c1 : IC:=cCond (.tmp 9) recv_Hear_c1a cSkip
def recv_Hear_r4 : IC:=cReg Try.prog [
  ⟨some 11,none,iFad 11 7 (.tmp 2)⟩,
  ⟨none,none,iStor 1 (.tmp 11) (.const (.bool true))⟩] [2,3,4] [2,3,4]
def recv_Hear_r5_0 : IC:=cLn Try.prog 2 12 15 69 8 (some (3,1,13,14))
def recv_Hear_r5_1 : IC:=cReg Try.prog [
  ⟨some 16,none,iNot 16 (.tmp 15)⟩] [2,3,4,16] [2,3,4]
def recv_Hear_r5 : IC:=(cSeq recv_Hear_r5_0 recv_Hear_r5_1)
def recv_Hear_r6_0 : IC:=cLe
def recv_Hear_r6_1 : IC:=cReg Try.prog [
  ⟨some 17,none,iLoad 17 8 true (.tmp 2) false⟩,
  ⟨none,none,iStor 8 (.tmp 4) (.tmp 17)⟩] [4] [4]
def recv_Hear_r6 : IC:=(cSeq recv_Hear_r6_0 recv_Hear_r6_1)
def recv_Hear_c2a : IC:=(cSeq recv_Hear_r6 cRet)
def recv_Hear_c2 : IC:=cCond (.tmp 16) recv_Hear_c2a cSkip
def recv_Hear_r7_0 : IC:=cXs Try.prog 2 18 21 70 8 (some (3,1,19,20))
def recv_Hear_r7_1 : IC:=cReg Try.prog [] [2,3,4] [2,3,4]
def recv_Hear_r7 : IC:=(cSeq recv_Hear_r7_0 recv_Hear_r7_1)
def recv_Hear_r8 : IC:=cRegD Try.prog [
  ⟨some 22,none,iFad 22 5 (.tmp 2)⟩,
  ⟨some 23,none,iLoad 23 1 false (.tmp 22) true⟩,
  ⟨some 24,none,iLoad 24 6 true (.tmp 3) false⟩,
  ⟨some 25,none,iCall 25 61 [(.tmp 24)]⟩,
  ⟨some 26,none,iRow 26 32 6 [(.tmp 25)]⟩,
  ⟨some 27,none,iApp 27 32 6 80 (.tmp 23) (.tmp 26)⟩,
  ⟨some 28,none,iFad 28 5 (.tmp 2)⟩,
  ⟨none,none,iStor 1 (.tmp 28) (.tmp 27)⟩] [[],[0],[],[2],[3,2],[1,4,3,0,2],[0,1,2,3,4,5],[6,5,0,1,2,3,4]] [2,4] [2,4]
def recv_Hear_r9_0 : IC:=cXn Try.prog 2 29 30 71 8 none
def recv_Hear_r9_1 : IC:=cReg Try.prog [
  ⟨none,none,iStor 8 (.tmp 4) (.tmp 30)⟩] [4] [4]
def recv_Hear_r9 : IC:=(cSeq recv_Hear_r9_0 recv_Hear_r9_1)
def recv_Hear : IC:=(cSeq recv_Hear_r0 (cSeq recv_Hear_r1 (cSeq (cSeq recv_Hear_r2 recv_Hear_c1) (cSeq recv_Hear_r4 (cSeq (cSeq recv_Hear_r5 recv_Hear_c2) (cSeq recv_Hear_r7 (cSeq recv_Hear_r8 (cSeq recv_Hear_r9 cRet))))))))
theorem told_recv_Hear {args r : List D} (hl : args.length = 2) (h : recv_Hear (start args) (fin [(4,some (8,true))] r)) : Told Try.prog 26 args r :=
 told_of follows Try.func26 rfl (an:=[([],[2,3,4],[2,3,4],[]),([(4003,[],[])],[2,3,4],[2,3,4],[]),([],[2,3,4,9],[2,3,4],[]),([(12000,[],[])],[4],[4],[]),([],[2,3,4],[2,3,4],[]),([(7004,[],[])],[2,3,4,16],[2,3,4],[]),([(12000,[],[])],[4],[4],[]),([(5005,[],[])],[2,3,4],[2,3,4],[]),([],[2,4],[2,4],[]),([(6002,[],[])],[4],[4],[])]) (by kernel_rfl) (by kernel_rfl) (by rw [hl]; decide +kernel) h
end Go.Proofs.Ytgfljlmonaifgab.ab
