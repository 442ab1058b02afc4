import Derived.Test.YtgaofjiidedcbadM43
import Derived.Test.YtgaofjiidedcbadM19
import Derived.Test.YtgaofjiidedcbadM34
import Derived.Test.YtgaofjiidedcbadProg
import Derived.Test.YtgaofjiidedcbadM40
import Derived.Test.YtgaofjiidedcbadM25
set_option maxHeartbeats 8000000
set_option linter.unusedVariables false
set_option linter.unusedSimpArgs false
namespace Go.Proofs.Ytgaofjiidedcbad.ab
open Go Go.RowKit
open mth
def ifSt (l : List Ch) (c : Ch) (k : Nat) : St:=⟨[(0,sD 6 (encCl l)),(1,jD 1 79 (encCh c)),(7,vI l.length),(8,vI k)],[],[]⟩
theorem indexF_told (l : List Ch) (c : Ch) (hl : l.length ≤ 1048576) (he : c.early.length ≤ 9223372036854775807) : Told Try.prog 78 [sD 6 (encCl l),jD 1 79 (encCh c)] [vI (idxG (goneP c) l)]:=by
 refine told_slices_IndexFunc rfl ?_
 refine wk @len_cl ?_
 refine aw_loop (fun m st => ∃ k : Nat,k ≤ l.length ∧ m = l.length - k ∧ (∀ i y,i < k → l[i]? = some y → goneP c y = false) ∧ st = ifSt l c k) l.length (ifSt l c 0) (Le.keep (lv:=[0,1,7,8]) (lb:=[]) (by simp only [ev0,ev1,ev2,look,lookF,cellsFrom,offT,offP,List.tail_nil,List.length_nil,Int.cast_ofNat_Int,Nat.reduceEqDiff,Nat.reduceAdd,Nat.reduceMul,Nat.reduceLeDiff,Nat.reduceLT,↓reduceIte,reduceCtorEq,Int.reduceBEq,Int.reduceBNe,Int.reduceLT,Int.reduceLE,Int.reduceToNat]; rfl)) ⟨0,by omega,by omega,(fun i y hi => by omega),rfl⟩ ?_
 rintro m st ⟨k,hk,hm,hb,rfl⟩
 by_cases hlt : k < l.length
 ·obtain ⟨x,hx⟩ : ∃ m,l[k]? = some m:=⟨l[k],List.getElem?_eq_getElem hlt⟩
  have g1 : (k : Int) < (l.length : Int):=by omega
  have g2 : (0 : Int) ≤ (k : Int):=by omega
  have g3:=at_cl hx
  have g4 : inR .i64 ((k : Int) + 1) = true:=inR_of (by omega)
  have hS:=cameS_told c x he
  cases hp : goneP c x with
  | true =>
   rw [idxG_at hx hp hb]
   rw [hp] at hS
   generalize (fun m st => ∃ k : Nat,k ≤ l.length ∧ m = l.length - k ∧ (∀ i y,i < k → l[i]? = some y → goneP c y = false) ∧ st = ifSt l c k) = J at *
   simp only [ifSt]
   generalize encCh c = E at *
   simp only [encCh] at hS
   refine wk (an4 @g1 @g2 @g3 @callS) ?_
   refine cg [[vB true]] (an3 @g2 @g3 @callS) ?_ ?_
   ·exact obl_cons hS obl_nil
   refine wk0 ?_
   exact ValsLe.refl _
  | false =>
   rw [hp] at hS
   have hnx : Next (fun m st => ∃ k : Nat,k ≤ l.length ∧ m = l.length - k ∧ (∀ i y,i < k → l[i]? = some y → goneP c y = false) ∧ st = ifSt l c k) m ⟨[(0,sD 6 (encCl l)),(1,jD 1 79 (encCh c)),(7,vI l.length),(8,vI ((k : Int) + 1))],[],[]⟩:=by
    refine ⟨l.length - (k + 1),_,by omega,Le.refl _,k + 1,by omega,rfl,fun i y hi hy => ?_,by simp only [ifSt,Int.natCast_add,Int.cast_ofNat_Int]⟩
    by_cases hik : i = k
    ·subst hik; rw [hx] at hy; cases hy; exact hp
    ·exact hb i y (by omega) hy
   generalize (fun m st => ∃ k : Nat,k ≤ l.length ∧ m = l.length - k ∧ (∀ i y,i < k → l[i]? = some y → goneP c y = false) ∧ st = ifSt l c k) = J at *
   simp only [ifSt]
   generalize encCh c = E at *
   simp only [encCh] at hS
   refine wk (an4 @g1 @g2 @g3 @callS) ?_
   refine cg [[vB false]] (an3 @g2 @g3 @callS) ?_ ?_
   ·exact obl_cons hS obl_nil
   refine wk @g4 ?_
   exact hnx
 ·have hk' : k = l.length:=by omega
  subst hk'
  have g1 : ¬ (l.length : Int) < (l.length : Int):=by omega
  rw [idxG_no (fun i y hy => hb i y (List.getElem?_eq_some_iff.1 hy).1 hy)]
  simp only [ifSt]
  refine wk @g1 ?_
  exact ValsLe.refl _
theorem no_filter {c : Ch} {l : List Ch} (h : idxG (goneP c) l = -1) : l.filter (fun x => !goneP c x) = l:=by
 unfold idxG at h
 split at h
 ·omega
 ·rename_i hlt
  have h' : l.findIdx (goneP c) = l.length:=by have:=List.findIdx_le_length (p:=goneP c) (xs:=l); omega
  have:=List.findIdx_eq_length.1 h'
  exact List.filter_eq_self.2 (fun x hx => by rw [this x hx]; rfl)
def dlSt (arr : List Ch) (c : Ch) (i j : Nat) : St:=⟨[(0,oD 100000 arr.length),(1,jD 1 79 (encCh c)),(5,vI i),(6,vI j)],[(100000,[sD 6 (encCl arr)]),(100000,[sD 6 (encCl arr)])],[]⟩
theorem dlSt_def (arr : List Ch) (c : Ch) (i j : Nat) : dlSt arr c i j = ⟨[(0,oD 100000 arr.length),(1,jD 1 79 (encCh c)),(5,vI i),(6,vI j)],[(100000,[sD 6 (encCl arr)]),(100000,[sD 6 (encCl arr)])],[]⟩:=rfl
structure DlOk (l arr : List Ch) (c : Ch) (i j : Nat) : Prop where
 len : arr.length = l.length
 le : j ≤ l.length
 lt : i < j
 front : arr.take i = (l.take j).filter (fun x => !goneP c x)
 back : arr.drop j = l.drop j
theorem cl_set (l : List Ch) (i : Nat) (x : Ch) : (encCl l).set i (aD [vI x.kind,vI x.number,vI x.stream,vI x.place,sD 1 (x.data.map encB),sD 1 (x.early.map vI)]) = encCl (l.set i x):=by
 simp [encCl,encCh,List.map_set]
theorem DlOk.gone {l arr : List Ch} {c x : Ch} {i j : Nat} (h : DlOk l arr c i j) (hx : l[j]? = some x) (hp : goneP c x = true) : DlOk l arr c i (j + 1):=by
 have hj : j < l.length:=(List.getElem?_eq_some_iff.1 hx).1
 refine ⟨h.len,by omega,by have:=h.lt; omega,?_,?_⟩
 ·rw [h.front,List.take_add_one,hx]
  simp [hp]
 ·have:=congrArg List.tail h.back
  simpa using this
theorem DlOk.kept {l arr : List Ch} {c x : Ch} {i j : Nat} (h : DlOk l arr c i j) (hx : l[j]? = some x) (hp : goneP c x = false) : DlOk l (arr.set i x) c (i + 1) (j + 1):=by
 have hj : j < l.length:=(List.getElem?_eq_some_iff.1 hx).1
 have hi:=h.lt
 refine ⟨by rw [List.length_set,h.len],by omega,by omega,?_,?_⟩
 ·rw [List.take_add_one (l:=l),hx,List.filter_append,← h.front]
  rw [List.take_add_one,List.getElem?_set_self (by rw [h.len]; omega),List.take_set_of_le (Nat.le_refl _)]
  simp [hp]
 ·rw [List.drop_set_of_lt (by omega)]
  have:=congrArg List.tail h.back
  simpa using this
theorem deleteF_core (l : List Ch) (c : Ch) (hl : l.length ≤ 1048576) (hne : l ≠ []) (he : c.early.length ≤ 9223372036854775807) :
  slices_DeleteFunc ⟨startT (oD 100000 (encCl l).length :: [jD 1 79 (encCh c)]) 0,[(100000,[sD 6 (encCl l)])],[]⟩ (fin [(4,none)] [sD 6 (encCl (l.filter fun x => !goneP c x))]):=by
 have hI:=indexF_told l c hl he
 have hl0 : 0 < l.length:=List.length_pos_iff.2 hne
 by_cases hno : idxG (goneP c) l = -1
 ·rw [no_filter hno]
  rw [hno] at hI
  generalize encCh c = E at *
  refine wk @len_cl ?_
  refine cg [[vI (-1)]] (an2 @len_cl @hl0) ?_ ?_
  ·exact obl_cons hI obl_nil
  refine wk @len_cl ?_
  exact ValsLe.refl _
 ·obtain ⟨i0,hi0,hix⟩ : ∃ i0 : Nat,i0 < l.length ∧ idxG (goneP c) l = i0:=by
   unfold idxG at hno ⊢
   split
   ·rename_i q; exact ⟨_,q,rfl⟩
   ·rename_i q; rw [if_neg q] at hno; exact absurd rfl hno
  have hfi : l.findIdx (goneP c) = i0:=by
   unfold idxG at hix
   split at hix
   ·omega
   ·omega
  have hpi:=List.findIdx_eq hi0 |>.1 hfi
  rw [hix] at hI
  have hne1 : ((i0 : Int) == -1) = false:=by
   have : ¬ (i0 : Int) = -1:=by omega
   rw [beq_eq_false_iff_ne]; exact this
  have hr0 : inR .i64 ((i0 : Int) + 1) = true:=inR_of (by omega)
  have hst0 : DlOk l l c i0 (i0 + 1):=by
   refine ⟨rfl,by omega,by omega,?_,rfl⟩
   rw [List.take_add_one,List.getElem?_eq_getElem hi0,List.filter_append]
   have h1 : (l.take i0).filter (fun x => !goneP c x) = l.take i0:=List.filter_eq_self.2 (fun x hx => by
    obtain ⟨j,hj,rfl⟩:=List.mem_iff_getElem.1 hx
    rw [List.getElem_take]
    have hj' : j < i0:=by rw [List.length_take] at hj; omega
    rw [hpi.2 j hj']; rfl)
   rw [h1]
   simp [hpi.1]
  have hle : Le ⟨[(0,oD 100000 l.length),(1,jD 1 79 (encCh c)),(5,vI i0),(6,vI ((i0 : Int) + 1))],[(100000,[sD 6 (encCl l)]),(100000,[sD 6 (encCl l)])],[]⟩ (dlSt l c i0 (i0 + 1)):=by
   rw [dlSt_def,Int.natCast_add,Int.cast_ofNat_Int]; exact Le.refl _
  have hbody : ∀ Q : AX → St → Prop,(∀ arr i,DlOk l arr c i l.length → Q (some (some 0)) (⟨[(0,oD 100000 arr.length),(1,jD 1 79 (encCh c)),(5,vI i),(6,vI l.length),(19,vB false)],[(100000,[sD 6 (encCl arr)]),(100000,[sD 6 (encCl arr)])],[]⟩ : St)) →
    ∀ n st,(∃ arr i j,DlOk l arr c i j ∧ n = l.length - j ∧ st = dlSt arr c i j) → Q60l3a st (thn (Next (fun n st => ∃ arr i j,DlOk l arr c i j ∧ n = l.length - j ∧ st = dlSt arr c i j) n) Q):=by
   rintro Q hQ n st ⟨arr,i,j,hok,hn,rfl⟩
   have hlen:=hok.len
   by_cases hlt : j < l.length
   ·obtain ⟨x,hx⟩ : ∃ m,l[j]? = some m:=⟨l[j],List.getElem?_eq_getElem hlt⟩
    have hxa : arr[j]? = some x:=by
     have:=congrArg (fun t => t[0]?) hok.back
     simp only [List.getElem?_drop,Nat.add_zero] at this
     rw [this]; exact hx
    have hij:=hok.lt
    obtain ⟨y,hy⟩ : ∃ y,arr[i]? = some y:=⟨arr[i]'(by omega),List.getElem?_eq_getElem (by omega)⟩
    have g1 : (j : Int) < (arr.length : Int):=by omega
    have g2 : (0 : Int) ≤ (j : Int):=by omega
    have g3:=at_cl hxa
    have g4 : inR .i64 ((j : Int) + 1) = true:=inR_of (by omega)
    have g5 : (0 : Int) ≤ (i : Int):=by omega
    have g6 : (i : Int) < (arr.length : Int):=by omega
    have g7:=at_cl hy
    have g8 : inR .i64 ((i : Int) + 1) = true:=inR_of (by omega)
    have hS:=cameS_told c x he
    cases hp : goneP c x with
    | true =>
     rw [hp] at hS
     have hnx : Next (fun n st => ∃ arr i j,DlOk l arr c i j ∧ n = l.length - j ∧ st = dlSt arr c i j) n ⟨[(0,oD 100000 arr.length),(1,jD 1 79 (encCh c)),(5,vI i),(6,vI ((j : Int) + 1))],[(100000,[sD 6 (encCl arr)]),(100000,[sD 6 (encCl arr)])],[]⟩ :=
      ⟨l.length - (j + 1),_,by omega,Le.refl _,arr,i,j + 1,hok.gone hx hp,rfl,by rw [dlSt_def,Int.natCast_add,Int.cast_ofNat_Int]⟩
     generalize (fun n st => ∃ arr i j,DlOk l arr c i j ∧ n = l.length - j ∧ st = dlSt arr c i j) = J at *
     simp only [dlSt_def]
     generalize encCh c = E at *
     simp only [encCh] at hS
     refine wk (an5 @g1 @g2 @g3 @callS @len_cl) ?_
     refine cg [[vB true]] @callS ?_ ?_
     ·exact obl_cons hS obl_nil
     refine wk @g4 ?_
     exact hnx
    | false =>
     rw [hp] at hS
     have hnx : Next (fun n st => ∃ arr i j,DlOk l arr c i j ∧ n = l.length - j ∧ st = dlSt arr c i j) n ⟨[(0,oD 100000 arr.length),(1,jD 1 79 (encCh c)),(5,vI ((i : Int) + 1)),(6,vI ((j : Int) + 1))],[(100000,[sD 6 ((encCl arr).set i (aD [vI x.kind,vI x.number,vI x.stream,vI x.place,sD 1 (x.data.map encB),sD 1 (x.early.map vI)]))]),(100000,[sD 6 ((encCl arr).set i (aD [vI x.kind,vI x.number,vI x.stream,vI x.place,sD 1 (x.data.map encB),sD 1 (x.early.map vI)]))])],[]⟩ :=
      ⟨l.length - (j + 1),_,by omega,Le.refl _,arr.set i x,i + 1,j + 1,hok.kept hx hp,rfl,by rw [dlSt_def,List.length_set,← cl_set,Int.natCast_add,Int.natCast_add,Int.cast_ofNat_Int]⟩
     generalize (fun n st => ∃ arr i j,DlOk l arr c i j ∧ n = l.length - j ∧ st = dlSt arr c i j) = J at *
     simp only [dlSt_def]
     generalize encCh c = E at *
     simp only [encCh] at hS
     refine wk (an5 @g1 @g2 @g3 @callS @len_cl) ?_
     refine cg [[vB false]] @callS ?_ ?_
     ·exact obl_cons hS obl_nil
     refine wk (an6 @g4 @g5 @g6 @g7 @g8 @len_cl) ?_
     exact hnx
   ·have hj : j = l.length:=by have:=hok.le; omega
    subst hj
    have g1 : ¬ (l.length : Int) < (arr.length : Int):=by omega
    generalize (fun n st => ∃ arr i j,DlOk l arr c i j ∧ n = l.length - j ∧ st = dlSt arr c i j) = J at *
    simp only [dlSt_def]
    refine wk (an2 @g1 @len_cl) ?_
    exact hQ arr i hok
  generalize hEE : encCh c = E at *
  refine wk @len_cl ?_
  refine cg [[vI i0]] (an2 @len_cl @hl0) ?_ ?_
  ·exact obl_cons hI obl_nil
  refine wk (an2 @hne1 @hr0) ?_
  refine aw_loop (fun n st => ∃ arr i j,DlOk l arr c i j ∧ n = l.length - j ∧ st = dlSt arr c i j) (l.length - (i0 + 1)) (dlSt l c i0 (i0 + 1)) hle ⟨l,i0,i0 + 1,hst0,rfl,rfl⟩ ?_
  refine hbody _ ?_
  intro arr i hok
  have hlen:=hok.len
  have hil:=hok.lt
  have g5 : (0 : Int) ≤ (i : Int):=by omega
  have g6 : (i : Int) < (arr.length : Int):=by omega
  have g7 : i + (arr.length - i) = arr.length:=by omega
  have g8 : 0 < arr.length - i:=by omega
  have g9 : arr.length = (List.take i (encCl arr) ++ List.replicate (arr.length - i) (aD (List.replicate 6 xD))).length:=by
   rw [List.length_append,List.length_take,List.length_replicate,len_cl]; omega
  have g10 : (i : Int) ≤ ((List.take i (encCl arr) ++ List.replicate (arr.length - i) (aD (List.replicate 6 xD))).length : Nat):=by rw [← g9]; omega
  have g11 : (List.take i (encCl arr) ++ List.replicate (arr.length - i) (aD (List.replicate 6 xD))).take i = encCl (l.filter fun x => !goneP c x):=by
   rw [List.take_append_of_le_length (by rw [List.length_take,len_cl]; omega),List.take_take,Nat.min_self]
   have:=hok.front
   rw [List.take_length] at this
   rw [← this]
   simp [encCl,List.map_take]
  refine wk (an5 @g5 @g6 @g7 @g8 @len_cl) ?_
  rw [if_pos g9]
  simp only
  generalize (List.take i (encCl arr) ++ List.replicate (arr.length - i) (aD (List.replicate 6 xD))) = es at *
  have g12 : (0 : Int) ≤ 0 ∧ (0 : Int) ≤ (i : Int) ∧ (i : Int) ≤ (es.length : Nat):=⟨by omega,g5,g10⟩
  refine wk (an2 @g12 @g11) ?_
  exact ValsLe.refl _
theorem deleteF_told (l : List Ch) (c : Ch) (hl : l.length ≤ 1048576) (he : c.early.length ≤ 9223372036854775807) {e : Nat} :
  ToldI Try.prog 66 [xD,jD 1 79 (encCh c)] 0 none e (6,some (encCl l)) [sD 6 (encCl (l.filter fun x => !goneP c x))]:=by
 refine toldI_slices_DeleteFunc rfl (by decide) (fun h0 => ?_) (fun hne => deleteF_core l c hl (fun e => hne (by rw [e]; rfl)) he)
 have hl0 : l = []:=by
  cases l with
  | nil => rfl
  | cons x r => cases h0
 subst hl0
 have hI:=indexF_told [] c (by simp) he
 have hno : idxG (goneP c) [] = -1:=rfl
 rw [hno] at hI
 refine told_slices_DeleteFunc rfl ?_
 simp only [cl_nil,List.filter_nil] at hI ⊢
 generalize encCh c = E at *
 refine wk0 ?_
 refine cg0 [[vI (-1)]] ?_ ?_
 ·exact obl_cons hI obl_nil
 refine wk0 ?_
 exact ValsLe.refl _
theorem hearS_eq (s : Sd) (c : Ch) : hearS s c = { s with flight:=s.flight.filter fun x => !goneP c x }:=by
 unfold hearS goneP
 by_cases h : c.kind = 2
 ·rw [if_pos h,h]
  rfl
 ·rw [if_neg h]
  have h' : (c.kind == 2) = false:=by simpa using h
  have hf : s.flight.filter (fun x => !(c.kind == 2 && cameL c x.number)) = s.flight:=List.filter_eq_self.2 (fun x _ => by rw [h']; rfl)
  rw [hf]
theorem lhear_told (s : Sd) (c : Ch) (h : GoodS s) (hc : wrongL c = 0) : Told Try.prog 53 [aD (encSd s),aD (encCh c)] [aD (encSd (hearS s c))]:=by
 refine told_send_Hear rfl ?_
 have hown:=ownS_toldH s (good_small h)
 have he:=early_right hc
 have hdel:=deleteF_told s.flight c (good_small h).f (by omega) (e:=97)
 have hcb:=cameBy_told c
 rw [hearS_eq]
 simp only [encSd] at hown ⊢
 generalize s.flight.filter (fun x => !goneP c x) = F at *
 simp only [encCh] at hdel hcb ⊢
 refine wk0 ?_
 refine ⟨2,_,_,_,5,_,_,rfl,rfl,rfl,rfl,row_refl _,hown,rfl,?_⟩
 refine wk0 ?_
 refine cd0 [[jD 1 79 [vI c.kind,vI c.number,vI c.stream,vI c.place,sD 1 (c.data.map encB),sD 1 (c.early.map vI)]],[mI 0 97 6 (aD (encCl s.flight)),sD 6 (encCl F)]] ?_ ?_
 ·exact obl_cons hcb (obl_in hdel obl_nil)
 refine wk0 ?_
 exact ValsLe.refl _
theorem land_say : CSayS 55:=fun s h => lsay_told s h
theorem land_hear : CHearS 53:=fun s c h hc => lhear_told s c h hc
set_option maxRecDepth 100000
def Q46r0 : IC:=cReg Try.prog [xX 2 0,⟨some 4,none,iMov 4 (.const (.bool false)) true⟩] [1,2] [2]
def Q46r1 : IC:=cReg Try.prog [xM 5 1,xF 6 0 2,xL 7 1 6,xB 8 .lss 5 7,xM 9 8,xG 9 false (xF 10 1 2),xG 9 false (xL 11 1 10),xG 9 false (xM 12 1),xG 9 false (xV2 13 80 11 12),xP 14 9 13] [1,2,14] [2]
def Q46r2 : IC:=cReg Try.prog [⟨some 4,none,iMov 4 (.const (.bool false)) true⟩] [4] []
def Q46c1a : IC:=(cSeq Q46r2 cRet)
def Q46c1 : IC:=cCond (.tmp 14) Q46c1a cSkip
def Q46r3 : IC:=cReg Try.prog [xM 15 1,xF 16 0 2,xL 17 1 16,xB 18 .eql 15 17,xM 19 18,xG 19 false (xF 20 1 2),xG 19 false (xL 21 1 20),xG 19 false (xN 22 21),xG 19 false (xC 23 .lss 22 3),xP 24 19 23,xT 4 24] [4] []
def recv_takes : IC:=(cSeq Q46r0 (cSeq (cSeq Q46r1 Q46c1) (cSeq Q46r3 cRet)))
theorem told_recv_takes {args r : List D} (hl : args.length = 2) (h : recv_takes (start args) (fin [(4,none)] r)) : Told Try.prog 68 args r :=
 told_of follows Try.func68 rfl (an:=[([],[1,2],[2],[]),([],[1,2,14],[2],[]),([],[4],[],[]),([],[4],[],[])]) (by kernel_rfl) (by kernel_rfl) (by rw [hl]; decide +kernel) h
def Q45r0 : IC:=cReg Try.prog [⟨some 4,none,iAlo 4 [zI,zS,zI,zI,zI,zS,zS,zF]⟩] [1,2,4] [2,4]
def Q45r1_0 : IC:=cLf Try.prog 2 1 8 9 1 10 81 11
def Q45r1_1 : IC:=cReg Try.prog [xM 7 11,xE 12 7 0,xE 13 7 1,xT 5 12,xT 6 13] [1,2,4,5] [2,4]
def Q45r1 : IC:=(cSeq Q45r1_0 Q45r1_1)
def Q45r2_0 : IC:=cIns Try.prog 2 1 14 15 5 16 1 17 18 82 19
def Q45r2_1 : IC:=cReg Try.prog [xF 20 1 2,xS 1 20 19] [2,4] [2,4]
def Q45r2 : IC:=(cSeq Q45r2_0 Q45r2_1)
def Q45r3 : IC:=cRegD Try.prog [xF 21 1 2,xL 22 1 21,xN 23 22,xC 24 .gtr 23 0,xM 25 24,xG 25 true (xF 26 1 2),xG 25 true (xL 27 1 26),⟨some 28,some (25,true),iIaS 28 1 (.tmp 27) (.const (.int .i64 0))⟩,xG 25 true (xL 29 1 28),xG 25 true (xF 30 0 2),xG 25 true (xL 31 1 30),xG 25 true (xB 32 .eql 29 31),xQ 33 25 32] [[],[0],[1,0],[2,1,0],[3,2,1,0],[4,3,2,1,0],[5,4,3,2,1,0],[6,4,5,3,2,1,0],[7,4,6,5,3,2,1,0],[4,3,2,1,0],[9,4,3,2,1,0],[8,10,4,7,6,5,3,2,1,0,9],[4,11,3,2,1,0,8,10,7,6,5,9]] [2,4,33] [2,4]
def Q45c3 : IC:=cCond (.tmp 33) cSkip (cExit 0)
def Q45r4 : IC:=cReg Try.prog [xF 34 1 2,xL 35 1 34,⟨some 36,none,iSlc 36 1 (.tmp 35) (some (.const (.int .i64 1))) none⟩,xF 37 1 2,xS 1 37 36] [2,4] [2,4]
def Q45r5 : IC:=cReg Try.prog [xF 38 0 2,xL 39 1 38,xC 40 .add 39 1,xF 41 0 2,xS 1 41 40] [2,4] [2,4]
def Q45b4 : IC:=cBlock 1 (cSeq Q45r4 Q45r5)
def Q45l2a : IC:=(cSeq (cSeq Q45r3 Q45c3) Q45b4)
def Q45l2 : IC:=cLoop Q45l2a
def Q45b1 : IC:=cBlock 0 Q45l2
def Q45r6_0 : IC:=cCpX 2 4 42 8
def Q45r6_1 : IC:=cReg Try.prog [] [4] [4]
def Q45r6 : IC:=(cSeq Q45r6_0 Q45r6_1)
def recv_came : IC:=cSeq Q45r0 (cSeq Q45r1 (cSeq Q45r2 (cSeq Q45b1 (cSeq Q45r6 cRet))))
theorem toldX_recv_came {cs ex rs : List D} {ri ro : List (Nat × Nat × Pay)} (hx : ex.length = 1) (hnd : (ri.map (·.1)).Nodup) (h : ∃ st1,Le ⟨(2,pD 2 0) :: startT (aD cs :: ex) 0,[(2,cs)],flOf 2 ri⟩ st1 ∧ recv_came st1 (fin1 (cellFin 4 8 rs ro))) : ToldX Try.prog 69 (aD cs :: ex) (upR ri) [aD rs] (upR ro) :=
 toldX_boxed follows Try.func69 rfl rfl rfl rfl rfl (by rw [hx]; decide +kernel) (rw:=[]) (cuts:=[]) (lv:=[1,2,4]) (lb:=[2,4]) (an:=[([(9004,[],[])],[1,2,4,5],[2,4],[]),([(11006,[],[])],[2,4],[2,4],[]),([],[2,4,33],[2,4],[]),([],[2,4],[2,4],[]),([],[2,4],[2,4],[]),([(8002,[],[])],[4],[4],[])]) (by kernel_rfl) (by kernel_rfl) (by decide +kernel) hnd h
  (fun _ _ _ _ _ _ _ _ ⟨_,_,h1,h2,h3,h4,h5,h6⟩ hr => cell_out rfl (by kernel_rfl) (by kernel_rfl) h1 h2 h3 h4 h5 h6 hr)
def Q48r0 : IC:=cReg Try.prog [xX 2 0,⟨some 3,none,iMov 3 (.const (.bool false)) true⟩] [1,2] [2]
def Q48r1 : IC:=cRegD Try.prog [xF 4 3 2,xL 5 1 4,xF 6 2 2,xL 7 1 6,xF 8 2 1,⟨some 9,none,iIaA 9 3 1 (.tmp 8) (.tmp 7)⟩,xL 10 1 9,xB 11 .eql 5 10,xT 3 11] [[],[0],[],[2],[],[4,3,2],[5,4,3,2],[1,6,0,5,4,3,2],[7,0,1,2,3,4,5,6]] [3] []
def recv_tellDueS1 : IC:=(cSeq Q48r0 (cSeq Q48r1 cRet))
theorem told_recv_tellDueS1 {args r : List D} (hl : args.length = 2) (h : recv_tellDueS1 (start args) (fin [(3,none)] r)) : Told Try.prog 83 args r :=
 told_of follows Try.func83 rfl (an:=[([],[1,2],[2],[]),([],[3],[],[])]) (by kernel_rfl) (by kernel_rfl) (by rw [hl]; decide +kernel) h
def Q47r0 : IC:=cReg Try.prog [⟨some 2,none,iAlo 2 [zI,zS,zI,zI,zI,zS,zS,zF]⟩] [1,2] [1,2,100001]
def Q47r1 : IC:=cReg Try.prog [⟨some 6,none,iMkf 6 83 1⟩,xT 3 6] [1,2,3] [1,2,100001]
def Q47r2 : IC:=cReg Try.prog [xF 7 5 1,xL 8 1 7,xM 9 3,⟨some 10,none,iCallL 10 78 [(.tmp 8),(.tmp 9)]⟩,xT 4 10] [1,2,3,4] [1,2,100001]
def Q47r3 : IC:=cReg Try.prog [xM 11 4,xC 12 .geq 11 0] [1,2,3,4,12] [1,2,100001]
def Q47c3 : IC:=cCond (.tmp 12) cSkip (cExit 0)
def Q47r5 : IC:=cReg Try.prog [xF 17 5 1,xL 18 1 17,xM 19 4,xI 20 6 18 19,xA 21 6 20,⟨some 5,none,iAlo 5 [zI,zI,zI,zI,zS,zS]⟩,xS 6 5 21] [1,2,3,4,5] [1,2,5,100001]
def Q47r6 : IC:=cReg Try.prog [xF 22 5 1,xL 23 1 22,xM 24 4,xM 25 4,xC 26 .add 25 1,⟨some 27,none,iCallL 27 84 [(.tmp 23),(.tmp 24),(.tmp 26)]⟩,xF 28 5 1,xS 1 28 27] [1,2,3,5] [1,2,5,100001]
def Q47r7 : IC:=cReg Try.prog [xF 29 6 1,xU 30 1 29,xF 31 2 5,xL 32 1 31,xF 33 4 5,xL 34 1 33,⟨some 35,none,iBld 35 [zI,zS] [(0,1),(1,1)] [(.tmp 32),(.tmp 34)]⟩,xR 36 28 2 35,xW 37 28 2 32 30 36,xF 38 6 1,xS 1 38 37] [1,2,3,5] [1,2,5,100001]
def Q47r8 : IC:=cReg Try.prog [xF 39 2 5,xL 40 1 39,xF 41 2 1,⟨some 42,none,iIaA 42 3 1 (.tmp 41) (.tmp 40)⟩,xL 43 1 42,xC 44 .add 43 1,xF 45 2 1,⟨some 46,none,iIaA 46 3 1 (.tmp 45) (.tmp 40)⟩,xS 1 46 44] [1,2,3] [1,2,100001]
def Q47b4 : IC:=cBlock 1 (cSeq Q47r5 (cSeq Q47r6 (cSeq Q47r7 Q47r8)))
def Q47r4 : IC:=cReg Try.prog [xF 13 5 1,xL 14 1 13,xM 15 3,⟨some 16,none,iCallL 16 78 [(.tmp 14),(.tmp 15)]⟩,xT 4 16] [1,2,3,4] [1,2,100001]
def Q47l2a : IC:=(cSeq (cSeq Q47r3 Q47c3) (cSeq Q47b4 Q47r4))
def Q47l2 : IC:=cLoop Q47l2a
def Q47b1 : IC:=cBlock 0 Q47l2
def Q47r9_0 : IC:=cReg Try.prog [] [1,2] [1,2]
def Q47r9_1 : IC:=cReg Try.prog [xA 47 8 1,xS 8 2 47] [2] [2]
def Q47r9 : IC:=(cSeq Q47r9_0 Q47r9_1)
def recv_tellDue : IC:=cSeq Q47r0 (cSeq Q47r1 (cSeq (cSeq Q47r2 Q47b1) (cSeq Q47r9 cRet)))
theorem toldX_recv_tellDue {cs ex rs : List D} {ri ro : List (Nat × Nat × Pay)} (hx : ex.length = 0) (hnd : (ri.map (·.1)).Nodup) (h : ∃ st1,Le ⟨(1,pD 1 0) :: startT (aD cs :: ex) 0,[(1,cs)],flOf 1 ri⟩ st1 ∧ recv_tellDue st1 (fin1 (cellFin 2 8 rs ro))) : ToldX Try.prog 70 (aD cs :: ex) (upR ri) [aD rs] (upR ro) :=
 toldX_boxed follows Try.func70 rfl rfl rfl rfl rfl (by rw [hx]; decide +kernel) (rw:=[]) (cuts:=[]) (lv:=[1,2]) (lb:=[1,2,100001]) (an:=[([],[1,2,3],[1,2,100001],[]),([],[1,2,3,4],[1,2,100001],[10]),([],[1,2,3,4,12],[1,2,100001],[]),([],[1,2,3,4,5],[1,2,5,100001],[]),([],[1,2,3,5],[1,2,5,100001],[27]),([],[1,2,3,5],[1,2,5,100001],[]),([],[1,2,3],[1,2,100001],[]),([],[1,2,3,4],[1,2,100001],[16]),([(0,[1,2],[1,2])],[2],[2],[])]) (by kernel_rfl) (by kernel_rfl) (by decide +kernel) hnd h
  (fun _ _ _ _ _ _ _ _ ⟨_,_,h1,h2,h3,h4,h5,h6⟩ hr => cell_out rfl (by kernel_rfl) (by kernel_rfl) h1 h2 h3 h4 h5 h6 hr)
def Q41r0 : IC:=cReg Try.prog [xX 2 0,xX 3 1,⟨some 4,none,iAlo 4 [zI,zS,zI,zI,zI,zS,zS,zF]⟩] [2,3,4] [2,3,4]
def Q41r1_0 : IC:=cXs Try.prog 2 5 6 34 8 none
def Q41r1_1 : IC:=cReg Try.prog [] [2,3,4] [2,3,4]
def Q41r1 : IC:=(cSeq Q41r1_0 Q41r1_1)
def Q41r2 : IC:=cReg Try.prog [xF 7 0 3,xL 8 1 7,xC 9 .neq 8 1] [2,3,4,9] [2,3,4]
def Q41r3_0 : IC:=cLe
def Q41r3_1 : IC:=cReg Try.prog [xA 10 8 2,xS 8 4 10] [4] [4]
def Q41r3 : IC:=(cSeq Q41r3_0 Q41r3_1)
def Q41c1a : IC:=(cSeq Q41r3 cRet)
def Q41c1 : IC:=cCond (.tmp 9) Q41c1a cSkip
def Q41r4 : IC:=cReg Try.prog [xF 11 7 2,⟨none,none,iStor 1 (.tmp 11) (.const (.bool true))⟩] [2,3,4] [2,3,4]
def Q41r5_0 : IC:=cLn Try.prog 2 12 15 68 8 (some (3,1,13,14))
def Q41r5_1 : IC:=cReg Try.prog [xO 16 15] [2,3,4,16] [2,3,4]
def Q41r5 : IC:=(cSeq Q41r5_0 Q41r5_1)
def Q41r6_0 : IC:=cLe
def Q41r6_1 : IC:=cReg Try.prog [xA 17 8 2,xS 8 4 17] [4] [4]
def Q41r6 : IC:=(cSeq Q41r6_0 Q41r6_1)
def Q41c2a : IC:=(cSeq Q41r6 cRet)
def Q41c2 : IC:=cCond (.tmp 16) Q41c2a cSkip
def Q41r7_0 : IC:=cXs Try.prog 2 18 21 69 8 (some (3,1,19,20))
def Q41r7_1 : IC:=cReg Try.prog [] [2,3,4] [2,3,4]
def Q41r7 : IC:=(cSeq Q41r7_0 Q41r7_1)
def Q41r8 : IC:=cRegD Try.prog [xF 22 5 2,xU 23 1 22,xA 24 6 3,xV1 25 48 24,xR 26 97 6 25,xW 27 97 6 80 23 26,xF 28 5 2,xS 1 28 27] [[],[0],[],[2],[3,2],[1,4,3,0,2],[0,1,2,3,4,5],[6,5,0,1,2,3,4]] [2,4] [2,4]
def Q41r9_0 : IC:=cXn Try.prog 2 29 30 70 8 none
def Q41r9_1 : IC:=cReg Try.prog [xS 8 4 30] [4] [4]
def Q41r9 : IC:=(cSeq Q41r9_0 Q41r9_1)
def recv_Hear : IC:=(cSeq Q41r0 (cSeq Q41r1 (cSeq (cSeq Q41r2 Q41c1) (cSeq Q41r4 (cSeq (cSeq Q41r5 Q41c2) (cSeq Q41r7 (cSeq Q41r8 (cSeq Q41r9 cRet))))))))
theorem told_recv_Hear {args r : List D} (hl : args.length = 2) (h : recv_Hear (start args) (fin [(4,some (8,true))] r)) : Told Try.prog 54 args r :=
 told_of follows Try.func54 rfl (an:=[([],[2,3,4],[2,3,4],[]),([(4003,[],[])],[2,3,4],[2,3,4],[]),([],[2,3,4,9],[2,3,4],[]),([(12000,[],[])],[4],[4],[]),([],[2,3,4],[2,3,4],[]),([(7004,[],[])],[2,3,4,16],[2,3,4],[]),([(12000,[],[])],[4],[4],[]),([(5005,[],[])],[2,3,4],[2,3,4],[]),([],[2,4],[2,4],[]),([(6002,[],[])],[4],[4],[])]) (by kernel_rfl) (by kernel_rfl) (by rw [hl]; decide +kernel) h
theorem takes_told (nx : Int) (early : List Int) (p0 p1 p2 : Int) (c5 c6 : D) (ow : Bool) (n : Int) (hl : early.length ≤ 1048576) :
  Told Try.prog 68 [aD [vI nx,sD 1 (early.map vI),vI p0,vI p1,vI p2,c5,c6,vB ow],vI n] [vB (!(early.contains n || (decide (n < nx) || (decide (nx < n) && decide (2 < early.length)))))]:=by
 refine told_recv_takes rfl ?_
 by_cases q1 : n < nx
 ·rw [decide_eq_true q1,Bool.true_or,Bool.or_true,Bool.not_true]
  refine wk @q1 ?_
  exact ValsLe.refl _
 ·rw [decide_eq_false q1,Bool.false_or]
  have q1' : ¬ n < nx:=q1
  refine wk @q1' ?_
  refine cg [[vB (early.contains n)]] @q1' ?_ ?_
  ·exact obl_cons (contains_told early n (by omega)) obl_nil
  cases hc : early.contains n with
  | true =>
   refine wk0 ?_
   exact ValsLe.refl _
  | false =>
   rw [Bool.false_or]
   cases he : (n == nx) with
   | true =>
    have : n = nx:=by simpa using he
    subst this
    rw [decide_eq_false (by omega),Bool.false_and]
    refine wk @he ?_
    exact ValsLe.refl _
   | false =>
    have hne : n ≠ nx:=by simpa using he
    rw [decide_eq_true (by omega : nx < n),Bool.true_and]
    by_cases h3 : 2 < early.length
    ·have h3' : ¬ ((early.length : Int) < 3):=by omega
     rw [decide_eq_true h3]
     refine wk (an3 @he @h3' @zmap) ?_
     exact ValsLe.refl _
    ·have h3' : ((early.length : Int) < 3):=by omega
     rw [decide_eq_false h3]
     refine wk (an3 @he @h3' @zmap) ?_
     exact ValsLe.refl _
def dueP (p0 p1 p2 : Int) (x : Ch) : Bool:=x.place == plc p0 p1 p2 x.stream
theorem due_told (nx p0 p1 p2 : Int) (c1 c5 c6 : D) (ow : Bool) (x : Ch) (hs : x.stream = 0 ∨ x.stream = 1 ∨ x.stream = 2) :
  Told Try.prog 83 [aD (encCh x),jD 0 0 [vI nx,c1,vI p0,vI p1,vI p2,c5,c6,vB ow]] [vB (dueP p0 p1 p2 x)]:=by
 refine told_recv_tellDueS1 rfl ?_
 simp only [encCh]
 unfold dueP
 rcases hs with h | h | h
 ·have e : plc p0 p1 p2 x.stream = p0:=by rw [h]; rfl
  rw [e]
  refine wk @h ?_
  exact ValsLe.refl _
 ·have e : plc p0 p1 p2 x.stream = p1:=by rw [h]; rfl
  rw [e]
  refine wk @h ?_
  exact ValsLe.refl _
 ·have e : plc p0 p1 p2 x.stream = p2:=by rw [h]; rfl
  rw [e]
  refine wk @h ?_
  exact ValsLe.refl _
theorem callDue : callableB Try.prog 83 = true:=by kernel_rfl
end Go.Proofs.Ytgaofjiidedcbad.ab
namespace Go.Proofs.Ytgaofjiidedcbad.mth
theorem eq_sorted : ∀ {l l' : List Int},l.Pairwise (· < ·) → l'.Pairwise (· < ·) → (∀ x,x ∈ l ↔ x ∈ l') → l = l'
 | [],[],_,_,_ => rfl
 | [],y :: r',_,_,h => absurd ((h y).2 (by simp)) (by simp)
 | x :: r,[],_,_,h => absurd ((h x).1 (by simp)) (by simp)
 | x :: r,y :: r',h1,h2,h => by
  rw [List.pairwise_cons] at h1 h2
  have hxy : x = y:=by
   have hx:=(h x).1 (by simp)
   have hy:=(h y).2 (by simp)
   rcases List.mem_cons.1 hx with e | e
   ·exact e
   ·rcases List.mem_cons.1 hy with e' | e'
    ·exact e'.symm
    ·have:=h1.1 y e'; have:=h2.1 x e; omega
  subst hxy
  congr 1
  refine eq_sorted h1.2 h2.2 (fun z => ?_)
  constructor
  ·intro hz
   have:=(h z).1 (by simp [hz])
   rcases List.mem_cons.1 this with e | e
   ·subst e; have:=h1.1 z hz; omega
   ·exact e
  ·intro hz
   have:=(h z).2 (by simp [hz])
   rcases List.mem_cons.1 this with e | e
   ·subst e; have:=h2.1 z hz; omega
   ·exact e
theorem rangeI_sorted (a b : Int) : (rangeI a b).Pairwise (· < ·):=by
 unfold rangeI
 rw [List.pairwise_map]
 exact List.pairwise_lt_range.imp (fun h => by omega)
theorem earlyR_sorted (S : List Int) (a : Int) : (earlyR S a).Pairwise (· < ·):=(rangeI_sorted a 40).filter _
theorem mem_earlyR {S : List Int} {a m : Int} : m ∈ earlyR S a ↔ (a ≤ m ∧ m < 40) ∧ m ∈ S:=by
 unfold earlyR
 rw [List.mem_filter,mem_rangeI,List.contains_iff_mem]
def layIn (l : List Int) (n : Int) : List Int:=l.take (l.countP (· < n)) ++ n :: l.drop (l.countP (· < n))
theorem layIn_cons {x n : Int} {r : List Int} (h : x < n) : layIn (x :: r) n = x :: layIn r n:=by
 unfold layIn
 rw [List.countP_cons_of_pos (by simpa using h)]
 rfl
theorem layIn_head {l : List Int} {n : Int} (h : ∀ x ∈ l,n < x) : layIn l n = n :: l:=by
 have : l.countP (· < n) = 0:=by
  rw [List.countP_eq_zero]
  intro x hx
  have:=h x hx
  simp; omega
 unfold layIn
 rw [this]; rfl
theorem layIn_ok {n : Int} : ∀ {l : List Int},l.Pairwise (· < ·) → n ∉ l → (layIn l n).Pairwise (· < ·) ∧ ∀ m,m ∈ layIn l n ↔ m = n ∨ m ∈ l
 | [],_,_ => by rw [layIn_head (fun x hx => by cases hx)]; simp
 | x :: r,h,hn => by
  rw [List.pairwise_cons] at h
  simp only [List.mem_cons,not_or] at hn
  by_cases hx : x < n
  ·rw [layIn_cons hx]
   obtain ⟨h1,h2⟩:=layIn_ok h.2 hn.2
   refine ⟨List.pairwise_cons.2 ⟨fun m hm => ?_,h1⟩,fun m => ?_⟩
   ·rcases (h2 m).1 hm with rfl | hm
    ·exact hx
    ·exact h.1 m hm
   ·rw [List.mem_cons,h2,List.mem_cons]
    constructor
    ·rintro (q | q | q)
     ·exact .inr (.inl q)
     ·exact .inl q
     ·exact .inr (.inr q)
    ·rintro (q | q | q)
     ·exact .inr (.inl q)
     ·exact .inl q
     ·exact .inr (.inr q)
  ·have hlt : ∀ y ∈ x :: r,n < y:=fun y hy => by
    rcases List.mem_cons.1 hy with rfl | hy
    ·have:=hn.1; omega
    ·have:=h.1 y hy; have:=hn.1; omega
   rw [layIn_head hlt]
   exact ⟨List.pairwise_cons.2 ⟨hlt,List.pairwise_cons.2 h⟩,fun m => by rw [List.mem_cons]⟩
def strip : List Int → Int → List Int × Int
 | [],nx => ([],nx)
 | x :: r,nx => if x = nx then strip r (nx + 1) else (x :: r,nx)
theorem strip_ok (S : List Int) : ∀ (L : List Int) (nx : Int) (f : Nat),L.Pairwise (· < ·) → (∀ x ∈ L,nx ≤ x ∧ x < 40) → (∀ m,nx ≤ m → (m ∈ S ↔ m ∈ L)) → nx ≤ 40 → 40 - nx < f →
  (strip L nx).2 = climb f S nx ∧ (strip L nx).1 = earlyR S (strip L nx).2
 | [],nx,f,h1,h2,h3,h4,h5 => by
  have hc : S.contains nx = false:=by
   cases h : S.contains nx with
   | false => rfl
   | true => exact absurd ((h3 nx (Int.le_refl _)).1 (List.contains_iff_mem.1 h)) (by simp)
  refine ⟨(climb_end hc f).symm,?_⟩
  refine eq_sorted List.Pairwise.nil (earlyR_sorted _ _) (fun x => ?_)
  show x ∈ [] ↔ x ∈ earlyR S nx
  rw [mem_earlyR]
  constructor
  ·intro h; cases h
  ·intro ⟨⟨q1,_⟩,q2⟩; exact (h3 x q1).1 q2
 | x :: r,nx,f,h1,h2,h3,h4,h5 => by
  rw [List.pairwise_cons] at h1
  by_cases hx : x = nx
  ·subst hx
   have e : strip (x :: r) x = strip r (x + 1):=by
    show (if x = x then _ else _) = _
    rw [if_pos rfl]
   rw [e]
   have hx40:=(h2 x (by simp)).2
   obtain ⟨g,rfl⟩ : ∃ g,f = g + 1:=⟨f - 1,by omega⟩
   have hin : S.contains x = true:=List.contains_iff_mem.2 ((h3 x (Int.le_refl _)).2 (by simp))
   rw [climb_eq hin]
   refine strip_ok S r (x + 1) g h1.2 (fun y hy => ⟨by have:=h1.1 y hy; omega,(h2 y (by simp [hy])).2⟩) (fun m hm => ?_) (by omega) (by omega)
   rw [h3 m (by omega),List.mem_cons]
   constructor
   ·rintro (q | q)
    ·omega
    ·exact q
   ·exact .inr
  ·have e : strip (x :: r) nx = (x :: r,nx):=by
    show (if x = nx then _ else _) = _
    rw [if_neg hx]
   rw [e]
   have hgt : ∀ y ∈ x :: r,nx < y:=fun y hy => by
    rcases List.mem_cons.1 hy with rfl | hy
    ·have:=(h2 y (by simp)).1; omega
    ·have:=h1.1 y hy; have:=(h2 x (by simp)).1; omega
   have hc : S.contains nx = false:=by
    cases h : S.contains nx with
    | false => rfl
    | true => have:=hgt nx ((h3 nx (Int.le_refl _)).1 (List.contains_iff_mem.1 h)); omega
   refine ⟨(climb_end hc f).symm,?_⟩
   refine eq_sorted (List.pairwise_cons.2 h1) (earlyR_sorted _ _) (fun y => ?_)
   show y ∈ x :: r ↔ y ∈ earlyR S nx
   rw [mem_earlyR]
   constructor
   ·intro hy; exact ⟨h2 y hy,(h3 y (h2 y hy).1).2 hy⟩
   ·intro ⟨⟨q1,_⟩,q2⟩; exact (h3 y q1).1 q2
theorem take_strip {r : Rv} (h : GoodR r) {n : Int} (hn : 0 ≤ n ∧ n < 40) (hs : seenR r n = false) :
  strip (layIn r.early n) r.next = (earlyR (n :: r.early) (climb 41 (n :: r.early) r.next),climb 41 (n :: r.early) r.next):=by
 have hse : r.early.Pairwise (· < ·):=by rw [h.e]; exact earlyR_sorted _ _
 unfold seenR at hs
 simp only [Bool.or_eq_false_iff,decide_eq_false_iff_not] at hs
 have hne : n ∉ r.early:=fun q => by
  have:=List.contains_iff_mem.2 q
  rw [this] at hs
  exact absurd hs.1 (by simp)
 obtain ⟨h1,h2⟩:=layIn_ok hse hne
 have h0:=h.n
 obtain ⟨q1,q2⟩:=strip_ok (n :: r.early) (layIn r.early n) r.next 41 h1 (fun x hx => by
  rcases (h2 x).1 hx with rfl | q
  ·omega
  ·have:=h.in40 x q; omega) (fun m hm => by rw [h2,List.mem_cons]) h0.2 (by omega)
 rw [← q1]
 exact Prod.ext q2 rfl
end Go.Proofs.Ytgaofjiidedcbad.mth
namespace Go.Proofs.Ytgaofjiidedcbad.ab
open Go Go.RowKit
open mth
theorem all2 {α : Type} {p : α → Prop} {a b : α} (ha : p a) (hb : p b) : ∀ x ∈ [a,b],p x:=by
 intro x hx
 simp only [List.mem_cons,List.not_mem_nil,or_false] at hx
 rcases hx with rfl | rfl
 ·exact ha
 ·exact hb
def rowsR2 (hold : List Ch) : List (Nat × Nat × Pay):=[(5,97,(6,some (encCl hold))),(6,28,(2,none))]
def cmSt (L : List Int) (nx p0 p1 p2 : Int) (hold : List Ch) (told : List Ms) (ow : Bool) : St :=
 ⟨[(2,pD 2 0),(4,pD 4 0)],[(2,[vI nx,sD 1 (L.map vI),vI p0,vI p1,vI p2,xD,sD 2 (encMl told),vB ow]),(4,[vI 0,vD (.slice none 0 0),vI 0,vI 0,vI 0,vD (.slice none 0 0),vD (.slice none 0 0),vB false])],[((2,some 5),(97,(6,some (encCl hold)))),((2,some 6),(28,(2,none)))]⟩
theorem came_toldX (early : List Int) (nx p0 p1 p2 : Int) (hold : List Ch) (told : List Ms) (ow : Bool) (n : Int) (hl : early.length ≤ 1000) (hs : early.Pairwise (· ≤ ·)) (hb : ∀ x ∈ layIn early n,0 ≤ x ∧ x < 40) (hnx : 0 ≤ nx ∧ nx ≤ 40) :
  ToldX Try.prog 69 [aD [vI nx,xD,vI p0,vI p1,vI p2,xD,sD 2 (encMl told),vB ow],vI n] (upR (rowsR early hold)) [aD [vI (strip (layIn early n) nx).2,sD 1 ((strip (layIn early n) nx).1.map vI),vI p0,vI p1,vI p2,xD,sD 2 (encMl told),vB ow]] (upR (rowsR2 hold)):=by
 refine toldX_recv_came rfl (by show [1,5,6].Nodup; decide) ⟨_,Le.refl _,?_⟩
 simp only [rowsR,flOf,List.map_cons,List.map_nil,startT]
 refine wk0 ?_
 refine ⟨2,_,_,_,early.map vI,.int .i64 n,_,rfl,rfl,(by decide : 1 < 8),rfl,rfl,rfl,bsearch_told early n (by omega) hs,rfl,?_⟩
 refine wk0 ?_
 refine ⟨2,_,_,_,early.map vI,.int .i64 ((early.countP (· < n) : Nat) : Int),.int .i64 n,_,rfl,rfl,(by decide : 1 < 8),rfl,rfl,rfl,rfl,insert_told early (early.countP (· < n)) n _ List.countP_le_length (by omega),?_⟩
 rw [show insI early (early.countP (· < n)) n = layIn early n from rfl]
 have hlay : (layIn early n).length ≤ 1001:=by
  have:=insI_len (l:=early) (i:=early.countP (· < n)) (x:=n) List.countP_le_length
  show (insI early (early.countP (· < n)) n).length ≤ 1001
  omega
 generalize layIn early n = E at *
 generalize hS : strip E nx = SE at *
 refine wk0 ?_
 refine aw_loop (fun m st => ∃ L nx',strip L nx' = SE ∧ m = L.length ∧ (∀ x ∈ L,0 ≤ x ∧ x < 40) ∧ (0 ≤ nx' ∧ nx' ≤ 40) ∧ L.length ≤ 1001 ∧ st = cmSt L nx' p0 p1 p2 hold told ow) E.length (cmSt E nx p0 p1 p2 hold told ow) (Le.keep (lv:=[2,4]) (lb:=[2,4]) (by simp only [ev0,ev1,ev2,look,lookF,cellsFrom,offT,offP,List.tail_nil,List.length_nil,Int.cast_ofNat_Int,Nat.reduceEqDiff,Nat.reduceAdd,Nat.reduceMul,Nat.reduceLeDiff,Nat.reduceLT,↓reduceIte,reduceCtorEq,Int.reduceBEq,Int.reduceBNe,Int.reduceLT,Int.reduceLE,Int.reduceToNat]; rfl)) ⟨E,nx,hS,rfl,hb,hnx,hlay,rfl⟩ ?_
 rintro m st ⟨L,nx',hSL,hm,hbL,hnx',hLl,rfl⟩
 have hend : SE = (L,nx') → ∀ st,st = cmSt L nx' p0 p1 p2 hold told ow → cSeq Q45r6 cRet st (fin1 (cellFin 4 8 [vI SE.2,sD 1 (SE.1.map vI),vI p0,vI p1,vI p2,xD,sD 2 (encMl told),vB ow] (rowsR2 hold))):=by
  rintro rfl st rfl
  simp only [cmSt]
  refine aw_seq ?_
  refine aw_seq ?_
  refine ⟨2,4,_,_,rowsR2 hold,rfl,by decide,rfl,rfl,⟨rfl,rfl,rfl,rfl,row_refl _,all2 ⟨(by decide : 5 < 8),rfl⟩ ⟨(by decide : 6 < 8),rfl⟩⟩,by show [5,6].Nodup; decide,?_⟩
  simp only [flOf,rowsR2,List.map_cons,List.map_nil,List.cons_append,List.nil_append]
  refine wk0 ?_
  exact fin1_ret ⟨4,_,rfl,rfl,rfl,rfl,row_refl _,all2 ⟨(by decide : 5 < 8),rfl⟩ ⟨(by decide : 6 < 8),rfl⟩⟩
 cases L with
 | nil =>
  have hend:=hend (by rw [← hSL]; rfl) _ rfl
  generalize (fun m st => ∃ L nx',strip L nx' = SE ∧ m = L.length ∧ (∀ x ∈ L,0 ≤ x ∧ x < 40) ∧ (0 ≤ nx' ∧ nx' ≤ 40) ∧ L.length ≤ 1001 ∧ st = cmSt L nx' p0 p1 p2 hold told ow) = J at *
  simp only [cmSt,List.map_nil] at hend ⊢
  refine wk0 ?_
  exact hend
 | cons x r =>
  by_cases hx : x = nx'
  ·have hb1 : (x == nx') = true:=by simpa using hx
   have g4 : inR .i64 (nx' + 1) = true:=inR_of (by omega)
   have g5 : (0 : Int) < ((r.length + 1 : Nat) : Int):=by omega
   have g6 : (0 : Int) ≤ 1 ∧ (1 : Int) ≤ ((r.length + 1 : Nat) : Int) ∧ ((r.length + 1 : Nat) : Int) ≤ ((r.length + 1 : Nat) : Int):=by omega
   have g7 : (r.map vI).take r.length = r.map vI:=List.take_of_length_le (by simp)
   have hnxt : Next (fun m st => ∃ L nx',strip L nx' = SE ∧ m = L.length ∧ (∀ x ∈ L,0 ≤ x ∧ x < 40) ∧ (0 ≤ nx' ∧ nx' ≤ 40) ∧ L.length ≤ 1001 ∧ st = cmSt L nx' p0 p1 p2 hold told ow) m (cmSt r (nx' + 1) p0 p1 p2 hold told ow):=by
    refine ⟨r.length,_,by rw [hm]; simp,Le.refl _,r,nx' + 1,?_,rfl,fun y hy => hbL y (by simp [hy]),?_,?_,rfl⟩
    ·rw [← hSL]
     show _ = (if x = nx' then strip r (nx' + 1) else (x :: r,nx'))
     rw [if_pos hx]
    ·have:=hbL x (by simp); omega
    ·simp only [List.length_cons] at hLl; omega
   generalize (fun m st => ∃ L nx',strip L nx' = SE ∧ m = L.length ∧ (∀ x ∈ L,0 ≤ x ∧ x < 40) ∧ (0 ≤ nx' ∧ nx' ≤ 40) ∧ L.length ≤ 1001 ∧ st = cmSt L nx' p0 p1 p2 hold told ow) = J at *
   simp only [cmSt,List.map_cons] at hnxt ⊢
   refine wk (an7 @hb1 @g4 @g5 @g6 @g7 @zcons @zmap) ?_
   exact hnxt
  ·have hb1 : (x == nx') = false:=by simpa using hx
   have g5 : (0 : Int) < ((r.length + 1 : Nat) : Int):=by omega
   have g6 : (0 : Int) ≤ 1 ∧ (1 : Int) ≤ ((r.length + 1 : Nat) : Int) ∧ ((r.length + 1 : Nat) : Int) ≤ ((r.length + 1 : Nat) : Int):=by omega
   have g7 : (r.map vI).take r.length = r.map vI:=List.take_of_length_le (by simp)
   have hend:=hend (by
    rw [← hSL]
    show (if x = nx' then strip r (nx' + 1) else (x :: r,nx')) = _
    rw [if_neg hx]) _ rfl
   generalize (fun m st => ∃ L nx',strip L nx' = SE ∧ m = L.length ∧ (∀ x ∈ L,0 ≤ x ∧ x < 40) ∧ (0 ≤ nx' ∧ nx' ≤ 40) ∧ L.length ≤ 1001 ∧ st = cmSt L nx' p0 p1 p2 hold told ow) = J at *
   simp only [cmSt,List.map_cons] at hend ⊢
   refine wk (an4 @hb1 @g5 @zcons @zmap) ?_
   exact hend
end Go.Proofs.Ytgaofjiidedcbad.ab
