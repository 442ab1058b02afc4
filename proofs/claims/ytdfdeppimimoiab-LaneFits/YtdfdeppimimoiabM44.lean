import Derived.Test.YtdfdeppimimoiabM35
import Derived.Test.YtdfdeppimimoiabIrLandSend
import Derived.Test.YtdfdeppimimoiabM43
import Derived.Test.YtdfdeppimimoiabM19
import Derived.Test.YtdfdeppimimoiabAbsHandX
import Derived.Test.YtdfdeppimimoiabProg
import Derived.Test.YtdfdeppimimoiabM36
import Derived.Test.YtdfdeppimimoiabM41
namespace Go.Proofs.Ytdfdeppimimoiab.ab
set_option linter.unusedVariables false
set_option linter.unusedSimpArgs false
open Go Go.RowKit
open mth
end Go.Proofs.Ytdfdeppimimoiab.ab
namespace Go.Proofs.Ytdfdeppimimoiab.ab
set_option linter.unusedSimpArgs false
set_option linter.unusedVariables false
open Go Go.RowKit
open mth
def CSayS (f : Nat) : Prop:=∀ s,GoodS s → Told Try.prog f [aD (encSd s)] [aD (encSd (sayL s).1),aD (encCh (sayL s).2.1),vB (sayL s).2.2]
def CHearS (f : Nat) : Prop:=∀ s c,GoodS s → wrongL c = 0 → Told Try.prog f [aD (encSd s),aD (encCh c)] [aD (encSd (hearS s c))]
theorem early_right {c : Ch} (h : wrongL c = 0) : c.early.length ≤ 3:=by
 unfold wrongL at h
 split at h
 ·cases h
 ·split at h
  ·cases h
  ·split at h
   ·split at h
    ·cases h
    ·split at h
     ·cases h
     ·rename_i he; omega
   ·split at h
    ·cases h
    ·split at h
     ·cases h
     ·rename_i he; omega
theorem say_early {s : Sd} (h : GoodS s) : (sayL s).2.1.early.length ≤ 3:=by
 unfold sayL
 split
 ·split
  ·simp [zeroC]
  ·rename_i hf
   have hk:=againK_lt h (by omega)
   have hlt : (againK s).toNat < s.flight.length:=by omega
   simp only [List.getD_eq_getElem?_getD,List.getElem?_eq_getElem hlt,Option.getD_some]
   rw [h.early _ (List.getElem_mem hlt)]
   simp
 ·split
  ·rename_i hf
   have hk:=againK_lt h (by omega)
   have hlt : (againK s).toNat < s.flight.length:=by omega
   simp only [List.getD_eq_getElem?_getD,List.getElem?_eq_getElem hlt,Option.getD_some]
   rw [h.early _ (List.getElem_mem hlt)]
   simp
  ·simp [newC]
end Go.Proofs.Ytdfdeppimimoiab.ab
namespace Go.Proofs.Ytdfdeppimimoiab.ab
set_option linter.unusedVariables false
set_option linter.unusedSimpArgs false
open Go Go.RowKit
open mth
theorem good_small {s : Sd} (h : GoodS s) : SmallS s:=by
 refine ⟨by have:=h.q; omega,fun m hm => ?_,by have:=h.f; omega,fun c hc => ⟨?_,?_⟩⟩
 ·have:=h.m m hm
  unfold wrongMsgL at this
  split at this
  ·cases this
  ·split at this
   ·cases this
   ·omega
 ·have:=(h.c c hc).2.1
  unfold wrongL at this
  split at this
  ·cases this
  ·split at this
   ·cases this
   ·split at this
    ·split at this
     ·cases this
     ·split at this
      ·cases this
      ·unfold wrongMsgL at this
       split at this
       ·cases this
       ·split at this
        ·cases this
        ·omega
    ·have:=(h.c c hc).1; omega
 ·rw [h.early c hc]; simp
end Go.Proofs.Ytdfdeppimimoiab.ab
namespace Go.Proofs.Ytdfdeppimimoiab.ab
set_option linter.unusedSimpArgs false
set_option linter.unusedVariables false
set_option maxRecDepth 100000
open Go Go.RowKit
def recv_Own_r0 : IC:=cReg Try.prog [
  ⟨some 1,none,iBox 1 (.tmp 0)⟩,
  ⟨some 2,none,iAlo 2 [vD (.int .i64 0),vD (.slice none 0 0),vD (.int .i64 0),vD (.int .i64 0),vD (.int .i64 0),vD (.slice none 0 0),vD (.slice none 0 0),vD (.bool false)]⟩] [1,2] [1,2]
def recv_Own_r1 : IC:=cReg Try.prog [
  ⟨some 3,none,iFad 3 1 (.tmp 1)⟩,
  ⟨some 4,none,iLoad 4 1 false (.tmp 3) false⟩,
  ⟨some 5,none,iApp 5 3 1 8 (.const (.slice none 0 0)) (.tmp 4)⟩,
  ⟨some 6,none,iFad 6 1 (.tmp 1)⟩,
  ⟨none,none,iStor 1 (.tmp 6) (.tmp 5)⟩] [1,2] [1,2]
def recv_Own_r2 : IC:=cReg Try.prog [
  ⟨some 7,none,iFad 7 5 (.tmp 1)⟩,
  ⟨some 8,none,iLoad 8 1 false (.tmp 7) false⟩,
  ⟨some 9,none,iCall 9 59 [(.tmp 8),(.func 54)]⟩,
  ⟨some 10,none,iFad 10 5 (.tmp 1)⟩,
  ⟨none,none,iStor 1 (.tmp 10) (.tmp 9)⟩] [1,2] [1,2]
def recv_Own_r3 : IC:=cReg Try.prog [
  ⟨some 11,none,iFad 11 6 (.tmp 1)⟩,
  ⟨some 12,none,iLoad 12 1 false (.tmp 11) false⟩,
  ⟨some 13,none,iCall 13 60 [(.tmp 12),(.func 61)]⟩,
  ⟨some 14,none,iFad 14 6 (.tmp 1)⟩,
  ⟨none,none,iStor 1 (.tmp 14) (.tmp 13)⟩] [1,2] [1,2]
def recv_Own_r4 : IC:=cReg Try.prog [
  ⟨some 15,none,iLoad 15 8 true (.tmp 1) false⟩,
  ⟨none,none,iStor 8 (.tmp 2) (.tmp 15)⟩] [2] [2]
def recv_Own : IC:=(cSeq recv_Own_r0 (cSeq recv_Own_r1 (cSeq recv_Own_r2 (cSeq recv_Own_r3 (cSeq recv_Own_r4 cRet)))))
theorem told_recv_Own {args r : List D} (hl : args.length = 1) (h : recv_Own (start args) (fin [(2,some (8,true))] r)) : Told Try.prog 24 args r :=
 told_of follows Try.func24 rfl (an:=[([],[1,2],[1,2],[]),([],[1,2],[1,2],[]),([],[1,2],[1,2],[]),([],[1,2],[1,2],[]),([],[2],[2],[])]) (by kernel_rfl) (by kernel_rfl) (by rw [hl]; decide +kernel) h
def recv_OwnX_r0 : IC:=cReg Try.prog [
  ⟨some 1,none,iBox 1 (.tmp 0)⟩,
  ⟨some 2,none,iAlo 2 [vD (.int .i64 0),vD (.slice none 0 0),vD (.int .i64 0),vD (.int .i64 0),vD (.int .i64 0),vD (.slice none 0 0),vD (.slice none 0 0),vD (.bool false)]⟩] [1,2] [1,2]
def recv_OwnX_r1 : IC:=cReg Try.prog [
  ⟨some 3,none,iFad 3 1 (.tmp 1)⟩,
  ⟨some 4,none,iLoad 4 1 false (.tmp 3) false⟩,
  ⟨some 5,none,iAppH 5 3 1 8 (.const (.slice none 0 0)) (.tmp 4)⟩,
  ⟨some 6,none,iFad 6 1 (.tmp 1)⟩,
  ⟨none,none,iStor 1 (.tmp 6) (.tmp 5)⟩] [1,2] [1,2]
def recv_OwnX_r2 : IC:=cReg Try.prog [
  ⟨some 7,none,iFad 7 5 (.tmp 1)⟩,
  ⟨some 8,none,iLoad 8 1 false (.tmp 7) false⟩,
  ⟨some 9,none,iCall 9 59 [(.tmp 8),(.func 54)]⟩,
  ⟨some 10,none,iFad 10 5 (.tmp 1)⟩,
  ⟨none,none,iStor 1 (.tmp 10) (.tmp 9)⟩] [1,2] [1,2]
def recv_OwnX_r3 : IC:=cReg Try.prog [
  ⟨some 11,none,iFad 11 6 (.tmp 1)⟩,
  ⟨some 12,none,iLoad 12 1 false (.tmp 11) false⟩,
  ⟨some 13,none,iCall 13 60 [(.tmp 12),(.func 61)]⟩,
  ⟨some 14,none,iFad 14 6 (.tmp 1)⟩,
  ⟨none,none,iStor 1 (.tmp 14) (.tmp 13)⟩] [1,2] [1,2]
def recv_OwnX_r4_0 : IC:=cCpX 1 2 15 8
def recv_OwnX_r4_1 : IC:=cReg Try.prog [] [2] [2]
def recv_OwnX_r4 : IC:=(cSeq recv_OwnX_r4_0 recv_OwnX_r4_1)
def recv_OwnX : IC:=(cSeq recv_OwnX_r0 (cSeq recv_OwnX_r1 (cSeq recv_OwnX_r2 (cSeq recv_OwnX_r3 (cSeq recv_OwnX_r4 cRet)))))
theorem toldX_recv_OwnX {args rs : List D} {ro : List (Nat × Nat × Pay)} (hl : args.length = 1) (h : recv_OwnX (start args) (fin1 (cellFin 2 8 rs ro))) : ToldX Try.prog 24 args [] [aD rs] (upR ro) :=
 toldX_out follows Try.func24 rfl (an:=[([],[1,2],[1,2],[]),([],[1,2],[1,2],[1000005]),([],[1,2],[1,2],[]),([],[1,2],[1,2],[]),([(8002,[],[])],[2],[2],[])]) (by kernel_rfl) rfl (by kernel_rfl) (by kernel_rfl) (by rw [hl]; decide +kernel) h
end Go.Proofs.Ytdfdeppimimoiab.ab
namespace Go.Proofs.Ytdfdeppimimoiab.ab
set_option linter.unusedVariables false
set_option linter.unusedSimpArgs false
open Go Go.RowKit
open mth
structure SmallR (r : Rv) : Prop where
 e : r.early.length ≤ 1048576
 h : r.hold.length ≤ 1048576
 c : ∀ c ∈ r.hold,c.data.length ≤ 1048576 ∧ c.early.length ≤ 1048576
 t : r.told.length ≤ 1048576
 m : ∀ m ∈ r.told,m.data.length ≤ 1048576
theorem wrongMsg_small {s : Int} {b : List UInt8} (h : wrongMsgL s b = 0) : b.length ≤ 6:=by
 unfold wrongMsgL at h
 split at h
 ·cases h
 ·split at h
  ·cases h
  ·omega
theorem good_smallR {r : Rv} (h : GoodR r) : SmallR r:=by
 have hs:=good_sizes h
 refine ⟨by omega,by omega,fun c hc => ?_,by omega,fun m hm => ?_⟩
 ·have:=h.h c hc
  have h2:=wrong_one this.1 this.2
  rw [h2.2.2.1]
  exact ⟨by have:=wrongMsg_small h2.2.2.2; omega,by simp⟩
 ·have:=wrongMsg_small (h.m m hm); omega
set_option maxHeartbeats 4000000 in
theorem ownR_told (r : Rv) (h : SmallR r) : Told Try.prog 24 [aD (encRv r)] [aD (encRv r)]:=by
 refine told_recv_Own rfl ?_
 simp only [encRv]
 have h1 : r.early.length * 8 ≤ 140737488355328:=by have:=h.e; omega
 refine wk (an2 @h1 @zmap) ?_
 refine cg0 [[sD 6 (encCl r.hold)]] ?_ ?_
 ·exact obl_cons (ownC_told r.hold h.h h.c) obl_nil
 refine wk0 ?_
 refine cg0 [[sD 2 (encMl r.told)]] ?_ ?_
 ·exact obl_cons (ownM_told r.told h.t h.m) obl_nil
 refine wk0 ?_
 exact ValsLe.refl _
theorem all3 {α : Type} {p : α → Prop} {a b c : α} (ha : p a) (hb : p b) (hc : p c) : ∀ x ∈ [a,b,c],p x:=by
 intro x hx
 simp only [List.mem_cons,List.not_mem_nil,or_false] at hx
 rcases hx with rfl | rfl | rfl
 ·exact ha
 ·exact hb
 ·exact hc
def rowsR (early : List Int) (hold : List Ch) : List (Nat × Nat × Pay):=[(1,3,(1,some (early.map vI))),(5,32,(6,some (encCl hold))),(6,53,(2,none))]
def ownCells (r : Rv) : List D:=[vI r.next,xD,vI r.p0,vI r.p1,vI r.p2,xD,sD 2 (encMl r.told),vB r.owes]
set_option maxHeartbeats 4000000 in
theorem ownR_toldX (r : Rv) (h : SmallR r) : ToldX Try.prog 24 [aD (encRv r)] [] [aD (ownCells r)] (upR (rowsR r.early r.hold)):=by
 refine toldX_recv_OwnX rfl ?_
 simp only [encRv,ownCells,rowsR]
 have h1 : r.early.length * 8 ≤ 140737488355328:=by have:=h.e; omega
 refine wk (an2 @h1 @zmap) ?_
 refine cg0 [[mO xD 32 6 (aD (encCl r.hold))]] ?_ ?_
 ·exact obl_out (ownC_toldH r.hold h.h h.c) obl_nil
 refine wk0 ?_
 refine cg0 [[mO (sD 2 (encMl r.told)) 53 2 xD]] ?_ ?_
 ·exact obl_out (ownM_toldO r.told h.t h.m) obl_nil
 refine wk0 ?_
 refine ⟨1,2,_,_,rowsR r.early r.hold,rfl,by decide,rfl,rfl,⟨rfl,rfl,rfl,rfl,row_refl _,all3 ⟨(by decide : 1 < 8),rfl⟩ ⟨(by decide : 5 < 8),rfl⟩ ⟨(by decide : 6 < 8),rfl⟩⟩,by show [1,5,6].Nodup; decide,?_⟩
 simp only [flOf,rowsR,List.map_cons,List.map_nil,List.cons_append,List.nil_append]
 refine wk0 ?_
 refine fin1_ret ⟨2,_,rfl,rfl,rfl,rfl,row_refl _,all3 ⟨(by decide : 1 < 8),rfl⟩ ⟨(by decide : 5 < 8),rfl⟩ ⟨(by decide : 6 < 8),rfl⟩⟩
end Go.Proofs.Ytdfdeppimimoiab.ab
namespace Go.Proofs.Ytdfdeppimimoiab.ab
set_option linter.unusedVariables false
set_option linter.unusedSimpArgs false
open Go Go.RowKit
open mth
set_option maxHeartbeats 1000000 in
theorem cloneL_nil : Told Try.prog 68 [vD (.slice none 0 0)] [sD 1 []]:=by
 refine told_bytes_CloneL rfl ?_
 refine wk0 ?_
 repeat' (first | exact vals_nil | exact row_nil | exact es_nil | exact CVLe.refl _ | exact LfLe.refl _ | exact LfLe.nil _ | exact EsLe.refl _ | refine vals_cons ?_ ?_ | refine row_cons ?_ ?_ | refine es_cons ?_ ?_ | refine EsLe.app ?_ ?_ | refine CVLe.row ?_ | refine CVLe.leafV ?_ | refine CVLe.leafS ?_ | refine LfLe.s ?_)
set_option maxHeartbeats 1000000 in
theorem cloneL_n (a : List D) (ha : a.length ≤ 140737488355328) : Told Try.prog 68 [nD 1 a] [sD 1 a]:=by
 refine told_bytes_CloneL rfl ?_
 have h1 : a.length * 1 ≤ 140737488355328:=by omega
 have h2 : (0 + a.length) * 1 ≤ 140737488355328:=by omega
 refine wk (an2 @h1 @h2) ?_
 repeat' (first | exact vals_nil | exact row_nil | exact es_nil | exact CVLe.refl _ | exact LfLe.refl _ | exact LfLe.nil _ | exact EsLe.refl _ | refine vals_cons ?_ ?_ | refine row_cons ?_ ?_ | refine es_cons ?_ ?_ | refine EsLe.app ?_ ?_ | refine CVLe.row ?_ | refine CVLe.leafV ?_ | refine CVLe.leafS ?_ | refine LfLe.s ?_)
theorem cloneL_told (a : List UInt8) (ha : a.length ≤ 140737488355328) : Told Try.prog 68 [sD 1 (a.map encB)] [sD 1 (a.map encB)]:=by
 cases a with
 | nil => exact Told.split (pre:=[]) (post:=[]) cloneL_nil (cloneL_n [] (by simp))
 | cons x r => exact (cloneL_n ((x :: r).map encB) (by simpa using ha)).less ⟨CVLe.leafS (LfLe.sn 1 _ _),trivial⟩ (ValsLe.refl _)
theorem pk_snoc (l : List (List UInt8)) (x : List UInt8) : encPk (l ++ [x]) = encPk l ++ [sD 1 (x.map encB)]:=by simp [encPk]
def opSt (l : List (List UInt8)) (k : Nat) : St:=⟨[(1,vD (.func (.func 68) #[] #[])),(5,sD 1 (encPk (l.take k))),(8,sD 1 (encPk l)),(9,vI l.length),(10,vI k)],[],[((5,none),(30,1,none))]⟩
set_option maxHeartbeats 4000000 in
theorem ownP_told (l : List (List UInt8)) (hl : l.length ≤ 1048576) (hm : ∀ m ∈ l,m.length ≤ 1048576) : Told Try.prog 67 [sD 1 (encPk l),vD (.func (.func 68) #[] #[])] [sD 1 (encPk l)]:=by
 refine told_list_OwnP rfl ?_
 refine wk @len_pk ?_
 refine aw_loop (fun n st => ∃ k,k ≤ l.length ∧ n = l.length - k ∧ st = opSt l k) l.length (opSt l 0) ((Le.nilS 5 30 1 rfl).trans (Le.keep (lv:=[1,5,8,9,10]) (lb:=[]) (by simp only [ev0,ev1,ev2,look,lookF,cellsFrom,offT,offP,List.tail_nil,List.length_nil,Int.cast_ofNat_Int,Nat.reduceEqDiff,Nat.reduceAdd,Nat.reduceMul,Nat.reduceLeDiff,Nat.reduceLT,↓reduceIte,reduceCtorEq,Int.reduceBEq,Int.reduceBNe,Int.reduceLT,Int.reduceLE,Int.reduceToNat]; rfl))) ⟨0,by omega,by omega,rfl⟩ ?_
 rintro n st ⟨k,hk',hn,rfl⟩
 by_cases hlt : k < l.length
 ·obtain ⟨x,hx⟩ : ∃ m,l[k]? = some m:=⟨l[k],List.getElem?_eq_getElem hlt⟩
  have g1 : (k : Int) < (l.length : Int):=by omega
  have g2 : (0 : Int) ≤ (k : Int):=by omega
  have g3:=at_pk hx
  have g4 : inR .i64 ((k : Int) + 1) = true:=inR_of (by omega)
  have hlen : (l.take k).length = k:=by rw [List.length_take]; omega
  have hb1 : ((l.take k).length + 1) * 24 ≤ 140737488355328:=by omega
  have hnx : Next (fun n st => ∃ k,k ≤ l.length ∧ n = l.length - k ∧ st = opSt l k) n
    ⟨[(1,vD (.func (.func 68) #[] #[])),(5,sD 1 (encPk (l.take k) ++ [sD 1 (x.map encB)])),(8,sD 1 (encPk l)),(9,vI l.length),(10,vI ((k : Int) + 1))],[],[((5,none),(30,1,none))]⟩:=by
   rw [← pk_snoc,show l.take k ++ [x] = l.take (k + 1) by rw [List.take_add_one,hx]; rfl]
   exact ⟨l.length - (k + 1),_,by omega,Le.refl _,k + 1,by omega,rfl,by simp only [opSt,Int.natCast_add,Int.cast_ofNat_Int]⟩
  generalize (fun n st => ∃ k,k ≤ l.length ∧ n = l.length - k ∧ st = opSt l k) = J at *
  simp only [opSt]
  generalize l.take k = G at *
  have callP : callableB Try.prog 68 = true:=by kernel_rfl
  refine wk (an7 @g1 @g2 @g3 @callP @hb1 @len_pk @Int.toNat_natCast) ?_
  refine cg [[sD 1 (x.map encB)]] (an3 @callP @hb1 @len_pk) ?_ ?_
  ·exact obl_cons (cloneL_told x (by have:=hm x (List.mem_of_getElem? hx); omega)) obl_nil
  refine wk @g4 ?_
  exact hnx
 ·have hk'' : k = l.length:=by omega
  subst hk''
  have g1 : ¬ (l.length : Int) < (l.length : Int):=by omega
  simp only [opSt,List.take_length]
  refine wk @g1 ?_
  exact ValsLe.refl _
set_option maxHeartbeats 4000000 in
theorem landL_own : CLOwn 33:=by
 intro l hg
 refine told_lane_Own rfl ?_
 have h1:=ownS_told l.s (good_small hg.s)
 have h2:=ownR_told l.r (good_smallR hg.r)
 have h3:=ownP_told l.there (by have:=hg.t; omega) (fun m hm => by have:=hg.tn m hm; omega)
 have h4:=ownP_told l.back (by have:=hg.b; omega) (fun m hm => by have:=hg.bn m hm; omega)
 simp only [encLn,encSd,encRv] at h1 h2 ⊢
 refine wk0 ?_
 refine cd [[aD (encSd l.s)],[aD (encRv l.r)],[sD 1 (encPk l.there)],[sD 1 (encPk l.back)]] (an2 @encSd.eq_1 @encRv.eq_1) ?_ ?_
 ·exact obl_cons h1 (obl_cons h2 (obl_cons h3 (obl_cons h4 obl_nil)))
 refine wk0 ?_
 exact ValsLe.refl _
end Go.Proofs.Ytdfdeppimimoiab.ab
