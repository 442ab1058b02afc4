import Derived.Test.YtgaofjiidedcbacGreatIrLandSend
import Derived.Test.YtgaofjiidedcbacGreatM23
import Derived.Test.YtgaofjiidedcbacGreatM37
import Derived.Test.YtgaofjiidedcbacGreatM39
import Derived.Test.YtgaofjiidedcbacGreatM20
import Derived.Test.YtgaofjiidedcbacGreatM36
import Derived.Test.YtgaofjiidedcbacGreatProg
import Derived.Test.YtgaofjiidedcbacGreatM32
import Derived.Test.YtgaofjiidedcbacGreatM41
import Derived.Test.YtgaofjiidedcbacGreatM22
import Derived.Deep.RegionHeld
import Derived.Below
import Derived.WalkKit
set_option maxHeartbeats 8000000
set_option linter.unusedVariables false
set_option linter.unusedSimpArgs false
namespace Go.Proofs.YtgaofjiidedcbacGreat.ab
open Go Go.RowKit
open mth
theorem good_small {s : Sd} (h : GoodS s) : SmallS s:=by
 refine ⟨by have:=h.q; omega,fun m hm => ?_,by have:=h.f; omega,fun c hc => ⟨?_,?_⟩⟩
 ·have:=h.m m hm
  unfold wrongMsgL at this
  split at this
  ·cases this
  ·split at this
   ·cases this
   ·omega
 ·have:=(h.c c hc).2.1
  unfold wrongL at this
  split at this
  ·cases this
  ·split at this
   ·cases this
   ·split at this
    ·split at this
     ·cases this
     ·split at this
      ·cases this
      ·unfold wrongMsgL at this
       split at this
       ·cases this
       ·split at this
        ·cases this
        ·omega
    ·have:=(h.c c hc).1; omega
 ·rw [h.early c hc]; simp
theorem wrongPut_told (s : Sd) (m : Ms) (hn : 0 ≤ s.next ∧ s.next ≤ 40) (hq : s.queue.length ≤ 1048576) : Told Tryz.prog 74 [aD (encSd s),aD (encMs m)] [vI (putE s m)]:=by
 refine told_send_wrongPut rfl ?_
 simp only [encMs,encSd]
 unfold putE
 refine wk0 ?_
 refine cg0 [[vI (wrongMsgL m.stream m.data)]] ?_ ?_
 ·exact obl_cons (lwrongMsg_told m) obl_nil
 by_cases h0 : wrongMsgL m.stream m.data = 0
 ·have h0' : (wrongMsgL m.stream m.data != 0) = false:=by simpa using h0
  rw [if_neg (by simpa using h0)]
  by_cases h5 : 5 < s.queue.length
  ·have h5' : 6 ≤ (s.queue.length : Int):=by omega
   rw [if_pos h5]
   refine wk (an3 @h0' @h5' @len_ml) ?_
   exact ValsLe.refl _
  ·have h5' : ¬ 6 ≤ (s.queue.length : Int):=by omega
   have hr : inR .i64 (s.next + (s.queue.length : Int)) = true:=inR_of (by omega)
   rw [if_neg h5]
   by_cases h39 : 39 < s.next + s.queue.length
   ·have h39' : 40 ≤ s.next + (s.queue.length : Int):=by omega
    rw [if_pos h39]
    refine wk (an5 @h0' @h5' @h39' @hr @len_ml) ?_
    exact ValsLe.refl _
   ·have h39' : ¬ 40 ≤ s.next + (s.queue.length : Int):=by omega
    rw [if_neg h39]
    refine wk (an5 @h0' @h5' @h39' @hr @len_ml) ?_
    exact ValsLe.refl _
 ·have h0' : (wrongMsgL m.stream m.data != 0) = true:=by simpa using h0
  rw [if_pos h0]
  refine wk @h0' ?_
  exact ValsLe.refl _
theorem lput_told (s : Sd) (m : Ms) (h : GoodS s) : Told Tryz.prog 44 [aD (encSd s),aD (encMs m)] [aD (encSd (putS s m)),vI (putE s m)]:=by
 refine told_send_Put rfl ?_
 obtain ⟨e,he⟩ : ∃ e,e = putE s m:=⟨_,rfl⟩
 obtain ⟨t,ht⟩ : ∃ t,t = putS s m:=⟨_,rfl⟩
 have hown:=ownS_toldQ s (good_small h)
 have hwp:=wrongPut_told s m (by have:=h.n; omega) (by have:=h.q; omega)
 rw [← he,← ht]
 rw [← he] at hwp
 simp only [encMs,encSd] at hwp hown ⊢
 refine wk0 ?_
 refine ⟨2,_,_,_,0,_,_,rfl,rfl,rfl,rfl,row_refl _,hown,rfl,?_⟩
 refine wk0 ?_
 refine cg0 [[vI e]] ?_ ?_
 ·exact obl_cons hwp obl_nil
 by_cases h0 : e = 0
 ·have h0' : (e != 0) = false:=by simpa using h0
  have hm : wrongMsgL m.stream m.data = 0:=by
   rw [he] at h0
   unfold putE at h0
   split at h0
   ·rename_i q; exact absurd h0 q
   ·rename_i q; simpa using q
  have hd : m.data.length ≤ 1048576:=by
   unfold wrongMsgL at hm
   split at hm
   ·cases hm
   ·split at hm
    ·cases hm
    ·omega
  have : t = { s with queue:=s.queue ++ [m] }:=by rw [ht,putS,← he,if_pos h0]
  subst this
  have hq:=h.q
  have hb2 : (s.queue.length + 1) * 32 ≤ 140737488355328:=by omega
  subst h0
  simp only [ml_snoc]
  refine wk (an3 @h0' @hb2 @len_ml) ?_
  refine cd [[aD [vI m.stream,sD 1 (m.data.map encB)]]] (an2 @hb2 @len_ml) ?_ ?_
  ·exact obl_cons (ownMsg_told m hd) obl_nil
  refine wk0 ?_
  exact ValsLe.refl _
 ·have h0' : (e != 0) = true:=by simpa using h0
  have : t = s:=by rw [ht,putS,← he,if_neg h0]
  subst this
  refine wk @h0' ?_
  exact ValsLe.refl _
set_option maxRecDepth 100000
def Q67r0 : IC:=cReg Tryz.prog [xX 1 0,⟨some 2,none,iAlo 2 [zI,zS,zI,zI,zI,zS,zS,zF]⟩] [1,2] [1,2]
def Q67r1 : IC:=cReg Tryz.prog [xF 3 1 1,xL 4 1 3,⟨some 5,none,iApp 5 3 1 8 (.const (.slice none 0 0)) (.tmp 4)⟩,xF 6 1 1,xS 1 6 5] [1,2] [1,2]
def Q67r2 : IC:=cReg Tryz.prog [xF 7 5 1,xL 8 1 7,⟨some 9,none,iCall 9 82 [(.tmp 8),(.func 83)]⟩,xF 10 5 1,xS 1 10 9] [1,2] [1,2]
def Q67r3 : IC:=cReg Tryz.prog [xF 11 6 1,xL 12 1 11,⟨some 13,none,iCall 13 81 [(.tmp 12),(.func 75)]⟩,xF 14 6 1,xS 1 14 13] [1,2] [1,2]
def Q67r4 : IC:=cReg Tryz.prog [xA 15 8 1,xS 8 2 15] [2] [2]
def recv_Own : IC:=(cSeq Q67r0 (cSeq Q67r1 (cSeq Q67r2 (cSeq Q67r3 (cSeq Q67r4 cRet)))))
theorem told_recv_Own {args r : List D} (hl : args.length = 1) (h : recv_Own (start args) (fin [(2,some (8,true))] r)) : Told Tryz.prog 60 args r :=
 told_of follows Tryz.func60 rfl (an:=[([],[1,2],[1,2],[]),([],[1,2],[1,2],[]),([],[1,2],[1,2],[]),([],[1,2],[1,2],[]),([],[2],[2],[])]) (by kernel_rfl) (by kernel_rfl) (by rw [hl]; decide +kernel) h
def Q68r0 : IC:=cReg Tryz.prog [xX 1 0,⟨some 2,none,iAlo 2 [zI,zS,zI,zI,zI,zS,zS,zF]⟩] [1,2] [1,2]
def Q68r1 : IC:=cReg Tryz.prog [xF 3 1 1,xL 4 1 3,⟨some 5,none,iAppH 5 3 1 8 (.const (.slice none 0 0)) (.tmp 4)⟩,xF 6 1 1,xS 1 6 5] [1,2] [1,2]
def Q68r2 : IC:=cReg Tryz.prog [xF 7 5 1,xL 8 1 7,⟨some 9,none,iCall 9 82 [(.tmp 8),(.func 83)]⟩,xF 10 5 1,xS 1 10 9] [1,2] [1,2]
def Q68r3 : IC:=cReg Tryz.prog [xF 11 6 1,xL 12 1 11,⟨some 13,none,iCall 13 81 [(.tmp 12),(.func 75)]⟩,xF 14 6 1,xS 1 14 13] [1,2] [1,2]
def Q68r4_0 : IC:=cCpX 1 2 15 8
def Q68r4_1 : IC:=cReg Tryz.prog [] [2] [2]
def Q68r4 : IC:=(cSeq Q68r4_0 Q68r4_1)
def recv_OwnX : IC:=(cSeq Q68r0 (cSeq Q68r1 (cSeq Q68r2 (cSeq Q68r3 (cSeq Q68r4 cRet)))))
theorem toldX_recv_OwnX {args rs : List D} {ro : List (Nat × Nat × Pay)} (hl : args.length = 1) (h : recv_OwnX (start args) (fin1 (cellFin 2 8 rs ro))) : ToldX Tryz.prog 60 args [] [aD rs] (upR ro) :=
 toldX_out follows Tryz.func60 rfl (an:=[([],[1,2],[1,2],[]),([],[1,2],[1,2],[1000005]),([],[1,2],[1,2],[]),([],[1,2],[1,2],[]),([(8002,[],[])],[2],[2],[])]) (by kernel_rfl) rfl (by kernel_rfl) (by kernel_rfl) (by rw [hl]; decide +kernel) h
structure SmallR (r : Rv) : Prop where
 e : r.early.length ≤ 1048576
 h : r.hold.length ≤ 1048576
 c : ∀ c ∈ r.hold,c.data.length ≤ 1048576 ∧ c.early.length ≤ 1048576
 t : r.told.length ≤ 1048576
 m : ∀ m ∈ r.told,m.data.length ≤ 1048576
theorem wrongMsg_small {s : Int} {b : List UInt8} (h : wrongMsgL s b = 0) : b.length ≤ 6:=by
 unfold wrongMsgL at h
 split at h
 ·cases h
 ·split at h
  ·cases h
  ·omega
theorem good_smallR {r : Rv} (h : GoodR r) : SmallR r:=by
 have hs:=good_sizes h
 refine ⟨by omega,by omega,fun c hc => ?_,by omega,fun m hm => ?_⟩
 ·have:=h.h c hc
  have h2:=wrong_one this.1 this.2
  rw [h2.2.2.1]
  exact ⟨by have:=wrongMsg_small h2.2.2.2; omega,by simp⟩
 ·have:=wrongMsg_small (h.m m hm); omega
theorem ownR_told (r : Rv) (h : SmallR r) : Told Tryz.prog 60 [aD (encRv r)] [aD (encRv r)]:=by
 refine told_recv_Own rfl ?_
 simp only [encRv]
 have h1 : r.early.length * 8 ≤ 140737488355328:=by have:=h.e; omega
 refine wk (an2 @h1 @zmap) ?_
 refine cg0 [[sD 6 (encCl r.hold)]] ?_ ?_
 ·exact obl_cons (ownC_told r.hold h.h h.c) obl_nil
 refine wk0 ?_
 refine cg0 [[sD 2 (encMl r.told)]] ?_ ?_
 ·exact obl_cons (ownM_told r.told h.t h.m) obl_nil
 refine wk0 ?_
 exact ValsLe.refl _
theorem all3 {α : Type} {p : α → Prop} {a b c : α} (ha : p a) (hb : p b) (hc : p c) : ∀ x ∈ [a,b,c],p x:=by
 intro x hx
 simp only [List.mem_cons,List.not_mem_nil,or_false] at hx
 rcases hx with rfl | rfl | rfl
 ·exact ha
 ·exact hb
 ·exact hc
def rowsR (early : List Int) (hold : List Ch) : List (Nat × Nat × Pay):=[(1,3,(1,some (early.map vI))),(5,85,(6,some (encCl hold))),(6,43,(2,none))]
def ownCells (r : Rv) : List D:=[vI r.next,xD,vI r.p0,vI r.p1,vI r.p2,xD,sD 2 (encMl r.told),vB r.owes]
theorem ownR_toldX (r : Rv) (h : SmallR r) : ToldX Tryz.prog 60 [aD (encRv r)] [] [aD (ownCells r)] (upR (rowsR r.early r.hold)):=by
 refine toldX_recv_OwnX rfl ?_
 simp only [encRv,ownCells,rowsR]
 have h1 : r.early.length * 8 ≤ 140737488355328:=by have:=h.e; omega
 refine wk (an2 @h1 @zmap) ?_
 refine cg0 [[mO xD 85 6 (aD (encCl r.hold))]] ?_ ?_
 ·exact obl_out (ownC_toldH r.hold h.h h.c) obl_nil
 refine wk0 ?_
 refine cg0 [[mO (sD 2 (encMl r.told)) 43 2 xD]] ?_ ?_
 ·exact obl_out (ownM_toldO r.told h.t h.m) obl_nil
 refine wk0 ?_
 refine ⟨1,2,_,_,rowsR r.early r.hold,rfl,by decide,rfl,rfl,⟨rfl,rfl,rfl,rfl,row_refl _,all3 ⟨(by decide : 1 < 8),rfl⟩ ⟨(by decide : 5 < 8),rfl⟩ ⟨(by decide : 6 < 8),rfl⟩⟩,by show [1,5,6].Nodup; decide,?_⟩
 simp only [flOf,rowsR,List.map_cons,List.map_nil,List.cons_append,List.nil_append]
 refine wk0 ?_
 refine fin1_ret ⟨2,_,rfl,rfl,rfl,rfl,row_refl _,all3 ⟨(by decide : 1 < 8),rfl⟩ ⟨(by decide : 5 < 8),rfl⟩ ⟨(by decide : 6 < 8),rfl⟩⟩
theorem cloneL_nil : Told Tryz.prog 62 [vD (.slice none 0 0)] [sD 1 []]:=by
 refine told_bytes_CloneL rfl ?_
 refine wk0 ?_
 repeat' (first | exact vals_nil | exact row_nil | exact es_nil | exact CVLe.refl _ | exact LfLe.refl _ | exact LfLe.nil _ | exact EsLe.refl _ | refine vals_cons ?_ ?_ | refine row_cons ?_ ?_ | refine es_cons ?_ ?_ | refine EsLe.app ?_ ?_ | refine CVLe.row ?_ | refine CVLe.leafV ?_ | refine CVLe.leafS ?_ | refine LfLe.s ?_)
theorem cloneL_n (a : List D) (ha : a.length ≤ 140737488355328) : Told Tryz.prog 62 [nD 1 a] [sD 1 a]:=by
 refine told_bytes_CloneL rfl ?_
 have h1 : a.length * 1 ≤ 140737488355328:=by omega
 have h2 : (0 + a.length) * 1 ≤ 140737488355328:=by omega
 refine wk (an2 @h1 @h2) ?_
 repeat' (first | exact vals_nil | exact row_nil | exact es_nil | exact CVLe.refl _ | exact LfLe.refl _ | exact LfLe.nil _ | exact EsLe.refl _ | refine vals_cons ?_ ?_ | refine row_cons ?_ ?_ | refine es_cons ?_ ?_ | refine EsLe.app ?_ ?_ | refine CVLe.row ?_ | refine CVLe.leafV ?_ | refine CVLe.leafS ?_ | refine LfLe.s ?_)
theorem cloneL_told (a : List UInt8) (ha : a.length ≤ 140737488355328) : Told Tryz.prog 62 [sD 1 (a.map encB)] [sD 1 (a.map encB)]:=by
 cases a with
 | nil => exact Told.split (pre:=[]) (post:=[]) cloneL_nil (cloneL_n [] (by simp))
 | cons x r => exact (cloneL_n ((x :: r).map encB) (by simpa using ha)).less ⟨CVLe.leafS (LfLe.sn 1 _ _),trivial⟩ (ValsLe.refl _)
theorem pk_snoc (l : List (List UInt8)) (x : List UInt8) : encPk (l ++ [x]) = encPk l ++ [sD 1 (x.map encB)]:=by simp [encPk]
def opSt (l : List (List UInt8)) (k : Nat) : St:=⟨[(1,vD (.func (.func 62) #[] #[])),(5,sD 1 (encPk (l.take k))),(8,sD 1 (encPk l)),(9,vI l.length),(10,vI k)],[],[((5,none),(41,1,none))]⟩
theorem ownP_told (l : List (List UInt8)) (hl : l.length ≤ 1048576) (hm : ∀ m ∈ l,m.length ≤ 1048576) : Told Tryz.prog 61 [sD 1 (encPk l),vD (.func (.func 62) #[] #[])] [sD 1 (encPk l)]:=by
 refine told_list_OwnP rfl ?_
 refine wk @len_pk ?_
 refine aw_loop (fun n st => ∃ k,k ≤ l.length ∧ n = l.length - k ∧ st = opSt l k) l.length (opSt l 0) ((Le.nilS 5 41 1 rfl).trans (Le.keep (lv:=[1,5,8,9,10]) (lb:=[]) (by simp only [ev0,ev1,ev2,look,lookF,cellsFrom,offT,offP,List.tail_nil,List.length_nil,Int.cast_ofNat_Int,Nat.reduceEqDiff,Nat.reduceAdd,Nat.reduceMul,Nat.reduceLeDiff,Nat.reduceLT,↓reduceIte,reduceCtorEq,Int.reduceBEq,Int.reduceBNe,Int.reduceLT,Int.reduceLE,Int.reduceToNat]; rfl))) ⟨0,by omega,by omega,rfl⟩ ?_
 rintro n st ⟨k,hk',hn,rfl⟩
 by_cases hlt : k < l.length
 ·obtain ⟨x,hx⟩ : ∃ m,l[k]? = some m:=⟨l[k],List.getElem?_eq_getElem hlt⟩
  have g1 : (k : Int) < (l.length : Int):=by omega
  have g2 : (0 : Int) ≤ (k : Int):=by omega
  have g3:=at_pk hx
  have g4 : inR .i64 ((k : Int) + 1) = true:=inR_of (by omega)
  have hlen : (l.take k).length = k:=by rw [List.length_take]; omega
  have hb1 : ((l.take k).length + 1) * 24 ≤ 140737488355328:=by omega
  have hnx : Next (fun n st => ∃ k,k ≤ l.length ∧ n = l.length - k ∧ st = opSt l k) n
    ⟨[(1,vD (.func (.func 62) #[] #[])),(5,sD 1 (encPk (l.take k) ++ [sD 1 (x.map encB)])),(8,sD 1 (encPk l)),(9,vI l.length),(10,vI ((k : Int) + 1))],[],[((5,none),(41,1,none))]⟩:=by
   rw [← pk_snoc,show l.take k ++ [x] = l.take (k + 1) by rw [List.take_add_one,hx]; rfl]
   exact ⟨l.length - (k + 1),_,by omega,Le.refl _,k + 1,by omega,rfl,by simp only [opSt,Int.natCast_add,Int.cast_ofNat_Int]⟩
  generalize (fun n st => ∃ k,k ≤ l.length ∧ n = l.length - k ∧ st = opSt l k) = J at *
  simp only [opSt]
  generalize l.take k = G at *
  have callP : callableB Tryz.prog 62 = true:=by kernel_rfl
  refine wk (an7 @g1 @g2 @g3 @callP @hb1 @len_pk @Int.toNat_natCast) ?_
  refine cg [[sD 1 (x.map encB)]] (an3 @callP @hb1 @len_pk) ?_ ?_
  ·exact obl_cons (cloneL_told x (by have:=hm x (List.mem_of_getElem? hx); omega)) obl_nil
  refine wk @g4 ?_
  exact hnx
 ·have hk'' : k = l.length:=by omega
  subst hk''
  have g1 : ¬ (l.length : Int) < (l.length : Int):=by omega
  simp only [opSt,List.take_length]
  refine wk @g1 ?_
  exact ValsLe.refl _
theorem landL_own : CLOwn 36:=by
 intro l hg
 refine told_lane_Own rfl ?_
 have h1:=ownS_told l.s (good_small hg.s)
 have h2:=ownR_told l.r (good_smallR hg.r)
 have h3:=ownP_told l.there (by have:=hg.t; omega) (fun m hm => by have:=hg.tn m hm; omega)
 have h4:=ownP_told l.back (by have:=hg.b; omega) (fun m hm => by have:=hg.bn m hm; omega)
 simp only [encLn,encSd,encRv] at h1 h2 ⊢
 refine wk0 ?_
 refine cd [[aD (encSd l.s)],[aD (encRv l.r)],[sD 1 (encPk l.there)],[sD 1 (encPk l.back)]] (an2 @encSd.eq_1 @encRv.eq_1) ?_ ?_
 ·exact obl_cons h1 (obl_cons h2 (obl_cons h3 (obl_cons h4 obl_nil)))
 refine wk0 ?_
 exact ValsLe.refl _
set_option maxRecDepth 10000
open leaf
theorem cloneO_n (a : List D) (ha : a.length ≤ 140737488355328) : ToldO Tryz.prog 62 [nD 1 a] [sD 1 a] none 5 (1,none):=by
 refine toldO_bytes_CloneO rfl ?_
 have h1 : a.length * 1 ≤ 140737488355328:=by omega
 have h2 : (0 + a.length) * 1 ≤ 140737488355328:=by omega
 refine wk (an2 @h1 @h2) ?_
 exact fin1_ret ⟨_,rfl,rfl,CVLe.refl _,rfl⟩
theorem clone_nilD : Told Tryz.prog 62 [vD (.slice none 0 0)] [vD (.slice none 0 0)]:=by
 refine told_bytes_CloneL rfl ?_
 refine wk0 ?_
 exact ValsLe.refl _
theorem own_bytes {I : Still} {w : World} {base n : Nat} {u : Value} {xs : List Value} {b : List UInt8} (h : w.ownsRow base 5 1 u n xs) (hr : CRep I w (sD 1 (b.map encB)) u) : n = b.length ∧ xs = b.map B:=by
 obtain ⟨a,cap,hu,U,q1,q2,q3,q4,q5,q6⟩:=hr.invS
 rw [List.length_map] at hu q1
 obtain ⟨hl,h⟩:=h
 rw [Nat.mul_one] at hl
 rcases h with ⟨rfl,rfl⟩ | ⟨g,cap',cur,rfl,_,hg,hn,hm,hs,ht⟩
 ·injection hu with e1 e2 e3
  have : b = []:=List.eq_nil_of_length_eq_zero e2.symm
  subst this
  exact ⟨rfl,List.eq_nil_of_length_eq_zero hl⟩
 ·injection hu with e1 e2 e3
  subst e2
  refine ⟨rfl,List.ext_getElem? fun j => ?_⟩
  by_cases hj : j < b.length
  ·obtain ⟨c,hc⟩ : ∃ c,b[j]? = some c:=⟨_,List.getElem?_eq_getElem hj⟩
   have hne : b.map encB ≠ []:=by intro e; have:=congrArg List.length e; simp at this; subst this; simp at hj
   obtain ⟨bb,off,ha,hcell⟩:=q5 hne
   rw [ha] at e1
   cases e1
   have h1:=(hcell j 0 (by simpa using hj) (by omega)).1
   rw [show 0 + j * 1 + 0 = j by omega,cell_of_row w g j cur 5 (0,0) hg] at h1
   have h2:=q6 j 0 (encB c) (encB c) (by rw [List.getElem?_map,hc]; rfl) rfl
   have h3:=CRep.invV h2
   rw [List.getElem?_map,hc,← ht,Nat.mul_one,List.getElem?_take,if_pos hj,Array.getElem?_toList,h1,h3.1]
   rfl
  ·rw [List.getElem?_eq_none (by rw [hl]; omega),List.getElem?_eq_none (by rw [List.length_map]; omega)]
theorem clone_deep (b : List UInt8) (hb : b.length ≤ 140737488355328) (w : World) (I : Still) (v : Value) (h : CRep I w (sD 1 (b.map encB)) v) (hlt : ∀ b j,I b j → b < w.heap.size) :
  Calls Tryz.prog 62 #[v] w fun e w' => ∃ u,e = .returned u ∧ w'.ownsRow w.heap.size 5 1 u b.length (b.map B) ∧ Below w.heap.size w w':=by
 have hn : CRep I w (nD 1 (b.map encB)) v → Calls Tryz.prog 62 #[v] w fun e w' => ∃ u,e = .returned u ∧ w'.ownsRow w.heap.size 5 1 u b.length (b.map B) ∧ Below w.heap.size w w':=fun q => by
  refine (cloneO_n (b.map encB) (by simpa using hb) w I [v] (Vals.cons (.inl q) Vals.nil) hlt).mono fun x w' ⟨v',I',u,hx,h1,h2,h3,h4,h5,h6⟩ => ?_
  have e : v' = u:=by simpa [cellAt] using h4
  subst e
  obtain ⟨n,xs,k1,k2,k3⟩:=h5
  have hr : CRep I' w' (sD 1 (b.map encB)) v':=CVRep.leaf h3 (fun cs e => by cases e)
  obtain ⟨rfl,rfl⟩:=own_bytes k1 hr
  refine ⟨v',hx,⟨k1.1,k1.2.imp id fun ⟨g,cap,cur,r1,r2,r3⟩ => ⟨g,cap,cur,r1,Nat.le_of_not_lt (k2 g (by rw [r1]; rfl)).1,r3⟩⟩,h6⟩
 cases b with
 | nil =>
  rcases nil_or (.inl (by simpa using h) : CVRep I w (sD 1 []) v) with q | q
  ·refine (clone_nilD w I [v] (Vals.cons q Vals.nil) hlt).mono fun x w' ⟨u,hx,h1,h2⟩ => ?_
   have h1' : CVRep _ w' (vD (.slice none 0 0)) u:=h1
   have e:=(CRep.invV (h1'.leaf (fun cs e => by cases e))).1
   subst e
   exact ⟨_,hx,World.ownsRow_nil _ _ _ _,h2⟩
  ·exact hn (q.leaf (fun cs e => by cases e))
 | cons c r => exact hn ((LfLe.sn 1 _ _).rep h)
structure Deep (w : World) (base : Nat) (u : Value) (k : Nat) (xs : List Value) (p : List (List UInt8)) : Prop where
 own : w.ownsRow base 41 1 u k xs
 el : ∀ (j : Nat) b,j < k → p[j]? = some b → ∃ x,xs[j]? = some x ∧ w.ownsRow base 5 1 x b.length (b.map B)
 apart : ∀ (i j : Nat) x y g,xs[i]? = some x → xs[j]? = some y → x.ownBlock = some g → y.ownBlock = some g → i = j
theorem owns_type {w : World} {base base' e e' n n' : Nat} {u x : Value} {xs ys : List Value} (h : w.ownsRow base e 1 u n xs) (h' : w.ownsRow base' e' 1 x n' ys) (hne : e ≠ e') {g : Nat} (hg : x.ownBlock = some g) : u.ownBlock ≠ some g:=by
 intro hu
 obtain ⟨_,⟨rfl,_⟩ | ⟨g1,cap,cur,rfl,_,k1,_⟩⟩:=h
 ·simp [Value.ownBlock] at hu
 ·obtain ⟨_,⟨rfl,_⟩ | ⟨g2,cap',cur',rfl,_,k2,_⟩⟩:=h'
  ·simp [Value.ownBlock] at hg
  ·simp [Value.ownBlock] at hu hg
   subst hu hg
   rw [k1] at k2
   injection k2 with k2
   injection k2 with _ e3
   exact hne e3
theorem owns_grown {w w' : World} {base e n : Nat} {x : Value} {ys : List Value} {r : Option Nat} (h : w.ownsRow base e 1 x n ys) (hg : w.grownBy w' r) (hr : ∀ g,x.ownBlock = some g → r ≠ some g) : w'.ownsRow base e 1 x n ys:=by
 obtain ⟨h1,h2⟩:=h
 refine ⟨h1,h2.imp id fun ⟨g,cap,cur,k1,k2,k3,k4⟩ => ⟨g,cap,cur,k1,k2,?_,k4⟩⟩
 rw [hg.block g (Array.getElem?_eq_some_iff.1 k3).1 (fun e => hr g (by rw [k1]; rfl) e.symm)]
 exact k3
theorem infoPk : (Tryz.prog.info? 41).map (fun i => (i.zero,i.size,i.bytes)) = some (some (.slice none 0 0),1,24):=by kernel_rfl
theorem one_newO (w : World) (v : Value) : ∀ (j : Nat) (u : Value),[v][j]? = some u → (w.alloc (.cells #[v] 41)).cell? ((⟨w.heap.size,0,none⟩ : Addr).add j) = some u:=by
 intro j u hj
 rw [Addr.add_lit,Nat.zero_add,World.cell?_alloc_mark]
 simpa using hj
theorem one_oneO {w : World} {base e n : Nat} {v : Value} {xs : List Value} (h : w.ownsRow base e 1 v n xs) : ∀ u ∈ [v],u.oneCell' = true:=by
 intro u hu
 simp at hu
 subst hu
 obtain ⟨a,c,rfl⟩:=owns_form h
 rfl
theorem deep_step {wr w1 w2 : World} {B0 k : Nat} {u x v2 : Value} {xs : List Value} {p : List (List UInt8)} {b : List UInt8} {o : Obj} (hD : Deep wr B0 u k xs p) (hb1 : Below wr.heap.size wr w1) (hx1 : w1.ownsRow wr.heap.size 5 1 x b.length (b.map B)) (ho1 : w1.ownsRow B0 41 1 u k xs)
  (ho2 : w2.ownsRow B0 41 1 v2 (k + 1) (xs ++ [x])) (hg : (w1.alloc o).grownBy w2 u.ownBlock) (hB : B0 ≤ wr.heap.size) (hb : p[k]? = some b) : Deep w2 B0 v2 (k + 1) (xs ++ [x]) p:=by
 have hxl : xs.length = k:=by have:=hD.own.1; omega
 have hal : ∀ {e n : Nat} {y : Value} {ys : List Value},w1.ownsRow B0 e 1 y n ys → (∀ g,y.ownBlock = some g → u.ownBlock ≠ some g) → w2.ownsRow B0 e 1 y n ys:=fun h hne => owns_grown (h.alloc _) hg hne
 have hold : ∀ (j : Nat) y,xs[j]? = some y → ∃ bj,p[j]? = some bj ∧ j < k ∧ wr.ownsRow B0 5 1 y bj.length (bj.map B):=fun j y hy => by
  have hj : j < k:=by rw [← hxl]; exact (List.getElem?_eq_some_iff.1 hy).1
  have hkp : k < p.length:=(List.getElem?_eq_some_iff.1 hb).1
  obtain ⟨x',q1,q2⟩:=hD.el j p[j] hj (List.getElem?_eq_getElem (by omega))
  rw [hy] at q1; cases q1
  exact ⟨_,List.getElem?_eq_getElem (by omega),hj,q2⟩
 have hx1' : w1.ownsRow B0 5 1 x b.length (b.map B):=⟨hx1.1,hx1.2.imp id fun ⟨g,cap,cur,k1,k2,k3⟩ => ⟨g,cap,cur,k1,Nat.le_trans hB k2,k3⟩⟩
 have hnew : ∀ g,x.ownBlock = some g → wr.heap.size ≤ g:=fun g hg' => (hx1.lt g hg').1
 refine ⟨ho2,fun j bj hj hbj => ?_,fun i j y z g hi hj hy hz => ?_⟩
 ·by_cases hjk : j < k
  ·obtain ⟨y,q1,q2⟩:=hD.el j bj hjk hbj
   refine ⟨y,by rw [List.getElem?_append_left (by omega)]; exact q1,hal (ownsI_later q2 hb1) (fun g hg' => owns_type ho1 (ownsI_later q2 hb1) (by decide) hg')⟩
  ·have : j = k:=by omega
   subst this
   rw [hb] at hbj; cases hbj
   exact ⟨x,by rw [List.getElem?_append_right (by omega),hxl,Nat.sub_self]; rfl,hal hx1' (fun g hg' => owns_type ho1 hx1' (by decide) hg')⟩
 ·have hcase : ∀ (i : Nat) y,(xs ++ [x])[i]? = some y → (i < k ∧ xs[i]? = some y) ∨ (i = k ∧ y = x):=fun i y hi => by
   by_cases hik : i < k
   ·exact .inl ⟨hik,by rw [← hi,List.getElem?_append_left (by omega)]⟩
   ·have : i < k + 1:=by have:=(List.getElem?_eq_some_iff.1 hi).1; simp at this; omega
    have : i = k:=by omega
    subst this
    rw [List.getElem?_append_right (by omega),hxl,Nat.sub_self] at hi
    simp at hi
    exact .inr ⟨rfl,hi.symm⟩
  rcases hcase i y hi with ⟨i1,i2⟩ | ⟨i1,rfl⟩
  ·rcases hcase j z hj with ⟨j1,j2⟩ | ⟨j1,rfl⟩
   ·exact hD.apart i j y z g i2 j2 hy hz
   ·obtain ⟨bi,_,_,q⟩:=hold i y i2
    have:=(q.lt g hy).2
    have:=hnew g hz
    omega
  ·rcases hcase j z hj with ⟨j1,j2⟩ | ⟨j1,rfl⟩
   ·obtain ⟨bi,_,_,q⟩:=hold j z j2
    have:=(q.lt g hz).2
    have:=hnew g hy
    omega
   ·omega
theorem listOwn_deep (p : List (List UInt8)) (hp : p.length ≤ 1000) (hx : ∀ x ∈ p,x.length ≤ 1000) (w : World) (I : Still) (v : Value) (h : CRep I w (sD 1 (encPk p)) v) (hlt : ∀ b j,I b j → b < w.heap.size) :
  Calls Tryz.prog 61 #[v,.func (.func 62) #[] #[]] w fun e w' => ∃ u xs,e = .returned u ∧ Deep w' w.heap.size u p.length xs p ∧ Below w.heap.size w w':=by
 obtain ⟨a,cap,rfl,U,q1,q2,q3,q4,q5,q6⟩:=h.invS
 rw [len_pk] at q1 q5 ⊢
 have HQ5:=hide q5
 have HQ6:=hide q6
 have HLT:=hide hlt
 clear h q4 q5 q6 hlt
 go_enter Tryz.func61,Tryz.ntmps61
 go_wp2_with fail
 go_loopw [5,10] (fun s i wr => ∃ (k : Nat) (xs : List Value),k ≤ p.length ∧ i = .int .i64 k ∧ Deep wr w.heap.size s k xs p ∧ Below w.heap.size w wr) (fun _ i _ => p.length - (intOf i).toNat)
 case atStart => exact ⟨0,[],Nat.zero_le _,rfl,⟨World.ownsRow_nil _ _ _ _,(fun j b hj => by omega),(fun i j x y g hi => by simp at hi)⟩,Below.refl _ _⟩
 case round =>
  obtain ⟨k,xs,hk,rfl,hD,hbr⟩:=hrel
  by_cases hlt : k < p.length
  ·obtain ⟨b,hb⟩ : ∃ b,p[k]? = some b:=⟨_,List.getElem?_eq_getElem hlt⟩
   have hbl:=hx b (List.mem_of_getElem? hb)
   obtain ⟨bb,off,rfl,hcell⟩:=HQ5.out (by intro e; have:=congrArg List.length e; simp [encPk] at this; subst this; simp at hlt)
   have hc1:=hcell k 0 hlt (by omega)
   have hc2:=HQ6.out k 0 _ _ (at_pk hb) rfl
   have hcb : bb < w.heap.size:=HLT.out _ _ hc1.2
   have hcr : wr.cell? ⟨bb,off + k,none⟩ = some (U k 0):=by
    rw [hbr.cell (p:=⟨bb,off + k,none⟩) hcb,← hc1.1,Nat.mul_one,Nat.add_zero]
   have hCl : CRep I wr (sD 1 (b.map encB)) (U k 0):=hc2.keep (fun _ _ h => h) (fun b j hi => hbr.cell (p:=⟨b,j,none⟩) (HLT.out b j hi))
   have HCL:=hide (clone_deep b (by omega) wr I (U k 0) hCl (fun b j hi => Nat.lt_of_lt_of_le (HLT.out b j hi) hbr.size))
   have hlt' : (k : Int) < (p.length : Int):=by omega
   obtain ⟨i0,hi,hz0,hz1',hz2⟩:=info_parts infoPk
   generalize U k 0 = uk at *
   have HD:=hide hD
   have HBR:=hide hbr
   have HB:=hide hb
   clear hc1 hc2 hCl hD hbr hb hcell
   go_wp2_with fail
   refine HCL.out.mono ?_
   rintro e w1 ⟨x,rfl,hx1,hb1⟩
   obtain ⟨ax,cx,rfl⟩:=owns_form hx1
   have HX1:=hide hx1
   have HB1:=hide hb1
   clear HCL hx1 hb1
   have HO1:=hide (ownsI_later HD.out.own HB1.out)
   go_wp2_with (at_builtin; go_must (refine wpList_append_own _ rfl (.tmp 14) (.tmp 18) 54 rfl w.heap.size 41 i0 (.slice none 0 0) 1 24 Tryz.underlying54 hi hz0 hz1' hz2 rfl (by decide) u5 k xs rfl (HO1.out.alloc _) ⟨w1.heap.size,0,none⟩ 1 1 [.slice ax b.length cx] rfl rfl (one_newO w1 (.slice ax b.length cx)) (one_oneO HX1.out) (by unfold maxLen; omega) (by omega) (by have:=HBR.out.size; have:=HB1.out.size; simp; omega) ?_; intro v2 w2 hown2 hgrow2 hnil2; clear hnil2; have HO2:=hide hown2; have HG2:=hide hgrow2; clear hown2 hgrow2))
   go_roundw
   case rel =>
    have hb2 : Below w.heap.size w w2:=((HBR.out.trans (HB1.out.mono HBR.out.size)).alloc (Nat.le_trans HBR.out.size HB1.out.size) _).grown HG2.out (by have:=HBR.out.size; have:=HB1.out.size; simp; omega) (fun q hq => (HO1.out.lt q hq).1)
    refine ⟨k + 1,xs ++ [.slice ax b.length cx],by omega,by go_num,?_,hb2⟩
    exact deep_step HD.out HB1.out HX1.out HO1.out HO2.out HG2.out HBR.out.size HB.out
   case measure => simp [intOf]; omega
  ·have hke : k = p.length:=by omega
   subst hke
   have HD:=hide hD
   have HBR:=hide hbr
   clear hD hbr
   go_wp2_with fail
   go_ret
   exact ⟨_,_,rfl,HD.out,HBR.out⟩
end Go.Proofs.YtgaofjiidedcbacGreat.ab
namespace Go.Proofs.YtgaofjiidedcbacGreat.regs
open Go Go.RowKit
section
variable {P : Program} {ops : Array Oper} {Q : Exit → Act → World → Prop} {md : Region.Mode} {S : World → Prop}
def HeldS (S : World → Prop) (P : Program) (md : Region.Mode) (ops : Array Oper) (Q : Exit → Act → World → Prop) (fuel : Nat) (listed : Array Bool) (a : Act) (w : World) : Prop:=wpAnyH P md ops Q S fuel listed a w
theorem heldS_begin {id : Nat} {a : Act} {w : World} (hm : P.follows .mixedOrders = true) (h : HeldS S P .any ops Q ops.size (Array.replicate ops.size false) a w.drew) : (Code.region id ops true).wp P Q a w:=wp_region_held hm h
theorem heldS_take {i : Nat} {oi : Oper} {v : Value} {fuel : Nat} {listed : Array Bool} {a : Act} {w : World} (hi : ops[i]? = some oi)
  (hs : Region.noSelect ops = true) (hf : Region.free md ops listed i = true) (hr : (Region.ready md ops listed).contains i = true)
  (hQ : ∀ c a w,Q (.panic c) (a.put oi.dst v) w → Q (.panic c) a w) (hw : Region.wanted oi (yielded ops a.tmps) = true)
  (hy : ∀ w',S w' → (execOp a.eval oi).run P w' = .ok (.value v) w') (hS : S w)
  (h : HeldS S P md ops Q fuel (listed.setIfInBounds i true) (a.put oi.dst v) w) : HeldS S P md ops Q (fuel + 1) listed a w :=
 wpAnyH_take hi hs hf hr hQ (.inl ⟨hw,hy⟩) hS h
def Comes (S : World → Prop) (P : Program) (md : Region.Mode) (ops : Array Oper) (Q : Exit → Act → World → Prop) (fuel : Nat) (listed : Array Bool) (a : Act) (w : World) (i : Nat) : Prop :=
 ∃ o,ops[i]? = some o ∧ ∀ K' : Act → World → Prop,Shut (∀ a w',S w' → HeldS S P md ops Q fuel (listed.setIfInBounds i true) a w' → K' a w') → if Region.wanted o (yielded ops a.tmps) = true then Oper.wp P o a w K' Q else K' (a.put o.dst undef) w
theorem heldS_ready {rs : List Nat} {fuel : Nat} {listed : Array Bool} {a : Act} {w : World} (hr : Region.ready md ops listed = rs) (hne : rs ≠ []) (h : ∀ i ∈ rs,Comes S P md ops Q fuel listed a w i) : HeldS S P md ops Q (fuel + 1) listed a w:=by
 have all : ∀ l : List Nat,(∀ i ∈ l,Comes S P md ops Q fuel listed a w i) → AllReadyH P md ops Q S fuel listed a w l:=by
  intro l
  induction l with
  | nil => exact fun _ => AllReadyH.nil
  | cons i r ih =>
   intro h
   obtain ⟨o,ho,hK⟩:=h i (by simp)
   exact AllReadyH.cons ho (fun K' hs => hK K' (fun a' w' hb hH => hs a' w' hb fun _ => hH)) (ih (fun j hj => h j (by simp [hj])))
 exact wpAnyH_ready hr hne (all rs h)
theorem heldS_done {listed : Array Bool} {a : Act} {w : World} (hr : Region.ready md ops listed = []) (h : Q .normal a w) (fuel : Nat) : HeldS S P md ops Q fuel listed a w:=wpAnyH_done hr h fuel
theorem comes1 {p : Nat → Prop} {i : Nat} (h : p i) : ∀ x ∈ [i],p x:=by simpa using h
end
end Go.Proofs.YtgaofjiidedcbacGreat.regs
