import Derived.Test.YtgaofjiidedcbacGreatM37
import Derived.Test.YtgaofjiidedcbacGreatM20
import Derived.Test.YtgaofjiidedcbacGreatProg
import Derived.Test.YtgaofjiidedcbacGreatM35
set_option maxHeartbeats 16000000
set_option linter.unusedVariables false
set_option linter.unusedSimpArgs false
namespace Go.Proofs.YtgaofjiidedcbacGreat.ab
open Go Go.RowKit
open mth
def comeS (k : Nat) (back : Bool) : Sp:=⟨3,k,0,0,back,⟨0,[]⟩⟩
def putL (w : Wd) (k : Nat) (l : Ln) : Wd:=⟨w.lanes.set k l,w.ticks⟩
def fullT (l : Ln) : Ln:={ l with r:=l.there.foldl hearP l.r,there:=[] }
def fullB (l : Ln) : Ln:={ l with s:=l.back.foldl hearQ l.s,back:=[] }
theorem put_good {w : Wd} (hw : GoodW w) (k : Nat) {l : Ln} (hl : GoodL l) : GoodW (putL w k l):=⟨by simpa [putL] using hw.n,hw.t,fun x hx => by
 rcases List.mem_or_eq_of_mem_set hx with q | q
 ·exact hw.l x q
 ·rw [q]; exact hl⟩
theorem do_come {w : Wd} {k : Nat} (hk : k < w.lanes.length) {l : Ln} {back : Bool} (h : 0 < (wayP l back).length) : doW (putL w k l) (comeS k back) = (putL w k (comeL l 0 back),0):=by
 have hlen : (putL w k l).lanes.length = w.lanes.length:=by simp [putL]
 have hget : (putL w k l).lanes.getD k zeroL = l:=by
  unfold putL
  rw [List.getD_eq_getElem?_getD,List.getElem?_set_self hk]; rfl
 have e3 : (comeS k back).kind = 3:=rfl
 rw [do_act (by rw [e3]; decide)]
 unfold actW
 have e1 : (comeS k back).tenant = (k : Int):=rfl
 rw [if_neg (by rw [e3]; decide),e1,if_neg (by omega),Int.toNat_natCast,hget]
 have e2 : laneW l (comeS k back) = (comeL l 0 back,0):=by
  unfold laneW
  rw [if_neg (by rw [e3]; decide),if_neg (by rw [e3]; decide)]
  show packetL l 3 0 0 back = _
  unfold packetL
  rw [if_neg (by omega),if_neg (by decide),if_neg (by decide),if_neg (by decide)]
  rfl
 rw [e2]
 simp only [putL,List.set_set]
def rIn (w : Wd) (n k : Nat) : St:=⟨[(1,pD 1 0),(2,pD 2 0),(3,vI k),(6,vI n),(7,vI k)],[(1,encWd w),(2,[vD (.slice none 0 0),vI 0])],[]⟩
theorem rnd_there (hS : CSpoilR 34) {w : Wd} (hw : GoodW w) (ht : w.ticks ≤ 1000000) {k : Nat} (hk : k < w.lanes.length) {l : Ln} (hl : GoodL l) (Q : AX → St → Prop)
  (hQ : Q none ⟨[(1,pD 1 0),(2,pD 2 0),(3,vI k),(6,vI w.lanes.length),(7,vI k),(17,vB false)],[(1,encWd (putL w k (fullT l))),(2,[vD (.slice none 0 0),vI 0])],[]⟩) : cLoop Q56l6a (rIn (putL w k l) w.lanes.length k) (blk 2 Q):=by
 refine aw_loop (fun m st => ∃ l',GoodL l' ∧ fullT l' = fullT l ∧ m = l'.there.length ∧ st = rIn (putL w k l') w.lanes.length k) l.there.length _ (Le.refl _) ⟨l,hl,rfl,rfl,rfl⟩ ?_
 rintro m st ⟨l',hl',hf,hm,rfl⟩
 have hget : (putL w k l').lanes[k]? = some l':=by simp [putL,hk]
 have g1:=at_ll hget
 have g2 : (0 : Int) ≤ (k : Int):=by omega
 have g3 : (k : Int) < ((putL w k l').lanes.length : Int):=by rw [show (putL w k l').lanes.length = w.lanes.length by simp [putL]]; omega
 cases hx : l'.there with
 | cons x p =>
  have g4 : 0 < (l'.there.length : Int):=by rw [hx]; simp only [List.length_cons]; omega
  have hd:=do_told hS (putL w k l') (put_good hw k hl') ht (comeS k false)
  rw [do_come hk (by show 0 < l'.there.length; rw [hx]; simp)] at hd
  have hnx : Next (fun m st => ∃ l',GoodL l' ∧ fullT l' = fullT l ∧ m = l'.there.length ∧ st = rIn (putL w k l') w.lanes.length k) m (rIn (putL w k (comeL l' 0 false)) w.lanes.length k):=⟨p.length,_,by rw [hm,hx]; simp,Le.refl _,comeL l' 0 false,hl'.come 0 false,by
   rw [← hf,come_there hx]
   unfold fullT
   rw [hx]
   rfl,by rw [come_there hx],rfl⟩
  generalize (fun m st => ∃ l',GoodL l' ∧ fullT l' = fullT l ∧ m = l'.there.length ∧ st = rIn (putL w k l') w.lanes.length k) = J at *
  generalize putL w k (comeL l' 0 false) = w2 at *
  generalize putL w k l' = w1 at *
  clear hx hm hf
  simp only [rIn,encWd,encLn,encSp,comeS,List.map_nil] at g1 hd hnx ⊢
  refine wk (an7 @g1 @g2 @g3 @g4 @len_ll @len_pk @Int.toNat_natCast) ?_
  refine cg [[aD (encWd w2),vI 0]] @encWd.eq_1 ?_ ?_
  ·refine ⟨⟨_,?_,hd⟩,trivial⟩
   repeat' (first | exact vals_nil | exact row_nil | exact es_nil | exact CVLe.refl _ | exact LfLe.refl _ | exact LfLe.nil _ | exact EsLe.refl _ | refine vals_cons ?_ ?_ | refine row_cons ?_ ?_ | refine es_cons ?_ ?_ | refine EsLe.app ?_ ?_ | refine CVLe.row ?_ | refine CVLe.leafV ?_ | refine CVLe.leafS ?_ | refine LfLe.s ?_)
  refine wk0 ?_
  exact hnx
 | nil =>
  have g4 : ¬ 0 < (l'.there.length : Int):=by rw [hx]; simp
  have e : l' = fullT l:=by
   rw [← hf]
   obtain ⟨s,r,t,b⟩:=l'
   simp only at hx
   subst hx
   rfl
  rw [← e] at hQ
  generalize (fun m st => ∃ l',GoodL l' ∧ fullT l' = fullT l ∧ m = l'.there.length ∧ st = rIn (putL w k l') w.lanes.length k) = J at *
  generalize putL w k l' = w1 at *
  clear hx hm hf e
  simp only [rIn,encWd,encLn] at g1 hQ ⊢
  refine wk (an7 @g1 @g2 @g3 @g4 @len_ll @len_pk @Int.toNat_natCast) ?_
  exact hQ
theorem rnd_back (hS : CSpoilR 34) {w : Wd} (hw : GoodW w) (ht : w.ticks ≤ 1000000) {k : Nat} (hk : k < w.lanes.length) {l : Ln} (hl : GoodL l) (Q : AX → St → Prop)
  (hQ : Q none ⟨[(1,pD 1 0),(2,pD 2 0),(3,vI k),(6,vI w.lanes.length),(7,vI k),(32,vB false)],[(1,encWd (putL w k (fullB l))),(2,[vD (.slice none 0 0),vI 0])],[]⟩) :
  cLoop Q56l10a ⟨[(1,pD 1 0),(2,pD 2 0),(3,vI k),(6,vI w.lanes.length),(7,vI k),(17,vB false)],[(1,encWd (putL w k l)),(2,[vD (.slice none 0 0),vI 0])],[]⟩ (blk 4 Q):=by
 refine aw_loop (fun m st => ∃ l',GoodL l' ∧ fullB l' = fullB l ∧ m = l'.back.length ∧ st = rIn (putL w k l') w.lanes.length k) l.back.length (rIn (putL w k l) w.lanes.length k) (Le.keep (lv:=[1,2,3,6,7]) (lb:=[1,2]) (by simp only [ev0,ev1,ev2,look,lookF,cellsFrom,offT,offP,List.tail_nil,List.length_nil,Int.cast_ofNat_Int,Nat.reduceEqDiff,Nat.reduceAdd,Nat.reduceMul,Nat.reduceLeDiff,Nat.reduceLT,↓reduceIte,reduceCtorEq,Int.reduceBEq,Int.reduceBNe,Int.reduceLT,Int.reduceLE,Int.reduceToNat]; rfl)) ⟨l,hl,rfl,rfl,rfl⟩ ?_
 rintro m st ⟨l',hl',hf,hm,rfl⟩
 have hget : (putL w k l').lanes[k]? = some l':=by simp [putL,hk]
 have g1:=at_ll hget
 have g2 : (0 : Int) ≤ (k : Int):=by omega
 have g3 : (k : Int) < ((putL w k l').lanes.length : Int):=by rw [show (putL w k l').lanes.length = w.lanes.length by simp [putL]]; omega
 cases hx : l'.back with
 | cons x p =>
  have g4 : 0 < (l'.back.length : Int):=by rw [hx]; simp only [List.length_cons]; omega
  have hd:=do_told hS (putL w k l') (put_good hw k hl') ht (comeS k true)
  rw [do_come hk (by show 0 < l'.back.length; rw [hx]; simp)] at hd
  have hnx : Next (fun m st => ∃ l',GoodL l' ∧ fullB l' = fullB l ∧ m = l'.back.length ∧ st = rIn (putL w k l') w.lanes.length k) m (rIn (putL w k (comeL l' 0 true)) w.lanes.length k):=⟨p.length,_,by rw [hm,hx]; simp,Le.refl _,comeL l' 0 true,hl'.come 0 true,by
   rw [← hf,come_back hx]
   unfold fullB
   rw [hx]
   rfl,by rw [come_back hx],rfl⟩
  generalize (fun m st => ∃ l',GoodL l' ∧ fullB l' = fullB l ∧ m = l'.back.length ∧ st = rIn (putL w k l') w.lanes.length k) = J at *
  generalize putL w k (comeL l' 0 true) = w2 at *
  generalize putL w k l' = w1 at *
  clear hx hm hf
  simp only [rIn,encWd,encLn,encSp,comeS,List.map_nil] at g1 hd hnx ⊢
  refine wk (an7 @g1 @g2 @g3 @g4 @len_ll @len_pk @Int.toNat_natCast) ?_
  refine cg [[aD (encWd w2),vI 0]] @encWd.eq_1 ?_ ?_
  ·refine ⟨⟨_,?_,hd⟩,trivial⟩
   repeat' (first | exact vals_nil | exact row_nil | exact es_nil | exact CVLe.refl _ | exact LfLe.refl _ | exact LfLe.nil _ | exact EsLe.refl _ | refine vals_cons ?_ ?_ | refine row_cons ?_ ?_ | refine es_cons ?_ ?_ | refine EsLe.app ?_ ?_ | refine CVLe.row ?_ | refine CVLe.leafV ?_ | refine CVLe.leafS ?_ | refine LfLe.s ?_)
  refine wk0 ?_
  exact hnx
 | nil =>
  have g4 : ¬ 0 < (l'.back.length : Int):=by rw [hx]; simp
  have e : l' = fullB l:=by
   rw [← hf]
   obtain ⟨s,r,t,b⟩:=l'
   simp only at hx
   subst hx
   rfl
  rw [← e] at hQ
  generalize (fun m st => ∃ l',GoodL l' ∧ fullB l' = fullB l ∧ m = l'.back.length ∧ st = rIn (putL w k l') w.lanes.length k) = J at *
  generalize putL w k l' = w1 at *
  clear hx hm hf e
  simp only [rIn,encWd,encLn] at g1 hQ ⊢
  refine wk (an7 @g1 @g2 @g3 @g4 @len_ll @len_pk @Int.toNat_natCast) ?_
  exact hQ
def partW (w : Wd) (k : Nat) : Wd:=⟨(w.lanes.take k).map drainL ++ w.lanes.drop k,w.ticks⟩
theorem part_zero (w : Wd) : partW w 0 = w:=by simp [partW]
theorem part_all (w : Wd) : partW w w.lanes.length = drainW w:=by simp [partW,drainW]
theorem part_len (w : Wd) {k : Nat} (h : k ≤ w.lanes.length) : (partW w k).lanes.length = w.lanes.length:=by simp [partW]; omega
theorem part_at {w : Wd} {k : Nat} {x : Ln} (hx : w.lanes[k]? = some x) : (partW w k).lanes[k]? = some x:=by
 have hlt:=(List.getElem?_eq_some_iff.1 hx).1
 have h2 : ((w.lanes.take k).map drainL).length = k:=by simp; omega
 unfold partW
 simp only
 rw [List.getElem?_append_right (by rw [h2]; exact Nat.le_refl _),h2,Nat.sub_self,List.getElem?_drop,Nat.add_zero]
 exact hx
theorem part_put {w : Wd} {k : Nat} {x : Ln} (hx : w.lanes[k]? = some x) : putL (partW w k) k x = partW w k:=by
 unfold putL
 have:=part_at hx
 have e : (partW w k).lanes.set k x = (partW w k).lanes:=by
  apply List.ext_getElem?
  intro i
  by_cases h : k = i
  ·subst h; rw [List.getElem?_set_self ((List.getElem?_eq_some_iff.1 this).1),this]
  ·rw [List.getElem?_set_ne h]
 rw [e]
theorem part_next {w : Wd} {k : Nat} {x : Ln} (hx : w.lanes[k]? = some x) : putL (partW w k) k (drainL x) = partW w (k + 1):=by
 have hlt:=(List.getElem?_eq_some_iff.1 hx).1
 have h2 : ((w.lanes.take k).map drainL).length = k:=by simp; omega
 have hd : w.lanes.drop k = x :: w.lanes.drop (k + 1):=by rw [List.drop_eq_getElem_cons hlt,(List.getElem?_eq_some_iff.1 hx).2]
 unfold putL partW
 simp only
 rw [List.set_append_right _ _ (by rw [h2]; exact Nat.le_refl _),h2,Nat.sub_self,hd,List.set_cons_zero,List.take_add_one,hx,Option.toList_some,List.map_append,List.append_assoc]
 rfl
theorem part_good {w : Wd} (hw : GoodW w) {k : Nat} (hk : k ≤ w.lanes.length) : GoodW (partW w k):=⟨by rw [part_len w hk]; exact hw.n,hw.t,fun l hl => by
 rcases List.mem_append.1 hl with q | q
 ·obtain ⟨x,hx,e⟩:=List.mem_map.1 q
  rw [← e]; exact (hw.l x (List.mem_of_mem_take hx)).drain
 ·exact hw.l l (List.mem_of_mem_drop q)⟩
def rndSt (w : Wd) (k : Nat) : St:=⟨[(1,pD 1 0),(2,pD 2 0),(6,vI w.lanes.length),(7,vI k)],[(1,encWd (partW w k)),(2,[vD (.slice none 0 0),vI 0])],[]⟩
theorem round_told (hS : CSpoilR 34) (w : Wd) (hw : GoodW w) (ht : w.ticks ≤ 1000000) : Told Tryz.prog 12 [aD (encWd w)] [aD (encWd (roundW w))]:=by
 refine told_r6_Round rfl ?_
 have hstart : rndSt w 0 = ⟨[(1,pD 1 0),(2,pD 2 0),(6,vI w.lanes.length),(7,vI 0)],[(1,encWd w),(2,[vD (.slice none 0 0),vI 0])],[]⟩:=by
  unfold rndSt; rw [part_zero]; rfl
 simp only [encWd] at hstart ⊢
 refine wk @len_ll ?_
 refine aw_loop (fun m st => ∃ k : Nat,k ≤ w.lanes.length ∧ m = w.lanes.length - k ∧ st = rndSt w k) w.lanes.length (rndSt w 0) (by rw [hstart]; exact Le.refl _) ⟨0,by omega,by omega,rfl⟩ ?_
 rintro m st ⟨k,hk,hm,rfl⟩
 have hpg:=part_good hw hk
 have hpl:=part_len w hk
 by_cases hlt : k < w.lanes.length
 ·obtain ⟨x,hx⟩ : ∃ x,w.lanes[k]? = some x:=⟨w.lanes[k],List.getElem?_eq_getElem hlt⟩
  have hgx:=hw.l x (List.mem_of_getElem? hx)
  have g1 : (k : Int) < (w.lanes.length : Int):=by omega
  have g4 : inR .i64 ((k : Int) + 1) = true:=inR_of (by have:=hw.n; omega)
  have hnx : Next (fun m st => ∃ k : Nat,k ≤ w.lanes.length ∧ m = w.lanes.length - k ∧ st = rndSt w k) m (rndSt w (k + 1)):=⟨w.lanes.length - (k + 1),_,by omega,Le.refl _,k + 1,by omega,rfl,rfl⟩
  have hT:=fun Q => rnd_there hS hpg ht (by omega : k < (partW w k).lanes.length) hgx Q
  have hB:=fun Q => rnd_back hS hpg ht (by omega : k < (partW w k).lanes.length) (GoodL.there_all x.there hgx rfl) Q
  rw [part_put hx,hpl] at hT
  have e1 : putL (partW w k) k (fullB { x with r:=x.there.foldl hearP x.r,there:=[] }) = partW w (k + 1):=by rw [← part_next hx]; rfl
  rw [e1,hpl] at hB
  unfold fullT at hT
  generalize (fun m st => ∃ k : Nat,k ≤ w.lanes.length ∧ m = w.lanes.length - k ∧ st = rndSt w k) = J at *
  generalize putL (partW w k) k { x with r:=x.there.foldl hearP x.r,there:=[] } = w2 at *
  simp only [rndSt,rIn,encWd,Int.natCast_add,Int.cast_ofNat_Int] at hT hB hnx ⊢
  refine wk @g1 ?_
  refine hT _ ?_
  refine wk0 ?_
  refine hB _ ?_
  refine wk @g4 ?_
  exact hnx
 ·have hkn : k = w.lanes.length:=by omega
  subst hkn
  rw [part_all] at hpg
  have hd:=do_told hS (drainW w) hpg ht tickS
  have e0 : (doW (drainW w) tickS).2 = 0:=by
   unfold doW
   rw [if_neg (by decide)]
   have hw' : 0 ≤ whoW (drainW w) tickS ∧ whoW (drainW w) tickS < ((drainW w).lanes.length : Int):=by
    unfold whoW
    rw [if_pos (by rfl)]
    have:=hpg.n
    exact ⟨Int.tmod_nonneg _ hpg.t,Int.tmod_lt_of_pos _ (by omega)⟩
   rw [if_neg (by omega)]
   rfl
  rw [e0] at hd
  have e1 : (doW (drainW w) tickS).1 = roundW w:=rfl
  rw [e1] at hd
  have g1 : ¬ (w.lanes.length : Int) < (w.lanes.length : Int):=by omega
  have hp:=part_all w
  generalize (fun m st => ∃ k : Nat,k ≤ w.lanes.length ∧ m = w.lanes.length - k ∧ st = rndSt w k) = J at *
  simp only [rndSt,hp]
  generalize roundW w = w3 at *
  generalize drainW w = w2 at *
  simp only [encWd,encSp,tickS,List.map_nil] at hd ⊢
  refine wk @g1 ?_
  refine cg [[aD (encWd w3),vI 0]] @encWd.eq_1 ?_ ?_
  ·refine ⟨⟨_,?_,hd⟩,trivial⟩
   repeat' (first | exact vals_nil | exact row_nil | exact es_nil | exact CVLe.refl _ | exact LfLe.refl _ | exact LfLe.nil _ | exact EsLe.refl _ | refine vals_cons ?_ ?_ | refine row_cons ?_ ?_ | refine es_cons ?_ ?_ | refine EsLe.app ?_ ?_ | refine CVLe.row ?_ | refine CVLe.leafV ?_ | refine CVLe.leafS ?_ | refine LfLe.s ?_)
  refine wk0 ?_
  exact ValsLe.refl _
set_option maxRecDepth 100000
def Q89r0 : IC:=cReg Tryz.prog [⟨some 4,none,iMov 4 (.const (.bool false)) true⟩] [0,1] []
def Q89r1 : IC:=cReg Tryz.prog [xM 17 0,xM 18 1,xV2 19 7 17 18,xM 16 19,xE 20 16 0,xE 21 16 1,xE 22 16 2,⟨some 5,none,iAlo 5 [zS,zI]⟩,xS 2 5 20,xT 6 21,xT 7 22] [0,1,5,6,7] [5]
def Q89r2 : IC:=cReg Tryz.prog [xM 24 0,xV1 25 8 24,xM 23 25,xE 26 23 0,xE 27 23 1,⟨some 8,none,iAlo 8 [zS,zI]⟩,xS 2 8 26,xT 9 27] [0,1,5,6,7,9] [5]
def Q89r3 : IC:=cReg Tryz.prog [xM 28 9,xC 29 .eql 28 0,xM 30 29,xG 30 true (xM 31 1),xG 30 true (xN 32 31),xG 30 true (xC 33 .gtr 32 160),xQ 34 30 33] [0,1,5,6,7,9,34] [5]
def Q89r4 : IC:=cReg Tryz.prog [⟨some 9,none,iMov 9 (.const (.int .i64 5)) true⟩] [0,1,5,6,7,9] [5]
def Q89c1 : IC:=cCond (.tmp 34) Q89r4 cSkip
def Q89r5 : IC:=cReg Tryz.prog [xM 35 9,xC 36 .neq 35 0] [0,1,5,6,7,9,36] [5]
def Q89r6 : IC:=cReg Tryz.prog [xM 37 7,xM 38 9,xB 39 .eql 37 38,xM 40 39,xG 40 true (xM 41 6),xG 40 true (xN 42 41),xG 40 true (xF 43 0 5),xG 40 true (xL 44 1 43),xG 40 true (xN 45 44),xG 40 true (xB 46 .add 42 45),xG 40 true (xC 47 .eql 46 0),xQ 48 40 47,xT 4 48] [4] []
def Q89c2a : IC:=(cSeq Q89r6 cRet)
def Q89c2 : IC:=cCond (.tmp 36) Q89c2a cSkip
def Q89r7 : IC:=cReg Tryz.prog [xM 50 0,xM 51 1,xV2 52 9 50 51,xM 49 52,xE 53 49 0,xE 54 49 1,⟨some 10,none,iAlo 10 [zS,zI]⟩,xS 2 10 53,xT 11 54] [5,6,7,10,11] [5,10]
def Q89r8_0 : IC:=cReg Tryz.prog [xM 55 7,xC 56 .neq 55 0,xM 57 56,xG 57 false (xM 58 6),xG 57 false (xN 59 58),xG 57 false (xM 60 11),xG 57 false (xN 61 60),xG 57 false (xB 62 .neq 59 61),xP 63 57 62,xM 64 63] [5,6,10,11,64] [5,10]
def Q89r8_1 : IC:=cReg Tryz.prog [xG 64 false (xA 65 2 5),xG 64 false (xA 66 2 10),xG 64 false (xV2 67 10 65 66),xG 64 false (xO 68 67),xP 69 64 68] [6,10,11,69] [10]
def Q89r8 : IC:=(cSeq Q89r8_0 Q89r8_1)
def Q89r9 : IC:=cReg Tryz.prog [⟨some 4,none,iMov 4 (.const (.bool false)) true⟩] [4] []
def Q89c3a : IC:=(cSeq Q89r9 cRet)
def Q89c3 : IC:=cCond (.tmp 69) Q89c3a cSkip
def Q89r10 : IC:=cReg Tryz.prog [xM 70 6,xN 71 70,⟨some 72,none,iMov 72 (.const (.int .i64 0)) false⟩] [6,10,11,71,72] [10]
def Q89r11 : IC:=cReg Tryz.prog [xB 73 .lss 72 71] [6,10,11,71,72,73] [10]
def Q89c6 : IC:=cCond (.tmp 73) cSkip (cExit 0)
def Q89r12 : IC:=cReg Tryz.prog [xM 74 72,xT 12 74] [6,10,11,12,71,72] [10]
def Q89r13 : IC:=cRegD Tryz.prog [xM 75 6,xM 76 12,xI 77 1 75 76,xL 78 1 77,xM 79 11,xM 80 12,xI 81 1 79 80,xL 82 1 81,xB 83 .neq 78 82] [[],[],[0,1],[2,0,1],[],[],[4,5],[6,4,5],[3,7,2,0,1,6,4,5]] [6,10,11,71,72,83] [10]
def Q89r14 : IC:=cReg Tryz.prog [⟨some 4,none,iMov 4 (.const (.bool false)) true⟩] [4] []
def Q89c8a : IC:=(cSeq Q89r14 cRet)
def Q89c8 : IC:=cCond (.tmp 83) Q89c8a cSkip
def Q89b7 : IC:=cBlock 1 (cSeq Q89r12 (cSeq Q89r13 Q89c8))
def Q89r15 : IC:=cReg Tryz.prog [xC 84 .add 72 1,xM 72 84] [6,10,11,71,72] [10]
def Q89l5a : IC:=(cSeq Q89r11 (cSeq Q89c6 (cSeq Q89b7 Q89r15)))
def Q89l5 : IC:=cLoop Q89l5a
def Q89b4 : IC:=cBlock 0 Q89l5
def Q89r16 : IC:=cRegD Tryz.prog [xA 85 2 10,xV1 86 11 85,xA 87 2 10,xV1 88 12 87,xV2 89 10 86 88,xO 90 89] [[],[0],[],[2,1,0],[1,3,0,2],[4,1,3,0,2]] [10,90] [10]
def Q89r17 : IC:=cReg Tryz.prog [⟨some 4,none,iMov 4 (.const (.bool false)) true⟩] [4] []
def Q89c9a : IC:=(cSeq Q89r17 cRet)
def Q89c9 : IC:=cCond (.tmp 90) Q89c9a cSkip
def Q89r18 : IC:=cReg Tryz.prog [xA 92 2 10,xV1 93 13 92,xM 91 93,xE 94 91 0,xE 95 91 1,⟨some 13,none,iAlo 13 [zS,zI]⟩,xS 2 13 94,xT 14 95] [10,13,14] [10,13]
def Q89r19 : IC:=cReg Tryz.prog [⟨some 15,none,iMov 15 (.const (.int .i64 0)) true⟩] [10,13,14,15] [10,13]
def Q89r20 : IC:=cReg Tryz.prog [xM 96 15,xC 97 .lss 96 200,xM 98 97,xG 98 true (xA 99 2 10),xG 98 true (xV1 100 14 99),xG 98 true (xO 101 100),xQ 102 98 101] [10,13,14,15,102] [10,13]
def Q89c12 : IC:=cCond (.tmp 102) cSkip (cExit 2)
def Q89r21 : IC:=cReg Tryz.prog [xA 103 2 10,xV1 104 12 103,xS 2 10 104] [10,13,14,15] [10,13]
def Q89r22 : IC:=cReg Tryz.prog [xM 105 15,xC 106 .add 105 1,xT 15 106] [10,13,14,15] [10,13]
def Q89b13 : IC:=cBlock 3 (cSeq Q89r21 Q89r22)
def Q89l11a : IC:=(cSeq (cSeq Q89r20 Q89c12) Q89b13)
def Q89l11 : IC:=cLoop Q89l11a
def Q89b10 : IC:=cBlock 2 Q89l11
def Q89r23 : IC:=cReg Tryz.prog [xM 107 15,xM 108 14,xB 109 .eql 107 108,xM 110 109,xG 110 true (xA 111 2 13),xG 110 true (xA 112 2 10),xG 110 true (xV2 113 10 111 112),xQ 114 110 113,xT 4 114] [4] []
def w12_FairTells : IC:=(cSeq Q89r0 (cSeq Q89r1 (cSeq Q89r2 (cSeq (cSeq Q89r3 Q89c1) (cSeq (cSeq Q89r5 Q89c2) (cSeq Q89r7 (cSeq (cSeq Q89r8 Q89c3) (cSeq (cSeq Q89r10 Q89b4) (cSeq (cSeq Q89r16 Q89c9) (cSeq Q89r18 (cSeq Q89r19 (cSeq Q89b10 (cSeq Q89r23 cRet)))))))))))))
theorem told_w12_FairTells {args r : List D} (hl : args.length = 2) (h : w12_FairTells (start args) (fin [(4,none)] r)) : Told Tryz.prog 3 args r :=
 told_of follows Tryz.func3 rfl (an:=[([],[0,1],[],[]),([],[0,1,5,6,7],[5],[]),([],[0,1,5,6,7,9],[5],[]),([],[0,1,5,6,7,9,34],[5],[]),([],[0,1,5,6,7,9],[5],[]),([],[0,1,5,6,7,9,36],[5],[]),([],[4],[],[]),([],[5,6,7,10,11],[5,10],[]),([(10,[5,6,10,11,64],[5,10])],[6,10,11,69],[10],[]),([],[4],[],[]),([],[6,10,11,71,72],[10],[]),([],[6,10,11,71,72,73],[10],[]),([],[6,10,11,12,71,72],[10],[]),([],[6,10,11,71,72,83],[10],[]),([],[4],[],[]),([],[6,10,11,71,72],[10],[]),([],[10,90],[10],[]),([],[4],[],[]),([],[10,13,14],[10,13],[]),([],[10,13,14,15],[10,13],[]),([],[10,13,14,15,102],[10,13],[]),([],[10,13,14,15],[10,13],[]),([],[10,13,14,15],[10,13],[]),([],[4],[],[])]) (by kernel_rfl) (by kernel_rfl) (by rw [hl]; decide +kernel) h
theorem fairTells_not (hP : CFPlay 7) (n : Int) (l : List Sp) (hl : l.length ≤ 9223372036854775807) (h : n < 1 ∨ 3 < n) : Told Tryz.prog 3 [vI n,sD 7 (encSl l)] [vB true]:=by
 refine told_w12_FairTells rfl ?_
 have h1:=hP.1 n l hl h
 have h2:=refNew_not n h
 rw [show encWd ⟨[],0⟩ = [sD 17 [],vI 0] from rfl] at h1 h2
 refine wk0 ?_
 refine cg0 [[aD [sD 17 [],vI 0],sD 1 [],vI 3]] ?_ ?_
 ·exact obl_cons h1 obl_nil
 refine wk0 ?_
 refine cg0 [[aD [sD 17 [],vI 0],vI 3]] ?_ ?_
 ·exact obl_cons h2 obl_nil
 have z0 : inR .i64 ((0 : Int) + 0) = true:=inR_of (by omega)
 have z1 : (((0 : Int) + 0) == 0) = true:=rfl
 refine wk (an3 @z0 @z1 @znil) ?_
 exact ValsLe.refl _
theorem fairTells_long (hP : CFPlay 7) (n : Nat) (hn : 1 ≤ n ∧ n ≤ 3) (l : List Sp) (hl : l.length ≤ 9223372036854775807) (h : 160 < l.length) : Told Tryz.prog 3 [vI n,sD 7 (encSl l)] [vB true]:=by
 refine told_w12_FairTells rfl ?_
 have h1:=hP.2.1 n l hn hl h
 have h2:=new_told n hn
 rw [show encWd ⟨[],0⟩ = [sD 17 [],vI 0] from rfl] at h1
 have g1 : 160 < (l.length : Int):=by omega
 generalize newW n = w0 at *
 simp only [encWd] at h2
 refine wk0 ?_
 refine cg0 [[aD [sD 17 [],vI 0],sD 1 [],vI 5]] ?_ ?_
 ·exact obl_cons h1 obl_nil
 refine wk0 ?_
 refine cg [[aD (encWd w0),vI 0]] @encWd.eq_1 ?_ ?_
 ·exact obl_cons h2 obl_nil
 have z0 : inR .i64 ((0 : Int) + 0) = true:=inR_of (by omega)
 have z1 : (((0 : Int) + 0) == 0) = true:=rfl
 refine wk (an5 @g1 @z0 @z1 @len_sl @znil) ?_
 exact ValsLe.refl _
def ft1 (w : Wd) (es : List Int) (i : Nat) : St:=⟨[(6,sD 1 (es.map vI)),(10,pD 10 0),(11,sD 1 (es.map vI)),(71,vI es.length),(72,vI i)],[(10,encWd w)],[]⟩
def ft2 (w y : Wd) (K : Nat) (k : Nat) : St:=⟨[(10,pD 10 0),(13,pD 13 0),(14,vI K),(15,vI k)],[(10,encWd (roundN k w)),(13,encWd y)],[]⟩
theorem at_esI {es : List Int} {i : Nat} {x : Int} (h : es[i]? = some x) : (es.map vI)[i]? = some (vI x):=by simp [h]
theorem fairTells_good (hS : CSpoilR 34) (hP : CFPlay 7) (hR : CFRound 11) (hT : CFSettle 13) (n : Nat) (hn : 1 ≤ n ∧ n ≤ 3) (l : List Sp) (hl : l.length ≤ 160) : Told Tryz.prog 3 [vI n,sD 7 (encSl l)] [vB true]:=by
 refine told_w12_FairTells rfl ?_
 have h1:=hP.2.2 n l hn hl
 have h2:=new_told n hn
 have h3:=play_told hS n hn l (by omega)
 rw [List.take_of_length_le hl] at h3
 obtain ⟨hw,hwt,hel⟩:=good_run (good_new hn) l 160
 rw [List.take_of_length_le hl] at hw hwt hel
 have ht0 : (newW n).ticks = 0:=rfl
 rw [ht0] at hwt
 generalize newW n = w0 at *
 generalize (runW w0 l).2 = es at *
 generalize (runW w0 l).1 = w at *
 have h4:=sameW_good hw
 have h5:=hR w hw (by omega)
 have h6:=round_told hS w hw (by omega)
 have h7:=sameW_good hw.round
 have h8:=hT w hw (by omega)
 have hK:=settle_le 200 w
 have hst:=settle_still 200 w
 have hnot:=settle_not 200 w
 have h9:=sameW_good (hw.rounds (settleK 200 w))
 generalize settleK 200 w = K at *
 have g1 : ¬ 160 < (l.length : Int):=by omega
 have z1 : ((es.length : Int) != (es.length : Int)) = false:=bne_self_eq_false _
 generalize roundW w = r1 at *
 simp only [encWd] at h1 h2 h3 h4 h5 h6 h7
 refine wk0 ?_
 refine cg [[aD (encWd w),sD 1 (es.map vI),vI 0]] @encWd.eq_1 ?_ ?_
 ·exact obl_cons h1 obl_nil
 refine wk0 ?_
 refine cg [[aD (encWd w0),vI 0]] @encWd.eq_1 ?_ ?_
 ·exact obl_cons h2 obl_nil
 refine wk (an2 @g1 @len_sl) ?_
 refine cg [[aD (encWd w),sD 1 (es.map vI)]] @encWd.eq_1 ?_ ?_
 ·exact obl_cons h3 obl_nil
 refine wk (an2 @z1 @zmap) ?_
 refine cg [[vB true]] (an3 @z1 @zmap Bool.not_true) ?_ ?_
 ·exact obl_cons h4 obl_nil
 refine wk (an3 @z1 @zmap Bool.not_true) ?_
 refine aw_loop (fun m st => ∃ i : Nat,i ≤ es.length ∧ m = es.length - i ∧ st = ft1 w es i) es.length (ft1 w es 0) (Le.refl _) ⟨0,by omega,by omega,rfl⟩ ?_
 rintro m st ⟨i,hi,hm,rfl⟩
 by_cases hlt : i < es.length
 ·obtain ⟨e,he⟩ : ∃ e,es[i]? = some e:=⟨es[i],List.getElem?_eq_getElem hlt⟩
  have k1 : (i : Int) < (es.length : Int):=by omega
  have k2 : (0 : Int) ≤ (i : Int):=by omega
  have k3:=at_esI he
  have k4 : inR .i64 ((i : Int) + 1) = true:=inR_of (by omega)
  have k5 : (e != e) = false:=bne_self_eq_false _
  have hnx : Next (fun m st => ∃ i : Nat,i ≤ es.length ∧ m = es.length - i ∧ st = ft1 w es i) m (ft1 w es (i + 1)):=⟨es.length - (i + 1),_,by omega,Le.refl _,i + 1,by omega,rfl,rfl⟩
  generalize (fun m st => ∃ i : Nat,i ≤ es.length ∧ m = es.length - i ∧ st = ft1 w es i) = J at *
  simp only [ft1,encWd,Int.natCast_add,Int.cast_ofNat_Int] at hnx ⊢
  refine wk (an6 @k1 @k2 @k3 @k5 @zmap @Int.toNat_natCast) ?_
  refine wk @k4 ?_
  exact hnx
 have hin : i = es.length:=by omega
 subst hin
 have k1 : ¬ (es.length : Int) < (es.length : Int):=by omega
 generalize (fun m st => ∃ i : Nat,i ≤ es.length ∧ m = es.length - i ∧ st = ft1 w es i) = J1 at *
 simp only [ft1,encWd]
 have e0 : roundN 0 w = w:=rfl
 obtain ⟨y,hy⟩ : ∃ y,y = roundN K w:=⟨_,rfl⟩
 rw [← hy] at h8 h9 hst
 simp only [encWd] at h8
 refine wk @k1 ?_
 refine cd [[aD (encWd r1)],[aD (encWd r1)],[vB true]] (an2 @encWd.eq_1 Bool.not_true) ?_ ?_
 ·exact obl_cons h5 (obl_cons h6 (obl_cons h7 obl_nil))
 refine wk Bool.not_true ?_
 refine cg [[aD (encWd y),vI K]] @encWd.eq_1 ?_ ?_
 ·exact obl_cons h8 obl_nil
 refine wk0 ?_
 refine aw_loop (fun m st => ∃ k : Nat,k ≤ K ∧ m = K - k ∧ st = ft2 w y K k) K (ft2 w y K 0) (Le.refl _) ⟨0,by omega,by omega,rfl⟩ ?_
 rintro m st ⟨k,hk,hm,rfl⟩
 have hg:=hw.rounds k
 have q1:=still_told _ hg
 by_cases hlt : k < K
 ·have c1 : (k : Int) < 200:=by omega
  have c2 : inR .i64 ((k : Int) + 1) = true:=inR_of (by omega)
  rw [hnot k hlt] at q1
  have q2:=round_told hS _ hg (by rw [roundN_ticks]; omega)
  rw [show roundW (roundN k w) = roundN (k + 1) w from rfl] at q2
  have hnx : Next (fun m st => ∃ k : Nat,k ≤ K ∧ m = K - k ∧ st = ft2 w y K k) m (ft2 w y K (k + 1)):=⟨K - (k + 1),_,by omega,Le.refl _,k + 1,by omega,rfl,rfl⟩
  generalize (fun m st => ∃ k : Nat,k ≤ K ∧ m = K - k ∧ st = ft2 w y K k) = J at *
  unfold ft2 at hnx ⊢
  generalize roundN (k + 1) w = y2 at *
  generalize roundN k w = y1 at *
  simp only [encWd,Int.natCast_add,Int.cast_ofNat_Int] at q1 q2 hnx ⊢
  refine wk @c1 ?_
  refine cg [[vB false]] (an2 @c1 Bool.not_false) ?_ ?_
  ·exact obl_cons q1 obl_nil
  refine wk0 ?_
  refine cg [[aD (encWd y2)]] @encWd.eq_1 ?_ ?_
  ·exact obl_cons q2 obl_nil
  refine wk @c2 ?_
  exact hnx
 have hkK : k = K:=by omega
 subst hkK
 rw [← hy] at q1
 have z2 : ((k : Int) == (k : Int)) = true:=beq_self_eq_true _
 generalize (fun m st => ∃ j : Nat,j ≤ k ∧ m = k - j ∧ st = ft2 w y k j) = J2 at *
 unfold ft2
 rw [← hy]
 by_cases c1 : (k : Int) < 200
 ·have hstill : stillW y = true:=by
   rcases hst with q | q
   ·exact q
   ·omega
  rw [hstill] at q1
  simp only [encWd] at q1 h9 ⊢
  refine wk @c1 ?_
  refine cg [[vB true]] (an2 @c1 Bool.not_true) ?_ ?_
  ·exact obl_cons q1 obl_nil
  refine wk @z2 ?_
  refine cg [[vB true]] @z2 ?_ ?_
  ·exact obl_cons h9 obl_nil
  refine wk0 ?_
  exact ValsLe.refl _
 ·simp only [encWd] at h9 ⊢
  refine wk (an2 @c1 @z2) ?_
  refine cg [[vB true]] @z2 ?_ ?_
  ·exact obl_cons h9 obl_nil
  refine wk0 ?_
  exact ValsLe.refl _
theorem fairTells_told (hS : CSpoilR 34) (hP : CFPlay 7) (hR : CFRound 11) (hT : CFSettle 13) (n : Int) (l : List Sp) (hl : l.length ≤ 9223372036854775807) : Told Tryz.prog 3 [vI n,sD 7 (encSl l)] [vB true]:=by
 by_cases h : n < 1 ∨ 3 < n
 ·exact fairTells_not hP n l hl h
 ·obtain ⟨q,rfl⟩ : ∃ q : Nat,n = q:=⟨n.toNat,by omega⟩
  by_cases h2 : 160 < l.length
  ·exact fairTells_long hP q (by omega) l hl h2
  ·exact fairTells_good hS hP hR hT q (by omega) l (by omega)
end Go.Proofs.YtgaofjiidedcbacGreat.ab
