import Derived.Test.YtgaofjiidedcbacGreatM35
import Derived.Test.YtgaofjiidedcbacGreatM20
import Derived.Test.YtgaofjiidedcbacGreatProg
import Derived.Test.YtgaofjiidedcbacGreatM32
import Derived.Test.YtgaofjiidedcbacGreatPLane3
import Derived.Test.YtgaofjiidedcbacGreatM25
import Derived.ChangeOld
import Derived.SizedLaws
set_option maxHeartbeats 16000000
set_option linter.unusedVariables false
set_option linter.unusedSimpArgs false
namespace Go.Proofs.YtgaofjiidedcbacGreat.ab
open Go Go.RowKit
open mth
def afP : Sp:=⟨2,1,0,0,false,⟨0,[97]⟩⟩
def afW : Wd:=(runW (newW 2) [afP]).1
theorem af_k : settleK 200 afW = 5:=by decide +kernel
theorem af_told : ∃ l,(roundN 5 afW).lanes[1]? = some l ∧ l.r.told.length = 1 ∧ l.s.flight.length = 0:=⟨(roundN 5 afW).lanes.getD 1 zeroL,by rw [List.getD_eq_getElem?_getD,List.getElem?_eq_getElem (by decide +kernel)]; rfl,by decide +kernel,by decide +kernel⟩
theorem encB_97f : encB 97 = vD (.int .u8 97):=rfl
theorem alive12_told (hP : CFPlay 7) (hR : CFRound 11) (hT : CFSettle 13) : Told Tryz.prog 15 [] [vB true]:=by
 refine told_w12_alive rfl ?_
 have g0 : GoodW afW:=by
  have:=(good_run (good_new (by decide : 1 ≤ 2 ∧ 2 ≤ 3)) [afP] 1).1
  exact this
 have h1:=hP.2.2 2 [afP] (by decide) (by decide)
 have h2:=hT afW g0 (by decide)
 have h3:=hR afW g0 (by decide)
 rw [show (runW (newW 2) [afP]).1 = afW from rfl,show (runW (newW 2) [afP]).2 = [0] from rfl] at h1
 rw [af_k] at h2
 obtain ⟨l,q1,q2,q3⟩:=af_told
 have r1:=at_ll q1
 have t1 : (roundW afW).ticks = 1:=by rw [round_ticks]; rfl
 have n1 : (((roundN 5 afW).lanes.length : Nat) : Int) = 2:=by rw [roundN_len]; rfl
 have z1 : ((l.r.told.length : Nat) : Int) = 1:=by rw [q2]; rfl
 have z2 : ((l.s.flight.length : Nat) : Int) = 0:=by rw [q3]; rfl
 have cn : ((2 : Nat) : Int) = 2:=rfl
 have c4 : ((5 : Nat) : Int) = 5:=rfl
 rw [cn] at h1
 rw [c4] at h2
 generalize roundN 5 afW = x at *
 generalize roundW afW = y at *
 generalize afW = w at *
 simp only [encWd,encSl,encSp,afP,encB_97f,encLn,List.map_cons,List.map_nil] at h1 h2 h3 r1
 rw [t1] at h3
 refine wk0 ?_
 refine cg [[aD (encWd w),sD 1 [vI 0],vI 0]] @encWd.eq_1 ?_ ?_
 ·refine ⟨⟨_,?_,h1⟩,trivial⟩
  repeat' (first | exact vals_nil | exact row_nil | exact es_nil | exact CVLe.refl _ | exact LfLe.refl _ | exact LfLe.nil _ | exact EsLe.refl _ | refine vals_cons ?_ ?_ | refine row_cons ?_ ?_ | refine es_cons ?_ ?_ | refine EsLe.app ?_ ?_ | refine CVLe.row ?_ | refine CVLe.leafV ?_ | refine CVLe.leafS ?_ | refine LfLe.s ?_)
 refine wk0 ?_
 refine cg [[aD (encWd x),vI 5]] @encWd.eq_1 ?_ ?_
 ·exact obl_cons h2 obl_nil
 refine wk (an10 @n1 @r1 @z1 @z2 @len_ll @len_ml @len_cl @zcons @znil @Int.toNat_one) ?_
 refine cg0 [[aD [sD 17 (encLl y.lanes),vI 1]]] ?_ ?_
 ·exact obl_cons h3 obl_nil
 refine wk0 ?_
 exact ValsLe.refl _
set_option maxRecDepth 100000
def Q55r0 : IC:=cReg Tryz.prog [xX 1 0,⟨some 2,none,iMov 2 (.const (.bool false)) true⟩] [1] [1]
def Q55r1 : IC:=cReg Tryz.prog [xF 5 0 1,xL 6 1 5,xN 7 6,⟨some 8,none,iMov 8 (.const (.int .i64 0)) false⟩] [6,7,8] []
def Q55r2 : IC:=cReg Tryz.prog [xB 9 .lss 8 7] [6,7,8,9] []
def Q55c3 : IC:=cCond (.tmp 9) cSkip (cExit 0)
def Q55r3 : IC:=cReg Tryz.prog [xI 10 17 6 8,xA 11 17 10,⟨some 4,none,iAlo 4 [zS,zI,zI,zI,zI,zS,zI,zI,zS,zI,zI,zI,zS,zS,zF,zS,zS]⟩,xS 17 4 11] [4,6,7,8] [4]
def Q55r4 : IC:=cReg Tryz.prog [xF 12 0 4,xF 13 0 12,xL 14 1 13,xN 15 14,xF 16 0 4,xF 17 5 16,xL 18 1 17,xN 19 18,xB 20 .add 15 19,xC 21 .gtr 20 0] [6,7,8,21] []
def Q55r5 : IC:=cReg Tryz.prog [⟨some 2,none,iMov 2 (.const (.bool false)) true⟩] [2] []
def Q55c5a : IC:=(cSeq Q55r5 cRet)
def Q55c5 : IC:=cCond (.tmp 21) Q55c5a cSkip
def Q55b4 : IC:=cBlock 1 (cSeq Q55r3 (cSeq Q55r4 Q55c5))
def Q55r6 : IC:=cReg Tryz.prog [xC 22 .add 8 1,xM 8 22] [6,7,8] []
def Q55l2a : IC:=(cSeq Q55r2 (cSeq Q55c3 (cSeq Q55b4 Q55r6)))
def Q55l2 : IC:=cLoop Q55l2a
def Q55b1 : IC:=cBlock 0 Q55l2
def Q55r7 : IC:=cReg Tryz.prog [⟨some 2,none,iMov 2 (.const (.bool true)) true⟩] [2] []
def r6_Still : IC:=(cSeq Q55r0 (cSeq (cSeq Q55r1 Q55b1) (cSeq Q55r7 cRet)))
theorem told_r6_Still {args r : List D} (hl : args.length = 1) (h : r6_Still (start args) (fin [(2,none)] r)) : Told Tryz.prog 14 args r :=
 told_of follows Tryz.func14 rfl (an:=[([],[1],[1],[]),([],[6,7,8],[],[]),([],[6,7,8,9],[],[]),([],[4,6,7,8],[4],[]),([],[6,7,8,21],[],[]),([],[2],[],[]),([],[6,7,8],[],[]),([],[2],[],[])]) (by kernel_rfl) (by kernel_rfl) (by rw [hl]; decide +kernel) h
def slSt (w : Wd) (k : Nat) : St:=⟨[(6,sD 17 (encLl w.lanes)),(7,vI w.lanes.length),(8,vI k)],[],[]⟩
theorem still_told (w : Wd) (hw : GoodW w) : Told Tryz.prog 14 [aD (encWd w)] [vB (stillW w)]:=by
 refine told_r6_Still rfl ?_
 have hn:=hw.n
 simp only [encWd]
 refine wk @len_ll ?_
 refine aw_loop (fun m st => ∃ k : Nat,k ≤ w.lanes.length ∧ m = w.lanes.length - k ∧ (w.lanes.take k).all idleL = true ∧ st = slSt w k) w.lanes.length (slSt w 0) (Le.refl _) ⟨0,by omega,by omega,by simp,rfl⟩ ?_
 rintro m st ⟨k,hk,hm,hall,rfl⟩
 by_cases hlt : k < w.lanes.length
 ·obtain ⟨x,hx⟩ : ∃ x,w.lanes[k]? = some x:=⟨w.lanes[k],List.getElem?_eq_getElem hlt⟩
  have hxm:=List.mem_of_getElem? hx
  have hg:=hw.l x hxm
  have g1 : (k : Int) < (w.lanes.length : Int):=by omega
  have g2 : (0 : Int) ≤ (k : Int):=by omega
  have g3:=at_ll hx
  have g4 : inR .i64 ((k : Int) + 1) = true:=inR_of (by omega)
  have g5 : inR .i64 ((x.s.queue.length : Int) + (x.s.flight.length : Int)) = true:=inR_of (by have:=hg.s.q; have:=hg.s.f; omega)
  cases hi : idleL x with
  | true =>
   obtain ⟨q1,q2⟩:=idle_iff.1 hi
   have g6 : ¬ 0 < (x.s.queue.length : Int) + (x.s.flight.length : Int):=by rw [q1,q2]; simp
   have hnx : Next (fun m st => ∃ k : Nat,k ≤ w.lanes.length ∧ m = w.lanes.length - k ∧ (w.lanes.take k).all idleL = true ∧ st = slSt w k) m (slSt w (k + 1)):=⟨w.lanes.length - (k + 1),_,by omega,Le.refl _,k + 1,by omega,rfl,by
    rw [List.take_add_one,hx,List.all_append,hall]; simp [hi],rfl⟩
   generalize (fun m st => ∃ k : Nat,k ≤ w.lanes.length ∧ m = w.lanes.length - k ∧ (w.lanes.take k).all idleL = true ∧ st = slSt w k) = J at *
   simp only [slSt,encLn,Int.natCast_add,Int.cast_ofNat_Int] at g3 hnx ⊢
   refine wk (an10 @g1 @g2 @g3 @g4 @g5 @g6 @len_ll @len_ml @len_cl @Int.toNat_natCast) ?_
   exact hnx
  | false =>
   have g6 : 0 < (x.s.queue.length : Int) + (x.s.flight.length : Int):=by
    unfold idleL at hi
    cases h1 : x.s.queue with
    | cons a b => simp only [List.length_cons]; omega
    | nil =>
     cases h2 : x.s.flight with
     | cons a b => simp only [List.length_cons]; omega
     | nil => rw [h1,h2] at hi; cases hi
   have hs : stillW w = false:=by
    unfold stillW
    rw [List.all_eq_false]
    exact ⟨x,hxm,by rw [hi]; simp⟩
   rw [hs]
   generalize (fun m st => ∃ k : Nat,k ≤ w.lanes.length ∧ m = w.lanes.length - k ∧ (w.lanes.take k).all idleL = true ∧ st = slSt w k) = J at *
   simp only [slSt,encLn] at g3 ⊢
   refine wk (an9 @g1 @g2 @g3 @g5 @g6 @len_ll @len_ml @len_cl @Int.toNat_natCast) ?_
   exact ValsLe.refl _
 ·have hkn : k = w.lanes.length:=by omega
  subst hkn
  rw [List.take_length] at hall
  have hs : stillW w = true:=hall
  rw [hs]
  have g1 : ¬ (w.lanes.length : Int) < (w.lanes.length : Int):=by omega
  generalize (fun m st => ∃ k : Nat,k ≤ w.lanes.length ∧ m = w.lanes.length - k ∧ (w.lanes.take k).all idleL = true ∧ st = slSt w k) = J at *
  simp only [slSt]
  refine wk @g1 ?_
  exact ValsLe.refl _
set_option maxRecDepth 100000
def Q53r0 : IC:=cReg Tryz.prog [⟨some 6,none,iMov 6 (.const (.slice none 0 0)) true⟩] [0,1,2] []
def Q53r1 : IC:=cReg Tryz.prog [⟨some 7,none,iMov 7 (.const (.slice none 0 0)) true⟩] [0,1,2,7] []
def Q53r2 : IC:=cReg Tryz.prog [xM 10 0,xN 11 10,⟨some 12,none,iMov 12 (.const (.int .i64 0)) false⟩] [1,2,7,10,11,12] []
def Q53r3 : IC:=cReg Tryz.prog [xB 13 .lss 12 11] [1,2,7,10,11,12,13] []
def Q53c3 : IC:=cCond (.tmp 13) cSkip (cExit 0)
def Q53r4 : IC:=cReg Tryz.prog [xM 14 12,xI 15 7 10 12,xA 16 7 15,⟨some 9,none,iAlo 9 [zI,zI,zI,zI,zF,zI,zS]⟩,xT 8 14,xS 7 9 16] [1,2,7,8,9,10,11,12] [9]
def Q53r5_0 : IC:=cReg Tryz.prog [xM 17 8,xM 18 1,xN 19 18,xB 20 .lss 17 19,xM 21 20,xG 21 true (xM 22 1),xG 21 true (xM 23 8),xG 21 true (xI 24 1 22 23),xG 21 true (xL 25 1 24),xG 21 true (xC 26 .eql 25 0)] [1,2,7,9,10,11,12,21,26] [9]
def Q53r5_1 : IC:=cReg Tryz.prog [xQ 27 21 26,xM 28 27,xG 28 true (xF 29 0 9),xG 28 true (xL 30 1 29),xG 28 true (xC 31 .eql 30 2),xQ 32 28 31,xM 33 32,xG 33 true (xF 34 1 9),xG 33 true (xL 35 1 34),xG 33 true (xM 36 2),xG 33 true (xB 37 .eql 35 36),xQ 38 33 37] [1,2,7,9,10,11,12,38] [9]
def Q53r5 : IC:=(cSeq Q53r5_0 Q53r5_1)
def Q53r6 : IC:=cReg Tryz.prog [xT 39 7,xF 40 5 9,xA 41 2 40,xR 42 43 2 41,xW 43 43 2 32 39 42,xT 7 43] [1,2,7,10,11,12] []
def Q53c5 : IC:=cCond (.tmp 38) Q53r6 cSkip
def Q53b4 : IC:=cBlock 1 (cSeq Q53r4 (cSeq Q53r5 Q53c5))
def Q53r7 : IC:=cReg Tryz.prog [xC 44 .add 12 1,xM 12 44] [1,2,7,10,11,12] []
def Q53l2a : IC:=(cSeq Q53r3 (cSeq Q53c3 (cSeq Q53b4 Q53r7)))
def Q53l2 : IC:=cLoop Q53l2a
def Q53b1 : IC:=cBlock 0 Q53l2
def Q53r8 : IC:=cReg Tryz.prog [xM 45 7,xT 6 45] [6] []
def r6_Puts : IC:=(cSeq Q53r0 (cSeq Q53r1 (cSeq (cSeq Q53r2 Q53b1) (cSeq Q53r8 cRet))))
theorem told_r6_Puts {args r : List D} (hl : args.length = 3) (h : r6_Puts (start args) (fin [(6,none)] r)) : Told Tryz.prog 16 args r :=
 told_of follows Tryz.func16 rfl (an:=[([],[0,1,2],[],[]),([],[0,1,2,7],[],[]),([],[1,2,7,10,11,12],[],[]),([],[1,2,7,10,11,12,13],[],[]),([],[1,2,7,8,9,10,11,12],[9],[]),([(10,[1,2,7,9,10,11,12,21,26],[9])],[1,2,7,9,10,11,12,38],[9],[]),([],[1,2,7,10,11,12],[],[]),([],[1,2,7,10,11,12],[],[]),([],[6],[],[])]) (by kernel_rfl) (by kernel_rfl) (by rw [hl]; decide +kernel) h
def putsK (l : List Sp) (es : List Int) (t : Int) (k : Nat) : List Ms:=(((l.zip es).take k).filter (fun x => x.2 == 0 && (x.1.kind == 2 && x.1.tenant == t))).map (fun x => x.1.msg)
theorem putsK_all (l : List Sp) (es : List Int) (t : Int) : putsK l es t l.length = putsW l es t:=by
 unfold putsK putsW
 rw [List.take_of_length_le (by rw [List.length_zip]; omega)]
theorem putsK_len (l : List Sp) (es : List Int) (t : Int) (k : Nat) : (putsK l es t k).length ≤ es.length:=by
 unfold putsK
 rw [List.length_map]
 refine Nat.le_trans (List.length_filter_le _ _) ?_
 rw [List.length_take,List.length_zip]; omega
theorem putsK_no {l : List Sp} {es : List Int} (t : Int) {k : Nat} (h : es.length ≤ k) : putsK l es t (k + 1) = putsK l es t k:=by
 unfold putsK
 rw [List.take_of_length_le (i:=k) (by rw [List.length_zip]; omega),List.take_of_length_le (by rw [List.length_zip]; omega)]
theorem putsK_at {l : List Sp} {es : List Int} (t : Int) {k : Nat} {s : Sp} {e : Int} (hs : l[k]? = some s) (he : es[k]? = some e) : putsK l es t (k + 1) = putsK l es t k ++ (if e = 0 ∧ s.kind = 2 ∧ s.tenant = t then [s.msg] else []):=by
 have hz : (l.zip es)[k]? = some (s,e):=List.getElem?_zip_eq_some.2 ⟨hs,he⟩
 unfold putsK
 rw [List.take_add_one,hz,Option.toList_some,List.filter_append,List.map_append]
 congr 1
 by_cases h1 : e = 0 ∧ s.kind = 2 ∧ s.tenant = t
 ·rw [if_pos h1]; simp [h1]
 ·rw [if_neg h1,List.filter_cons_of_neg]
  ·rfl
  ·simp only [Bool.and_eq_true,beq_iff_eq]; exact h1
def puSt (l : List Sp) (es : List Int) (t : Int) (p : List Ms) (k : Nat) : St :=
 ⟨[(1,sD 1 (es.map vI)),(2,vI t),(7,sD 2 (encMl p)),(10,sD 7 (encSl l)),(11,vI l.length),(12,vI k)],[],[((7,none),(43,2,none))]⟩
def puJ (l : List Sp) (es : List Int) (t : Int) : Nat → St → Prop:=fun m st => ∃ k : Nat,k ≤ l.length ∧ m = l.length - k ∧ st = puSt l es t (putsK l es t k) k
theorem at_es {es : List Int} {i : Nat} {x : Int} (h : es[i]? = some x) : (es.map vI)[i]? = some (vI x):=by simp [h]
theorem puts_told (l : List Sp) (es : List Int) (t : Int) (hl : l.length ≤ 9223372036854775807) (he : es.length ≤ 1048576) : Told Tryz.prog 16 [sD 7 (encSl l),sD 1 (es.map vI),vI t] [sD 2 (encMl (putsW l es t))]:=by
 refine told_r6_Puts rfl ?_
 refine wk @len_sl ?_
 refine aw_loop (puJ l es t) l.length (puSt l es t [] 0) ?_ ⟨0,by omega,by omega,rfl⟩ ?_
 ·exact (Le.nilS 7 43 2 rfl).trans (Le.keep (lv:=[1,2,7,10,11,12]) (lb:=[]) (by simp only [ev0,ev1,ev2,look,lookF,cellsFrom,offT,offP,List.tail_nil,List.length_nil,Int.cast_ofNat_Int,Nat.reduceEqDiff,Nat.reduceAdd,Nat.reduceMul,Nat.reduceLeDiff,Nat.reduceLT,↓reduceIte,reduceCtorEq,Int.reduceBEq,Int.reduceBNe,Int.reduceLT,Int.reduceLE,Int.reduceToNat]; rfl))
 rintro m st ⟨k,hk,hm,rfl⟩
 have hpl:=putsK_len l es t k
 by_cases hlt : k < l.length
 ·obtain ⟨s,hs⟩ : ∃ s,l[k]? = some s:=⟨l[k],List.getElem?_eq_getElem hlt⟩
  have g1 : (k : Int) < (l.length : Int):=by omega
  have g2 : (0 : Int) ≤ (k : Int):=by omega
  have g3:=at_sl hs
  have g4 : inR .i64 ((k : Int) + 1) = true:=inR_of (by omega)
  have hnx : ∀ p,p = putsK l es t (k + 1) → Next (puJ l es t) m (puSt l es t p (k + 1)):=fun p hp => ⟨l.length - (k + 1),_,by omega,Le.refl _,k + 1,by omega,rfl,by rw [hp]⟩
  by_cases hke : k < es.length
  ·obtain ⟨e,hee⟩ : ∃ e,es[k]? = some e:=⟨es[k],List.getElem?_eq_getElem hke⟩
   have g5 : (k : Int) < (es.length : Int):=by omega
   have g6:=at_es hee
   have hstep:=putsK_at t hs hee
   by_cases c1 : e = 0
   ·have f1 : (e == 0) = true:=by simpa using c1
    by_cases c2 : s.kind = 2
    ·have f2 : (s.kind == 2) = true:=by simpa using c2
     by_cases c3 : s.tenant = t
     ·have f3 : (s.tenant == t) = true:=by simpa using c3
      rw [if_pos ⟨c1,c2,c3⟩] at hstep
      have hnx:=hnx _ hstep.symm
      generalize puJ l es t = J at *
      generalize putsK l es t k = p at *
      have b1 : (p.length + 1) * 32 ≤ 140737488355328:=by omega
      simp only [puSt,Int.natCast_add,Int.cast_ofNat_Int,ml_snoc3] at hnx ⊢
      refine wk (an13 @g1 @g2 @g3 @g4 @g5 @g6 @f1 @f2 @f3 @b1 @len_ml @zmap @Int.toNat_natCast) ?_
      exact hnx
     ·have f3 : (s.tenant == t) = false:=by simpa using c3
      rw [if_neg (fun w => c3 w.2.2),List.append_nil] at hstep
      have hnx:=hnx _ hstep.symm
      generalize puJ l es t = J at *
      generalize putsK l es t k = p at *
      simp only [puSt,Int.natCast_add,Int.cast_ofNat_Int] at hnx ⊢
      refine wk (an11 @g1 @g2 @g3 @g4 @g5 @g6 @f1 @f2 @f3 @zmap @Int.toNat_natCast) ?_
      exact hnx
    ·have f2 : (s.kind == 2) = false:=by simpa using c2
     rw [if_neg (fun w => c2 w.2.1),List.append_nil] at hstep
     have hnx:=hnx _ hstep.symm
     generalize puJ l es t = J at *
     generalize putsK l es t k = p at *
     simp only [puSt,Int.natCast_add,Int.cast_ofNat_Int] at hnx ⊢
     refine wk (an10 @g1 @g2 @g3 @g4 @g5 @g6 @f1 @f2 @zmap @Int.toNat_natCast) ?_
     exact hnx
   ·have f1 : (e == 0) = false:=by simpa using c1
    rw [if_neg (fun w => c1 w.1),List.append_nil] at hstep
    have hnx:=hnx _ hstep.symm
    generalize puJ l es t = J at *
    generalize putsK l es t k = p at *
    simp only [puSt,Int.natCast_add,Int.cast_ofNat_Int] at hnx ⊢
    refine wk (an9 @g1 @g2 @g3 @g4 @g5 @g6 @f1 @zmap @Int.toNat_natCast) ?_
    exact hnx
  ·have g5 : ¬ (k : Int) < (es.length : Int):=by omega
   have hnx:=hnx _ (putsK_no t (by omega)).symm
   generalize puJ l es t = J at *
   generalize putsK l es t k = p at *
   simp only [puSt,Int.natCast_add,Int.cast_ofNat_Int] at hnx ⊢
   refine wk (an7 @g1 @g2 @g3 @g4 @g5 @zmap @Int.toNat_natCast) ?_
   exact hnx
 ·have : k = l.length:=by omega
  subst this
  have g1 : ¬ (l.length : Int) < (l.length : Int):=by omega
  rw [putsK_all]
  generalize puJ l es t = J at *
  generalize putsW l es t = p at *
  simp only [puSt]
  refine wk @g1 ?_
  exact ValsLe.refl _
set_option maxRecDepth 100000
def Q34r0 : IC:=cReg Tryz.prog [⟨some 4,none,iMov 4 (.const (.slice none 0 0)) true⟩] [0,1] []
def Q34r1 : IC:=cReg Tryz.prog [⟨some 5,none,iMov 5 (.const (.slice none 0 0)) true⟩] [0,1,5] []
def Q34r2 : IC:=cReg Tryz.prog [xM 8 0,xN 9 8,⟨some 10,none,iMov 10 (.const (.int .i64 0)) false⟩] [1,5,8,9,10] []
def Q34r3 : IC:=cReg Tryz.prog [xB 11 .lss 10 9] [1,5,8,9,10,11] []
def Q34c3 : IC:=cCond (.tmp 11) cSkip (cExit 0)
def Q34r4 : IC:=cReg Tryz.prog [xI 12 2 8 10,xA 13 2 12,⟨some 7,none,iAlo 7 [zI,zS]⟩,xS 2 7 13] [1,5,7,8,9,10] [7]
def Q34r5 : IC:=cReg Tryz.prog [xF 14 0 7,xL 15 1 14,xM 16 1,xB 17 .eql 15 16] [1,5,7,8,9,10,17] [7]
def Q34r6 : IC:=cReg Tryz.prog [xT 18 5,xA 19 2 7,xR 20 43 2 19,xW 21 43 2 32 18 20,xT 5 21] [1,5,8,9,10] []
def Q34c5 : IC:=cCond (.tmp 17) Q34r6 cSkip
def Q34b4 : IC:=cBlock 1 (cSeq Q34r4 (cSeq Q34r5 Q34c5))
def Q34r7 : IC:=cReg Tryz.prog [xC 22 .add 10 1,xM 10 22] [1,5,8,9,10] []
def Q34l2a : IC:=(cSeq Q34r3 (cSeq Q34c3 (cSeq Q34b4 Q34r7)))
def Q34l2 : IC:=cLoop Q34l2a
def Q34b1 : IC:=cBlock 0 Q34l2
def Q34r8 : IC:=cReg Tryz.prog [xM 23 5,xT 4 23] [4] []
def r1_Of : IC:=(cSeq Q34r0 (cSeq Q34r1 (cSeq (cSeq Q34r2 Q34b1) (cSeq Q34r8 cRet))))
theorem told_r1_Of {args r : List D} (hl : args.length = 2) (h : r1_Of (start args) (fin [(4,none)] r)) : Told Tryz.prog 25 args r :=
 told_of follows Tryz.func25 rfl (an:=[([],[0,1],[],[]),([],[0,1,5],[],[]),([],[1,5,8,9,10],[],[]),([],[1,5,8,9,10,11],[],[]),([],[1,5,7,8,9,10],[7],[]),([],[1,5,7,8,9,10,17],[7],[]),([],[1,5,8,9,10],[],[]),([],[1,5,8,9,10],[],[]),([],[4],[],[])]) (by kernel_rfl) (by kernel_rfl) (by rw [hl]; decide +kernel) h
def Q33r0 : IC:=cReg Tryz.prog [⟨some 4,none,iMov 4 (.const (.bool false)) true⟩] [0,1] []
def Q33r1 : IC:=cReg Tryz.prog [⟨some 8,none,iMov 8 (.const (.int .i64 0)) false⟩] [0,1,8] []
def Q33r2 : IC:=cReg Tryz.prog [xC 9 .lss 8 3] [0,1,8,9] []
def Q33c3 : IC:=cCond (.tmp 9) cSkip (cExit 0)
def Q33r3 : IC:=cReg Tryz.prog [xM 10 8,xT 5 10] [0,1,5,8] []
def Q33r4 : IC:=cReg Tryz.prog [xM 11 0,xM 12 5,xV2 13 25 11 12,xM 14 1,xM 15 5,xV2 16 25 14 15,xT 6 13,xT 7 16] [0,1,6,7,8] []
def Q33r5 : IC:=cReg Tryz.prog [xM 17 6,xN 18 17,xM 19 7,xN 20 19,xB 21 .gtr 18 20,xM 22 21,xG 22 false (xM 23 6),xG 22 false (xM 24 7),xG 22 false (xM 25 6),xG 22 false (xN 26 25),⟨some 27,some (22,false),iSlc 27 2 (.tmp 24) none (some (.tmp 26))⟩,xG 22 false (xV2 28 26 23 27),xG 22 false (xO 29 28),xP 30 22 29] [0,1,8,30] []
def Q33r6 : IC:=cReg Tryz.prog [⟨some 4,none,iMov 4 (.const (.bool false)) true⟩] [4] []
def Q33c5a : IC:=(cSeq Q33r6 cRet)
def Q33c5 : IC:=cCond (.tmp 30) Q33c5a cSkip
def Q33b4 : IC:=cBlock 1 (cSeq Q33r3 (cSeq Q33r4 (cSeq Q33r5 Q33c5)))
def Q33r7 : IC:=cReg Tryz.prog [xC 31 .add 8 1,xM 8 31] [0,1,8] []
def Q33l2a : IC:=(cSeq Q33r2 (cSeq Q33c3 (cSeq Q33b4 Q33r7)))
def Q33l2 : IC:=cLoop Q33l2a
def Q33b1 : IC:=cBlock 0 Q33l2
def Q33r8 : IC:=cReg Tryz.prog [⟨some 4,none,iMov 4 (.const (.bool true)) true⟩] [4] []
def r1_Fits : IC:=(cSeq Q33r0 (cSeq (cSeq Q33r1 Q33b1) (cSeq Q33r8 cRet)))
theorem told_r1_Fits {args r : List D} (hl : args.length = 2) (h : r1_Fits (start args) (fin [(4,none)] r)) : Told Tryz.prog 17 args r :=
 told_of follows Tryz.func17 rfl (an:=[([],[0,1],[],[]),([],[0,1,8],[],[]),([],[0,1,8,9],[],[]),([],[0,1,5,8],[],[]),([],[0,1,6,7,8],[],[]),([],[0,1,8,30],[],[]),([],[4],[],[]),([],[0,1,8],[],[]),([],[4],[],[])]) (by kernel_rfl) (by kernel_rfl) (by rw [hl]; decide +kernel) h
def ofSt (l : List Ms) (s : Int) (k : Nat) : St:=⟨[(1,vI s),(5,sD 2 (encMl (ofS (l.take k) s))),(8,sD 2 (encMl l)),(9,vI l.length),(10,vI k)],[],[((5,none),(43,2,none))]⟩
theorem ofS_next {l : List Ms} {s : Int} {k n : Nat} (hk : k < l.length) (hn : n = l.length - k) {xs : List D} (hx : xs = encMl (ofS (l.take (k + 1)) s)) :
  Next (fun n st => ∃ k,k ≤ l.length ∧ n = l.length - k ∧ st = ofSt l s k) n ⟨[(1,vI s),(5,sD 2 xs),(8,sD 2 (encMl l)),(9,vI l.length),(10,vI ((k : Int) + 1))],[],[((5,none),(43,2,none))]⟩:=by
 subst hx
 exact ⟨l.length - (k + 1),_,by omega,Le.refl _,k + 1,by omega,rfl,by simp only [ofSt,Int.natCast_add,Int.cast_ofNat_Int]⟩
theorem refOf_told (l : List Ms) (s : Int) (hl : l.length ≤ 1048576) : Told Tryz.prog 25 [sD 2 (encMl l),vI s] [sD 2 (encMl (ofS l s))]:=by
 refine told_r1_Of rfl ?_
 refine wk @len_ml ?_
 refine aw_loop (fun n st => ∃ k,k ≤ l.length ∧ n = l.length - k ∧ st = ofSt l s k) l.length (ofSt l s 0) ((Le.nilS 5 43 2 rfl).trans (Le.keep (lv:=[1,5,8,9,10]) (lb:=[]) (by simp only [ev0,ev1,ev2,look,lookF,cellsFrom,offT,offP,List.tail_nil,List.length_nil,Int.cast_ofNat_Int,Nat.reduceEqDiff,Nat.reduceAdd,Nat.reduceMul,Nat.reduceLeDiff,Nat.reduceLT,↓reduceIte,reduceCtorEq,Int.reduceBEq,Int.reduceBNe,Int.reduceLT,Int.reduceLE,Int.reduceToNat]; rfl))) ⟨0,by omega,by omega,rfl⟩ ?_
 rintro n st ⟨k,hk,hn,rfl⟩
 by_cases hlt : k < l.length
 ·obtain ⟨m,hm⟩ : ∃ m,l[k]? = some m:=⟨l[k],List.getElem?_eq_getElem hlt⟩
  have g1 : (k : Int) < (l.length : Int):=by omega
  have g2 : (0 : Int) ≤ (k : Int):=by omega
  have g3:=at_ml hm
  have g4 : inR .i64 ((k : Int) + 1) = true:=inR_of (by omega)
  have hsn:=ofS_snoc (s:=s) hm
  have hol:=ofS_len (l.take k) s
  rw [List.length_take] at hol
  have hb1 : ((ofS (l.take k) s).length + 1) * 32 ≤ 140737488355328:=by omega
  have hnx:=fun xs => ofS_next (s:=s) (xs:=xs) hlt hn
  generalize (fun n st => ∃ k,k ≤ l.length ∧ n = l.length - k ∧ st = ofSt l s k) = J at *
  simp only [ofSt]
  by_cases he : m.stream = s
  ·have e1 : (m.stream == s) = true:=by simpa using he
   refine wk (an7 @g1 @g2 @g3 @g4 @e1 @len_ml @hb1) ?_
   refine hnx _ ?_
   rw [hsn,if_pos e1]
   simp only [encMl,List.map_append,List.map_cons,List.map_nil,encMs]
  ·have e1 : (m.stream == s) = false:=by simpa using he
   refine wk (an5 @g1 @g2 @g3 @g4 @e1) ?_
   refine hnx _ ?_
   rw [hsn,if_neg (by rw [e1]; simp)]
 ·have hk' : k = l.length:=by omega
  subst hk'
  have g1 : ¬ (l.length : Int) < (l.length : Int):=by omega
  simp only [ofSt,List.take_length]
  refine wk @g1 ?_
  exact ValsLe.refl _
theorem take_ml (l : List Ms) (n : Nat) : (encMl l).take n = encMl (l.take n):=by simp [encMl,List.map_take]
def rfSt (told put : List Ms) (k : Nat) : St:=⟨[(0,sD 2 (encMl told)),(1,sD 2 (encMl put)),(8,vI k)],[],[]⟩
theorem refFits_told (told put : List Ms) (ht : told.length ≤ 1048576) (hp : put.length ≤ 1048576) : Told Tryz.prog 17 [sD 2 (encMl told),sD 2 (encMl put)] [vB (fitsS told put)]:=by
 refine told_r1_Fits rfl ?_
 refine wk0 ?_
 refine aw_loop (fun n st => ∃ k : Nat,k ≤ 3 ∧ n = 3 - k ∧ (∀ j : Nat,j < k → preS (ofS told j) (ofS put j) = true) ∧ st = rfSt told put k) 3 (rfSt told put 0) (Le.refl _) ⟨0,by omega,by omega,fun j hj => by omega,rfl⟩ ?_
 rintro n st ⟨k,hk,hn,hpre,rfl⟩
 by_cases hlt : k < 3
 ·have g1 : (k : Int) < 3:=by omega
  have g4 : inR .i64 ((k : Int) + 1) = true:=inR_of (by omega)
  simp only [rfSt]
  refine wk @g1 ?_
  refine cg0 [[sD 2 (encMl (ofS told k))],[sD 2 (encMl (ofS put k))]] ?_ ?_
  ·exact obl_cons (refOf_told told k ht) (obl_cons (refOf_told put k hp) obl_nil)
  have hA:=ofS_len told k
  have hC:=ofS_len put k
  cases hpk : preS (ofS told k) (ofS put k) with
  | true =>
   have hnext : ∀ j : Nat,j < k + 1 → preS (ofS told j) (ofS put j) = true:=fun j hj => by
    rcases Nat.lt_succ_iff_lt_or_eq.1 hj with h | h
    ·exact hpre j h
    ·subst h; exact hpk
   simp only [preS,Bool.and_eq_true,decide_eq_true_eq] at hpk
   generalize ofS told k = A at *
   generalize ofS put k = C at *
   have l1 : ¬ (C.length : Int) < (A.length : Int):=by omega
   have l2 : (0 : Int) ≤ (A.length : Int):=by omega
   have l3 : (A.length : Int) ≤ (C.length : Int):=by omega
   refine wk (an7 @l1 @l2 @l3 @len_ml @take_ml @Int.natCast_zero @Int.le_refl) ?_
   refine cg [[vB true]] (an7 @l1 @l2 @l3 @len_ml @take_ml @Int.natCast_zero @Int.le_refl) ?_ ?_
   ·have:=sameMsgs_told A (C.take A.length) (by omega)
    rw [hpk.2] at this
    exact obl_cons this obl_nil
   refine wk @g4 ?_
   exact ⟨3 - (k + 1),_,by omega,Le.refl _,k + 1,by omega,rfl,hnext,by simp only [rfSt,Int.natCast_add,Int.cast_ofNat_Int]⟩
  | false =>
   have hf : fitsS told put = false:=fitsS_no (s:=k) (by omega) hpk
   rw [hf]
   simp only [preS,Bool.and_eq_false_iff,decide_eq_false_iff_not] at hpk
   generalize ofS told k = A at *
   generalize ofS put k = C at *
   by_cases hg : C.length < A.length
   ·have l1 : (C.length : Int) < (A.length : Int):=by omega
    refine wk (an2 @l1 @len_ml) ?_
    exact ValsLe.refl _
   ·have l1 : ¬ (C.length : Int) < (A.length : Int):=by omega
    have l2 : (0 : Int) ≤ (A.length : Int):=by omega
    have l3 : (A.length : Int) ≤ (C.length : Int):=by omega
    have hss : sameL A (C.take A.length) = false:=hpk.resolve_left (by omega)
    refine wk (an7 @l1 @l2 @l3 @len_ml @take_ml @Int.natCast_zero @Int.le_refl) ?_
    refine cg [[vB false]] (an7 @l1 @l2 @l3 @len_ml @take_ml @Int.natCast_zero @Int.le_refl) ?_ ?_
    ·have:=sameMsgs_told A (C.take A.length) (by omega)
     rw [hss] at this
     exact obl_cons this obl_nil
    refine wk0 ?_
    exact ValsLe.refl _
 ·have hk' : k = 3:=by omega
  subst hk'
  have hf : fitsS told put = true:=by
   have h0:=hpre 0 (by omega)
   have h1:=hpre 1 (by omega)
   have h2:=hpre 2 (by omega)
   simp only [Int.natCast_zero,Int.cast_ofNat_Int] at h0 h1 h2
   simp [fitsS,h0,h1,h2]
  rw [hf]
  have g1 : ¬ ((3 : Nat) : Int) < 3:=by omega
  simp only [rfSt]
  refine wk @g1 ?_
  exact ValsLe.refl _
def fe1 (n : Int) (l : List Sp) (i : Nat) : St:=⟨[(0,vI n),(1,sD 7 (encSl l)),(16,sD 7 (encSl l)),(17,vI l.length),(18,vI i)],[],[]⟩
def fe2 (l : List Sp) (es : List Int) (x : Wd) (k : Nat) : St:=⟨[(1,sD 7 (encSl l)),(8,sD 1 (es.map vI)),(58,sD 17 (encLl x.lanes)),(59,vI x.lanes.length),(60,vI k)],[],[]⟩
theorem puts_cut {l : List Sp} {es : List Int} {m : Nat} (h : es.length ≤ m) (t : Int) : putsW (l.take m) es t = putsW l es t:=by
 have key : ∀ (l : List Sp) (es : List Int) (m : Nat),es.length ≤ m → (l.take m).zip es = l.zip es:=by
  intro l
  induction l with
  | nil => intro es m h; simp
  | cons a l ih =>
   intro es m h
   cases es with
   | nil => simp
   | cons e es =>
    cases m with
    | zero => simp at h
    | succ m => simp at h; simp [ih es m h]
 unfold putsW
 rw [key l es m h]
theorem fairEnds_told (hS : CSpoilR 34) (hP : CFPlay 7) (hR : CFRound 11) (hT : CFSettle 13) (n : Int) (l : List Sp) (hl : l.length ≤ 9223372036854775807) : Told Tryz.prog 4 [vI n,sD 7 (encSl l)] [vB true]:=by
 refine told_w12_FairEnds rfl ?_
 have hA:=alive12_told hP hR hT
 refine wk0 ?_
 refine cg [[vB true]] Bool.not_true ?_ ?_
 ·exact obl_cons hA obl_nil
 refine wk @len_sl ?_
 refine aw_loop (fun m st => ∃ i : Nat,i ≤ l.length ∧ m = l.length - i ∧ (∀ s ∈ l.take i,s.kind ≠ 6) ∧ st = fe1 n l i) l.length (fe1 n l 0) (Le.refl _) ⟨0,by omega,by omega,by simp,rfl⟩ ?_
 rintro m st ⟨i,hi,hm,hno,rfl⟩
 by_cases hlt : i < l.length
 ·obtain ⟨s,hs⟩ : ∃ s,l[i]? = some s:=⟨l[i],List.getElem?_eq_getElem hlt⟩
  have g1 : (i : Int) < (l.length : Int):=by omega
  have g2 : (0 : Int) ≤ (i : Int):=by omega
  have g3:=at_sl hs
  have g4 : inR .i64 ((i : Int) + 1) = true:=inR_of (by omega)
  by_cases h6 : s.kind = 6
  ·have e1 : (s.kind == 6) = true:=by simpa using h6
   generalize (fun m st => ∃ i : Nat,i ≤ l.length ∧ m = l.length - i ∧ (∀ s ∈ l.take i,s.kind ≠ 6) ∧ st = fe1 n l i) = J at *
   simp only [fe1]
   refine wk (an6 @g1 @g2 @g3 @e1 @len_sl @Int.toNat_natCast) ?_
   exact ValsLe.refl _
  ·have e1 : (s.kind == 6) = false:=by simpa using h6
   have hnx : Next (fun m st => ∃ i : Nat,i ≤ l.length ∧ m = l.length - i ∧ (∀ s ∈ l.take i,s.kind ≠ 6) ∧ st = fe1 n l i) m (fe1 n l (i + 1)):=⟨l.length - (i + 1),_,by omega,Le.refl _,i + 1,by omega,rfl,fun z hz => by
    rw [List.take_add_one,hs] at hz
    rcases List.mem_append.1 hz with q | q
    ·exact hno z q
    ·have q : z = s:=by simpa using q
     rw [q]; exact h6,rfl⟩
   generalize (fun m st => ∃ i : Nat,i ≤ l.length ∧ m = l.length - i ∧ (∀ s ∈ l.take i,s.kind ≠ 6) ∧ st = fe1 n l i) = J at *
   simp only [fe1,Int.natCast_add,Int.cast_ofNat_Int] at hnx ⊢
   refine wk (an7 @g1 @g2 @g3 @g4 @e1 @len_sl @Int.toNat_natCast) ?_
   exact hnx
 ·have hin : i = l.length:=by omega
  subst hin
  rw [List.take_length] at hno
  have g1 : ¬ (l.length : Int) < (l.length : Int):=by omega
  generalize (fun m st => ∃ i : Nat,i ≤ l.length ∧ m = l.length - i ∧ (∀ s ∈ l.take i,s.kind ≠ 6) ∧ st = fe1 n l i) = J0 at *
  simp only [fe1]
  by_cases n1 : n < 1
  ·refine wk (an2 @g1 @n1) ?_
   exact ValsLe.refl _
  by_cases n2 : 3 < n
  ·refine wk (an3 @g1 @n1 @n2) ?_
   exact ValsLe.refl _
  obtain ⟨q,rfl⟩ : ∃ q : Nat,n = q:=⟨n.toNat,by omega⟩
  have hn : 1 ≤ q ∧ q ≤ 3:=by omega
  have p1:=play_told hS q hn l hl
  obtain ⟨hw,htk,hel⟩:=good_run (good_new hn) l 160
  have hk:=wknow_run q (l.take 160) (fun s hs => hno s (List.mem_of_mem_take hs)) (l.take 160).length (Nat.le_refl _)
  rw [List.take_length] at hk
  have hwn : (runW (newW q) (l.take 160)).1.lanes.length = q:=by rw [lenW_run]; simp [newW]
  have ht0 : (newW q).ticks = 0:=rfl
  rw [ht0] at htk
  generalize (runW (newW q) (l.take 160)).2 = es at *
  generalize (runW (newW q) (l.take 160)).1 = w at *
  have hx:=hw.rounds (settleK 200 w)
  have hxk:=hk.rounds (settleK 200 w)
  have hend:=settle_ends hw hk
  have hxn:=settle_le 200 w
  have hxl:=roundN_len (settleK 200 w) w
  have p2:=hT w hw (by omega)
  have p3:=still_told _ hx
  rw [hend] at p3
  generalize settleK 200 w = K at *
  generalize roundN K w = x at *
  have b1 : ¬ 200 < (K : Int):=by omega
  have b2 : ((x.lanes.length : Int) != (q : Int)) = false:=by rw [hxl,hwn]; exact bne_self_eq_false _
  simp only [encWd] at p1 p2 p3
  refine wk (an3 @g1 @n1 @n2) ?_
  refine cg [[aD (encWd w),sD 1 (es.map vI)]] @encWd.eq_1 ?_ ?_
  ·exact obl_cons p1 obl_nil
  refine wk0 ?_
  refine cg [[aD (encWd x),vI K]] @encWd.eq_1 ?_ ?_
  ·exact obl_cons p2 obl_nil
  refine wk (an3 @b1 @b2 @len_ll) ?_
  refine cg [[vB true]] (an4 @b1 @b2 @len_ll Bool.not_true) ?_ ?_
  ·exact obl_cons p3 obl_nil
  refine wk (an2 @len_ll Bool.not_true) ?_
  refine aw_loop (fun m st => ∃ k : Nat,k ≤ x.lanes.length ∧ m = x.lanes.length - k ∧ st = fe2 l es x k) x.lanes.length (fe2 l es x 0) (Le.refl _) ⟨0,by omega,by omega,rfl⟩ ?_
  rintro m st ⟨k,hkk,hm,rfl⟩
  by_cases hlt : k < x.lanes.length
  ·obtain ⟨y,hy⟩ : ∃ y,x.lanes[k]? = some y:=⟨x.lanes[k],List.getElem?_eq_getElem hlt⟩
   have hg:=hx.l y (List.mem_of_getElem? hy)
   have hid : idleL y = true:=by unfold stillW at hend; exact List.all_eq_true.1 hend y (List.mem_of_getElem? hy)
   obtain ⟨f1,f2⟩:=(hxk k y hy).ends hid
   simp only at f1 f2
   rw [puts_cut (by omega)] at f1 f2
   have q1:=puts_told l es k hl (by omega)
   have hpl : (putsW l es k).length ≤ 43:=by rw [← f1]; exact (good_sizes hg.r).2.2
   have q2:=refFits_told y.r.told (putsW l es k) (by have:=(good_sizes hg.r).2.2; omega) (by omega)
   rw [f2] at q2
   have g2 : (k : Int) < (x.lanes.length : Int):=by omega
   have g3 : (0 : Int) ≤ (k : Int):=by omega
   have g4:=at_ll hy
   have g5 : inR .i64 ((k : Int) + 1) = true:=inR_of (by have:=hx.n; omega)
   have g6 : ((y.r.told.length : Int) != ((putsW l es k).length : Int)) = false:=by rw [f1]; exact bne_self_eq_false _
   have hnx : Next (fun m st => ∃ k : Nat,k ≤ x.lanes.length ∧ m = x.lanes.length - k ∧ st = fe2 l es x k) m (fe2 l es x (k + 1)):=⟨x.lanes.length - (k + 1),_,by omega,Le.refl _,k + 1,by omega,rfl,rfl⟩
   generalize (fun m st => ∃ k : Nat,k ≤ x.lanes.length ∧ m = x.lanes.length - k ∧ st = fe2 l es x k) = J at *
   generalize putsW l es k = P at *
   simp only [fe2,encLn,Int.natCast_add,Int.cast_ofNat_Int] at g4 hnx ⊢
   refine wk (an5 @g2 @g3 @g4 @len_ll @Int.toNat_natCast) ?_
   refine cg0 [[sD 2 (encMl P)]] ?_ ?_
   ·exact obl_cons q1 obl_nil
   refine wk0 ?_
   refine cg [[vB true]] (an3 @g6 @len_ml Bool.not_true) ?_ ?_
   ·exact obl_cons q2 obl_nil
   refine wk (an4 @g5 @g6 @len_ml Bool.not_true) ?_
   exact hnx
  ·have hkn : k = x.lanes.length:=by omega
   subst hkn
   have g2 : ¬ (x.lanes.length : Int) < (x.lanes.length : Int):=by omega
   generalize (fun m st => ∃ k : Nat,k ≤ x.lanes.length ∧ m = x.lanes.length - k ∧ st = fe2 l es x k) = J at *
   simp only [fe2]
   refine wk @g2 ?_
   exact ValsLe.refl _
end Go.Proofs.YtgaofjiidedcbacGreat.ab
namespace Go.Proofs.YtgaofjiidedcbacGreat.fairEnds
open Go Go.ChangeShapes Go.WideShapes Go.ChangeAt Go.RowKit
open ab mth
set_option maxRecDepth 100000 in
theorem lifted (hS : CSpoilR 34) (hP : CFPlay 7) (hR : CFRound 11) (hT : CFSettle 13) (os : Os) (started : os.Started) (H : Type) (enc : TypeId × Value → H) :
  ReturnsInHanded {} Tryz.checked os 4 .any (Rows.fairEndsSpec.pre6 enc Tryz.prog Tryz.f4 Rows.fairEndsRow.domain false) (Rows.fairEndsSpec.post enc Tryz.prog Tryz.f4 false true false false):=by
 refine returnsInHanded_of_change_sized (C:=Tryz.checked) own started (by kernel_rfl) Tryz.func4
  (ChangeSpec.witness6 (enc:=enc) (C:=Tryz.checked) false ⟨#[],#[.int .i64 0,.slice none 0 0],[]⟩ 8 (by kernel_rfl) (by kernel_rfl) (by kernel_rfl) (by kernel_rfl)) ?_
 intro W base args ds gs before hval0 hW0 hcnd hsz0 _
 have hval : ∀ (j : Nat) t v,Tryz.f4.params[j]? = some t → args[j]? = some v → Value.okWide Tryz.prog W .any base t v:=hval0
 have hW':=hW0
 obtain ⟨p,q,hA0,hV,rfl,hfz,hnd⟩:=hW0
 have hA : DataW.TrodAll enc Tryz.prog W 0 (fun _ => true) true Tryz.f4.params.toList args.toList ds p:=hA0
 rw [Tryz.params4] at hA hval
 obtain ⟨v0,vs0,d0,ds0,p0,q0,hargs,rfl,rfl,h0,r0⟩:=trodAll_cons hA
 obtain ⟨v1,vs1,d1,ds1,p1,q1,rfl,rfl,rfl,h1,r1⟩:=trodAll_cons r0
 obtain ⟨rfl,rfl,rfl⟩:=trodAll_nil r1
 obtain rfl : args = #[v0,v1]:=by cases args; simp_all
 obtain ⟨rfl,rfl⟩:=trodVars_none hV
 have lt0 : ∀ x ∈ p0,x.block < W.heap.size:=by obtain ⟨m,hm⟩:=h0; exact DataW.trod_lt m _ _ _ hm
 have lt1 : ∀ x ∈ p1,x.block < W.heap.size:=by obtain ⟨m,hm⟩:=h1; exact DataW.trod_lt m _ _ _ hm
 obtain ⟨n0,rfl⟩:=okWide_int Tryz.underlying3 (hval 0 3 v0 rfl rfl)
 obtain ⟨a1,len1,cap1,rfl⟩:=okWide_slice Tryz.underlying22 (hval 1 22 v1 rfl rfl)
 obtain ⟨x1,hM1,hu1,_⟩:=(by obtain ⟨fuel,hf⟩:=h1; exact in_steps hf : ∃ cs : List Sp,CRep (AllOf W) W (sD 7 (encSl cs)) (.slice a1 len1 cap1) ∧ cs.length ≤ Rows.uptoBulk d1 ∧ ∀ c ∈ cs,True)
 have hl1:=hM1.len
 rw [len_sl] at hl1
 clear hA0 hval0
 refine ((fairEnds_told hS hP hR hT n0 x1 hl1).yes (W:=W) (vs:=[.int .i64 n0,.slice a1 len1 cap1]) (Vals.cons (.inl (CRep.v rfl)) (Vals.cons (.inl hM1) Vals.nil))).mono fun e W' ⟨he,bel⟩ => ?_
 subst he
 exact ⟨_,rfl,_,_,_,[],_,[],hW',trodAll_mk1 (shut_bool Tryz.underlying4 _),(trodAll_cons_mk (Below.trod laidOut (by kernel_rfl) (of_decide_eq_true (by kernel_rfl)) h0 bel lt0) (trodAll_cons_mk (Below.trod laidOut (by kernel_rfl) (of_decide_eq_true (by kernel_rfl)) h1 bel lt1) trodAll_mk0)),rfl,bel.frame _,fun h => by cases h⟩
theorem over (hS : CSpoilR 34) (hP : CFPlay 7) (hR : CFRound 11) (hT : CFSettle 13) : Rows.fairEndsRow.holds Tryz.pinned (OpenSpec.ofChange Rows.fairEndsSpec) :=
 OpenClaim.holds_of_wide 4 Tryz.f4 rfl rfl rfl rfl rfl rfl rfl ⟨rfl,rfl,rfl,rfl,rfl⟩ rfl rfl rfl rfl rfl (by kernel_rfl) Tryz.func4 (by kernel_rfl)
  (of_decide_eq_true (by kernel_rfl)) (by unfold Func.isWrapper; first | (rw [if_pos (by decide +kernel)]; kernel_rfl) | (rw [if_neg (by decide +kernel)]; exact ⟨rfl,rfl⟩))
  (fun os started H enc _ => lifted hS hP hR hT os started H enc)
end Go.Proofs.YtgaofjiidedcbacGreat.fairEnds
namespace Go.Proofs.YtgaofjiidedcbacGreat.ab
set_option maxRecDepth 100000
open Go Go.RowKit
def Q13r0 : IC:=cReg Tryz.prog [⟨some 4,none,iAlo 4 [zS,zI]⟩,⟨some 5,none,iMov 5 (.const (.slice none 0 0)) true⟩,⟨some 6,none,iMov 6 (.const (.int .i64 0)) true⟩] [0,1,4] [4]
def Q13r1 : IC:=cReg Tryz.prog [xM 13 0,xV1 14 19 13,xM 12 14,xE 15 12 0,xE 16 12 1,⟨some 7,none,iAlo 7 [zS,zI]⟩,xS 2 7 15,xT 8 16] [1,4,7,8] [4,7]
def Q13r2 : IC:=cReg Tryz.prog [xM 17 8,xC 18 .neq 17 0] [1,4,7,8,18] [4,7]
def Q13r3 : IC:=cReg Tryz.prog [⟨some 19,none,iBld 19 [zS,zI] [] []⟩,xM 20 8,xS 2 4 19,⟨some 5,none,iMov 5 (.const (.slice none 0 0)) true⟩,xT 6 20] [4,5,6] [4]
def Q13c1a : IC:=(cSeq Q13r3 cRet)
def Q13c1 : IC:=cCond (.tmp 18) Q13c1a cSkip
def Q13r4 : IC:=cReg Tryz.prog [xM 21 1,xN 22 21,xC 23 .gtr 22 160] [1,4,7,23] [4,7]
def Q13r5 : IC:=cReg Tryz.prog [⟨some 24,none,iBld 24 [zS,zI] [] []⟩,xS 2 4 24,⟨some 5,none,iMov 5 (.const (.slice none 0 0)) true⟩,⟨some 6,none,iMov 6 (.const (.int .i64 5)) true⟩] [4,5,6] [4]
def Q13c2a : IC:=(cSeq Q13r5 cRet)
def Q13c2 : IC:=cCond (.tmp 23) Q13c2a cSkip
def Q13r6 : IC:=cReg Tryz.prog [xM 25 1,xN 26 25,⟨some 27,none,iMkS 27 1 8 (zI) (.tmp 26) (.tmp 26)⟩,xT 9 27] [1,4,7,9] [4,7,100027]
def Q13r7 : IC:=cReg Tryz.prog [xM 28 1,xN 29 28,⟨some 30,none,iMov 30 (.const (.int .i64 0)) false⟩] [4,7,9,28,29,30] [4,7,100027]
def Q13r8 : IC:=cReg Tryz.prog [xB 31 .lss 30 29] [4,7,9,28,29,30,31] [4,7,100027]
def Q13c5 : IC:=cCond (.tmp 31) cSkip (cExit 0)
def Q13r9 : IC:=cReg Tryz.prog [xM 32 30,xI 33 7 28 30,xA 34 7 33,⟨some 11,none,iAlo 11 [zI,zI,zI,zI,zF,zI,zS]⟩,xT 10 32,xS 7 11 34] [4,7,9,10,11,28,29,30] [4,7,11,100027]
def Q13r10 : IC:=cReg Tryz.prog [xM 36 9,xM 37 10,xA 38 2 7,xA 39 7 11,xV2 40 20 38 39,xM 35 40,xE 41 35 0,xE 42 35 1,xS 2 7 41,xI 43 1 36 37,xS 1 43 42] [4,7,9,28,29,30] [4,7,100027]
def Q13b6 : IC:=cBlock 1 (cSeq Q13r9 Q13r10)
def Q13r11 : IC:=cReg Tryz.prog [xC 44 .add 30 1,xM 30 44] [4,7,9,28,29,30] [4,7,100027]
def Q13l4a : IC:=(cSeq Q13r8 (cSeq Q13c5 (cSeq Q13b6 Q13r11)))
def Q13l4 : IC:=cLoop Q13l4a
def Q13b3 : IC:=cBlock 0 Q13l4
def Q13r12 : IC:=cReg Tryz.prog [xA 45 2 7,xM 46 9,xS 2 4 45,xT 5 46,⟨some 6,none,iMov 6 (.const (.int .i64 0)) true⟩] [4,5,6] [4]
def fair_Play : IC:=(cSeq Q13r0 (cSeq Q13r1 (cSeq (cSeq Q13r2 Q13c1) (cSeq (cSeq Q13r4 Q13c2) (cSeq Q13r6 (cSeq (cSeq Q13r7 Q13b3) (cSeq Q13r12 cRet)))))))
theorem told_fair_Play {args r : List D} (hl : args.length = 2) (h : fair_Play (start args) (fin [(4,some (2,true)),(5,none),(6,none)] r)) : Told Tryz.prog 7 args r :=
 told_of follows Tryz.func7 rfl (an:=[([],[0,1,4],[4],[]),([],[1,4,7,8],[4,7],[]),([],[1,4,7,8,18],[4,7],[]),([],[4,5,6],[4],[]),([],[1,4,7,23],[4,7],[]),([],[4,5,6],[4],[]),([],[1,4,7,9],[4,7,100027],[]),([],[4,7,9,28,29,30],[4,7,100027],[]),([],[4,7,9,28,29,30,31],[4,7,100027],[]),([],[4,7,9,10,11,28,29,30],[4,7,11,100027],[]),([],[4,7,9,28,29,30],[4,7,100027],[]),([],[4,7,9,28,29,30],[4,7,100027],[]),([],[4,5,6],[4],[])]) (by kernel_rfl) (by kernel_rfl) (by rw [hl]; decide +kernel) h
def Q16r0 : IC:=cReg Tryz.prog [xX 2 0,⟨some 4,none,iAlo 4 [zS,zI,zI,zI,zI,zS,zI,zI,zS,zI,zI,zI,zS,zS,zF,zS,zS]⟩] [1,2,4] [2,4]
def Q16r1 : IC:=cReg Tryz.prog [xA 8 17 2,xM 9 1,⟨some 10,none,iCall 10 37 [(.tmp 8),(.const (.int .i64 0)),(.tmp 9)]⟩,xM 7 10,xE 11 7 0,xE 12 7 1,⟨some 5,none,iAlo 5 [zS,zI,zI,zI,zI,zS,zI,zI,zS,zI,zI,zI,zS,zS,zF,zS,zS]⟩,xS 17 5 11,xT 6 12] [1,2,4,5,6] [2,4,5]
def Q16r2 : IC:=cReg Tryz.prog [xM 13 6,xC 14 .neq 13 0] [1,2,4,5,14] [2,4,5]
def Q16r3 : IC:=cReg Tryz.prog [xA 15 17 2,xS 17 4 15] [4] [4]
def Q16c4a : IC:=(cSeq Q16r3 cRet)
def Q16c4 : IC:=cCond (.tmp 14) Q16c4a cSkip
def Q16r4 : IC:=cReg Tryz.prog [xA 16 17 5,xS 17 2 16] [1,2,4] [2,4]
def Q16b3 : IC:=cBlock 1 (cSeq Q16r1 (cSeq (cSeq Q16r2 Q16c4) Q16r4))
def Q16l2a : IC:=Q16b3
def Q16l2 : IC:=cLoop Q16l2a
def Q16b1 : IC:=cBlock 0 Q16l2
def fair_allCome : IC:=(cSeq Q16r0 Q16b1)
theorem told_fair_allCome {args r : List D} (hl : args.length = 2) (h : fair_allCome (start args) (fin [(4,some (17,true))] r)) : Told Tryz.prog 23 args r :=
 told_of follows Tryz.func23 rfl (an:=[([],[1,2,4],[2,4],[]),([],[1,2,4,5,6],[2,4,5],[]),([],[1,2,4,5,14],[2,4,5],[]),([],[4],[4],[]),([],[1,2,4],[2,4],[])]) (by kernel_rfl) (by kernel_rfl) (by rw [hl]; decide +kernel) h
def Q15r0 : IC:=cReg Tryz.prog [xX 1 0,⟨some 2,none,iAlo 2 [zS,zI]⟩,⟨some 3,none,iMov 3 (.const (.int .i64 0)) true⟩] [1,2] [1,2]
def Q15r1 : IC:=cReg Tryz.prog [xA 5 2 1,xV1 6 22 5,xS 2 1 6] [1,2] [1,2]
def Q15r2 : IC:=cReg Tryz.prog [⟨some 4,none,iMov 4 (.const (.int .i64 0)) true⟩] [1,2,4] [1,2]
def Q15r3 : IC:=cReg Tryz.prog [xM 7 4,xC 8 .lss 7 200,xM 9 8,xG 9 true (xA 10 2 1),xG 9 true (xV1 11 24 10),xG 9 true (xO 12 11),xQ 13 9 12] [1,2,4,13] [1,2]
def Q15c3 : IC:=cCond (.tmp 13) cSkip (cExit 0)
def Q15r4 : IC:=cReg Tryz.prog [xA 14 2 1,xV1 15 11 14,xS 2 1 15] [1,2,4] [1,2]
def Q15r5 : IC:=cReg Tryz.prog [xM 16 4,xC 17 .add 16 1,xT 4 17] [1,2,4] [1,2]
def Q15b4 : IC:=cBlock 1 (cSeq Q15r4 Q15r5)
def Q15l2a : IC:=(cSeq (cSeq Q15r3 Q15c3) Q15b4)
def Q15l2 : IC:=cLoop Q15l2a
def Q15b1 : IC:=cBlock 0 Q15l2
def Q15r6 : IC:=cReg Tryz.prog [xA 18 2 1,xM 19 4,xS 2 2 18,xT 3 19] [2,3] [2]
def fair_Settle : IC:=(cSeq Q15r0 (cSeq Q15r1 (cSeq Q15r2 (cSeq Q15b1 (cSeq Q15r6 cRet)))))
theorem told_fair_Settle {args r : List D} (hl : args.length = 1) (h : fair_Settle (start args) (fin [(2,some (2,true)),(3,none)] r)) : Told Tryz.prog 13 args r :=
 told_of follows Tryz.func13 rfl (an:=[([],[1,2],[1,2],[]),([],[1,2],[1,2],[]),([],[1,2,4],[1,2],[]),([],[1,2,4,13],[1,2],[]),([],[1,2,4],[1,2],[]),([],[1,2,4],[1,2],[]),([],[2,3],[2],[])]) (by kernel_rfl) (by kernel_rfl) (by rw [hl]; decide +kernel) h
end Go.Proofs.YtgaofjiidedcbacGreat.ab
