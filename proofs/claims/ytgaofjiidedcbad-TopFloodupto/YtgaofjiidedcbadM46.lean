import Derived.Test.YtgaofjiidedcbadM36
import Derived.Test.YtgaofjiidedcbadM45
import Derived.Test.YtgaofjiidedcbadM42
import Derived.Test.YtgaofjiidedcbadM37
import Derived.Test.YtgaofjiidedcbadM19
import Derived.Test.YtgaofjiidedcbadProg
import Derived.Test.YtgaofjiidedcbadM28
import Derived.Test.YtgaofjiidedcbadPLane3
import Derived.Test.YtgaofjiidedcbadM31
import Derived.Test.YtgaofjiidedcbadM35
import Derived.Test.YtgaofjiidedcbadM26
import Derived.Test.YtgaofjiidedcbadM21
import Derived.Deep.RegionWith
import Derived.BigRegion
set_option maxHeartbeats 16000000
set_option linter.unusedVariables false
set_option linter.unusedSimpArgs false
namespace Go.Proofs.Ytgaofjiidedcbad.ab
theorem landW_own : CWOwn 20:=ownWd_told landL_own
theorem landW_new : CWNew 18:=newWd_told
theorem landW_do : CWDo 19:=lDo_told landL_own landL_speak (fun s m h => lput_told s m h) landL_come landL_lose landL_twice landL_spoil
theorem landF_playX : CFPlay 9:=landF_play landW_new landW_do
theorem landF_roundX : CFRound 17:=landF_round landL_own landL_come landW_do
theorem landF_settleX : CFSettle 10:=landF_settle landW_own landF_roundX landK_still
set_option maxRecDepth 100000
open Go Go.RowKit
def Q63r0 : IC:=cReg Try.prog [xX 2 0,⟨some 4,none,iAlo 4 [zS,zI,zI,zI,zI,zS,zI,zI,zS,zI,zI,zI,zS,zS,zF,zS,zS]⟩,⟨some 5,none,iMov 5 (.const (.bool false)) true⟩] [1,2,4] [2,4]
def Q63r1 : IC:=cReg Try.prog [xM 6 1,xC 7 .lss 6 0,xM 8 7,xG 8 false (xM 9 1),xG 8 false (xF 10 0 2),xG 8 false (xL 11 1 10),xG 8 false (xN 12 11),xG 8 false (xB 13 .geq 9 12),xP 14 8 13] [1,2,4,14] [2,4]
def Q63r2 : IC:=cReg Try.prog [⟨some 15,none,iBld 15 [zS,zI,zI,zI,zI,zS,zI,zI,zS,zI,zI,zI,zS,zS,zF,zS,zS] [] []⟩,xS 17 4 15,⟨some 5,none,iMov 5 (.const (.bool false)) true⟩] [4,5] [4]
def Q63c1a : IC:=(cSeq Q63r2 cRet)
def Q63c1 : IC:=cCond (.tmp 14) Q63c1a cSkip
def Q63r3 : IC:=cReg Try.prog [xF 16 0 2,xL 17 1 16,xM 18 1,xI 19 17 17 18,xA 20 17 19,xV1 21 24 20,xS 17 4 21,⟨some 5,none,iMov 5 (.const (.bool true)) true⟩] [4,5] [4]
def view_Of : IC:=(cSeq Q63r0 (cSeq (cSeq Q63r1 Q63c1) (cSeq Q63r3 cRet)))
theorem told_view_Of {args r : List D} (hl : args.length = 2) (h : view_Of (start args) (fin [(4,some (17,true)),(5,none)] r)) : Told Try.prog 15 args r :=
 told_of follows Try.func15 rfl (an:=[([],[1,2,4],[2,4],[]),([],[1,2,4,14],[2,4],[]),([],[4,5],[4],[]),([],[4,5],[4],[])]) (by kernel_rfl) (by kernel_rfl) (by rw [hl]; decide +kernel) h
def Q64r0 : IC:=cReg Try.prog [⟨some 4,none,iMov 4 (.const (.slice none 0 0)) true⟩] [0,1] []
def Q64r1 : IC:=cReg Try.prog [⟨some 5,none,iMov 5 (.const (.slice none 0 0)) true⟩] [0,1,5] []
def Q64r2 : IC:=cReg Try.prog [xM 8 0,xN 9 8,⟨some 10,none,iMov 10 (.const (.int .i64 0)) false⟩] [1,5,8,9,10] []
def Q64r3 : IC:=cReg Try.prog [xB 11 .lss 10 9] [1,5,8,9,10,11] []
def Q64c3 : IC:=cCond (.tmp 11) cSkip (cExit 0)
def Q64r4 : IC:=cReg Try.prog [xI 12 7 8 10,xA 13 7 12,⟨some 7,none,iAlo 7 [zI,zI,zI,zI,zF,zI,zS]⟩,xS 7 7 13] [1,5,7,8,9,10] [7]
def Q64r5 : IC:=cReg Try.prog [xF 14 0 7,xL 15 1 14,xC 16 .eql 15 1,xM 17 16,xG 17 false (xF 18 1 7),xG 17 false (xL 19 1 18),xG 17 false (xM 20 1),xG 17 false (xB 21 .eql 19 20),xP 22 17 21] [1,5,7,8,9,10,22] [7]
def Q64r6 : IC:=cReg Try.prog [xF 23 5 7,xA 24 2 23,xV1 25 23 24,xF 26 5 7,xS 2 26 25] [1,5,7,8,9,10] [7]
def Q64r7 : IC:=cReg Try.prog [xT 27 5,xA 28 7 7,xR 29 30 7 28,xW 30 30 7 72 27 29,xT 5 30] [1,5,8,9,10] []
def Q64c5a : IC:=(cSeq Q64r6 Q64r7)
def Q64c5 : IC:=cCond (.tmp 22) Q64c5a cSkip
def Q64b4 : IC:=cBlock 1 (cSeq Q64r4 (cSeq Q64r5 Q64c5))
def Q64r8 : IC:=cReg Try.prog [xC 31 .add 10 1,xM 10 31] [1,5,8,9,10] []
def Q64l2a : IC:=(cSeq Q64r3 (cSeq Q64c3 (cSeq Q64b4 Q64r8)))
def Q64l2 : IC:=cLoop Q64l2a
def Q64b1 : IC:=cBlock 0 Q64l2
def Q64r9 : IC:=cReg Try.prog [xM 32 5,xT 4 32] [4] []
def view_Only : IC:=(cSeq Q64r0 (cSeq Q64r1 (cSeq (cSeq Q64r2 Q64b1) (cSeq Q64r9 cRet))))
theorem told_view_Only {args r : List D} (hl : args.length = 2) (h : view_Only (start args) (fin [(4,none)] r)) : Told Try.prog 14 args r :=
 told_of follows Try.func14 rfl (an:=[([],[0,1],[],[]),([],[0,1,5],[],[]),([],[1,5,8,9,10],[],[]),([],[1,5,8,9,10,11],[],[]),([],[1,5,7,8,9,10],[7],[]),([],[1,5,7,8,9,10,22],[7],[]),([],[1,5,7,8,9,10],[7],[]),([],[1,5,8,9,10],[],[]),([],[1,5,8,9,10],[],[]),([],[4],[],[])]) (by kernel_rfl) (by kernel_rfl) (by rw [hl]; decide +kernel) h
set_option maxRecDepth 100000
open mth
theorem landV_of (hO : CLOwn 24) : CVOf 15:=by
 intro w t hw
 refine told_view_Of rfl ?_
 have hwn:=hw.n
 by_cases h1 : t < 0
 ·rw [of_out (.inl h1)]
  simp only [encWd,encLn,zeroL,zeroS,zeroR,encMl,encCl,encPk,List.map_nil]
  refine wk @h1 ?_
  repeat' (first | exact vals_nil | exact row_nil | exact es_nil | exact CVLe.refl _ | exact LfLe.refl _ | exact LfLe.nil _ | exact EsLe.refl _ | refine vals_cons ?_ ?_ | refine row_cons ?_ ?_ | refine es_cons ?_ ?_ | refine EsLe.app ?_ ?_ | refine CVLe.row ?_ | refine CVLe.leafV ?_ | refine CVLe.leafS ?_ | refine LfLe.s ?_)
 by_cases h2 : (w.lanes.length : Int) ≤ t
 ·rw [of_out (.inr h2)]
  simp only [encWd,encLn,zeroL,zeroS,zeroR,encMl,encCl,encPk,List.map_nil]
  refine wk (an3 @h1 @h2 @len_ll) ?_
  repeat' (first | exact vals_nil | exact row_nil | exact es_nil | exact CVLe.refl _ | exact LfLe.refl _ | exact LfLe.nil _ | exact EsLe.refl _ | refine vals_cons ?_ ?_ | refine row_cons ?_ ?_ | refine es_cons ?_ ?_ | refine EsLe.app ?_ ?_ | refine CVLe.row ?_ | refine CVLe.leafV ?_ | refine CVLe.leafS ?_ | refine LfLe.s ?_)
 obtain ⟨u,rfl⟩ : ∃ u : Nat,t = u:=⟨t.toNat,by omega⟩
 obtain ⟨x,hx⟩ : ∃ x,w.lanes[u]? = some x:=⟨w.lanes[u],List.getElem?_eq_getElem (by omega)⟩
 rw [of_in (by omega)]
 have e : w.lanes.getD u zeroL = x:=by rw [List.getD_eq_getElem?_getD,hx]; rfl
 rw [e]
 have g2 : (0 : Int) ≤ (u : Int):=by omega
 have g3:=at_ll hx
 have o1:=hO x (hw.l _ (List.mem_of_getElem? hx))
 simp only [encWd,encLn] at g3 o1 ⊢
 refine wk (an6 @h1 @h2 @g2 @g3 @len_ll @Int.toNat_natCast) ?_
 refine cg [[aD (encLn x)]] (an7 @encLn.eq_1 @h1 @h2 @g2 @g3 @len_ll @Int.toNat_natCast) ?_ ?_
 ·exact obl_cons o1 obl_nil
 refine wk0 ?_
 exact ValsLe.refl _
def onSt (l : List Sp) (t : Int) (p : List Sp) (k : Nat) : St :=
 ⟨[(1,vI t),(5,sD 7 (encSl p)),(8,sD 7 (encSl l)),(9,vI l.length),(10,vI k)],[],[((5,none),(30,7,none))]⟩
def onJ (l : List Sp) (t : Int) : Nat → St → Prop:=fun m st => ∃ k : Nat,k ≤ l.length ∧ m = l.length - k ∧ st = onSt l t (onlyW (l.take k) t) k
theorem sl_snoc2 (l : List Sp) (s : Sp) : encSl (l ++ [s]) = encSl l ++ [aD [vI s.kind,vI s.tenant,vI s.n,vI s.m,vB s.back,vI s.msg.stream,sD 1 (s.msg.data.map encB)]]:=by simp [encSl,encSp]
theorem landV_only : CVOnly 14:=by
 intro l t hl hd
 refine told_view_Only rfl ?_
 refine wk @len_sl ?_
 refine aw_loop (onJ l t) l.length (onSt l t [] 0) ?_ ⟨0,by omega,by omega,rfl⟩ ?_
 ·exact (Le.nilS 5 30 7 rfl).trans (Le.keep (lv:=[1,5,8,9,10]) (lb:=[]) (by simp only [ev0,ev1,ev2,look,lookF,cellsFrom,offT,offP,List.tail_nil,List.length_nil,Int.cast_ofNat_Int,Nat.reduceEqDiff,Nat.reduceAdd,Nat.reduceMul,Nat.reduceLeDiff,Nat.reduceLT,↓reduceIte,reduceCtorEq,Int.reduceBEq,Int.reduceBNe,Int.reduceLT,Int.reduceLE,Int.reduceToNat]; rfl))
 rintro m st ⟨k,hk,hm,rfl⟩
 have hpl:=only_len (l.take k) t
 rw [List.length_take] at hpl
 by_cases hlt : k < l.length
 ·obtain ⟨s,hs⟩ : ∃ s,l[k]? = some s:=⟨l[k],List.getElem?_eq_getElem hlt⟩
  have g1 : (k : Int) < (l.length : Int):=by omega
  have g2 : (0 : Int) ≤ (k : Int):=by omega
  have g3:=at_sl hs
  have g4 : inR .i64 ((k : Int) + 1) = true:=inR_of (by omega)
  have b1 : ((onlyW (l.take k) t).length + 1) * 72 ≤ 140737488355328:=by omega
  have m1:=ownMsg_told s.msg (hd s (List.mem_of_getElem? hs))
  have hnx : ∀ p,p = onlyW (l.take (k + 1)) t → Next (onJ l t) m (onSt l t p (k + 1)):=fun p hp => ⟨l.length - (k + 1),_,by omega,Le.refl _,k + 1,by omega,rfl,by rw [hp]⟩
  have hsn:=only_snoc (l.take k) s t
  rw [show l.take k ++ [s] = l.take (k + 1) by rw [List.take_add_one,hs]; rfl] at hsn
  have hnx:=hnx _ hsn.symm
  simp only [encMs] at m1
  by_cases h1 : s.kind = 1
  ·have q1 : (s.kind == 1) = true:=by simpa using h1
   rw [if_pos (by unfold mineB; rw [q1]; rfl)] at hnx
   generalize onJ l t = J at *
   generalize onlyW (l.take k) t = p at *
   simp only [onSt,Int.natCast_add,Int.cast_ofNat_Int,sl_snoc2] at hnx ⊢
   refine wk (an6 @g1 @g2 @g3 @q1 @len_sl @Int.toNat_natCast) ?_
   refine cg0 [[aD [vI s.msg.stream,sD 1 (s.msg.data.map encB)]]] ?_ ?_
   ·exact obl_cons m1 obl_nil
   refine wk (an3 @g4 @b1 @len_sl) ?_
   exact hnx
  ·have q1 : (s.kind == 1) = false:=by simpa using h1
   by_cases h2 : s.tenant = t
   ·have q2 : (s.tenant == t) = true:=by simpa using h2
    rw [if_pos (by unfold mineB; rw [q1,q2]; rfl)] at hnx
    generalize onJ l t = J at *
    generalize onlyW (l.take k) t = p at *
    simp only [onSt,Int.natCast_add,Int.cast_ofNat_Int,sl_snoc2] at hnx ⊢
    refine wk (an7 @g1 @g2 @g3 @q1 @q2 @len_sl @Int.toNat_natCast) ?_
    refine cg0 [[aD [vI s.msg.stream,sD 1 (s.msg.data.map encB)]]] ?_ ?_
    ·exact obl_cons m1 obl_nil
    refine wk (an3 @g4 @b1 @len_sl) ?_
    exact hnx
   ·have q2 : (s.tenant == t) = false:=by simpa using h2
    rw [if_neg (by unfold mineB; rw [q1,q2]; simp),List.append_nil] at hnx
    generalize onJ l t = J at *
    generalize onlyW (l.take k) t = p at *
    simp only [onSt,Int.natCast_add,Int.cast_ofNat_Int] at hnx ⊢
    refine wk (an8 @g1 @g2 @g3 @g4 @q1 @q2 @len_sl @Int.toNat_natCast) ?_
    exact hnx
 ·have hin : k = l.length:=by omega
  subst hin
  have g1 : ¬ (l.length : Int) < (l.length : Int):=by omega
  rw [List.take_length]
  generalize onJ l t = J at *
  generalize onlyW l t = p at *
  simp only [onSt]
  refine wk @g1 ?_
  exact ValsLe.refl _
end Go.Proofs.Ytgaofjiidedcbad.ab
namespace Go.Proofs.Ytgaofjiidedcbad.leaf
set_option maxRecDepth 10000
open Go.RowKit
open mth
def I64 (n : Int) : Prop:=-9223372036854775808 ≤ n ∧ n ≤ 9223372036854775807
def Is (w : World) (v : Value) (xs : List Int) : Prop :=
 ∃ (a : Option Addr) (cap : Nat),v = .slice a xs.length cap ∧ xs.length ≤ cap ∧ (a = none → cap = 0) ∧ (∀ i,i < xs.length → ∃ x,a = some x ∧ w.cell? (x.add i) = some (.int .i64 (xs.getD i 0))) ∧ (∀ n ∈ xs,I64 n) ∧ cap ≤ maxLen
theorem Is.later {w w' : World} {v : Value} {xs : List Int} (h : Is w v xs) (hb : Below w.heap.size w w') : Is w' v xs:=by
 obtain ⟨a,cap,rfl,hlc,hno,hc,hn,hm⟩:=h
 refine ⟨a,cap,rfl,hlc,hno,fun i hi => ?_,hn,hm⟩
 obtain ⟨x,rfl,hcc⟩:=hc i hi
 exact ⟨x,rfl,(hb.cell (World.block_lt_of_cell? w _ hcc)).trans hcc⟩
theorem Is.drewN {w : World} {v : Value} {xs : List Int} (h : Is w v xs) (n : Nat) : Is (w.drewN n) v xs:=h
theorem Is.num {w : World} {v : Value} {xs : List Int} (h : Is w v xs) : ∀ n ∈ xs,I64 n:=by
 obtain ⟨a,cap,rfl,_,_,_,hn,_⟩:=h; exact hn
theorem Is.at {w : World} {a : Option Addr} {n cap : Nat} {xs : List Int} (h : Is w (.slice a n cap) xs) (hp : xs.length ≠ 0) : ∃ b off,a = some ⟨b,off,none⟩ ∧ ∀ j x,xs[j]? = some x → w.cell? ⟨b,off + j,none⟩ = some (.int .i64 x):=by
 obtain ⟨a',cap',he,hlc,hno,hc,hn,hm⟩:=h
 injection he with h1 _ h2
 subst h1 h2
 obtain ⟨x,rfl,hc0⟩:=hc 0 (by omega)
 obtain ⟨b,off,spot⟩:=x
 have hspot : spot = none:=by simpa [Addr.add] using World.cell?_spot hc0
 subst hspot
 refine ⟨b,off,rfl,fun j y hy => ?_⟩
 have hj : j < xs.length:=(List.getElem?_eq_some_iff.1 hy).1
 obtain ⟨x',hx',hcc⟩:=hc j hj
 simp at hx'
 subst hx'
 rw [Addr.add_lit] at hcc
 rw [hcc]
 simp [List.getD,hy]
theorem some_at {α : Type} {xs : List α} {k : Nat} (h : k < xs.length) : ∃ x,xs[k]? = some x:=⟨xs[k],List.getElem?_eq_getElem h⟩
set_option maxRecDepth 10000
theorem ite3 (s : Int) (d : List UInt8) (n : Int) (h : n = if s < 0 ∨ 2 < s then 3 else if 6 < d.length then 4 else 0) : Ending.returned (.int .i64 n) = .returned (.int .i64 (wrongMsgL s d)):=by
 rw [h]; rfl
def Cv (w : World) (v : Value) (c : Ch) : Prop :=
 ∃ dv ev,v = .agg #[.int .i64 c.kind,.int .i64 c.number,.int .i64 c.stream,.int .i64 c.place,dv,ev] ∧ Bs w dv c.data ∧ Is w ev c.early ∧ c.data.length ≤ maxLen ∧ I64 c.kind ∧ I64 c.number ∧ I64 c.stream ∧ I64 c.place
theorem Cv.later {w w' : World} {v : Value} {c : Ch} (h : Cv w v c) (hb : Below w.heap.size w w') : Cv w' v c:=by
 obtain ⟨dv,ev,rfl,h1,h2,r⟩:=h
 exact ⟨dv,ev,rfl,h1.later hb,h2.later hb,r⟩
set_option maxRecDepth 10000
end Go.Proofs.Ytgaofjiidedcbad.leaf
