import Derived.Test.YtgaofjiidedcbadM44
import Derived.Test.YtgaofjiidedcbadM19
import Derived.Test.YtgaofjiidedcbadM34
import Derived.Test.YtgaofjiidedcbadProg
import Derived.Test.YtgaofjiidedcbadM39
import Derived.Test.YtgaofjiidedcbadM42
import Derived.Test.YtgaofjiidedcbadM43
import Derived.Test.YtgaofjiidedcbadM27
import Derived.Test.YtgaofjiidedcbadM41
set_option maxHeartbeats 16000000
set_option linter.unusedVariables false
set_option linter.unusedSimpArgs false
namespace Go.Proofs.Ytgaofjiidedcbad.ab
open Go Go.RowKit
open mth
theorem all0 {α : Type} {p : α → Prop} : ∀ x ∈ ([] : List α),p x:=fun x hx => by cases hx
theorem at3 {R : Nat → D → D → Prop} {a0 a1 a2 a3 a4 a5 a6 a7 b0 b1 b2 b3 b4 b5 b6 b7 : D} (h0 : R 0 a0 b0) (h1 : R 1 a1 b1) (h2 : R 2 a2 b2) (h3 : R 3 a3 b3) (h4 : R 4 a4 b4) (h5 : R 5 a5 b5) (h6 : R 6 a6 b6) (h7 : R 7 a7 b7) :
  ∀ (j : Nat) c c',[a0,a1,a2,a3,a4,a5,a6,a7][j]? = some c → [b0,b1,b2,b3,b4,b5,b6,b7][j]? = some c' → R j c c':=by
 intro j c c' hc hc'
 match j with
 | 0 => simp at hc hc'; subst hc hc'; exact h0
 | 1 => simp at hc hc'; subst hc hc'; exact h1
 | 2 => simp at hc hc'; subst hc hc'; exact h2
 | 3 => simp at hc hc'; subst hc hc'; exact h3
 | 4 => simp at hc hc'; subst hc hc'; exact h4
 | 5 => simp at hc hc'; subst hc hc'; exact h5
 | 6 => simp at hc hc'; subst hc hc'; exact h6
 | 7 => simp at hc hc'; subst hc hc'; exact h7
 | j + 8 => simp at hc
theorem frz_two {st : St} {early : List D} {hold : List D} {e1 e2 : Nat} {x0 x1 x2 x3 x4 x5 x6 x7 : D} (hb : look st.bx 2 = some [x0,x1,x2,x3,x4,x5,x6,x7]) (h1 : lookF st.fl (2,some 1) = some (e1,1,some early)) (h5 : lookF st.fl (2,some 5) = some (e2,6,some hold)) :
  Le st ⟨st.tm,(2,[x0,sD 1 early,x2,x3,x4,sD 6 hold,x6,x7]) :: (2,[x0,sD 1 early,x2,x3,x4,x5,x6,x7]) :: st.bx,offP (offP st.fl [(2,some 1)]) [(2,some 5)]⟩:=by
 refine (le_frzH (b:=2) (off:=1) (by decide) hb (show 1 < 8 by decide) h1).trans ?_
 exact le_frzH (st:=⟨st.tm,(2,[x0,sD 1 early,x2,x3,x4,x5,x6,x7]) :: st.bx,offP st.fl [(2,some 1)]⟩) (b:=2) (off:=5) (by decide) rfl (show 5 < 8 by decide) (by rw [lookF_off,if_neg (by decide)]; exact h5)
theorem lhearR_told : CHearR 54:=by
 intro r c h hc
 refine told_recv_Hear rfl ?_
 obtain ⟨R,hR⟩ : ∃ R,R = hearR r c:=⟨_,rfl⟩
 rw [← hR]
 have hsm:=good_smallR h
 have hOwn:=ownR_toldX r hsm
 simp only [encRv,encCh]
 refine wk0 ?_
 refine ⟨2,_,_,[],[],_,rowsR r.early r.hold,⟨rfl,rfl,rfl,rfl,row_refl _,all0⟩,rfl,hOwn,rfl,by show [1,5,6].Nodup; decide,?_⟩
 simp only [flOf,rowsR,ownCells,preP,preOff,List.map_cons,List.map_nil,List.cons_append,List.nil_append]
 by_cases hk : c.kind = 1
 ·have k1 : (c.kind != 1) = false:=by simpa using hk
  obtain ⟨hn,hpl,hce,hw⟩:=wrong_one hk hc
  have hTk : Told Try.prog 68 [aD [vI r.next,sD 1 (r.early.map vI),vI r.p0,vI r.p1,vI r.p2,xD,sD 2 (encMl r.told),vB true],vI c.number] [vB (!seenR r c.number)]:=takes_told r.next r.early r.p0 r.p1 r.p2 xD (sD 2 (encMl r.told)) true c.number (by have:=h.l; omega)
  rw [hearR,if_pos hk] at hR
  refine wk @k1 ?_
  refine ⟨2,_,[vI r.next,sD 1 (r.early.map vI),vI r.p0,vI r.p1,vI r.p2,xD,sD 2 (encMl r.told),vB true],_,_,rfl,rfl,rfl,rfl,⟨rfl,at3 (.inl (LfLe.refl _)) (.inr ⟨_,_,_,rfl,rfl⟩) (.inl (LfLe.refl _)) (.inl (LfLe.refl _)) (.inl (LfLe.refl _)) (.inl (LfLe.refl _)) (.inl (LfLe.refl _)) (.inl (LfLe.refl _))⟩,⟨3,_,_,rfl,rfl,rfl,rfl⟩,hTk,?_⟩
  simp only [preP,preOff,List.cons_append,List.nil_append]
  cases hs : seenR r c.number with
  | true =>
   rw [hs,if_pos rfl] at hR
   subst hR
   refine wk0 ?_
   refine ⟨_,frz_two rfl rfl rfl,?_⟩
   refine wk0 ?_
   exact ValsLe.refl _
  | false =>
   rw [hs,if_neg (by simp)] at hR
   have hst:=take_strip h hn hs
   have hse : r.early.Pairwise (· ≤ ·):=by rw [h.e]; exact (earlyR_sorted _ _).imp (fun h => by omega)
   have hCame:=came_toldX r.early r.next r.p0 r.p1 r.p2 r.hold r.told true c.number (by have:=h.l; omega) hse (fun x hx => by
    have hse' : r.early.Pairwise (· < ·):=by rw [h.e]; exact earlyR_sorted _ _
    have hne : c.number ∉ r.early:=fun q => by
     unfold seenR at hs
     rw [List.contains_iff_mem.2 q] at hs
     simp at hs
    rcases ((layIn_ok hse' hne).2 x).1 hx with rfl | q
    ·exact hn
    ·have:=h.in40 x q; have:=h.n; omega) h.n
   rw [hst] at hCame
   obtain ⟨K,hK⟩ : ∃ K,K = r.told.length + (r.hold.length + 1):=⟨_,rfl⟩
   have hz:=good_sizes h
   have hD : DrOk ⟨r.p0,r.p1,r.p2,r.hold ++ [c],r.told⟩ K:=⟨h.p,fun x hx => by
    rcases List.mem_append.1 hx with q | q
    ·exact h.h x q
    ·rw [List.mem_singleton.1 q]; exact ⟨hk,hc⟩,h.m,by simp [hK]⟩
   obtain ⟨nx',hnx'⟩ : ∃ n,n = climb 41 (c.number :: r.early) r.next:=⟨_,rfl⟩
   have hDue:=fun Rd hRd => tellDue_toldX nx' (earlyR (c.number :: r.early) nx') true ⟨r.p0,r.p1,r.p2,r.hold ++ [c],r.told⟩ K hD (by simp) (by omega) Rd hRd
   have hDue:=hDue _ rfl
   rw [show (⟨r.p0,r.p1,r.p2,r.hold ++ [c],r.told⟩ : Dr).hold.length = r.hold.length + 1 by simp] at hDue
   rw [← hnx'] at hCame
   have hRR : R = ⟨nx',earlyR (c.number :: r.early) nx',(mth.drain (r.hold.length + 1) ⟨r.p0,r.p1,r.p2,r.hold ++ [c],r.told⟩).p0,(mth.drain (r.hold.length + 1) ⟨r.p0,r.p1,r.p2,r.hold ++ [c],r.told⟩).p1,(mth.drain (r.hold.length + 1) ⟨r.p0,r.p1,r.p2,r.hold ++ [c],r.told⟩).p2,(mth.drain (r.hold.length + 1) ⟨r.p0,r.p1,r.p2,r.hold ++ [c],r.told⟩).hold,(mth.drain (r.hold.length + 1) ⟨r.p0,r.p1,r.p2,r.hold ++ [c],r.told⟩).told,true⟩:=by
    rw [hR,hnx']; rfl
   generalize mth.drain (r.hold.length + 1) ⟨r.p0,r.p1,r.p2,r.hold ++ [c],r.told⟩ = RD at *
   generalize earlyR (c.number :: r.early) nx' = E' at *
   subst hRR
   clear hR
   have hOc:=ownCh_told c (by have:=wrongMsg_small hw; omega) (by rw [hce]; simp)
   have hb1 : (r.hold.length + 1) * 80 ≤ 140737488355328:=by omega
   simp only [encCh] at hOc
   refine wk0 ?_
   refine ⟨2,_,_,_,rowsR r.early r.hold,_,rowsR2 r.hold,⟨rfl,rfl,rfl,rfl,row_refl _,all3 ⟨(by decide : 1 < 8),rfl⟩ ⟨(by decide : 5 < 8),rfl⟩ ⟨(by decide : 6 < 8),rfl⟩⟩,⟨3,_,_,rfl,rfl,rfl,rfl⟩,hCame,rfl,by show [5,6].Nodup; decide,?_⟩
   simp only [flOf,rowsR2,preP,preOff,List.map_cons,List.map_nil,List.cons_append,List.nil_append]
   refine wk (an2 @hb1 @len_cl) ?_
   refine cd [[aD [vI c.kind,vI c.number,vI c.stream,vI c.place,sD 1 (c.data.map encB),sD 1 (c.early.map vI)]]] (an2 @hb1 @len_cl) ?_ ?_
   ·exact obl_cons hOc obl_nil
   refine wk0 ?_
   rw [← cl_snoc']
   refine ⟨2,_,_,[],rowsR2 (r.hold ++ [c]),_,⟨rfl,rfl,rfl,rfl,row_refl _,all2 ⟨(by decide : 5 < 8),rfl⟩ ⟨(by decide : 6 < 8),rfl⟩⟩,rfl,hDue,?_⟩
   simp only [preP,preOff,rowsR2,res,List.map_cons,List.map_nil,List.cons_append,List.nil_append]
   refine wk0 ?_
   exact ValsLe.refl _
 ·have k1 : (c.kind != 1) = true:=by simpa using hk
  rw [hearR,if_neg hk] at hR
  subst hR
  refine wk @k1 ?_
  refine ⟨_,frz_two rfl rfl rfl,?_⟩
  refine wk0 ?_
  exact ValsLe.refl _
set_option maxRecDepth 100000
def Q43r0 : IC:=cReg Try.prog [xX 1 0,⟨some 2,none,iAlo 2 [zI,zS,zI,zI,zI,zS,zS,zF]⟩,⟨some 3,none,iAlo 3 [zI,zI,zI,zI,zS,zS]⟩,⟨some 4,none,iMov 4 (.const (.bool false)) true⟩] [1,2,3] [1,2,3]
def Q43r1 : IC:=cReg Try.prog [xA 5 8 1,xV1 6 34 5,xS 8 1 6] [1,2,3] [1,2,3]
def Q43r2 : IC:=cReg Try.prog [xF 7 7 1,xL 8 1 7,xO 9 8] [1,2,3,9] [1,2,3]
def Q43r3 : IC:=cReg Try.prog [xA 10 8 1,⟨some 11,none,iBld 11 [zI,zI,zI,zI,zS,zS] [] []⟩,xS 8 2 10,xS 6 3 11,⟨some 4,none,iMov 4 (.const (.bool false)) true⟩] [2,3,4] [2,3]
def Q43c1a : IC:=(cSeq Q43r3 cRet)
def Q43c1 : IC:=cCond (.tmp 9) Q43c1a cSkip
def Q43r4 : IC:=cReg Try.prog [xF 12 7 1,⟨none,none,iStor 1 (.tmp 12) (.const (.bool false))⟩] [1,2,3] [1,2,3]
def Q43r5 : IC:=cRegD Try.prog [xA 13 8 1,xF 14 0 1,xL 15 1 14,xF 16 1 1,xL 17 1 16,⟨some 18,none,iBld 18 [zI,zI,zI,zI,zS,zS] [(0,1),(1,1),(5,1)] [(.const (.int .i64 2)),(.tmp 15),(.tmp 17)]⟩,xV1 19 48 18,xS 8 2 13,xS 6 3 19,⟨some 4,none,iMov 4 (.const (.bool true)) true⟩] [[],[],[1],[],[3],[2,4,1,3],[5,2,4,1,3],[0,6,5,2,4,1,3],[6,7,0,1,2,3,4,5],[8,0,1,2,3,4,5,6,7]] [2,3,4] [2,3]
def recv_Say : IC:=(cSeq Q43r0 (cSeq Q43r1 (cSeq (cSeq Q43r2 Q43c1) (cSeq Q43r4 (cSeq Q43r5 cRet)))))
theorem told_recv_Say {args r : List D} (hl : args.length = 1) (h : recv_Say (start args) (fin [(2,some (8,true)),(3,some (6,true)),(4,none)] r)) : Told Try.prog 58 args r :=
 told_of follows Try.func58 rfl (an:=[([],[1,2,3],[1,2,3],[]),([],[1,2,3],[1,2,3],[]),([],[1,2,3,9],[1,2,3],[]),([],[2,3,4],[2,3],[]),([],[1,2,3],[1,2,3],[]),([],[2,3,4],[2,3],[])]) (by kernel_rfl) (by kernel_rfl) (by rw [hl]; decide +kernel) h
theorem lsayR_told : CSayR 58:=by
 intro r h
 refine told_recv_Say rfl ?_
 have hOwn:=ownR_told r (good_smallR h)
 have hOc:=ownCh_told ⟨2,r.next,0,0,[],r.early⟩ (by simp) (by have:=h.l; show r.early.length ≤ 1048576; omega)
 simp only [encRv,encCh,List.map_nil] at hOwn hOc ⊢
 cases ho : r.owes with
 | true =>
  rw [ho] at hOwn
  rw [sayR,if_pos ho]
  simp only [encCh,List.map_nil]
  refine wk0 ?_
  refine cg0 [[aD [vI r.next,sD 1 (r.early.map vI),vI r.p0,vI r.p1,vI r.p2,sD 6 (encCl r.hold),sD 2 (encMl r.told),vB true]]] ?_ ?_
  ·exact obl_cons hOwn obl_nil
  refine wk0 ?_
  refine cd0 [[aD [vI 2,vI r.next,vI 0,vI 0,sD 1 [],sD 1 (r.early.map vI)]]] ?_ ?_
  ·refine obl_cons (hOc.less ?_ (ValsLe.refl _)) obl_nil
   repeat' (first | exact vals_nil | exact row_nil | exact es_nil | exact CVLe.refl _ | exact LfLe.refl _ | exact LfLe.nil _ | exact EsLe.refl _ | refine vals_cons ?_ ?_ | refine row_cons ?_ ?_ | refine es_cons ?_ ?_ | refine EsLe.app ?_ ?_ | refine CVLe.row ?_ | refine CVLe.leafV ?_ | refine CVLe.leafS ?_ | refine LfLe.s ?_)
  refine wk0 ?_
  exact ValsLe.refl _
 | false =>
  rw [ho] at hOwn
  rw [sayR,if_neg (by simp [ho])]
  simp only [zeroC,encCh,List.map_nil,ho]
  refine wk0 ?_
  refine cg0 [[aD [vI r.next,sD 1 (r.early.map vI),vI r.p0,vI r.p1,vI r.p2,sD 6 (encCl r.hold),sD 2 (encMl r.told),vB false]]] ?_ ?_
  ·exact obl_cons hOwn obl_nil
  refine wk0 ?_
  repeat' (first | exact vals_nil | exact row_nil | exact es_nil | exact CVLe.refl _ | exact LfLe.refl _ | exact LfLe.nil _ | exact EsLe.refl _ | refine vals_cons ?_ ?_ | refine row_cons ?_ ?_ | refine es_cons ?_ ?_ | refine EsLe.app ?_ ?_ | refine CVLe.row ?_ | refine CVLe.leafV ?_ | refine CVLe.leafS ?_ | refine LfLe.s ?_)
theorem landR_say : CSayR 58:=lsayR_told
theorem landR_hear : CHearR 54:=lhearR_told
theorem landL_speak : CLSpeak 40:=by
 intro l hg
 refine told_lane_Speak rfl ?_
 have s1:=land_say l.s hg.s
 have s2:=landR_say l.r hg.r
 have c1:=say_right hg.s
 have c2:=sayR_wrong hg.r
 have h1:=landL_ownX l hg
 simp only [encLn,ownLn,rowsL] at h1 ⊢
 refine wk0 ?_
 refine ⟨1,_,_,[],[],_,_,⟨rfl,rfl,rfl,rfl,row_refl _,fun x hx => by cases hx⟩,rfl,h1,rfl,by show [15,16].Nodup; decide,?_⟩
 simp only [preP,preOff,flOf,List.map_cons,List.map_nil,List.cons_append,List.nil_append]
 refine wk0 ?_
 refine ⟨_,fun b0 w0 I0 N a w hr => le_laneN (b:=1) (by decide) b0 w0 I0 N a w hr,?_⟩
 clear h1 hg
 obtain ⟨s,r,there,back⟩:=l
 simp only [speakL] at *
 generalize sayL s = A at *
 generalize sayR r = B at *
 obtain ⟨s',c,ok⟩:=A
 obtain ⟨r',d,is⟩:=B
 simp only at *
 cases ok with
 | true =>
  have b1:=bytes_told c (c1 rfl)
  generalize sealL (bodyL c) = pk at *
  have p1:=join_toldI there pk
  cases is with
  | true =>
   have b2:=bytes_told d (c2 rfl)
   generalize sealL (bodyL d) = qk at *
   have p2:=join_toldI back qk
   simp only [encSd,encRv,encCh,if_true,Bool.false_eq_true,if_false] at s1 s2 b1 b2 ⊢
   refine wk0 ?_
   refine cg [[aD (encSd s'),aD (encCh c),vB true]] (an2 @encSd.eq_1 @encCh.eq_1) ?_ ?_
   ·exact obl_cons s1 obl_nil
   refine wk0 ?_
   refine cd0 [[sD 1 (pk.map encB)],[mI 0 26 1 xD,sD 1 (encPk (joinP there pk))]] ?_ ?_
   ·exact obl_cons b1 (obl_innL p1 obl_nil)
   refine wk0 ?_
   refine cg [[aD (encRv r'),aD (encCh d),vB true]] (an2 @encRv.eq_1 @encCh.eq_1) ?_ ?_
   ·exact obl_cons s2 obl_nil
   refine wk0 ?_
   refine cd0 [[sD 1 (qk.map encB)],[mI 0 26 1 xD,sD 1 (encPk (joinP back qk))]] ?_ ?_
   ·exact obl_cons b2 (obl_innL p2 obl_nil)
   refine wk0 ?_
   exact ValsLe.refl _
  | false =>
   simp only [encSd,encRv,encCh,if_true,Bool.false_eq_true,if_false] at s1 s2 b1 ⊢
   refine wk0 ?_
   refine cg [[aD (encSd s'),aD (encCh c),vB true]] (an2 @encSd.eq_1 @encCh.eq_1) ?_ ?_
   ·exact obl_cons s1 obl_nil
   refine wk0 ?_
   refine cd0 [[sD 1 (pk.map encB)],[mI 0 26 1 xD,sD 1 (encPk (joinP there pk))]] ?_ ?_
   ·exact obl_cons b1 (obl_innL p1 obl_nil)
   refine wk0 ?_
   refine cg [[aD (encRv r'),aD (encCh d),vB false]] (an2 @encRv.eq_1 @encCh.eq_1) ?_ ?_
   ·exact obl_cons s2 obl_nil
   refine wk0 ?_
   exact ValsLe.refl _
 | false =>
  cases is with
  | true =>
   have b2:=bytes_told d (c2 rfl)
   generalize sealL (bodyL d) = qk at *
   have p2:=join_toldI back qk
   simp only [encSd,encRv,encCh,if_true,Bool.false_eq_true,if_false] at s1 s2 b2 ⊢
   refine wk0 ?_
   refine cg [[aD (encSd s'),aD (encCh c),vB false]] (an2 @encSd.eq_1 @encCh.eq_1) ?_ ?_
   ·exact obl_cons s1 obl_nil
   refine wk0 ?_
   refine cg [[aD (encRv r'),aD (encCh d),vB true]] (an2 @encRv.eq_1 @encCh.eq_1) ?_ ?_
   ·exact obl_cons s2 obl_nil
   refine wk0 ?_
   refine cd0 [[sD 1 (qk.map encB)],[mI 0 26 1 xD,sD 1 (encPk (joinP back qk))]] ?_ ?_
   ·exact obl_cons b2 (obl_innL p2 obl_nil)
   refine wk0 ?_
   exact ValsLe.refl _
  | false =>
   simp only [encSd,encRv,encCh,if_true,Bool.false_eq_true,if_false] at s1 s2 ⊢
   refine wk0 ?_
   refine cg [[aD (encSd s'),aD (encCh c),vB false]] (an2 @encSd.eq_1 @encCh.eq_1) ?_ ?_
   ·exact obl_cons s1 obl_nil
   refine wk0 ?_
   refine cg [[aD (encRv r'),aD (encCh d),vB false]] (an2 @encRv.eq_1 @encCh.eq_1) ?_ ?_
   ·exact obl_cons s2 obl_nil
   refine wk0 ?_
   exact ValsLe.refl _
theorem come_none (l : Ln) (n : Int) (back : Bool) (hg : GoodL l) (hn : n < 0 ∨ ((wayP l back).length : Int) ≤ n) : Told Try.prog 38 [aD (encLn l),vI n,vB back] [aD (encLn l),vI 6]:=by
 refine told_lane_Come rfl ?_
 have h1:=ToldX.of (landL_own l hg)
 have h2:=way_toldP back
 have h3:=hasP_told (encPk (wayP l back)) n
 rw [no_has hn] at h3
 simp only [encLn] at h1 ⊢
 refine wk0 ?_
 refine ⟨3,_,_,[],[],_,[],⟨rfl,rfl,rfl,rfl,row_refl _,fun x hx => by cases hx⟩,rfl,h1,rfl,List.nodup_nil,?_⟩
 simp only [preP,preOff,flOf,List.map_nil,List.nil_append]
 refine wk0 ?_
 refine ⟨_,fun _ _ _ _ _ _ h => h,?_⟩
 cases back with
 | true =>
  simp only [wayP,if_true] at h2 h3
  refine cg0 [[mP 0 16]] ?_ ?_
  ·exact obl_adr h2 obl_nil
  refine wk0 ?_
  refine cg [[vB false]] Bool.not_false ?_ ?_
  ·exact obl_cons h3 obl_nil
  refine wk Bool.not_false ?_
  exact ValsLe.refl _
 | false =>
  simp only [wayP,Bool.false_eq_true,if_false] at h2 h3
  refine cg0 [[mP 0 15]] ?_ ?_
  ·exact obl_adr h2 obl_nil
  refine wk0 ?_
  refine cg [[vB false]] Bool.not_false ?_ ?_
  ·exact obl_cons h3 obl_nil
  refine wk Bool.not_false ?_
  exact ValsLe.refl _
theorem come_one (l : Ln) (n : Nat) (back : Bool) (hg : GoodL l) (x : List UInt8) (hx : (wayP l back)[n]? = some x) : Told Try.prog 38 [aD (encLn l),vI n,vB back] [aD (encLn (comeL l n back)),vI 0]:=by
 refine told_lane_Come rfl ?_
 have hn : n < (wayP l back).length:=(List.getElem?_eq_some_iff.1 hx).1
 have h2:=way_toldP back
 have hxl:=(hg.way back).2 x (List.mem_of_getElem? hx)
 have hwl:=(hg.way back).1
 have h5:=read_told x (by omega)
 have g4:=at_pk hx
 have k1 : inR .i64 ((n : Int) + 1) = true:=inR_of (by omega)
 have k2 : (0 : Int) ≤ (n : Int):=by omega
 have k3 : (n : Int) < (((wayP l back).length : Nat) : Int):=by omega
 have e0 : (wayP l back).getD n [] = x:=by rw [List.getD_eq_getElem?_getD,hx]; rfl
 have hr:=readC_right (xs:=x)
 unfold comeL
 simp only [e0]
 clear e0
 have h1:=landL_ownX l hg
 simp only [encLn,ownLn,rowsL] at h1 ⊢
 refine wk0 ?_
 refine ⟨3,_,_,[],[],_,_,⟨rfl,rfl,rfl,rfl,row_refl _,fun x hx => by cases hx⟩,rfl,h1,rfl,by show [15,16].Nodup; decide,?_⟩
 simp only [preP,preOff,flOf,List.map_cons,List.map_nil,List.cons_append,List.nil_append]
 refine wk0 ?_
 cases back with
 | true =>
  simp only [wayP,withP,if_true] at h2 hn hwl g4 k3 ⊢
  by_cases hE : readE x = 0
  ·have e1 : (readE x != 0) = false:=by rw [hE]; rfl
   have hc:=hr hE
   rw [if_pos hE]
   have h6:=land_hear l.s (readC x) hg.s hc
   generalize readC x = c at *
   generalize readE x = ev at *
   generalize hearS l.s (c) = q at *
   simp only [encCh,encSd] at h5 h6 ⊢
   have h3:=hasP_told (encPk l.back) n
   rw [yes_has hn] at h3
   have h4:=delete_toldP (encPk l.back) n (by rw [len_pk]; exact hn)
   rw [cut_pk] at h4
   refine ⟨_,fun b0 w0 I0 N a w hr => le_lane16 (b:=3) (by decide) (pk_ne hn) rfl b0 w0 I0 N a w hr,?_⟩
   refine cg [[mP 0 16]] @len_pk ?_ ?_
   ·exact obl_adr h2 obl_nil
   refine wk0 ?_
   refine cg [[vB true]] (an2 Bool.not_true @len_pk) ?_ ?_
   ·exact obl_cons h3 obl_nil
   refine wk (an2 Bool.not_true @len_pk) ?_
   refine cg [[aD (encCh c),vI ev]] (an6 @encCh.eq_1 @g4 @k2 @k3 @len_pk @Int.toNat_natCast) ?_ ?_
   ·exact obl_cons h5 obl_nil
   refine wk (an2 @k1 @len_pk) ?_
   refine cg [[sD 1 (encPk (cutP l.back n))]] (an2 @k1 @len_pk) ?_ ?_
   ·exact obl_updL h4 obl_nil
   refine wk @e1 ?_
   refine cg [[aD (encSd q)]] @encSd.eq_1 ?_ ?_
   ·exact obl_cons h6 obl_nil
   refine wk0 ?_
   exact ValsLe.refl _
  ·have e1 : (readE x != 0) = true:=by simpa using hE
   rw [if_neg hE]
   generalize readC x = c at *
   generalize readE x = ev at *
   simp only [encCh] at h5 ⊢
   have h3:=hasP_told (encPk l.back) n
   rw [yes_has hn] at h3
   have h4:=delete_toldP (encPk l.back) n (by rw [len_pk]; exact hn)
   rw [cut_pk] at h4
   refine ⟨_,fun b0 w0 I0 N a w hr => le_lane16 (b:=3) (by decide) (pk_ne hn) rfl b0 w0 I0 N a w hr,?_⟩
   refine cg [[mP 0 16]] @len_pk ?_ ?_
   ·exact obl_adr h2 obl_nil
   refine wk0 ?_
   refine cg [[vB true]] (an2 Bool.not_true @len_pk) ?_ ?_
   ·exact obl_cons h3 obl_nil
   refine wk (an2 Bool.not_true @len_pk) ?_
   refine cg [[aD (encCh c),vI ev]] (an6 @encCh.eq_1 @g4 @k2 @k3 @len_pk @Int.toNat_natCast) ?_ ?_
   ·exact obl_cons h5 obl_nil
   refine wk (an2 @k1 @len_pk) ?_
   refine cg [[sD 1 (encPk (cutP l.back n))]] (an2 @k1 @len_pk) ?_ ?_
   ·exact obl_updL h4 obl_nil
   refine wk @e1 ?_
   exact ValsLe.refl _
 | false =>
  simp only [wayP,withP,Bool.false_eq_true,if_false] at h2 hn hwl g4 k3 ⊢
  by_cases hE : readE x = 0
  ·have e1 : (readE x != 0) = false:=by rw [hE]; rfl
   have hc:=hr hE
   rw [if_pos hE]
   have h6:=landR_hear l.r (readC x) hg.r hc
   generalize readC x = c at *
   generalize readE x = ev at *
   generalize hearR l.r (c) = q at *
   simp only [encCh,encRv] at h5 h6 ⊢
   have h3:=hasP_told (encPk l.there) n
   rw [yes_has hn] at h3
   have h4:=delete_toldP (encPk l.there) n (by rw [len_pk]; exact hn)
   rw [cut_pk] at h4
   refine ⟨_,fun b0 w0 I0 N a w hr => le_lane15 (b:=3) (by decide) (pk_ne hn) rfl b0 w0 I0 N a w hr,?_⟩
   refine cg [[mP 0 15]] @len_pk ?_ ?_
   ·exact obl_adr h2 obl_nil
   refine wk0 ?_
   refine cg [[vB true]] (an2 Bool.not_true @len_pk) ?_ ?_
   ·exact obl_cons h3 obl_nil
   refine wk (an2 Bool.not_true @len_pk) ?_
   refine cg [[aD (encCh c),vI ev]] (an6 @encCh.eq_1 @g4 @k2 @k3 @len_pk @Int.toNat_natCast) ?_ ?_
   ·exact obl_cons h5 obl_nil
   refine wk (an2 @k1 @len_pk) ?_
   refine cg [[sD 1 (encPk (cutP l.there n))]] (an2 @k1 @len_pk) ?_ ?_
   ·exact obl_updL h4 obl_nil
   refine wk @e1 ?_
   refine cg [[aD (encRv q)]] @encRv.eq_1 ?_ ?_
   ·exact obl_cons h6 obl_nil
   refine wk0 ?_
   exact ValsLe.refl _
  ·have e1 : (readE x != 0) = true:=by simpa using hE
   rw [if_neg hE]
   generalize readC x = c at *
   generalize readE x = ev at *
   simp only [encCh] at h5 ⊢
   have h3:=hasP_told (encPk l.there) n
   rw [yes_has hn] at h3
   have h4:=delete_toldP (encPk l.there) n (by rw [len_pk]; exact hn)
   rw [cut_pk] at h4
   refine ⟨_,fun b0 w0 I0 N a w hr => le_lane15 (b:=3) (by decide) (pk_ne hn) rfl b0 w0 I0 N a w hr,?_⟩
   refine cg [[mP 0 15]] @len_pk ?_ ?_
   ·exact obl_adr h2 obl_nil
   refine wk0 ?_
   refine cg [[vB true]] (an2 Bool.not_true @len_pk) ?_ ?_
   ·exact obl_cons h3 obl_nil
   refine wk (an2 Bool.not_true @len_pk) ?_
   refine cg [[aD (encCh c),vI ev]] (an6 @encCh.eq_1 @g4 @k2 @k3 @len_pk @Int.toNat_natCast) ?_ ?_
   ·exact obl_cons h5 obl_nil
   refine wk (an2 @k1 @len_pk) ?_
   refine cg [[sD 1 (encPk (cutP l.there n))]] (an2 @k1 @len_pk) ?_ ?_
   ·exact obl_updL h4 obl_nil
   refine wk @e1 ?_
   exact ValsLe.refl _
theorem landL_come : CLStep 38 3:=by
 intro l n back hg
 unfold packetL
 by_cases hn : n < 0 ∨ ((wayP l back).length : Int) ≤ n
 ·rw [if_pos hn]
  exact come_none l n back hg hn
 ·rw [if_neg hn,if_neg (by decide),if_neg (by decide),if_neg (by decide)]
  obtain ⟨m,rfl⟩ : ∃ m : Nat,n = m:=⟨n.toNat,by omega⟩
  obtain ⟨x,hx⟩ : ∃ x,(wayP l back)[m]? = some x:=⟨_,List.getElem?_eq_getElem (by omega)⟩
  rw [Int.toNat_natCast]
  exact come_one l m back hg x hx
set_option maxRecDepth 100000
def Q22r0 : IC:=cReg Try.prog [xX 4 0,⟨some 8,none,iAlo 8 [zS,zI,zI,zI,zI,zS,zI,zI,zS,zI,zI,zI,zS,zS,zF,zS,zS]⟩,⟨some 9,none,iMov 9 (.const (.int .i64 0)) true⟩] [1,2,3,4,8] [4,8]
def Q22r1_0 : IC:=cXd Try.prog 4 11 12 24 17
def Q22r1_1 : IC:=cReg Try.prog [] [1,2,3,4,8] [4,8,100002,100001]
def Q22r1 : IC:=(cSeq Q22r1_0 Q22r1_1)
def Q22r2 : IC:=cReg Try.prog [xM 13 3,⟨some 14,none,iCallP 14 49 [(.tmp 4),(.tmp 13)]⟩,⟨some 15,none,iNck 15 (.tmp 14)⟩,xL 16 1 15,xT 10 16] [1,2,4,8,10] [4,8,100002,100001]
def Q22r3 : IC:=cReg Try.prog [xM 17 10,xM 18 1,⟨some 19,none,iCallL 19 50 [(.tmp 17),(.tmp 18)]⟩,xO 20 19] [1,2,4,8,10,20] [4,8,100002,100001]
def Q22r4 : IC:=cReg Try.prog [xA 21 17 4,xS 17 8 21,⟨some 9,none,iMov 9 (.const (.int .i64 6)) true⟩] [8,9] [8]
def Q22c1a : IC:=(cSeq Q22r4 cRet)
def Q22c1 : IC:=cCond (.tmp 20) Q22c1a cSkip
def Q22r5 : IC:=cReg Try.prog [xM 22 10,xM 23 1,xI 24 1 22 23,xL 25 1 24,xM 26 2,⟨some 27,none,iCallL 27 60 [(.tmp 25),(.tmp 26)]⟩,xO 28 27] [1,2,4,8,10,28] [4,8,100002,100001]
def Q22r6 : IC:=cReg Try.prog [xA 29 17 4,xS 17 8 29,⟨some 9,none,iMov 9 (.const (.int .i64 3)) true⟩] [8,9] [8]
def Q22c2a : IC:=(cSeq Q22r6 cRet)
def Q22c2 : IC:=cCond (.tmp 28) Q22c2a cSkip
def Q22r7 : IC:=cReg Try.prog [xM 30 10,xM 31 1,xI 32 1 30 31,xL 33 1 32,xM 34 2,xI 35 1 33 34,xL 36 1 35,⟨some 37,none,iXor 37 (.tmp 36) (.const (.int .u8 1))⟩,xI 38 1 33 34,xS 1 38 37] [4,8] [4,8]
def Q22r8 : IC:=cReg Try.prog [xA 39 17 4,xS 17 8 39,⟨some 9,none,iMov 9 (.const (.int .i64 0)) true⟩] [8,9] [8]
def lane_Spoil : IC:=(cSeq Q22r0 (cSeq Q22r1 (cSeq Q22r2 (cSeq (cSeq Q22r3 Q22c1) (cSeq (cSeq Q22r5 Q22c2) (cSeq Q22r7 (cSeq Q22r8 cRet)))))))
theorem told_lane_Spoil {args r : List D} (hl : args.length = 4) (h : lane_Spoil (start args) (fin [(8,some (17,true)),(9,none)] r)) : Told Try.prog 44 args r :=
 told_of follows Try.func44 rfl (an:=[([],[1,2,3,4,8],[4,8],[]),([(13003,[],[])],[1,2,3,4,8],[4,8,100002,100001],[]),([],[1,2,4,8,10],[4,8,100002,100001],[2000014]),([],[1,2,4,8,10,20],[4,8,100002,100001],[19]),([],[8,9],[8],[]),([],[1,2,4,8,10,28],[4,8,100002,100001],[27]),([],[8,9],[8],[]),([],[4,8],[4,8],[]),([],[8,9],[8],[])]) (by kernel_rfl) (by kernel_rfl) (by rw [hl]; decide +kernel) h
set_option maxRecDepth 10000
open leaf
theorem deep_in {w : World} {base k : Nat} {u : Value} {xs : List Value} {p : List (List UInt8)} (h : Deep w base u k xs p) (hk : k ≤ p.length) : ∀ x ∈ xs,∀ g,x.ownBlock = some g → base ≤ g ∧ g < w.heap.size ∧ u.ownBlock ≠ some g:=fun x hx g hg => by
 obtain ⟨j,hj,rfl⟩:=List.mem_iff_getElem.1 hx
 have hjk : j < k:=by have:=h.own.1; omega
 obtain ⟨x',q1,q2⟩:=h.el j p[j] hjk (List.getElem?_eq_getElem (by omega))
 rw [List.getElem?_eq_getElem hj] at q1; cases q1
 exact ⟨(q2.lt g hg).1,(q2.lt g hg).2,owns_type h.own q2 (by decide) hg⟩
theorem deep_rep {I : Still} {w : World} {base : Nat} {u : Value} {xs : List Value} {p : List (List UInt8)} (h : Deep w base u p.length xs p) (hI : ∀ x ∈ xs,∀ g j,x.ownBlock = some g → I g j) (hu : ∀ g j,u.ownBlock = some g → I g j) : CRep I w (sD 1 (encPk p)) u:=by
 have h1:=deep_own (I:=fun g _ => ∃ x ∈ xs,x.ownBlock = some g) (L:=fun _ => False) h (fun x hx g j hg => ⟨x,hx,hg⟩) (fun g j hg ⟨x,hx,hg'⟩ => (deep_in h (Nat.le_refl _) x hx g hg').2.2 hg) (fun _ _ q => q)
 exact own_rep h1 (fun b j ⟨x,hx,hg⟩ => hI x hx b j hg) (fun g j hg => hu g j hg)
theorem deep_pick {I : Still} {w : World} {base n : Nat} {u : Value} {xs : List Value} {p : List (List UInt8)} {x : List UInt8} (h : Deep w base u p.length xs p) (hx : p[n]? = some x) (hne : x ≠ []) (hI : ∀ j y,j ≠ n → xs[j]? = some y → ∀ g i,y.ownBlock = some g → I g i) :
  ∃ g cap g' cap' cur cur' y,u = .slice (some ⟨g,0,none⟩) p.length cap ∧ (p.length ≤ cap ∧ cap ≤ maxLen) ∧ w.heap[g]? = some (.cells cur 26 (0,0)) ∧ ElemsAt I w 1 ((encPk p).set n xD) cur.toList ∧ cur.toList[n]? = some (.slice (some ⟨g',0,none⟩) x.length cap') ∧ (x.length ≤ cap' ∧ cap' ≤ maxLen) ∧
   w.heap[g']? = some (.cells cur' 5 (0,0)) ∧ ElemsAt I w 1 (x.map encB) cur'.toList ∧ (base ≤ g ∧ base ≤ g') ∧ xs[n]? = some y ∧ y.ownBlock = some g' ∧ u.ownBlock = some g:=by
 have hn : n < p.length:=(List.getElem?_eq_some_iff.1 hx).1
 have hlen : xs.length = p.length:=by have:=h.own.1; omega
 obtain ⟨y,y1,y2⟩:=h.el n x hn hx
 obtain ⟨_,⟨_,e0⟩ | ⟨g,cap,cur,e1,e2,e3,e4,e5,e6,e7⟩⟩:=h.own
 ·omega
 obtain ⟨k1,⟨_,k0⟩ | ⟨g',cap',cur',k2,k3,k4,k5,k6,k7,k8⟩⟩:=y2
 ·exact absurd (List.eq_nil_of_length_eq_zero k0) hne
 rw [Nat.mul_one] at e6 e7 k7 k8
 have hcur : ∀ j,j < p.length → cur.toList[j]? = xs[j]?:=fun j hj => by rw [← e7,List.getElem?_take,if_pos hj]
 refine ⟨g,cap,g',cap',cur,cur',y,e1,⟨e4,e5⟩,e3,⟨fun e he => ?_,?_,fun i j e l he hl => ?_⟩,by rw [hcur n hn,y1,k2],⟨k5,k6⟩,k4,⟨fun e he => ?_,?_,fun i j e l he hl => ?_⟩,⟨e2,k3⟩,y1,by rw [k2]; rfl,by rw [e1]; rfl⟩
 ·rcases List.mem_or_eq_of_mem_set he with q | rfl
  ·obtain ⟨b,_,rfl⟩:=List.mem_map.1 q; rfl
  ·rfl
 ·rw [List.length_set,len_pk,Nat.mul_one]; have h9 : cur.toList.length = cur.size:=Array.length_toList ..; omega
 ·have hi : i < p.length:=by have:=(List.getElem?_eq_some_iff.1 he).1; rw [List.length_set,len_pk] at this; exact this
  by_cases hin : i = n
  ·subst hin
   rw [List.getElem?_set_self (by rw [len_pk]; exact hi)] at he
   cases he
   have hj : j = 0:=by have:=(List.getElem?_eq_some_iff.1 hl).1; simp [cellsD] at this; omega
   subst hj
   simp [cellsD] at hl
   subst hl
   exact ⟨y,by rw [Nat.mul_one,Nat.add_zero,hcur i hi,y1],CRep.x (by rw [k2]; rfl)⟩
  ·rw [List.getElem?_set_ne (fun q => hin q.symm)] at he
   unfold encPk at he
   rw [List.getElem?_map] at he
   obtain ⟨b,hb,rfl⟩:=Option.map_eq_some_iff.1 he
   have hj : j = 0:=by have:=(List.getElem?_eq_some_iff.1 hl).1; simp [cellsD] at this; omega
   subst hj
   simp [cellsD] at hl
   subst hl
   obtain ⟨z,q1,q2⟩:=h.el i b hi hb
   exact ⟨z,by rw [Nat.mul_one,Nat.add_zero,hcur i hi]; exact q1,rep_one q2 (fun g j hg => hI i z hin q1 g j hg)⟩
 ·obtain ⟨b,_,rfl⟩:=List.mem_map.1 he; rfl
 ·rw [List.length_map,Nat.mul_one]; have h9 : cur'.toList.length = cur'.size:=Array.length_toList ..; omega
 ·rw [List.getElem?_map] at he
  obtain ⟨b,hb,rfl⟩:=Option.map_eq_some_iff.1 he
  have hi : i < x.length:=(List.getElem?_eq_some_iff.1 hb).1
  have hj : j = 0:=by have:=(List.getElem?_eq_some_iff.1 hl).1; simp [cellsD,encB] at this; omega
  subst hj
  simp [cellsD,encB] at hl
  subst hl
  refine ⟨.int .u8 (b.toNat : Int),?_,CRep.v rfl⟩
  rw [Nat.mul_one,Nat.add_zero]
  have : (cur'.toList.take x.length)[i]? = (x.map B)[i]?:=by rw [k8]
  rw [List.getElem?_take,if_pos hi,List.getElem?_map,hb] at this
  exact this
def dLn (l : Ln) (back : Bool) : List D :=
 [sD 2 (encMl l.s.queue),vI l.s.next,vI l.s.p0,vI l.s.p1,vI l.s.p2,sD 6 (encCl l.s.flight),vI l.s.turn,vI l.r.next,sD 1 (l.r.early.map vI),vI l.r.p0,vI l.r.p1,vI l.r.p2,sD 6 (encCl l.r.hold),sD 2 (encMl l.r.told),vB l.r.owes,(if back = true then sD 1 (encPk l.there) else xD),(if back = true then xD else sD 1 (encPk l.back))]
theorem landL_ownD (l : Ln) (hg : GoodL l) (back : Bool) (n : Nat) (x : List UInt8) (hx : (wayP l back)[n]? = some x) (hne : x ≠ []) : ToldD Try.prog 24 [aD (encLn l)] (dLn l back) (if back = true then 16 else 15) ((encPk (wayP l back)).set n xD) n (x.map encB):=by
 intro w I vs hv hlt
 obtain ⟨v1,rfl⟩ : ∃ v1,vs = [v1]:=by
  match vs,hv.1 with
  | [v1],_ => exact ⟨v1,rfl⟩
  | [],q => simp at q
  | _ :: _ :: _,q => simp at q
 obtain ⟨us,rfl,hrow⟩:=CVRep.agg (hv.2 0 _ _ rfl rfl)
 obtain ⟨a0,a1,a2,a3,a4,a5,a6,a7,a8,a9,a10,a11,a12,a13,a14,a15,a16,rfl⟩:=list17 (by rw [← hrow.1]; rfl)
 refine (laneOwn_walk l hg a0 a1 a2 a3 a4 a5 a6 a7 a8 a9 a10 a11 a12 a13 a14 a15 a16 w I hrow hlt).mono fun e w' ⟨s,r,u,v,xs,ys,top,mid,he,hs,hr,h1,h2,h3,hR,hD,hU,hE,hb⟩ => ?_
 have hUe:=deep_under hE (Nat.le_refl _)
 have hsr : (s ++ r).length = 15:=by simp [hs,hr]
 have e15 : (s ++ r ++ [u,v])[15]? = some u:=by rw [List.getElem?_append_right (by omega),hsr]; rfl
 have e16 : (s ++ r ++ [u,v])[16]? = some v:=by rw [List.getElem?_append_right (by omega),hsr]; rfl
 have hc : ∀ b j,I b j → w'.cell? ⟨b,j,none⟩ = w.cell? ⟨b,j,none⟩:=fun b j hi => hb.cell (p:=⟨b,j,none⟩) (hlt b j hi)
 have hn : n < (wayP l back).length:=(List.getElem?_eq_some_iff.1 hx).1
 have hset : ((encPk (wayP l back)).set n xD)[n]? = some xD:=List.getElem?_set_self (by rw [len_pk]; exact hn)
 have hsl : ((encPk (wayP l back)).set n xD).length = (wayP l back).length:=by rw [List.length_set,len_pk]
 have hxl : (x.map encB).length = x.length:=List.length_map ..
 cases back with
 | true =>
  simp only [wayP,if_true] at hx hn hset hsl ⊢
  let I' : Still:=fun b j => I b j ∨ (w.heap.size ≤ b ∧ b < top) ∨ (u.ownBlock = some b ∨ ∃ z ∈ xs,z.ownBlock = some b) ∨ ∃ k z,k ≠ n ∧ ys[k]? = some z ∧ z.ownBlock = some b
  obtain ⟨g,cap,g',cap',cur,cur',y,d1,d2,d3,d4,d5,d6,d7,d8,⟨d9,d10⟩,d11,d12,d13⟩:=deep_pick (I:=I') hE hx hne (fun j z hj hz g i hg' => .inr (.inr (.inr ⟨j,z,hj,hz,hg'⟩)))
  have hlow : ∀ b j,(I b j ∨ (w.heap.size ≤ b ∧ b < top) ∨ (u.ownBlock = some b ∨ ∃ z ∈ xs,z.ownBlock = some b)) → b < mid:=fun b j hi => by
   rcases hi with hi | hi | hi | ⟨z,hz,hi⟩
   ·have:=hlt b j hi; omega
   ·omega
   ·exact hU.1 b hi
   ·exact hU.2 z hz b hi
  refine ⟨_,I',g,cap,g',cap',cur,cur',_,_,he,fun b j hi => ⟨.inl hi,hc b j hi⟩,fun b j hi => ?_,?_,by rw [hsl,e16,d1],by rw [hsl]; exact d2,d3,d4,hset,by rw [hxl]; exact d5,by rw [hxl]; exact d6,d7,d8,fun j hi => ?_,fun j hi => ?_,?_,by omega,by omega,hb⟩
  ·rcases hi with hi | hi | hi | ⟨k,z,hk,hz,hi⟩
   ·exact .inl hi
   ·exact .inr ⟨hi.1,by omega⟩
   ·rcases hi with hi | ⟨z,hz,hi⟩
    ·have:=(hD.own.lt b hi); exact .inr ⟨by omega,this.2⟩
    ·have:=deep_in hD (Nat.le_refl _) z hz b hi; exact .inr ⟨by omega,this.2.1⟩
   ·have:=deep_in hE (Nat.le_refl _) z (List.mem_of_getElem? hz) b hi; exact .inr ⟨by omega,this.2.1⟩
  ·have h5 : Row I' w' (encSd l.s ++ encRv l.r) (s ++ r):=hR.keep (fun b j hi => hi.imp id .inl) (fun _ _ _ => rfl)
   have h6 : Row I' w' [sD 1 (encPk l.there),xD] [u,v]:=(Row.single (deep_rep hD (fun z hz g j hg' => .inr (.inr (.inl (.inr ⟨z,hz,hg'⟩)))) (fun g j hg' => .inr (.inr (.inl (.inl hg')))))).app (Row.single (CRep.x (by rw [d1]; rfl)))
   exact h5.app h6
  ·rcases hi with hi | hi | hi | ⟨k,z,hk,hz,hi⟩
   ·have:=hlow g j (.inl hi); omega
   ·have:=hlow g j (.inr (.inl hi)); omega
   ·have:=hlow g j (.inr (.inr hi)); omega
   ·exact (deep_in hE (Nat.le_refl _) z (List.mem_of_getElem? hz) g hi).2.2 d13
  ·rcases hi with hi | hi | hi | ⟨k,z,hk,hz,hi⟩
   ·have:=hlow g' j (.inl hi); omega
   ·have:=hlow g' j (.inr (.inl hi)); omega
   ·have:=hlow g' j (.inr (.inr hi)); omega
   ·exact hk (hE.apart k n z y g' hz d11 hi d12)
  ·intro q; subst q
   exact (deep_in hE (Nat.le_refl _) y (List.mem_of_getElem? d11) g d12).2.2 d13
 | false =>
  simp only [wayP,Bool.false_eq_true,if_false] at hx hn hset hsl ⊢
  let I' : Still:=fun b j => I b j ∨ (w.heap.size ≤ b ∧ b < top) ∨ (v.ownBlock = some b ∨ ∃ z ∈ ys,z.ownBlock = some b) ∨ ∃ k z,k ≠ n ∧ xs[k]? = some z ∧ z.ownBlock = some b
  obtain ⟨g,cap,g',cap',cur,cur',y,d1,d2,d3,d4,d5,d6,d7,d8,⟨d9,d10⟩,d11,d12,d13⟩:=deep_pick (I:=I') hD hx hne (fun j z hj hz g i hg' => .inr (.inr (.inr ⟨j,z,hj,hz,hg'⟩)))
  have hgm:=hU.1 g d13
  have hgm':=hU.2 y (List.mem_of_getElem? d11) g' d12
  have hlow : ∀ b j,(I b j ∨ (w.heap.size ≤ b ∧ b < top) ∨ (v.ownBlock = some b ∨ ∃ z ∈ ys,z.ownBlock = some b)) → b < top ∨ mid ≤ b:=fun b j hi => by
   rcases hi with hi | hi | hi | ⟨z,hz,hi⟩
   ·have:=hlt b j hi; omega
   ·omega
   ·exact .inr (hE.own.lt b hi).1
   ·exact .inr (deep_in hE (Nat.le_refl _) z hz b hi).1
  refine ⟨_,I',g,cap,g',cap',cur,cur',_,_,he,fun b j hi => ⟨.inl hi,hc b j hi⟩,fun b j hi => ?_,?_,by rw [hsl,e15,d1],by rw [hsl]; exact d2,d3,d4,hset,by rw [hxl]; exact d5,by rw [hxl]; exact d6,d7,d8,fun j hi => ?_,fun j hi => ?_,?_,by omega,by omega,hb⟩
  ·rcases hi with hi | hi | hi | ⟨k,z,hk,hz,hi⟩
   ·exact .inl hi
   ·exact .inr ⟨hi.1,by omega⟩
   ·rcases hi with hi | ⟨z,hz,hi⟩
    ·have:=(hE.own.lt b hi); exact .inr ⟨by omega,this.2⟩
    ·have:=deep_in hE (Nat.le_refl _) z hz b hi; exact .inr ⟨by omega,this.2.1⟩
   ·have:=deep_in hD (Nat.le_refl _) z (List.mem_of_getElem? hz) b hi; exact .inr ⟨by omega,this.2.1⟩
  ·have h5 : Row I' w' (encSd l.s ++ encRv l.r) (s ++ r):=hR.keep (fun b j hi => hi.imp id .inl) (fun _ _ _ => rfl)
   have h6 : Row I' w' [xD,sD 1 (encPk l.back)] [u,v]:=(Row.single (CRep.x (by rw [d1]; rfl))).app (Row.single (deep_rep hE (fun z hz g j hg' => .inr (.inr (.inl (.inr ⟨z,hz,hg'⟩)))) (fun g j hg' => .inr (.inr (.inl (.inl hg'))))))
   exact h5.app h6
  ·rcases hi with hi | hi | hi | ⟨k,z,hk,hz,hi⟩
   ·have:=hlow g j (.inl hi); omega
   ·have:=hlow g j (.inr (.inl hi)); omega
   ·have:=hlow g j (.inr (.inr hi)); omega
   ·exact (deep_in hD (Nat.le_refl _) z (List.mem_of_getElem? hz) g hi).2.2 d13
  ·rcases hi with hi | hi | hi | ⟨k,z,hk,hz,hi⟩
   ·have:=hlow g' j (.inl hi); omega
   ·have:=hlow g' j (.inr (.inl hi)); omega
   ·have:=hlow g' j (.inr (.inr hi)); omega
   ·exact hk (hD.apart k n z y g' hz d11 hi d12)
  ·intro q; subst q
   exact (deep_in hD (Nat.le_refl _) y (List.mem_of_getElem? d11) g d12).2.2 d13
theorem turn_even {b : UInt8} (h : b.toNat % 2 = 0) : (turnB b).toNat = b.toNat + 1:=by
 have hb : b.toNat < 256:=b.toNat_lt
 unfold turnB
 rw [if_pos (by unfold i8; omega)]
 unfold i8 b8
 rw [show ((b.toNat : Int) + 1) = ((b.toNat + 1 : Nat) : Int) by omega]
 simp [UInt8.toNat_ofNat']; omega
theorem turn_odd {b : UInt8} (h : ¬ b.toNat % 2 = 0) : ((turnB b).toNat : Int) = (b.toNat : Int) - 1:=by
 have hb : b.toNat < 256:=b.toNat_lt
 unfold turnB
 rw [if_neg (by unfold i8; omega)]
 unfold i8 b8
 rw [show ((b.toNat : Int) - 1) = ((b.toNat - 1 : Nat) : Int) by omega]
 simp [UInt8.toNat_ofNat']; omega
theorem enc_spoil {p : List (List UInt8)} {n k : Nat} {x : List UInt8} {b : UInt8} (hx : p[n]? = some x) (hb : x[k]? = some b) : encPk (spoilP p n k) = (encPk p).set n (sD 1 ((x.map encB).set k (encB (turnB b)))):=by
 have e0 : p.getD n [] = x:=by rw [List.getD_eq_getElem?_getD,hx]; rfl
 have e1 : x.getD k 0 = b:=by rw [List.getD_eq_getElem?_getD,hb]; rfl
 unfold spoilP
 rw [e0,e1]
 simp [encPk,List.map_set]
theorem xor_one : ∀ n : Nat,n < 256 → n ^^^ 1 = if n % 2 = 0 then n + 1 else n - 1:=by decide +kernel
theorem xor_turn (b : UInt8) : ((b.toNat ^^^ 1 : Nat) : Int) = ((turnB b).toNat : Int):=by
 have hb : b.toNat < 256:=b.toNat_lt
 rw [xor_one b.toNat hb]
 by_cases h : b.toNat % 2 = 0
 ·rw [if_pos h,turn_even h]
 ·rw [if_neg h,turn_odd h]; omega
theorem spoil_none (l : Ln) (n k : Int) (back : Bool) (hg : GoodL l) (hn : n < 0 ∨ ((wayP l back).length : Int) ≤ n) : Told Try.prog 44 [aD (encLn l),vI n,vI k,vB back] [aD (encLn l),vI 6]:=by
 refine told_lane_Spoil rfl ?_
 have h1:=ToldX.of (landL_own l hg)
 have h2:=way_toldP back
 have h3:=hasP_told (encPk (wayP l back)) n
 rw [no_has hn] at h3
 simp only [encLn] at h1 ⊢
 refine wk0 ?_
 refine .inl ⟨4,_,_,[],[],_,[],⟨rfl,rfl,rfl,rfl,row_refl _,fun x hx => by cases hx⟩,rfl,h1,rfl,List.nodup_nil,?_⟩
 simp only [preP,preOff,flOf,List.map_nil,List.nil_append]
 refine wk0 ?_
 cases back with
 | true =>
  simp only [wayP,if_true] at h2 h3
  refine cg0 [[mP 0 16]] ?_ ?_
  ·exact obl_adr h2 obl_nil
  refine wk0 ?_
  refine cg [[vB false]] Bool.not_false ?_ ?_
  ·exact obl_cons h3 obl_nil
  refine wk Bool.not_false ?_
  exact ValsLe.refl _
 | false =>
  simp only [wayP,Bool.false_eq_true,if_false] at h2 h3
  refine cg0 [[mP 0 15]] ?_ ?_
  ·exact obl_adr h2 obl_nil
  refine wk0 ?_
  refine cg [[vB false]] Bool.not_false ?_ ?_
  ·exact obl_cons h3 obl_nil
  refine wk Bool.not_false ?_
  exact ValsLe.refl _
theorem no_hasB {x : List UInt8} {k : Int} (h : k < 0 ∨ (x.length : Int) ≤ k) : decide (0 ≤ k ∧ k < ((x.map encB).length : Int)) = false:=by
 rw [List.length_map]; exact decide_eq_false (by omega)
theorem yes_hasB {x : List UInt8} {k : Nat} (h : k < x.length) : decide (0 ≤ (k : Int) ∧ (k : Int) < ((x.map encB).length : Int)) = true:=by
 rw [List.length_map]; exact decide_eq_true (by omega)
theorem spoil_range (l : Ln) (n : Nat) (k : Int) (back : Bool) (hg : GoodL l) (x : List UInt8) (hx : (wayP l back)[n]? = some x) (hk : k < 0 ∨ (x.length : Int) ≤ k) : Told Try.prog 44 [aD (encLn l),vI n,vI k,vB back] [aD (encLn l),vI 3]:=by
 refine told_lane_Spoil rfl ?_
 have hn : n < (wayP l back).length:=(List.getElem?_eq_some_iff.1 hx).1
 have h1:=ToldX.of (landL_own l hg)
 have h2:=way_toldP back
 have h3:=hasP_told (encPk (wayP l back)) n
 rw [yes_has hn] at h3
 have h4:=hasB_told (x.map encB) k
 rw [no_hasB hk] at h4
 have g4:=at_pk hx
 have k2 : (0 : Int) ≤ (n : Int):=by omega
 have k3 : (n : Int) < (((wayP l back).length : Nat) : Int):=by omega
 simp only [encLn] at h1 ⊢
 refine wk0 ?_
 refine .inl ⟨4,_,_,[],[],_,[],⟨rfl,rfl,rfl,rfl,row_refl _,fun x hx => by cases hx⟩,rfl,h1,rfl,List.nodup_nil,?_⟩
 simp only [preP,preOff,flOf,List.map_nil,List.nil_append]
 refine wk0 ?_
 cases back with
 | true =>
  simp only [wayP,if_true] at h2 h3 g4 k3
  refine cg0 [[mP 0 16]] ?_ ?_
  ·exact obl_adr h2 obl_nil
  refine wk0 ?_
  refine cg [[vB true]] Bool.not_true ?_ ?_
  ·exact obl_cons h3 obl_nil
  refine wk Bool.not_true ?_
  refine cg [[vB false]] (an6 Bool.not_false @g4 @k2 @k3 @len_pk @Int.toNat_natCast) ?_ ?_
  ·exact obl_cons h4 obl_nil
  refine wk Bool.not_false ?_
  exact ValsLe.refl _
 | false =>
  simp only [wayP,Bool.false_eq_true,if_false] at h2 h3 g4 k3
  refine cg0 [[mP 0 15]] ?_ ?_
  ·exact obl_adr h2 obl_nil
  refine wk0 ?_
  refine cg [[vB true]] Bool.not_true ?_ ?_
  ·exact obl_cons h3 obl_nil
  refine wk Bool.not_true ?_
  refine cg [[vB false]] (an6 Bool.not_false @g4 @k2 @k3 @len_pk @Int.toNat_natCast) ?_ ?_
  ·exact obl_cons h4 obl_nil
  refine wk Bool.not_false ?_
  exact ValsLe.refl _
theorem spoil_one (l : Ln) (n k : Nat) (back : Bool) (hg : GoodL l) (x : List UInt8) (hx : (wayP l back)[n]? = some x) (hk : k < x.length) : Told Try.prog 44 [aD (encLn l),vI n,vI k,vB back] [aD (encLn (withP l back (spoilP (wayP l back) n k))),vI 0]:=by
 refine told_lane_Spoil rfl ?_
 have hn : n < (wayP l back).length:=(List.getElem?_eq_some_iff.1 hx).1
 obtain ⟨b,hb⟩ : ∃ b,x[k]? = some b:=⟨_,List.getElem?_eq_getElem hk⟩
 have hxl:=(hg.way back).2 x (List.mem_of_getElem? hx)
 have hwl:=(hg.way back).1
 have h1:=landL_ownD l hg back n x hx (by intro e; subst e; simp at hk)
 have h2:=way_toldP back
 have h3:=hasP_told ((encPk (wayP l back)).set n xD) n
 rw [show decide (0 ≤ (n : Int) ∧ (n : Int) < (((encPk (wayP l back)).set n xD).length : Int)) = true from by rw [List.length_set]; exact yes_has hn] at h3
 have h4:=hasB_told (x.map encB) k
 rw [yes_hasB hk] at h4
 have he:=enc_spoil hx hb
 have e3 : encB (turnB b) = vD (.int .u8 ((b.toNat ^^^ 1 : Nat) : Int)):=by unfold encB; rw [xor_turn]
 rw [e3] at he
 have hbl : b.toNat < 256:=b.toNat_lt
 have g4 : ((encPk (wayP l back)).set n xD)[n]? = some xD:=List.getElem?_set_self (by rw [len_pk]; exact hn)
 have k2 : (0 : Int) ≤ (n : Int):=by omega
 have k3 : (n : Int) < (((wayP l back).length : Nat) : Int):=by omega
 have k4 : (0 : Int) ≤ (k : Int):=by omega
 have k5 : (k : Int) < ((x.length : Nat) : Int):=by omega
 have k6 : (x.map encB)[k]? = some (vD (.int .u8 (b.toNat : Int))):=by rw [List.getElem?_map,hb]; rfl
 have k7 : inR .u8 (b.toNat : Int) = true:=inR_u8.2 (by omega)
 have k8 : inR .u8 1 = true:=by decide
 have k9 : Int.toNat 1 = 1:=rfl
 simp only [encLn,dLn] at h1 ⊢
 refine wk0 ?_
 cases back with
 | true =>
  simp only [wayP,withP,if_true] at h1 h2 h3 he g4 k3 hn ⊢
  refine .inr ⟨4,_,_,_,16,_,n,_,100001,100002,⟨rfl,rfl,rfl,rfl,row_refl _,fun x hx => by cases hx⟩,rfl,h1,rfl,by decide,by decide,by decide,by decide,rfl,rfl,?_⟩
  rw [he]
  refine wk (an3 @zmap @zset @len_pk) ?_
  refine cg [[mP 0 16]] (an2 @zset @len_pk) ?_ ?_
  ·exact obl_adr h2 obl_nil
  refine wk (an2 @zset @len_pk) ?_
  refine cg [[vB true]] (an3 Bool.not_true @zset @len_pk) ?_ ?_
  ·exact obl_cons h3 obl_nil
  refine wk (an3 Bool.not_true @zset @len_pk) ?_
  refine cg [[vB true]] (an8 Bool.not_true @g4 @k2 @k3 @zmap @zset @len_pk @Int.toNat_natCast) ?_ ?_
  ·exact obl_cons h4 obl_nil
  refine wk (an15 Bool.not_true @g4 @k2 @k3 @k4 @k5 @k6 @k7 @k8 @k9 @zmap @zset @zss @len_pk @Int.toNat_natCast) ?_
  exact ValsLe.refl _
 | false =>
  simp only [wayP,withP,Bool.false_eq_true,if_false] at h1 h2 h3 he g4 k3 hn ⊢
  refine .inr ⟨4,_,_,_,15,_,n,_,100001,100002,⟨rfl,rfl,rfl,rfl,row_refl _,fun x hx => by cases hx⟩,rfl,h1,rfl,by decide,by decide,by decide,by decide,rfl,rfl,?_⟩
  rw [he]
  refine wk (an3 @zmap @zset @len_pk) ?_
  refine cg [[mP 0 15]] (an2 @zset @len_pk) ?_ ?_
  ·exact obl_adr h2 obl_nil
  refine wk (an2 @zset @len_pk) ?_
  refine cg [[vB true]] (an3 Bool.not_true @zset @len_pk) ?_ ?_
  ·exact obl_cons h3 obl_nil
  refine wk (an3 Bool.not_true @zset @len_pk) ?_
  refine cg [[vB true]] (an8 Bool.not_true @g4 @k2 @k3 @zmap @zset @len_pk @Int.toNat_natCast) ?_ ?_
  ·exact obl_cons h4 obl_nil
  refine wk (an15 Bool.not_true @g4 @k2 @k3 @k4 @k5 @k6 @k7 @k8 @k9 @zmap @zset @zss @len_pk @Int.toNat_natCast) ?_
  exact ValsLe.refl _
theorem landL_spoil : CLSpoil 44:=by
 intro l n k back hg
 unfold packetL
 by_cases hn : n < 0 ∨ ((wayP l back).length : Int) ≤ n
 ·rw [if_pos hn]
  exact spoil_none l n k back hg hn
 ·rw [if_neg hn,if_neg (by decide),if_neg (by decide),if_pos rfl]
  obtain ⟨m,rfl⟩ : ∃ m : Nat,n = m:=⟨n.toNat,by omega⟩
  obtain ⟨x,hx⟩ : ∃ x,(wayP l back)[m]? = some x:=⟨_,List.getElem?_eq_getElem (by omega)⟩
  have e0 : (wayP l back).getD m [] = x:=by rw [List.getD_eq_getElem?_getD,hx]; rfl
  rw [Int.toNat_natCast,e0]
  by_cases hk : k < 0 ∨ (x.length : Int) ≤ k
  ·rw [if_pos hk]
   exact spoil_range l m k back hg x hx hk
  ·rw [if_neg hk]
   obtain ⟨i,rfl⟩ : ∃ i : Nat,k = i:=⟨k.toNat,by omega⟩
   rw [Int.toNat_natCast]
   exact spoil_one l m i back hg x hx (by omega)
end Go.Proofs.Ytgaofjiidedcbad.ab
