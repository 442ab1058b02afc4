import Derived.Test.YtgfljlmonaifgacM20
import Derived.Test.YtgfljlmonaifgacProg
import Derived.WalkKit
import Derived.Test.YtgfljlmonaifgacM19
import Derived.Test.YtgfljlmonaifgacM31
import Derived.Test.YtgfljlmonaifgacM37
import Derived.Test.YtgfljlmonaifgacM40
import Derived.Test.YtgfljlmonaifgacM38
set_option maxHeartbeats 8000000
set_option linter.unusedVariables false
set_option linter.unusedSimpArgs false
namespace Go.Proofs.Ytgfljlmonaifgac.ab
set_option maxRecDepth 100000
open Go Go.RowKit
def slot_Whose_r0 : IC:=cReg Try.prog [
  ⟨some 4,none,iMov 4 (.const (.int .i64 0)) true⟩,
  ⟨some 5,none,iMov 5 (.const (.int .i64 0)) true⟩] [0,1] []
def slot_Whose_r1 : IC:=cReg Try.prog [
  ⟨some 6,none,iMov 6 (.tmp 0) false⟩,
  ⟨some 7,none,iBin 7 .lss (.tmp 6) (.const (.int .i64 0))⟩,
  ⟨some 8,none,iMov 8 (.tmp 7) false⟩,
  ⟨some 9,some (8,false),iMov 9 (.tmp 1) false⟩,
  ⟨some 10,some (8,false),iBin 10 .lss (.tmp 9) (.const (.int .i64 1))⟩,
  ⟨some 11,none,iPick 11 (.tmp 8) (.const (.bool true)) (.tmp 10)⟩,
  ⟨some 12,none,iMov 12 (.tmp 11) false⟩,
  ⟨some 13,some (12,false),iMov 13 (.tmp 1) false⟩,
  ⟨some 14,some (12,false),iBin 14 .gtr (.tmp 13) (.const (.int .i64 3))⟩,
  ⟨some 15,none,iPick 15 (.tmp 12) (.const (.bool true)) (.tmp 14)⟩] [0,1,15] []
def slot_Whose_r2 : IC:=cReg Try.prog [
  ⟨some 4,none,iMov 4 (.const (.int .i64 0)) true⟩,
  ⟨some 5,none,iMov 5 (.const (.int .i64 3)) true⟩] [4,5] []
def slot_Whose_c1a : IC:=(cSeq slot_Whose_r2 cRet)
def slot_Whose_c1 : IC:=cCond (.tmp 15) slot_Whose_c1a cSkip
def slot_Whose_r3 : IC:=cReg Try.prog [
  ⟨some 16,none,iMov 16 (.tmp 0) false⟩,
  ⟨some 17,none,iMov 17 (.tmp 1) false⟩,
  ⟨some 18,none,iBin 18 .rem (.tmp 16) (.tmp 17)⟩,
  ⟨some 4,none,iMov 4 (.tmp 18) true⟩,
  ⟨some 5,none,iMov 5 (.const (.int .i64 0)) true⟩] [4,5] []
def slot_Whose : IC:=(cSeq slot_Whose_r0 (cSeq (cSeq slot_Whose_r1 slot_Whose_c1) (cSeq slot_Whose_r3 cRet)))
theorem told_slot_Whose {args r : List D} (hl : args.length = 2) (h : slot_Whose (start args) (fin [(4,none),(5,none)] r)) : Told Try.prog 24 args r :=
 told_of follows Try.func24 rfl (an:=[([],[0,1],[],[]),([],[0,1,15],[],[]),([],[4,5],[],[]),([],[4,5],[],[])]) (by kernel_rfl) (by kernel_rfl) (by rw [hl]; decide +kernel) h
end Go.Proofs.Ytgfljlmonaifgac.ab
namespace Go.Proofs.Ytgfljlmonaifgac.mth
def aheadP (tick n tenant : Int) : Int:=(tenant - tick % n + n) % n
theorem ahead_ok {tick n tenant : Int} (hn : n = 1 ∨ n = 2 ∨ n = 3) : 0 ≤ aheadP tick n tenant ∧ aheadP tick n tenant < n:=by
 unfold aheadP; rcases hn with rfl | rfl | rfl <;> omega
structure Behind (tick many n tenant t : Int) (k : Nat) : Prop where
 lo : tick ≤ t
 hi : t ≤ tick + many
 ahead : t ≤ tick + aheadP tick n tenant + (k : Int) * n
 last : k = 0 ∨ tick + aheadP tick n tenant + ((k : Int) - 1) * n < t
theorem Behind.start {tick many n tenant : Int} (hn : n = 1 ∨ n = 2 ∨ n = 3) (hm : 0 ≤ many) : Behind tick many n tenant tick 0:=by
 have:=ahead_ok (tick:=tick) (tenant:=tenant) hn
 exact ⟨by omega,by omega,by simp; omega,.inl rfl⟩
end Go.Proofs.Ytgfljlmonaifgac.mth
namespace Go.Proofs.Ytgfljlmonaifgac.ab
open Go Go.RowKit
open mth
theorem whose_ok (t n : Int) (ht : 0 ≤ t) (hn : 1 ≤ n ∧ n ≤ 3) : Told Try.prog 24 [vI t,vI n] [vI (t % n),vI 0]:=by
 refine told_slot_Whose rfl ?_
 have g1 : ¬ t < 0:=by omega
 have g2 : ¬ n < 1:=by omega
 have g3 : ¬ 3 < n:=by omega
 have g4 : n ≠ 0:=by omega
 have g5 : t.tmod n = t % n:=Int.tmod_eq_emod_of_nonneg ht
 refine wk (an5 @g1 @g2 @g3 @g4 @g5) ?_
 exact ValsLe.refl _
def CPutS (f : Nat) : Prop:=∀ s m,GoodS s → Told Try.prog f [aD (encSd s),aD (encMs m)] [aD (encSd (putS s m)),vI (putE s m)]
def CSayS (f : Nat) : Prop:=∀ s,GoodS s → Told Try.prog f [aD (encSd s)] [aD (encSd (sayL s).1),aD (encCh (sayL s).2.1),vB (sayL s).2.2]
def CHearS (f : Nat) : Prop:=∀ s c,GoodS s → wrongL c = 0 → Told Try.prog f [aD (encSd s),aD (encCh c)] [aD (encSd (hearS s c))]
theorem early_right {c : Ch} (h : wrongL c = 0) : c.early.length ≤ 3:=by
 unfold wrongL at h
 split at h
 ·cases h
 ·split at h
  ·cases h
  ·split at h
   ·split at h
    ·cases h
    ·split at h
     ·cases h
     ·rename_i he; omega
   ·split at h
    ·cases h
    ·split at h
     ·cases h
     ·rename_i he; omega
theorem say_early {s : Sd} (h : GoodS s) : (sayL s).2.1.early.length ≤ 3:=by
 unfold sayL
 split
 ·split
  ·simp [zeroC]
  ·rename_i hf
   have hk:=againK_lt h (by omega)
   have hlt : (againK s).toNat < s.flight.length:=by omega
   simp only [List.getD_eq_getElem?_getD,List.getElem?_eq_getElem hlt,Option.getD_some]
   rw [h.early _ (List.getElem_mem hlt)]
   simp
 ·split
  ·rename_i hf
   have hk:=againK_lt h (by omega)
   have hlt : (againK s).toNat < s.flight.length:=by omega
   simp only [List.getD_eq_getElem?_getD,List.getElem?_eq_getElem hlt,Option.getD_some]
   rw [h.early _ (List.getElem_mem hlt)]
   simp
  ·simp [newC]
theorem step_put (hP : CPutS 26) (l : Ln) (s : Sp) (hg : GoodL l) (h : s.kind = 2) : Told Try.prog 15 [aD (encLn l),aD (encSp s)] [aD (encLn { l with s:=putS l.s s.msg }),vI (putE l.s s.msg)]:=by
 refine told_world_step rfl ?_
 have h1:=hP l.s s.msg hg.s
 obtain ⟨kind,tenant,n,m,back,msg⟩:=s
 simp only at h h1 ⊢
 subst h
 obtain ⟨s',r',t',k'⟩:=l
 simp only at *
 generalize putS s' msg = q at *
 generalize putE s' msg = e at *
 simp only [encLn,encSp,encSd,encMs] at h1 ⊢
 refine wk0 ?_
 refine cg [[aD (encSd q),vI e]] @encSd.eq_1 ?_ ?_
 ·exact obl_cons h1 obl_nil
 refine wk0 ?_
 exact ValsLe.refl _
theorem step_packet (hC : CLStep 27 3) (hL : CLStep 28 4) (hT : CLStep 29 5) (hS : CLSpoil 30) (l : Ln) (s : Sp) (hg : GoodL l) (h : 3 ≤ s.kind ∧ s.kind ≤ 6) : Told Try.prog 15 [aD (encLn l),aD (encSp s)] [aD (encLn (packetL l s.kind s.n s.m s.back).1),vI (packetL l s.kind s.n s.m s.back).2]:=by
 refine told_world_step rfl ?_
 obtain ⟨kind,tenant,n,m,back,msg⟩:=s
 simp only at h ⊢
 have hk : kind = 3 ∨ kind = 4 ∨ kind = 5 ∨ kind = 6:=by omega
 rcases hk with rfl | rfl | rfl | rfl
 ·have h1:=hC l n back hg
  rw [show packetL l 3 n m back = packetL l 3 n 0 back from rfl]
  generalize packetL l 3 n 0 back = R at *
  obtain ⟨l',e⟩:=R
  simp only [encLn,encSp] at h1 ⊢
  refine wk0 ?_
  refine cg [[aD (encLn l'),vI e]] @encLn.eq_1 ?_ ?_
  ·exact obl_cons h1 obl_nil
  refine wk0 ?_
  exact ValsLe.refl _
 ·have h1:=hL l n back hg
  rw [show packetL l 4 n m back = packetL l 4 n 0 back from rfl]
  generalize packetL l 4 n 0 back = R at *
  obtain ⟨l',e⟩:=R
  simp only [encLn,encSp] at h1 ⊢
  refine wk0 ?_
  refine cg [[aD (encLn l'),vI e]] @encLn.eq_1 ?_ ?_
  ·exact obl_cons h1 obl_nil
  refine wk0 ?_
  exact ValsLe.refl _
 ·have h1:=hT l n back hg
  rw [show packetL l 5 n m back = packetL l 5 n 0 back from rfl]
  generalize packetL l 5 n 0 back = R at *
  obtain ⟨l',e⟩:=R
  simp only [encLn,encSp] at h1 ⊢
  refine wk0 ?_
  refine cg [[aD (encLn l'),vI e]] @encLn.eq_1 ?_ ?_
  ·exact obl_cons h1 obl_nil
  refine wk0 ?_
  exact ValsLe.refl _
 ·have h1:=hS l n m back hg
  generalize packetL l 6 n m back = R at *
  obtain ⟨l',e⟩:=R
  simp only [encLn,encSp] at h1 ⊢
  refine wk0 ?_
  refine cg [[aD (encLn l'),vI e]] @encLn.eq_1 ?_ ?_
  ·exact obl_cons h1 obl_nil
  refine wk0 ?_
  exact ValsLe.refl _
theorem step_told (hP : CPutS 26) (hC : CLStep 27 3) (hL : CLStep 28 4) (hT : CLStep 29 5) (hS : CLSpoil 30) (l : Ln) (s : Sp) (hg : GoodL l) (h : 2 ≤ s.kind ∧ s.kind ≤ 6) : Told Try.prog 15 [aD (encLn l),aD (encSp s)] [aD (encLn (laneW l s).1),vI (laneW l s).2]:=by
 unfold laneW
 rw [if_neg (by omega)]
 by_cases h2 : s.kind = 2
 ·rw [if_pos h2]; exact step_put hP l s hg h2
 ·rw [if_neg h2]; exact step_packet hC hL hT hS l s hg (by omega)
theorem ll_ne {l : List Ln} (h : l ≠ []) : encLl l ≠ []:=by simpa [encLl] using h
theorem tick_toldI (hK : CLSpeak 25) (w : Wd) (hn : 1 ≤ w.lanes.length ∧ w.lanes.length ≤ 3) (ht : 0 ≤ w.ticks ∧ w.ticks ≤ 1000000) (j : Nat) (hj : w.ticks % w.lanes.length = j) (l : Ln) (hl : w.lanes[j]? = some l) (hg : GoodL l) :
  ToldI Try.prog 14 [aD [xD,vI w.ticks]] 0 (some 0) 51 (17,some (encLl w.lanes)) [aD (encWd ⟨w.lanes.set j (speakL l),w.ticks + 1⟩),vI 0]:=by
 refine toldI_world_tick ?_
 have h1:=hK l hg
 have h2:=whose_ok w.ticks w.lanes.length ht.1 (by omega)
 rw [hj] at h2
 generalize speakL l = l' at *
 have hlt : j < w.lanes.length:=(List.getElem?_eq_some_iff.1 hl).1
 have g3 : (0 : Int) ≤ (j : Int):=by omega
 have g4 : (j : Int) < (w.lanes.length : Int):=by omega
 have g5:=at_ll hl
 have g6 : inR .i64 (w.ticks + 1) = true:=inR_of (by omega)
 have hne : encLl w.lanes ≠ []:=ll_ne (by intro e; rw [e] at hlt; simp at hlt)
 obtain ⟨lanes,ticks⟩:=w
 simp only [encWd,set_ll,encLn] at *
 refine wk0 ?_
 refine ⟨_,le_name (b:=1) (off:=0) (k:=100001) (by decide) rfl (show 0 < 2 by decide) rfl hne ⟨by decide,by decide⟩ rfl,?_⟩
 refine wk @len_ll ?_
 refine cg [[vI j,vI 0]] @len_ll ?_ ?_
 ·exact obl_cons h2 obl_nil
 refine wk (an5 @g3 @g4 @g5 @len_ll @Int.toNat_natCast) ?_
 refine cd [[aD (encLn l')]] (an7 @encLn.eq_1 @g3 @g4 @g5 @len_ll @zset @Int.toNat_natCast) ?_ ?_
 ·exact obl_cons h1 obl_nil
 refine wk @g6 ?_
 exact ValsLe.refl _
theorem lDo_kind (hO : CLOwn 20) (w : Wd) (hw : GoodW w) (s : Sp) (h : s.kind < 1 ∨ 6 < s.kind) : Told Try.prog 7 [aD (encWd w),aD (encSp s)] [aD (encWd w),vI 1]:=by
 refine told_world_Do rfl ?_
 have h0:=ownWd_toldO hO w hw
 obtain ⟨kind,tenant,n,m,back,msg⟩:=s
 simp only at h
 have h1 : (kind == 1) = false:=by rw [beq_eq_false_iff_ne]; omega
 simp only [encWd,encSp] at h0 ⊢
 refine wk0 ?_
 refine ⟨2,_,_,_,0,_,_,rfl,rfl,rfl,rfl,row_refl _,h0,rfl,?_⟩
 by_cases h2 : kind < 1
 ·refine wk (an2 @h1 @h2) ?_
  refine ⟨_,le_frzH (b:=2) (off:=0) (by decide) rfl (show 0 < 2 by decide) rfl,?_⟩
  refine wk0 ?_
  exact ValsLe.refl _
 ·have h3 : 6 < kind:=by omega
  refine wk (an3 @h1 @h2 @h3) ?_
  refine ⟨_,le_frzH (b:=2) (off:=0) (by decide) rfl (show 0 < 2 by decide) rfl,?_⟩
  refine wk0 ?_
  exact ValsLe.refl _
theorem lDo_none (hO : CLOwn 20) (w : Wd) (hw : GoodW w) (s : Sp) (h : 2 ≤ s.kind ∧ s.kind ≤ 6) (hr : s.tenant < 0 ∨ (w.lanes.length : Int) ≤ s.tenant) : Told Try.prog 7 [aD (encWd w),aD (encSp s)] [aD (encWd w),vI 6]:=by
 refine told_world_Do rfl ?_
 have h0:=ownWd_toldO hO w hw
 have hn:=hw.n
 have hne : encLl w.lanes ≠ []:=ll_ne (by intro e; rw [e] at hn; simp at hn)
 obtain ⟨kind,tenant,n,m,back,msg⟩:=s
 simp only at h hr
 have h1 : (kind == 1) = false:=by rw [beq_eq_false_iff_ne]; omega
 have h2 : ¬ kind < 1:=by omega
 have h3 : ¬ 6 < kind:=by omega
 simp only [encWd,encSp] at h0 ⊢
 refine wk0 ?_
 refine ⟨2,_,_,_,0,_,_,rfl,rfl,rfl,rfl,row_refl _,h0,rfl,?_⟩
 refine wk (an3 @h1 @h2 @h3) ?_
 refine ⟨_,le_name (b:=2) (off:=0) (k:=100002) (by decide) rfl (show 0 < 2 by decide) rfl hne ⟨by decide,by decide⟩ rfl,?_⟩
 by_cases h4 : tenant < 0
 ·refine wk @h4 ?_
  refine ⟨_,(Le.keep (lv:=[2,3,4,27]) (lb:=[2,3,4]) (by simp only [ev0,ev1,ev2,look,lookF,cellsFrom,offT,offP,List.tail_nil,List.length_nil,Int.cast_ofNat_Int,Nat.reduceEqDiff,Nat.reduceAdd,Nat.reduceMul,Nat.reduceLeDiff,Nat.reduceLT,↓reduceIte,reduceCtorEq,Int.reduceBEq,Int.reduceBNe,Int.reduceLT,Int.reduceLE,Int.reduceToNat]; rfl)),?_⟩
  refine wk0 ?_
  exact ValsLe.refl _
 ·have h5 : (w.lanes.length : Int) ≤ tenant:=by omega
  refine wk (an3 @h4 @h5 @len_ll) ?_
  refine ⟨_,(Le.keep (lv:=[2,3,4,27]) (lb:=[2,3,4]) (by simp only [ev0,ev1,ev2,look,lookF,cellsFrom,offT,offP,List.tail_nil,List.length_nil,Int.cast_ofNat_Int,Nat.reduceEqDiff,Nat.reduceAdd,Nat.reduceMul,Nat.reduceLeDiff,Nat.reduceLT,↓reduceIte,reduceCtorEq,Int.reduceBEq,Int.reduceBNe,Int.reduceLT,Int.reduceLE,Int.reduceToNat,len_ll]; rfl)),?_⟩
  refine wk0 ?_
  exact ValsLe.refl _
theorem lDo_step (hO : CLOwn 20) (hP : CPutS 26) (hC : CLStep 27 3) (hL : CLStep 28 4) (hT : CLStep 29 5) (hS : CLSpoil 30) (w : Wd) (hw : GoodW w) (s : Sp) (h : 2 ≤ s.kind ∧ s.kind ≤ 6) (j : Nat) (hj : s.tenant = j) (l : Ln) (hl : w.lanes[j]? = some l) (hg : GoodL l) :
  Told Try.prog 7 [aD (encWd w),aD (encSp s)] [aD (encWd ⟨w.lanes.set j (laneW l s).1,w.ticks⟩),vI (laneW l s).2]:=by
 refine told_world_Do rfl ?_
 have h0:=ownWd_toldO hO w hw
 have hs:=step_told hP hC hL hT hS l s hg h
 have hn:=hw.n
 have hne : encLl w.lanes ≠ []:=ll_ne (by intro e; rw [e] at hn; simp at hn)
 generalize laneW l s = R at *
 obtain ⟨l',e⟩:=R
 obtain ⟨kind,tenant,n,m,back,msg⟩:=s
 simp only at h hj hs ⊢
 subst hj
 have hlt : j < w.lanes.length:=(List.getElem?_eq_some_iff.1 hl).1
 have h1 : (kind == 1) = false:=by rw [beq_eq_false_iff_ne]; omega
 have h2 : ¬ kind < 1:=by omega
 have h3 : ¬ 6 < kind:=by omega
 have g1 : ¬ (j : Int) < 0:=by omega
 have g2 : ¬ (w.lanes.length : Int) ≤ (j : Int):=by omega
 have g3 : (0 : Int) ≤ (j : Int):=by omega
 have g4 : (j : Int) < (w.lanes.length : Int):=by omega
 have g5:=at_ll hl
 obtain ⟨lanes,ticks⟩:=w
 simp only [encWd,encSp,set_ll,encLn] at *
 refine wk0 ?_
 refine ⟨2,_,_,_,0,_,_,rfl,rfl,rfl,rfl,row_refl _,h0,rfl,?_⟩
 refine wk (an3 @h1 @h2 @h3) ?_
 refine ⟨_,le_name (b:=2) (off:=0) (k:=100002) (by decide) rfl (show 0 < 2 by decide) rfl hne ⟨by decide,by decide⟩ rfl,?_⟩
 refine wk (an3 @g1 @g2 @len_ll) ?_
 refine cd [[aD (encLn l'),vI e]] (an7 @encLn.eq_1 @g3 @g4 @g5 @len_ll @zset @Int.toNat_natCast) ?_ ?_
 ·exact obl_cons hs obl_nil
 refine wk0 ?_
 exact ValsLe.refl _
theorem lDo_tick (hO : CLOwn 20) (hK : CLSpeak 25) (w : Wd) (hw : GoodW w) (ht : w.ticks ≤ 1000000) (s : Sp) (h : s.kind = 1) (j : Nat) (hj : w.ticks % w.lanes.length = j) (l : Ln) (hl : w.lanes[j]? = some l) (hg : GoodL l) :
  Told Try.prog 7 [aD (encWd w),aD (encSp s)] [aD (encWd ⟨w.lanes.set j (speakL l),w.ticks + 1⟩),vI 0]:=by
 refine told_world_Do rfl ?_
 have h0:=ownWd_toldO hO w hw
 have h1:=tick_toldI hK w hw.n ⟨hw.t,ht⟩ j hj l hl hg
 generalize (⟨w.lanes.set j (speakL l),w.ticks + 1⟩ : Wd) = w' at *
 obtain ⟨kind,tenant,n,m,back,msg⟩:=s
 simp only at h
 subst h
 simp only [encWd,encSp] at h0 h1 ⊢
 refine wk0 ?_
 refine ⟨2,_,_,_,0,_,_,rfl,rfl,rfl,rfl,row_refl _,h0,rfl,?_⟩
 refine wk0 ?_
 refine ⟨2,_,_,0,_,_,_,rfl,rfl,rfl,rfl,row_refl _,by decide,rfl,h1,?_⟩
 refine wk0 ?_
 exact ValsLe.refl _
theorem lDo_told (hO : CLOwn 20) (hK : CLSpeak 25) (hP : CPutS 26) (hC : CLStep 27 3) (hL : CLStep 28 4) (hT : CLStep 29 5) (hS : CLSpoil 30) : CWDo 7:=by
 intro w s hw ht
 unfold doW
 by_cases hk : s.kind < 1 ∨ 6 < s.kind
 ·rw [if_pos hk]; exact lDo_kind hO w hw s hk
 rw [if_neg hk]
 have hn:=hw.n
 have ht0:=hw.t
 by_cases h1 : s.kind = 1
 ·have hwho : whoW w s = w.ticks % w.lanes.length:=by unfold whoW; rw [if_pos h1,Int.tmod_eq_emod_of_nonneg ht0]
  have htk : ticksW w s = w.ticks + 1:=by unfold ticksW; rw [if_pos h1]
  rw [hwho,htk]
  have q0 : 0 ≤ w.ticks % w.lanes.length:=Int.emod_nonneg _ (by omega)
  have q1 : w.ticks % w.lanes.length < w.lanes.length:=Int.emod_lt_of_pos _ (by omega)
  obtain ⟨j,hj⟩ : ∃ j : Nat,w.ticks % w.lanes.length = j:=⟨(w.ticks % w.lanes.length).toNat,by omega⟩
  rw [hj] at q0 q1 ⊢
  rw [if_neg (by omega)]
  obtain ⟨l,hl⟩ : ∃ l,w.lanes[j]? = some l:=⟨_,List.getElem?_eq_getElem (by omega)⟩
  have e0 : w.lanes.getD j zeroL = l:=by rw [List.getD_eq_getElem?_getD,hl]; rfl
  have:=lDo_tick hO hK w hw ht s h1 j hj l hl (hw.l l (List.mem_of_getElem? hl))
  simpa only [Int.toNat_natCast,e0,laneW,h1,if_true] using this
 ·have hwho : whoW w s = s.tenant:=by unfold whoW; rw [if_neg h1]
  have htk : ticksW w s = w.ticks:=by unfold ticksW; rw [if_neg h1]
  rw [hwho,htk]
  by_cases hr : s.tenant < 0 ∨ (w.lanes.length : Int) ≤ s.tenant
  ·rw [if_pos hr]
   exact lDo_none hO w hw s (by omega) hr
  rw [if_neg hr]
  obtain ⟨j,hj⟩ : ∃ j : Nat,s.tenant = j:=⟨s.tenant.toNat,by omega⟩
  rw [hj]
  obtain ⟨l,hl⟩ : ∃ l,w.lanes[j]? = some l:=⟨_,List.getElem?_eq_getElem (by omega)⟩
  have e0 : w.lanes.getD j zeroL = l:=by rw [List.getD_eq_getElem?_getD,hl]; rfl
  have:=lDo_step hO hP hC hL hT hS w hw s (by omega) j hj l hl (hw.l l (List.mem_of_getElem? hl))
  rw [Int.toNat_natCast,e0]
  exact this
end Go.Proofs.Ytgfljlmonaifgac.ab
