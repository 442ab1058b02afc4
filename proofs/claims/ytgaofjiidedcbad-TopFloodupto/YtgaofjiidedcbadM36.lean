import Derived.Test.YtgaofjiidedcbadM34
import Derived.Test.YtgaofjiidedcbadM35
import Derived.Test.YtgaofjiidedcbadM19
import Derived.Test.YtgaofjiidedcbadProg
import Derived.Test.YtgaofjiidedcbadM28
import Derived.Test.YtgaofjiidedcbadM31
import Derived.Test.YtgaofjiidedcbadM33
import Derived.Test.YtgaofjiidedcbadM27
import Derived.Test.YtgaofjiidedcbadPLane3
set_option maxHeartbeats 16000000
set_option linter.unusedVariables false
set_option linter.unusedSimpArgs false
namespace Go.Proofs.Ytgaofjiidedcbad.ab
open Go Go.RowKit
open mth
theorem step_put (hP : CPutS 41) (l : Ln) (s : Sp) (hg : GoodL l) (h : s.kind = 2) : Told Try.prog 29 [aD (encLn l),aD (encSp s)] [aD (encLn { l with s:=putS l.s s.msg }),vI (putE l.s s.msg)]:=by
 refine told_world_step rfl ?_
 have h1:=hP l.s s.msg hg.s
 obtain ⟨kind,tenant,n,m,back,msg⟩:=s
 simp only at h h1 ⊢
 subst h
 obtain ⟨s',r',t',k'⟩:=l
 simp only at *
 generalize putS s' msg = q at *
 generalize putE s' msg = e at *
 simp only [encLn,encSp,encSd,encMs] at h1 ⊢
 refine wk0 ?_
 refine cg [[aD (encSd q),vI e]] @encSd.eq_1 ?_ ?_
 ·exact obl_cons h1 obl_nil
 refine wk0 ?_
 exact ValsLe.refl _
theorem step_packet (hC : CLStep 38 3) (hL : CLStep 42 4) (hT : CLStep 43 5) (hS : CLSpoil 44) (l : Ln) (s : Sp) (hg : GoodL l) (h : 3 ≤ s.kind ∧ s.kind ≤ 6) : Told Try.prog 29 [aD (encLn l),aD (encSp s)] [aD (encLn (packetL l s.kind s.n s.m s.back).1),vI (packetL l s.kind s.n s.m s.back).2]:=by
 refine told_world_step rfl ?_
 obtain ⟨kind,tenant,n,m,back,msg⟩:=s
 simp only at h ⊢
 have hk : kind = 3 ∨ kind = 4 ∨ kind = 5 ∨ kind = 6:=by omega
 rcases hk with rfl | rfl | rfl | rfl
 ·have h1:=hC l n back hg
  rw [show packetL l 3 n m back = packetL l 3 n 0 back from rfl]
  generalize packetL l 3 n 0 back = R at *
  obtain ⟨l',e⟩:=R
  simp only [encLn,encSp] at h1 ⊢
  refine wk0 ?_
  refine cg [[aD (encLn l'),vI e]] @encLn.eq_1 ?_ ?_
  ·exact obl_cons h1 obl_nil
  refine wk0 ?_
  exact ValsLe.refl _
 ·have h1:=hL l n back hg
  rw [show packetL l 4 n m back = packetL l 4 n 0 back from rfl]
  generalize packetL l 4 n 0 back = R at *
  obtain ⟨l',e⟩:=R
  simp only [encLn,encSp] at h1 ⊢
  refine wk0 ?_
  refine cg [[aD (encLn l'),vI e]] @encLn.eq_1 ?_ ?_
  ·exact obl_cons h1 obl_nil
  refine wk0 ?_
  exact ValsLe.refl _
 ·have h1:=hT l n back hg
  rw [show packetL l 5 n m back = packetL l 5 n 0 back from rfl]
  generalize packetL l 5 n 0 back = R at *
  obtain ⟨l',e⟩:=R
  simp only [encLn,encSp] at h1 ⊢
  refine wk0 ?_
  refine cg [[aD (encLn l'),vI e]] @encLn.eq_1 ?_ ?_
  ·exact obl_cons h1 obl_nil
  refine wk0 ?_
  exact ValsLe.refl _
 ·have h1:=hS l n m back hg
  generalize packetL l 6 n m back = R at *
  obtain ⟨l',e⟩:=R
  simp only [encLn,encSp] at h1 ⊢
  refine wk0 ?_
  refine cg [[aD (encLn l'),vI e]] @encLn.eq_1 ?_ ?_
  ·exact obl_cons h1 obl_nil
  refine wk0 ?_
  exact ValsLe.refl _
theorem step_told (hP : CPutS 41) (hC : CLStep 38 3) (hL : CLStep 42 4) (hT : CLStep 43 5) (hS : CLSpoil 44) (l : Ln) (s : Sp) (hg : GoodL l) (h : 2 ≤ s.kind ∧ s.kind ≤ 6) : Told Try.prog 29 [aD (encLn l),aD (encSp s)] [aD (encLn (laneW l s).1),vI (laneW l s).2]:=by
 unfold laneW
 rw [if_neg (by omega)]
 by_cases h2 : s.kind = 2
 ·rw [if_pos h2]; exact step_put hP l s hg h2
 ·rw [if_neg h2]; exact step_packet hC hL hT hS l s hg (by omega)
theorem ll_ne {l : List Ln} (h : l ≠ []) : encLl l ≠ []:=by simpa [encLl] using h
theorem tick_toldI (hK : CLSpeak 40) (w : Wd) (hn : 1 ≤ w.lanes.length ∧ w.lanes.length ≤ 3) (ht : 0 ≤ w.ticks ∧ w.ticks ≤ 1000000) (j : Nat) (hj : w.ticks % w.lanes.length = j) (l : Ln) (hl : w.lanes[j]? = some l) (hg : GoodL l) :
  ToldI Try.prog 28 [aD [xD,vI w.ticks]] 0 (some 0) 51 (17,some (encLl w.lanes)) [aD (encWd ⟨w.lanes.set j (speakL l),w.ticks + 1⟩),vI 0]:=by
 refine toldI_world_tick ?_
 have h1:=hK l hg
 have h2:=whose_ok w.ticks w.lanes.length ht.1 (by omega)
 rw [hj] at h2
 generalize speakL l = l' at *
 have hlt : j < w.lanes.length:=(List.getElem?_eq_some_iff.1 hl).1
 have g3 : (0 : Int) ≤ (j : Int):=by omega
 have g4 : (j : Int) < (w.lanes.length : Int):=by omega
 have g5:=at_ll hl
 have g6 : inR .i64 (w.ticks + 1) = true:=inR_of (by omega)
 have hne : encLl w.lanes ≠ []:=ll_ne (by intro e; rw [e] at hlt; simp at hlt)
 obtain ⟨lanes,ticks⟩:=w
 simp only [encWd,set_ll,encLn] at *
 refine wk0 ?_
 refine ⟨_,le_name (b:=1) (off:=0) (k:=100001) (by decide) rfl (show 0 < 2 by decide) rfl hne ⟨by decide,by decide⟩ rfl,?_⟩
 refine wk @len_ll ?_
 refine cg [[vI j,vI 0]] @len_ll ?_ ?_
 ·exact obl_cons h2 obl_nil
 refine wk (an5 @g3 @g4 @g5 @len_ll @Int.toNat_natCast) ?_
 refine cd [[aD (encLn l')]] (an7 @encLn.eq_1 @g3 @g4 @g5 @len_ll @zset @Int.toNat_natCast) ?_ ?_
 ·exact obl_cons h1 obl_nil
 refine wk @g6 ?_
 exact ValsLe.refl _
theorem lDo_kind (hO : CLOwn 24) (w : Wd) (hw : GoodW w) (s : Sp) (h : s.kind < 1 ∨ 6 < s.kind) : Told Try.prog 19 [aD (encWd w),aD (encSp s)] [aD (encWd w),vI 1]:=by
 refine told_world_Do rfl ?_
 have h0:=ownWd_toldO hO w hw
 obtain ⟨kind,tenant,n,m,back,msg⟩:=s
 simp only at h
 have h1 : (kind == 1) = false:=by rw [beq_eq_false_iff_ne]; omega
 simp only [encWd,encSp] at h0 ⊢
 refine wk0 ?_
 refine ⟨2,_,_,_,0,_,_,rfl,rfl,rfl,rfl,row_refl _,h0,rfl,?_⟩
 by_cases h2 : kind < 1
 ·refine wk (an2 @h1 @h2) ?_
  refine ⟨_,le_frzH (b:=2) (off:=0) (by decide) rfl (show 0 < 2 by decide) rfl,?_⟩
  refine wk0 ?_
  exact ValsLe.refl _
 ·have h3 : 6 < kind:=by omega
  refine wk (an3 @h1 @h2 @h3) ?_
  refine ⟨_,le_frzH (b:=2) (off:=0) (by decide) rfl (show 0 < 2 by decide) rfl,?_⟩
  refine wk0 ?_
  exact ValsLe.refl _
theorem lDo_none (hO : CLOwn 24) (w : Wd) (hw : GoodW w) (s : Sp) (h : 2 ≤ s.kind ∧ s.kind ≤ 6) (hr : s.tenant < 0 ∨ (w.lanes.length : Int) ≤ s.tenant) : Told Try.prog 19 [aD (encWd w),aD (encSp s)] [aD (encWd w),vI 6]:=by
 refine told_world_Do rfl ?_
 have h0:=ownWd_toldO hO w hw
 have hn:=hw.n
 have hne : encLl w.lanes ≠ []:=ll_ne (by intro e; rw [e] at hn; simp at hn)
 obtain ⟨kind,tenant,n,m,back,msg⟩:=s
 simp only at h hr
 have h1 : (kind == 1) = false:=by rw [beq_eq_false_iff_ne]; omega
 have h2 : ¬ kind < 1:=by omega
 have h3 : ¬ 6 < kind:=by omega
 simp only [encWd,encSp] at h0 ⊢
 refine wk0 ?_
 refine ⟨2,_,_,_,0,_,_,rfl,rfl,rfl,rfl,row_refl _,h0,rfl,?_⟩
 refine wk (an3 @h1 @h2 @h3) ?_
 refine ⟨_,le_name (b:=2) (off:=0) (k:=100002) (by decide) rfl (show 0 < 2 by decide) rfl hne ⟨by decide,by decide⟩ rfl,?_⟩
 by_cases h4 : tenant < 0
 ·refine wk @h4 ?_
  refine ⟨_,(Le.keep (lv:=[2,3,4,27]) (lb:=[2,3,4]) (by simp only [ev0,ev1,ev2,look,lookF,cellsFrom,offT,offP,List.tail_nil,List.length_nil,Int.cast_ofNat_Int,Nat.reduceEqDiff,Nat.reduceAdd,Nat.reduceMul,Nat.reduceLeDiff,Nat.reduceLT,↓reduceIte,reduceCtorEq,Int.reduceBEq,Int.reduceBNe,Int.reduceLT,Int.reduceLE,Int.reduceToNat]; rfl)),?_⟩
  refine wk0 ?_
  exact ValsLe.refl _
 ·have h5 : (w.lanes.length : Int) ≤ tenant:=by omega
  refine wk (an3 @h4 @h5 @len_ll) ?_
  refine ⟨_,(Le.keep (lv:=[2,3,4,27]) (lb:=[2,3,4]) (by simp only [ev0,ev1,ev2,look,lookF,cellsFrom,offT,offP,List.tail_nil,List.length_nil,Int.cast_ofNat_Int,Nat.reduceEqDiff,Nat.reduceAdd,Nat.reduceMul,Nat.reduceLeDiff,Nat.reduceLT,↓reduceIte,reduceCtorEq,Int.reduceBEq,Int.reduceBNe,Int.reduceLT,Int.reduceLE,Int.reduceToNat,len_ll]; rfl)),?_⟩
  refine wk0 ?_
  exact ValsLe.refl _
theorem lDo_step (hO : CLOwn 24) (hP : CPutS 41) (hC : CLStep 38 3) (hL : CLStep 42 4) (hT : CLStep 43 5) (hS : CLSpoil 44) (w : Wd) (hw : GoodW w) (s : Sp) (h : 2 ≤ s.kind ∧ s.kind ≤ 6) (j : Nat) (hj : s.tenant = j) (l : Ln) (hl : w.lanes[j]? = some l) (hg : GoodL l) :
  Told Try.prog 19 [aD (encWd w),aD (encSp s)] [aD (encWd ⟨w.lanes.set j (laneW l s).1,w.ticks⟩),vI (laneW l s).2]:=by
 refine told_world_Do rfl ?_
 have h0:=ownWd_toldO hO w hw
 have hs:=step_told hP hC hL hT hS l s hg h
 have hn:=hw.n
 have hne : encLl w.lanes ≠ []:=ll_ne (by intro e; rw [e] at hn; simp at hn)
 generalize laneW l s = R at *
 obtain ⟨l',e⟩:=R
 obtain ⟨kind,tenant,n,m,back,msg⟩:=s
 simp only at h hj hs ⊢
 subst hj
 have hlt : j < w.lanes.length:=(List.getElem?_eq_some_iff.1 hl).1
 have h1 : (kind == 1) = false:=by rw [beq_eq_false_iff_ne]; omega
 have h2 : ¬ kind < 1:=by omega
 have h3 : ¬ 6 < kind:=by omega
 have g1 : ¬ (j : Int) < 0:=by omega
 have g2 : ¬ (w.lanes.length : Int) ≤ (j : Int):=by omega
 have g3 : (0 : Int) ≤ (j : Int):=by omega
 have g4 : (j : Int) < (w.lanes.length : Int):=by omega
 have g5:=at_ll hl
 obtain ⟨lanes,ticks⟩:=w
 simp only [encWd,encSp,set_ll,encLn] at *
 refine wk0 ?_
 refine ⟨2,_,_,_,0,_,_,rfl,rfl,rfl,rfl,row_refl _,h0,rfl,?_⟩
 refine wk (an3 @h1 @h2 @h3) ?_
 refine ⟨_,le_name (b:=2) (off:=0) (k:=100002) (by decide) rfl (show 0 < 2 by decide) rfl hne ⟨by decide,by decide⟩ rfl,?_⟩
 refine wk (an3 @g1 @g2 @len_ll) ?_
 refine cd [[aD (encLn l'),vI e]] (an7 @encLn.eq_1 @g3 @g4 @g5 @len_ll @zset @Int.toNat_natCast) ?_ ?_
 ·exact obl_cons hs obl_nil
 refine wk0 ?_
 exact ValsLe.refl _
theorem lDo_tick (hO : CLOwn 24) (hK : CLSpeak 40) (w : Wd) (hw : GoodW w) (ht : w.ticks ≤ 1000000) (s : Sp) (h : s.kind = 1) (j : Nat) (hj : w.ticks % w.lanes.length = j) (l : Ln) (hl : w.lanes[j]? = some l) (hg : GoodL l) :
  Told Try.prog 19 [aD (encWd w),aD (encSp s)] [aD (encWd ⟨w.lanes.set j (speakL l),w.ticks + 1⟩),vI 0]:=by
 refine told_world_Do rfl ?_
 have h0:=ownWd_toldO hO w hw
 have h1:=tick_toldI hK w hw.n ⟨hw.t,ht⟩ j hj l hl hg
 generalize (⟨w.lanes.set j (speakL l),w.ticks + 1⟩ : Wd) = w' at *
 obtain ⟨kind,tenant,n,m,back,msg⟩:=s
 simp only at h
 subst h
 simp only [encWd,encSp] at h0 h1 ⊢
 refine wk0 ?_
 refine ⟨2,_,_,_,0,_,_,rfl,rfl,rfl,rfl,row_refl _,h0,rfl,?_⟩
 refine wk0 ?_
 refine ⟨2,_,_,0,_,_,_,rfl,rfl,rfl,rfl,row_refl _,by decide,rfl,h1,?_⟩
 refine wk0 ?_
 exact ValsLe.refl _
theorem lDo_told (hO : CLOwn 24) (hK : CLSpeak 40) (hP : CPutS 41) (hC : CLStep 38 3) (hL : CLStep 42 4) (hT : CLStep 43 5) (hS : CLSpoil 44) : CWDo 19:=by
 intro w s hw ht
 unfold doW
 by_cases hk : s.kind < 1 ∨ 6 < s.kind
 ·rw [if_pos hk]; exact lDo_kind hO w hw s hk
 rw [if_neg hk]
 have hn:=hw.n
 have ht0:=hw.t
 by_cases h1 : s.kind = 1
 ·have hwho : whoW w s = w.ticks % w.lanes.length:=by unfold whoW; rw [if_pos h1,Int.tmod_eq_emod_of_nonneg ht0]
  have htk : ticksW w s = w.ticks + 1:=by unfold ticksW; rw [if_pos h1]
  rw [hwho,htk]
  have q0 : 0 ≤ w.ticks % w.lanes.length:=Int.emod_nonneg _ (by omega)
  have q1 : w.ticks % w.lanes.length < w.lanes.length:=Int.emod_lt_of_pos _ (by omega)
  obtain ⟨j,hj⟩ : ∃ j : Nat,w.ticks % w.lanes.length = j:=⟨(w.ticks % w.lanes.length).toNat,by omega⟩
  rw [hj] at q0 q1 ⊢
  rw [if_neg (by omega)]
  obtain ⟨l,hl⟩ : ∃ l,w.lanes[j]? = some l:=⟨_,List.getElem?_eq_getElem (by omega)⟩
  have e0 : w.lanes.getD j zeroL = l:=by rw [List.getD_eq_getElem?_getD,hl]; rfl
  have:=lDo_tick hO hK w hw ht s h1 j hj l hl (hw.l l (List.mem_of_getElem? hl))
  simpa only [Int.toNat_natCast,e0,laneW,h1,if_true] using this
 ·have hwho : whoW w s = s.tenant:=by unfold whoW; rw [if_neg h1]
  have htk : ticksW w s = w.ticks:=by unfold ticksW; rw [if_neg h1]
  rw [hwho,htk]
  by_cases hr : s.tenant < 0 ∨ (w.lanes.length : Int) ≤ s.tenant
  ·rw [if_pos hr]
   exact lDo_none hO w hw s (by omega) hr
  rw [if_neg hr]
  obtain ⟨j,hj⟩ : ∃ j : Nat,s.tenant = j:=⟨s.tenant.toNat,by omega⟩
  rw [hj]
  obtain ⟨l,hl⟩ : ∃ l,w.lanes[j]? = some l:=⟨_,List.getElem?_eq_getElem (by omega)⟩
  have e0 : w.lanes.getD j zeroL = l:=by rw [List.getD_eq_getElem?_getD,hl]; rfl
  have:=lDo_step hO hP hC hL hT hS w hw s (by omega) j hj l hl (hw.l l (List.mem_of_getElem? hl))
  rw [Int.toNat_natCast,e0]
  exact this
set_option maxRecDepth 100000
set_option maxRecDepth 100000
def putL (w : Wd) (k : Nat) (l : Ln) : Wd:=⟨w.lanes.set k l,w.ticks⟩
def fullT (l : Ln) : Ln:={ l with r:=l.there.foldl hearP l.r,there:=[] }
def fullB (l : Ln) : Ln:={ l with s:=l.back.foldl hearQ l.s,back:=[] }
def partW (w : Wd) (k : Nat) : Wd:=⟨(w.lanes.take k).map drainL ++ w.lanes.drop k,w.ticks⟩
theorem part_zero (w : Wd) : partW w 0 = w:=by simp [partW]
theorem part_all (w : Wd) : partW w w.lanes.length = drainW w:=by simp [partW,drainW]
theorem part_len (w : Wd) {k : Nat} (h : k ≤ w.lanes.length) : (partW w k).lanes.length = w.lanes.length:=by simp [partW]; omega
theorem part_at {w : Wd} {k : Nat} {x : Ln} (hx : w.lanes[k]? = some x) : (partW w k).lanes[k]? = some x:=by
 have hlt:=(List.getElem?_eq_some_iff.1 hx).1
 have h2 : ((w.lanes.take k).map drainL).length = k:=by simp; omega
 unfold partW
 simp only
 rw [List.getElem?_append_right (by rw [h2]; exact Nat.le_refl _),h2,Nat.sub_self,List.getElem?_drop,Nat.add_zero]
 exact hx
theorem part_next {w : Wd} {k : Nat} {x : Ln} (hx : w.lanes[k]? = some x) : putL (partW w k) k (drainL x) = partW w (k + 1):=by
 have hlt:=(List.getElem?_eq_some_iff.1 hx).1
 have h2 : ((w.lanes.take k).map drainL).length = k:=by simp; omega
 have hd : w.lanes.drop k = x :: w.lanes.drop (k + 1):=by rw [List.drop_eq_getElem_cons hlt,(List.getElem?_eq_some_iff.1 hx).2]
 unfold putL partW
 simp only
 rw [List.set_append_right _ _ (by rw [h2]; exact Nat.le_refl _),h2,Nat.sub_self,hd,List.set_cons_zero,List.take_add_one,hx,Option.toList_some,List.map_append,List.append_assoc]
 rfl
theorem part_good {w : Wd} (hw : GoodW w) {k : Nat} (hk : k ≤ w.lanes.length) : GoodW (partW w k):=⟨by rw [part_len w hk]; exact hw.n,hw.t,fun l hl => by
 rcases List.mem_append.1 hl with q | q
 ·obtain ⟨x,hx,e⟩:=List.mem_map.1 q
  rw [← e]; exact (hw.l x (List.mem_of_mem_take hx)).drain
 ·exact hw.l l (List.mem_of_mem_drop q)⟩
def fullX (l : Ln) (back : Bool) : Ln:=if back = true then fullB l else fullT l
theorem fullX_nil {l : Ln} {back : Bool} (h : (wayP l back).length = 0) : fullX l back = l:=by
 obtain ⟨s,r,t,b⟩:=l
 cases back with
 | true =>
  have h : b = []:=List.eq_nil_of_length_eq_zero h
  subst h; rfl
 | false =>
  have h : t = []:=List.eq_nil_of_length_eq_zero h
  subst h; rfl
theorem fullX_come {l : Ln} {back : Bool} (h : 0 < (wayP l back).length) : fullX (comeL l 0 back) back = fullX l back ∧ (wayP (comeL l 0 back) back).length + 1 = (wayP l back).length:=by
 cases back with
 | true =>
  cases hx : l.back with
  | nil => rw [show wayP l true = l.back from rfl,hx] at h; cases h
  | cons x p =>
   rw [come_back hx]
   refine ⟨?_,by show p.length + 1 = l.back.length; rw [hx]; rfl⟩
   show fullB { l with s:=hearQ l.s x,back:=p } = fullB l
   unfold fullB
   rw [hx]; rfl
 | false =>
  cases hx : l.there with
  | nil => rw [show wayP l false = l.there from rfl,hx] at h; cases h
  | cons x p =>
   rw [come_there hx]
   refine ⟨?_,by show p.length + 1 = l.there.length; rw [hx]; rfl⟩
   show fullT { l with r:=hearP l.r x,there:=p } = fullT l
   unfold fullT
   rw [hx]; rfl
theorem fPlay_not (hN : CWNew 18) (n : Int) (l : List Sp) (h : n < 1 ∨ 3 < n) : Told Try.prog 9 [vI n,sD 7 (encSl l)] [aD (encWd ⟨[],0⟩),sD 1 [],vI 3]:=by
 refine told_fair_Play rfl ?_
 have h1:=hN.2 n h
 rw [show encWd ⟨[],0⟩ = [sD 17 [],vI 0] from rfl] at h1 ⊢
 refine wk0 ?_
 refine cg0 [[aD [sD 17 [],vI 0],vI 3]] ?_ ?_
 ·exact obl_cons h1 obl_nil
 refine wk0 ?_
 repeat' (first | exact vals_nil | exact row_nil | exact es_nil | exact CVLe.refl _ | exact LfLe.refl _ | exact LfLe.nil _ | exact EsLe.refl _ | refine vals_cons ?_ ?_ | refine row_cons ?_ ?_ | refine es_cons ?_ ?_ | refine EsLe.app ?_ ?_ | refine CVLe.row ?_ | refine CVLe.leafV ?_ | refine CVLe.leafS ?_ | refine LfLe.s ?_)
theorem fPlay_long (hN : CWNew 18) (n : Nat) (hn : 1 ≤ n ∧ n ≤ 3) (l : List Sp) (hl : l.length ≤ 9223372036854775807) (h : 160 < l.length) : Told Try.prog 9 [vI n,sD 7 (encSl l)] [aD (encWd ⟨[],0⟩),sD 1 [],vI 5]:=by
 refine told_fair_Play rfl ?_
 have h1:=hN.1 n hn.1 hn.2
 rw [show encWd ⟨[],0⟩ = [sD 17 [],vI 0] from rfl]
 have g1 : 160 < (l.length : Int):=by omega
 generalize newW n = w0 at *
 simp only [encWd] at h1
 refine wk0 ?_
 refine cg [[aD (encWd w0),vI 0]] @encWd.eq_1 ?_ ?_
 ·exact obl_cons h1 obl_nil
 refine wk (an2 @g1 @len_sl) ?_
 repeat' (first | exact vals_nil | exact row_nil | exact es_nil | exact CVLe.refl _ | exact LfLe.refl _ | exact LfLe.nil _ | exact EsLe.refl _ | refine vals_cons ?_ ?_ | refine row_cons ?_ ?_ | refine es_cons ?_ ?_ | refine EsLe.app ?_ ?_ | refine CVLe.row ?_ | refine CVLe.leafV ?_ | refine CVLe.leafS ?_ | refine LfLe.s ?_)
def rowP (es : List Int) (n : Nat) : List D:=es.map vI ++ List.replicate (n - es.length) (vI 0)
theorem rowP_len {es : List Int} {n : Nat} (h : es.length ≤ n) : (rowP es n).length = n:=by simp [rowP]; omega
theorem rowP_0 (n : Nat) : rowP [] n = List.replicate n (vI 0):=by simp [rowP]
theorem rowP_all (es : List Int) : rowP es es.length = es.map vI:=by simp [rowP]
theorem rowP_set {es : List Int} {n : Nat} {e : Int} (h : es.length < n) : (rowP es n).set es.length (vI e) = rowP (es ++ [e]) n:=by
 have e2 : (List.map vI es).length = es.length:=by simp
 unfold rowP
 rw [List.set_append_right _ _ (by rw [e2]; exact Nat.le_refl _)]
 have e1 : n - es.length = (n - (es ++ [e]).length) + 1:=by simp; omega
 rw [e1,List.replicate_succ,e2,Nat.sub_self,List.set_cons_zero]
 simp
theorem rowP_at {es : List Int} {n : Nat} (h : es.length < n) : (rowP es n)[es.length]? = some (vI 0):=by
 have e2 : (List.map vI es).length = es.length:=by simp
 unfold rowP
 rw [List.getElem?_append_right (by rw [e2]; exact Nat.le_refl _),e2,Nat.sub_self,List.getElem?_replicate,if_pos (by omega)]
def fpSt (l : List Sp) (w : Wd) (E : List D) (k : Nat) : St :=
 ⟨[(4,pD 4 0),(7,pD 7 0),(9,oD 100027 l.length),(28,sD 7 (encSl l)),(29,vI l.length),(30,vI k)],[(4,[vD (.slice none 0 0),vI 0]),(7,encWd w),(100027,[sD 1 E]),(100027,[sD 1 E])],[]⟩
def fpJ (n : Nat) (l : List Sp) : Nat → St → Prop:=fun m st => ∃ k : Nat,k ≤ l.length ∧ m = l.length - k ∧ st = fpSt l (runW (newW n) (l.take k)).1 (rowP (runW (newW n) (l.take k)).2 l.length) k
theorem fPlay_good (hN : CWNew 18) (hD : CWDo 19) (n : Nat) (hn : 1 ≤ n ∧ n ≤ 3) (l : List Sp) (hl : l.length ≤ 160) : Told Try.prog 9 [vI n,sD 7 (encSl l)] [aD (encWd (runW (newW n) l).1),sD 1 ((runW (newW n) l).2.map vI),vI 0]:=by
 refine told_fair_Play rfl ?_
 have h1:=hN.1 n hn.1 hn.2
 have hgood:=good_run (good_new hn) l
 have hlen:=run_len (newW n) l
 have g1 : ¬ 160 < (l.length : Int):=by omega
 have g8 : (0 ≤ (l.length : Int) ∧ (l.length : Int) ≤ (l.length : Int)) ∧ (l.length : Int) ≤ 1000000000:=by omega
 have ht0 : (newW n).ticks = 0:=rfl
 have hstart : fpSt l (newW n) (rowP [] l.length) 0 = ⟨[(4,pD 4 0),(7,pD 7 0),(9,oD 100027 l.length),(28,sD 7 (encSl l)),(29,vI l.length),(30,vI 0)],[(4,[vD (.slice none 0 0),vI 0]),(7,encWd (newW n)),(100027,[sD 1 (List.replicate l.length (vI 0))]),(100027,[sD 1 (List.replicate l.length (vI 0))])],[]⟩:=by
  rw [rowP_0]; rfl
 simp only [encWd] at h1 hstart
 refine wk0 ?_
 refine cg [[aD (encWd (newW n)),vI 0]] @encWd.eq_1 ?_ ?_
 ·exact obl_cons h1 obl_nil
 refine wk (an5 @g1 @g8 @len_sl @Int.toNat_natCast @zrep) ?_
 refine aw_loop (fpJ n l) l.length (fpSt l (newW n) (rowP [] l.length) 0) ?_ ⟨0,by omega,by omega,rfl⟩ ?_
 ·rw [hstart]
  exact Le.refl _
 rintro m st ⟨k,hk,hm,rfl⟩
 obtain ⟨hw,htk,_⟩:=hgood k
 have hel:=hlen k hk
 by_cases hlt : k < l.length
 ·obtain ⟨s,hs⟩ : ∃ s,l[k]? = some s:=⟨l[k],List.getElem?_eq_getElem hlt⟩
  have g1 : (k : Int) < (l.length : Int):=by omega
  have g2 : (0 : Int) ≤ (k : Int):=by omega
  have g3:=at_sl hs
  have g4 : inR .i64 ((k : Int) + 1) = true:=inR_of (by omega)
  have hd:=hD _ s hw (by omega)
  have hnx : Next (fpJ n l) m (fpSt l (doW (runW (newW n) (l.take k)).1 s).1 (rowP ((runW (newW n) (l.take k)).2 ++ [(doW (runW (newW n) (l.take k)).1 s).2]) l.length) (k + 1)):=by
   refine ⟨l.length - (k + 1),_,by omega,Le.refl _,k + 1,by omega,rfl,?_⟩
   rw [List.take_add_one,hs,Option.toList_some,runW_snoc]
  have hset:=rowP_set (e:=(doW (runW (newW n) (l.take k)).1 s).2) (show (runW (newW n) (l.take k)).2.length < l.length by omega)
  have hrl:=rowP_len (show (runW (newW n) (l.take k)).2.length ≤ l.length by omega)
  have hat:=rowP_at (show (runW (newW n) (l.take k)).2.length < l.length by omega)
  rw [hel] at hset hat
  rw [← hset] at hnx
  clear hset
  generalize fpJ n l = J at *
  generalize rowP (runW (newW n) (l.take k)).2 l.length = E at *
  generalize (runW (newW n) (l.take k)).1 = w at *
  generalize doW w s = R at *
  obtain ⟨w',e⟩:=R
  simp only [fpSt,encWd,encSp,Int.natCast_add,Int.cast_ofNat_Int] at hd hnx ⊢
  refine wk (an7 @g1 @g2 @g3 @hat @hrl @len_sl @Int.toNat_natCast) ?_
  refine cg [[aD (encWd w'),vI e]] (an8 @encWd.eq_1 @g1 @g2 @g3 @hat @hrl @len_sl @Int.toNat_natCast) ?_ ?_
  ·exact obl_cons hd obl_nil
  refine wk (an3 @g4 @zset @hrl) ?_
  exact hnx
 ·have : k = l.length:=by omega
  subst this
  have g1 : ¬ (l.length : Int) < (l.length : Int):=by omega
  have hE : rowP (runW (newW n) l).2 l.length = (runW (newW n) l).2.map vI:=by
   rw [List.take_length] at hel
   rw [← rowP_all,hel]
  rw [List.take_length] at hel ⊢
  rw [hE]
  generalize fpJ n l = J at *
  generalize (runW (newW n) l).1 = w at *
  generalize (runW (newW n) l).2 = es at *
  simp only [fpSt,encWd]
  refine wk (an3 @g1 @hel @zmap) ?_
  exact ValsLe.refl _
theorem landF_play (hN : CWNew 18) (hD : CWDo 19) : CFPlay 9 :=
 ⟨fun n l _ h => fPlay_not hN n l h,fun n l hn hl h => fPlay_long hN n hn l hl h,fun n l hn hl => fPlay_good hN hD n hn l hl⟩
def facSt (l : Ln) (back : Bool) : St:=⟨[(1,vB back),(2,pD 2 0),(4,pD 4 0)],[(2,encLn l),(4,[vD (.slice none 0 0),vI 0,vI 0,vI 0,vI 0,vD (.slice none 0 0),vI 0,vI 0,vD (.slice none 0 0),vI 0,vI 0,vI 0,vD (.slice none 0 0),vD (.slice none 0 0),vB false,vD (.slice none 0 0),vD (.slice none 0 0)])],[]⟩
def facJ (l : Ln) (back : Bool) : Nat → St → Prop:=fun m st => ∃ l',GoodL l' ∧ fullX l' back = fullX l back ∧ m = (wayP l' back).length ∧ st = facSt l' back
theorem allCome_told (hC : CLStep 38 3) {l : Ln} (hl : GoodL l) (back : Bool) : Told Try.prog 27 [aD (encLn l),vB back] [aD (encLn (fullX l back))]:=by
 refine told_fair_allCome rfl ?_
 have hstart : facSt l back = facSt l back:=rfl
 conv at hstart => rhs; rw [facSt]
 generalize hz : [aD (encLn (fullX l back))] = Z
 simp only [encLn] at hstart ⊢
 refine wk0 ?_
 refine aw_loop (facJ l back) (wayP l back).length (facSt l back) (by rw [hstart]; exact Le.refl _) ⟨l,hl,rfl,rfl,rfl⟩ ?_
 rintro m st ⟨l',hl',hf,hm,rfl⟩
 have hc:=hC l' 0 back hl'
 by_cases hlt : 0 < (wayP l' back).length
 ·rw [show packetL l' 3 0 0 back = (comeL l' 0 back,0) by
   unfold packetL
   rw [if_neg (by omega),if_neg (by decide),if_neg (by decide),if_neg (by decide)]
   rfl] at hc
  obtain ⟨q1,q2⟩:=fullX_come (l:=l') (back:=back) hlt
  have hnx : Next (facJ l back) m (facSt (comeL l' 0 back) back):=⟨(wayP (comeL l' 0 back) back).length,_,by omega,Le.refl _,comeL l' 0 back,hl'.come 0 back,by rw [q1,hf],rfl,rfl⟩
  generalize facJ l back = J at *
  generalize comeL l' 0 back = l2 at *
  clear hz hf hm hlt hstart q1 q2
  simp only [facSt,encLn] at hc hnx ⊢
  refine wk0 ?_
  refine cg [[aD (encLn l2),vI 0]] @encLn.eq_1 ?_ ?_
  ·exact obl_cons hc obl_nil
  refine wk0 ?_
  exact hnx
 ·rw [show packetL l' 3 0 0 back = (l',6) by
   unfold packetL
   rw [if_pos (by omega)]] at hc
  rw [← hf,fullX_nil (by omega)] at hz
  subst hz
  generalize facJ l back = J at *
  clear hf hm hlt hstart
  simp only [facSt,encLn] at hc ⊢
  refine wk0 ?_
  refine cg [[aD (encLn l'),vI 6]] @encLn.eq_1 ?_ ?_
  ·exact obl_cons hc obl_nil
  refine wk0 ?_
  exact ValsLe.refl _
def frHd (n : Nat) (t : Int) (E : List D) (k : Nat) : St:=⟨[(1,pD 1 0),(2,pD 2 0),(8,oD 100001 n),(9,vI n),(10,vI k)],[(1,[oD 100001 n,vI t]),(2,[vD (.slice none 0 0),vI 0]),(100001,[sD 17 E]),(100001,[sD 17 E])],[]⟩
def frJ (w : Wd) : Nat → St → Prop:=fun m st => ∃ k : Nat,k ≤ w.lanes.length ∧ m = w.lanes.length - k ∧ st = frHd w.lanes.length w.ticks (encLl (partW w k).lanes) k
theorem landF_round (hO : CLOwn 24) (hC : CLStep 38 3) (hD : CWDo 19) : CFRound 17:=by
 intro w hw ht
 refine told_fair_Round rfl ?_
 have h0:=ownWd_toldO hO w hw
 have hn:=hw.n
 have hne : encLl w.lanes ≠ []:=ll_ne (by intro e; rw [e] at hn; simp at hn)
 have hstart : frHd w.lanes.length w.ticks (encLl (partW w 0).lanes) 0 = ⟨[(1,pD 1 0),(2,pD 2 0),(8,oD 100001 w.lanes.length),(9,vI w.lanes.length),(10,vI 0)],[(1,[oD 100001 w.lanes.length,vI w.ticks]),(2,[vD (.slice none 0 0),vI 0]),(100001,[sD 17 (encLl w.lanes)]),(100001,[sD 17 (encLl w.lanes)])],[]⟩:=by
  rw [part_zero]; rfl
 simp only [encWd] at h0 ⊢
 refine wk0 ?_
 refine ⟨1,_,_,_,0,_,_,rfl,rfl,rfl,rfl,row_refl _,h0,rfl,?_⟩
 refine wk0 ?_
 refine ⟨_,le_name (b:=1) (off:=0) (k:=100001) (by decide) rfl (show 0 < 2 by decide) rfl hne ⟨by decide,by decide⟩ rfl,?_⟩
 refine wk @len_ll ?_
 refine aw_loop (frJ w) w.lanes.length (frHd w.lanes.length w.ticks (encLl (partW w 0).lanes) 0) (by rw [hstart]; exact Le.refl _) ⟨0,by omega,by omega,rfl⟩ ?_
 rintro m st ⟨k,hk,hm,rfl⟩
 have hpg:=part_good hw hk
 have hpl:=part_len w hk
 by_cases hlt : k < w.lanes.length
 ·obtain ⟨x,hx⟩ : ∃ x,w.lanes[k]? = some x:=⟨w.lanes[k],List.getElem?_eq_getElem hlt⟩
  have hgx:=hw.l x (List.mem_of_getElem? hx)
  have g1 : (k : Int) < (w.lanes.length : Int):=by omega
  have g2 : (0 : Int) ≤ (k : Int):=by omega
  have g4 : inR .i64 ((k : Int) + 1) = true:=inR_of (by have:=hw.n; omega)
  have a1:=allCome_told hC hgx false
  have a2:=allCome_told hC (GoodL.there_all x.there hgx rfl) true
  have e2 : ({ x with r:=x.there.foldl hearP x.r,there:=[] } : Ln) = fullT x:=rfl
  have e3 : fullX x false = fullT x:=rfl
  have e4 : fullX (fullT x) true = drainL x:=rfl
  rw [e2,e4] at a2
  rw [e3] at a1
  have p1:=at_ll (part_at hx)
  have hEl : (encLl (partW w k).lanes).length = w.lanes.length:=by rw [len_ll,hpl]
  have hset : (encLl (partW w k).lanes).set k (aD (encLn (drainL x))) = encLl (partW w (k + 1)).lanes:=by
   rw [← part_next hx]
   exact (set_ll _ _ _).symm
  have hnx : Next (frJ w) m (frHd w.lanes.length w.ticks (encLl (partW w (k + 1)).lanes) (k + 1)):=⟨w.lanes.length - (k + 1),_,by omega,Le.refl _,k + 1,by omega,rfl,rfl⟩
  rw [← hset] at hnx
  clear hset hstart h0
  generalize frJ w = J at *
  generalize encLl (partW w k).lanes = E at *
  generalize fullT x = x1 at *
  generalize drainL x = x2 at *
  simp only [frHd,encLn,Int.natCast_add,Int.cast_ofNat_Int] at a1 a2 p1 hnx ⊢
  refine wk (an5 @g1 @g2 @p1 @hEl @Int.toNat_natCast) ?_
  refine cd [[aD (encLn x1)],[aD (encLn x2)]] (an7 @encLn.eq_1 @g1 @g2 @p1 @hEl @zset @Int.toNat_natCast) ?_ ?_
  ·exact obl_cons a1 (obl_cons a2 obl_nil)
  refine wk @g4 ?_
  exact hnx
 ·have hkn : k = w.lanes.length:=by omega
  subst hkn
  rw [part_all] at hpg
  have hd:=hD (drainW w) tickS hpg (by show w.ticks ≤ _; omega)
  have e0 : (doW (drainW w) tickS).2 = 0:=by
   unfold doW
   rw [if_neg (by decide)]
   have hw' : 0 ≤ whoW (drainW w) tickS ∧ whoW (drainW w) tickS < ((drainW w).lanes.length : Int):=by
    unfold whoW
    rw [if_pos (by rfl)]
    have:=hpg.n
    exact ⟨Int.tmod_nonneg _ hpg.t,Int.tmod_lt_of_pos _ (by omega)⟩
   rw [if_neg (by omega)]
   rfl
  rw [e0] at hd
  have e1 : (doW (drainW w) tickS).1 = roundW w:=rfl
  rw [e1] at hd
  have g1 : ¬ ((drainW w).lanes.length : Int) < ((drainW w).lanes.length : Int):=by omega
  have hp:=part_all w
  have hdl : (drainW w).lanes.length = w.lanes.length:=by simp [drainW]
  have hdt : (drainW w).ticks = w.ticks:=rfl
  clear hstart h0
  generalize frJ w = J at *
  simp only [frHd,hp]
  generalize roundW w = w3 at *
  rw [← hdl,← hdt]
  clear hdl hdt
  generalize drainW w = w2 at *
  simp only [encWd,encSp,tickS,List.map_nil] at hd ⊢
  refine wk (an2 @g1 @len_ll) ?_
  refine ⟨_,(Le.keep (lv:=[1,2]) (lb:=[1,2]) (by simp only [ev0,ev1,ev2,look,lookF,cellsFrom,offT,offP,List.tail_nil,List.length_nil,Int.cast_ofNat_Int,Nat.reduceEqDiff,Nat.reduceAdd,Nat.reduceMul,Nat.reduceLeDiff,Nat.reduceLT,↓reduceIte,reduceCtorEq,Int.reduceBEq,Int.reduceBNe,Int.reduceLT,Int.reduceLE,Int.reduceToNat,len_ll]; rfl)),?_⟩
  refine wk0 ?_
  refine cg [[aD (encWd w3),vI 0]] @encWd.eq_1 ?_ ?_
  ·refine ⟨⟨_,?_,hd⟩,trivial⟩
   repeat' (first | exact vals_nil | exact row_nil | exact es_nil | exact CVLe.refl _ | exact LfLe.refl _ | exact LfLe.nil _ | exact EsLe.refl _ | refine vals_cons ?_ ?_ | refine row_cons ?_ ?_ | refine es_cons ?_ ?_ | refine EsLe.app ?_ ?_ | refine CVLe.row ?_ | refine CVLe.leafV ?_ | refine CVLe.leafS ?_ | refine LfLe.s ?_)
  refine wk0 ?_
  exact ValsLe.refl _
def fsSt (w : Wd) (k : Nat) : St:=⟨[(1,pD 1 0),(2,pD 2 0),(4,vI k)],[(1,encWd (roundN k w)),(2,[vD (.slice none 0 0),vI 0])],[]⟩
theorem good_wdN {w : Wd} (h : GoodW w) : w.lanes.length ≤ 1048576 ∧ ∀ l ∈ w.lanes,SmallN l:=⟨by have:=h.n; omega,fun l hl => good_smallN (h.l l hl)⟩
theorem landF_settle (hO : CWOwn 20) (hR : CFRound 17) (hK : CKStill 11) : CFSettle 10:=by
 intro w hw ht
 refine told_fair_Settle rfl ?_
 have ho:=hO w hw
 have hK2:=settle_le 200 w
 have hst:=settle_still 200 w
 have hnot:=settle_not 200 w
 generalize settleK 200 w = K at *
 have hstart : fsSt w 0 = ⟨[(1,pD 1 0),(2,pD 2 0),(4,vI 0)],[(1,encWd w),(2,[vD (.slice none 0 0),vI 0])],[]⟩:=rfl
 simp only [encWd] at hstart ho
 have hres : ∀ j,j = K → encWd (roundN K w) = encWd (roundN j w):=fun j h => by rw [h]
 generalize hz : [aD (encWd (roundN K w)),vI K] = R
 simp only [encWd]
 refine wk0 ?_
 refine cg [[aD (encWd w)]] @encWd.eq_1 ?_ ?_
 ·exact obl_cons ho obl_nil
 refine wk0 ?_
 refine aw_loop (fun m st => ∃ k : Nat,k ≤ K ∧ m = K - k ∧ st = fsSt w k) K (fsSt w 0) (by rw [hstart]; exact Le.refl _) ⟨0,by omega,by omega,rfl⟩ ?_
 rintro m st ⟨k,hk,hm,rfl⟩
 have hg:=hw.rounds k
 have q1:=hK _ (good_wdN hg).1 (good_wdN hg).2
 by_cases hlt : k < K
 ·have c1 : (k : Int) < 200:=by omega
  have c2 : inR .i64 ((k : Int) + 1) = true:=inR_of (by omega)
  rw [hnot k hlt] at q1
  have q2:=hR _ hg (by rw [roundN_ticks]; omega)
  rw [show roundW (roundN k w) = roundN (k + 1) w from rfl] at q2
  have hnx : Next (fun m st => ∃ k : Nat,k ≤ K ∧ m = K - k ∧ st = fsSt w k) m (fsSt w (k + 1)):=⟨K - (k + 1),_,by omega,Le.refl _,k + 1,by omega,rfl,rfl⟩
  generalize (fun m st => ∃ k : Nat,k ≤ K ∧ m = K - k ∧ st = fsSt w k) = J at *
  unfold fsSt at hnx ⊢
  generalize roundN (k + 1) w = y2 at *
  generalize roundN k w = y1 at *
  simp only [encWd,Int.natCast_add,Int.cast_ofNat_Int] at q1 q2 hnx ⊢
  refine wk @c1 ?_
  refine cg [[vB false]] (an2 @c1 Bool.not_false) ?_ ?_
  ·exact obl_cons q1 obl_nil
  refine wk0 ?_
  refine cg [[aD (encWd y2)]] @encWd.eq_1 ?_ ?_
  ·exact obl_cons q2 obl_nil
  refine wk @c2 ?_
  exact hnx
 have hkK : k = K:=by omega
 subst hkK
 subst hz
 generalize (fun m st => ∃ j : Nat,j ≤ k ∧ m = k - j ∧ st = fsSt w j) = J2 at *
 unfold fsSt
 generalize hy : roundN k w = y at *
 by_cases c1 : (k : Int) < 200
 ·have hstill : stillW y = true:=by
   rcases hst with q | q
   ·exact q
   ·omega
  rw [hstill] at q1
  simp only [encWd] at q1 ⊢
  refine wk @c1 ?_
  refine cg [[vB true]] (an2 @c1 Bool.not_true) ?_ ?_
  ·exact obl_cons q1 obl_nil
  refine wk0 ?_
  exact ValsLe.refl _
 ·simp only [encWd] at q1 ⊢
  refine wk @c1 ?_
  exact ValsLe.refl _
end Go.Proofs.Ytgaofjiidedcbad.ab
