import Derived.Test.YtgaofjiidedcbadM21
import Derived.Test.YtgaofjiidedcbadLandRead
import Derived.Test.YtgaofjiidedcbadM48
import Derived.Test.YtgaofjiidedcbadM32
import Derived.Test.YtgaofjiidedcbadM19
import Derived.Test.YtgaofjiidedcbadProg
import Derived.Test.YtgaofjiidedcbadM24
import Derived.Test.YtgaofjiidedcbadM23
set_option maxHeartbeats 4000000
set_option linter.unusedVariables false
set_option linter.unusedSimpArgs false
namespace Go.Proofs.Ytgaofjiidedcbad.ab
open Go Go.RowKit
open mth
section
variable {I : Still} {w : World}
theorem rep_bs {base : Nat} {xs : List UInt8} {a : Option Addr} {n cap : Nat} (h : leaf.Bs w (.slice a n cap) xs) (hf : leaf.FreshS base a cap) (hI : ∀ b j,base ≤ b → b < w.heap.size → I b j) : CRep I w (sD 1 (xs.map encB)) (.slice a n cap):=by
 obtain ⟨a',cap',he,h1,h2,h3⟩:=h
 cases he
 have hr:=CRep.s (I:=I) (w:=w) (z:=1) (es:=xs.map encB) (a:=a) (cap:=cap) ⟨fun i _ => leaf.B (xs.getD i 0),(by rw [List.length_map]; omega),h2,hf.2,fun e he => ?_,fun hne => ?_,fun i j e l he hl => ?_⟩
 ·rw [List.length_map] at hr; exact hr
 ·obtain ⟨x,_,rfl⟩:=List.mem_map.1 he; rfl
 ·have h0 : 0 < xs.length:=by
   cases xs with
   | nil => exact absurd rfl hne
   | cons x r => simp
  obtain ⟨x,rfl,hc0⟩:=h3 0 h0
  obtain ⟨hp,hsp⟩:=hf.1 x rfl
  obtain ⟨b,off,sp⟩:=x
  simp only at hp hsp
  subst hsp
  refine ⟨b,off,rfl,fun i j hi hj => ?_⟩
  rw [List.length_map] at hi
  obtain rfl : j = 0:=by omega
  obtain ⟨x,hx,hc⟩:=h3 i hi
  cases hx
  rw [add_lit] at hc
  have hlt : b < w.heap.size:=by
   unfold World.cell? at hc
   simp only at hc
   cases hg : w.heap[b]? with
   | none => rw [hg] at hc; simp at hc
   | some o => exact (Array.getElem?_eq_some_iff.1 hg).1
  refine ⟨?_,hI _ _ hp hlt⟩
  rw [show off + i * 1 + 0 = off + i by omega,hc]; rfl
 ·rw [List.getElem?_map] at he
  obtain ⟨x,hx',rfl⟩:=Option.map_eq_some_iff.1 he
  have : j = 0 ∧ l = encB x:=by
   cases j with
   | zero => simp [cellsD,encB] at hl; exact ⟨rfl,hl.symm⟩
   | succ k => simp [cellsD,encB] at hl
  obtain ⟨rfl,rfl⟩:=this
  show CRep I w (encB x) (leaf.B (xs.getD i 0))
  rw [show leaf.B (xs.getD i 0) = .int .u8 (x.toNat : Int) by simp [List.getD,hx',leaf.B]]
  exact CRep.v rfl
end
theorem rep_ms {I : Still} {w : World} {base : Nat} {m : Ms} {v : Value} (h : leaf.Mv w v m) (hf : ∃ k dv,v = .agg #[k,dv] ∧ leaf.FreshD base dv) (hI : ∀ b j,base ≤ b → b < w.heap.size → I b j) : CVRep I w (aD (encMs m)) v:=by
 obtain ⟨dv,rfl,hB,_,_⟩:=h
 obtain ⟨k,dv',e,hf⟩:=hf
 simp only [Value.agg.injEq,Array.mk.injEq,List.cons.injEq,and_true] at e
 obtain ⟨_,rfl⟩:=e
 have hB':=hB
 obtain ⟨a,cap,rfl,_⟩:=hB'
 exact .inr ⟨_,[_,_],rfl,rfl,(Row.single (CRep.v rfl)).app (Row.single (rep_bs hB (hf a _ cap rfl) hI))⟩
theorem landT_parse : CTParse 22:=by
 intro S xs hxs hs h0 w I vs hv hlt
 obtain ⟨hl,hr⟩:=hv
 match vs,hl with
 | [v],_ =>
  have hv0:=((hr 0 _ v rfl rfl).leaf (fun cs e => by cases e)).invV.1
  subst hv0
  have hf : formL xs = true:=by
   cases e : formL xs with
   | true => rfl
   | false => unfold parseE at h0; rw [e] at h0; cases h0
  have e : parseE xs = wrongMsgL (rawM xs).stream (rawM xs).data:=by unfold parseE; rw [if_pos hf]
  have em : parseM xs = rawM xs:=by unfold parseM; rw [if_pos h0]
  rw [em]
  refine (leaf.landParse_good S xs w hxs (by omega) hf _ rfl (by rw [← e,h0]; rfl)).mono fun e w' ⟨v',he,hM,hfr,hb⟩ => ⟨_,he,?_,hb⟩
  exact ⟨[v',.int .i64 0],rfl,Vals.cons (rep_ms hM hfr (fun b j h1 h2 => .inr ⟨h1,h2⟩)) (Vals.cons (.inl (CRep.v rfl)) Vals.nil)⟩
set_option maxRecDepth 100000
def Q39r0 : IC:=cReg Try.prog [xX 2 0,xX 3 1,⟨some 4,none,iMov 4 (.const (.bool false)) true⟩] [2,3] [2,3]
def Q39r1 : IC:=cReg Try.prog [xF 5 0 2,xL 6 1 5,xF 7 0 3,xL 8 1 7,xB 9 .eql 6 8,xM 10 9,xG 10 true (xF 11 1 2),xG 10 true (xL 12 1 11),xG 10 true (xF 13 1 3),xG 10 true (xL 14 1 13),xG 10 true (xV2 15 37 12 14),xQ 16 10 15,xT 4 16] [4] []
def plain_Same : IC:=(cSeq Q39r0 (cSeq Q39r1 cRet))
theorem told_plain_Same {args r : List D} (hl : args.length = 2) (h : plain_Same (start args) (fin [(4,none)] r)) : Told Try.prog 26 args r :=
 told_of follows Try.func26 rfl (an:=[([],[2,3],[2,3],[]),([],[4],[],[])]) (by kernel_rfl) (by kernel_rfl) (by rw [hl]; decide +kernel) h
def Q40r0 : IC:=cReg Try.prog [⟨some 6,none,iMov 6 (.const (.int .i64 0)) true⟩] [0,1,2] []
def Q40r1 : IC:=cReg Try.prog [xM 7 2,xM 8 0,xN 9 8,xB 10 .lss 7 9,xM 11 10,xG 11 true (xM 12 0),xG 11 true (xM 13 2),xG 11 true (xI 14 2 12 13),xG 11 true (xF 15 0 14),xG 11 true (xL 16 1 15),xG 11 true (xM 17 1),xG 11 true (xB 18 .neq 16 17),xQ 19 11 18] [0,1,2,19] []
def Q40c3 : IC:=cCond (.tmp 19) cSkip (cExit 0)
def Q40r2 : IC:=cReg Try.prog [xM 20 2,xC 21 .add 20 1,xT 2 21] [0,1,2] []
def Q40b4 : IC:=cBlock 1 Q40r2
def Q40l2a : IC:=(cSeq (cSeq Q40r1 Q40c3) Q40b4)
def Q40l2 : IC:=cLoop Q40l2a
def Q40b1 : IC:=cBlock 0 Q40l2
def Q40r3 : IC:=cReg Try.prog [xM 22 2,xT 6 22] [6] []
def plain_find : IC:=(cSeq Q40r0 (cSeq Q40b1 (cSeq Q40r3 cRet)))
theorem told_plain_find {args r : List D} (hl : args.length = 3) (h : plain_find (start args) (fin [(6,none)] r)) : Told Try.prog 25 args r :=
 told_of follows Try.func25 rfl (an:=[([],[0,1,2],[],[]),([],[0,1,2,19],[],[]),([],[0,1,2],[],[]),([],[6],[],[])]) (by kernel_rfl) (by kernel_rfl) (by rw [hl]; decide +kernel) h
def Q38r0 : IC:=cReg Try.prog [⟨some 4,none,iMov 4 (.const (.bool false)) true⟩] [0,1] []
def Q38r1 : IC:=cReg Try.prog [⟨some 9,none,iMkM 9⟩,xT 5 9] [0,1,5] [200009]
def Q38r2 : IC:=cReg Try.prog [xM 10 0,xN 11 10,⟨some 12,none,iMov 12 (.const (.int .i64 0)) false⟩] [1,5,10,11,12] [200009]
def Q38r3 : IC:=cReg Try.prog [xB 13 .lss 12 11] [1,5,10,11,12,13] [200009]
def Q38c3 : IC:=cCond (.tmp 13) cSkip (cExit 0)
def Q38r4 : IC:=cReg Try.prog [xI 14 2 10 12,xA 15 2 14,⟨some 7,none,iAlo 7 [zI,zS]⟩,xS 2 7 15] [1,5,7,10,11,12] [7,200009]
def Q38r5 : IC:=cReg Try.prog [xM 16 1,xF 17 0 7,xL 18 1 17,xM 19 5,xF 20 0 7,xL 21 1 20,⟨some 22,none,iLku 22 (.int .i64 0) (.tmp 19) (.tmp 21)⟩,⟨some 23,none,iCall 23 25 [(.tmp 16),(.tmp 18),(.tmp 22)]⟩,xT 8 23] [1,5,7,8,10,11,12] [7,200009]
def Q38r6 : IC:=cRegD Try.prog [xM 24 8,xM 25 1,xN 26 25,xB 27 .eql 24 26,xM 28 27,xG 28 false (xA 29 2 7),xG 28 false (xM 30 1),xG 28 false (xM 31 8),xG 28 false (xI 32 2 30 31),xG 28 false (xA 33 2 32),xG 28 false (xV2 34 26 29 33),xG 28 false (xO 35 34),xP 36 28 35] [[],[],[1],[0,2,1],[3,0,2,1],[4,3,0,2,1],[4,3,0,2,1],[4,3,0,2,1],[6,7,4,3,0,2,1],[8,4,6,7,3,0,2,1],[5,9,4,3,0,2,1,8,6,7],[10,4,5,9,3,0,2,1,8,6,7],[4,11,3,0,2,1,10,5,9,8,6,7]] [1,5,7,8,10,11,12,36] [7,200009]
def Q38r7 : IC:=cReg Try.prog [⟨some 4,none,iMov 4 (.const (.bool false)) true⟩] [4] []
def Q38c5a : IC:=(cSeq Q38r7 cRet)
def Q38c5 : IC:=cCond (.tmp 36) Q38c5a cSkip
def Q38r8 : IC:=cReg Try.prog [xM 37 5,xF 38 0 7,xL 39 1 38,xM 40 8,xC 41 .add 40 1,⟨none,none,iUpd (.tmp 37) (.tmp 39) (.tmp 41)⟩] [1,5,10,11,12] [200009]
def Q38b4 : IC:=cBlock 1 (cSeq Q38r4 (cSeq Q38r5 (cSeq (cSeq Q38r6 Q38c5) Q38r8)))
def Q38r9 : IC:=cReg Try.prog [xC 42 .add 12 1,xM 12 42] [1,5,10,11,12] [200009]
def Q38l2a : IC:=(cSeq Q38r3 (cSeq Q38c3 (cSeq Q38b4 Q38r9)))
def Q38l2 : IC:=cLoop Q38l2a
def Q38b1 : IC:=cBlock 0 Q38l2
def Q38r10 : IC:=cReg Try.prog [⟨some 4,none,iMov 4 (.const (.bool true)) true⟩] [4] []
def plain_Fits : IC:=(cSeq Q38r0 (cSeq Q38r1 (cSeq (cSeq Q38r2 Q38b1) (cSeq Q38r10 cRet))))
theorem told_plain_Fits {args r : List D} (hl : args.length = 2) (h : plain_Fits (start args) (fin [(4,none)] r)) : Told Try.prog 16 args r :=
 told_of follows Try.func16 rfl (an:=[([],[0,1],[],[]),([],[0,1,5],[200009],[]),([],[1,5,10,11,12],[200009],[]),([],[1,5,10,11,12,13],[200009],[]),([],[1,5,7,10,11,12],[7,200009],[]),([],[1,5,7,8,10,11,12],[7,200009],[]),([],[1,5,7,8,10,11,12,36],[7,200009],[]),([],[4],[],[]),([],[1,5,10,11,12],[200009],[]),([],[1,5,10,11,12],[200009],[]),([],[4],[],[])]) (by kernel_rfl) (by kernel_rfl) (by rw [hl]; decide +kernel) h
def Q37r0 : IC:=cReg Try.prog [⟨some 4,none,iMov 4 (.const (.bool false)) true⟩] [0,1] []
def Q37r1 : IC:=cReg Try.prog [xM 5 0,xN 6 5,xM 7 1,xN 8 7,xB 9 .eql 6 8,xM 10 9,xG 10 true (xM 11 0),xG 10 true (xM 12 1),xG 10 true (xV2 13 16 11 12),xQ 14 10 13,xT 4 14] [4] []
def plain_All : IC:=(cSeq Q37r0 (cSeq Q37r1 cRet))
theorem told_plain_All {args r : List D} (hl : args.length = 2) (h : plain_All (start args) (fin [(4,none)] r)) : Told Try.prog 12 args r :=
 told_of follows Try.func12 rfl (an:=[([],[0,1],[],[]),([],[4],[],[])]) (by kernel_rfl) (by kernel_rfl) (by rw [hl]; decide +kernel) h
set_option maxRecDepth 100000
def Q2r0 : IC:=cReg Try.prog [⟨some 4,none,iMov 4 (.const (.bool false)) true⟩] [0,1] []
def Q2r1 : IC:=cReg Try.prog [xM 5 0,⟨some 6,none,iStr 6 (.tmp 5)⟩,xM 7 1,⟨some 8,none,iStr 8 (.tmp 7)⟩,xB 9 .eql 6 8,xT 4 9] [4] []
def bytes_Equal : IC:=(cSeq Q2r0 (cSeq Q2r1 cRet))
theorem told_bytes_Equal {args r : List D} (hl : args.length = 2) (h : bytes_Equal (start args) (fin [(4,none)] r)) : Told Try.prog 37 args r :=
 told_of follows Try.func37 rfl (an:=[([],[0,1],[],[]),([],[4],[],[])]) (by kernel_rfl) (by kernel_rfl) (by rw [hl]; decide +kernel) h
theorem ba_list' (a : List UInt8) : (⟨a.toArray⟩ : ByteArray).toList = a:=by
 rw [ByteArray.toList_eq]
theorem equal_told (a b : List UInt8) : Told Try.prog 37 [sD 1 (a.map encB),sD 1 (b.map encB)] [vB (a == b)]:=by
 refine told_bytes_Equal rfl ?_
 refine wk (an2 @bytesOf_enc @ba_list') ?_
 exact ValsLe.refl _
set_option maxRecDepth 100000
theorem same_told (a b : Ms) : Told Try.prog 26 [aD (encMs a),aD (encMs b)] [vB (sameM a b)]:=by
 refine told_plain_Same rfl ?_
 simp only [encMs,sameM]
 by_cases h : a.stream = b.stream
 ·have h1 : (a.stream == b.stream) = true:=by simpa using h
  refine wk @h1 ?_
  refine cg [[vB (a.data == b.data)]] @h1 ?_ ?_
  ·exact obl_cons (equal_told _ _) obl_nil
  rw [h1,Bool.true_and]
  refine wk0 ?_
  exact ValsLe.refl _
 ·have h1 : (a.stream == b.stream) = false:=by simpa using h
  rw [h1,Bool.false_and]
  refine wk @h1 ?_
  exact ValsLe.refl _
def fdSt (l : List Ms) (s : Int) (j : Nat) : St:=⟨[(0,sD 2 (encMl l)),(1,vI s),(2,vI j)],[],[]⟩
theorem find_told (l : List Ms) (s : Int) (a : Nat) (hl : l.length ≤ 1048576) (ha : a ≤ l.length) : Told Try.prog 25 [sD 2 (encMl l),vI s,vI a] [vI (findS l s a)]:=by
 refine told_plain_find rfl ?_
 refine wk0 ?_
 refine aw_loop (fun n st => ∃ j : Nat,j ≤ l.length ∧ n = l.length - j ∧ findS l s a = findS l s j ∧ st = fdSt l s j) (l.length - a) (fdSt l s a) (Le.refl _) ⟨a,ha,rfl,rfl,rfl⟩ ?_
 rintro n st ⟨k,hk,hn,hs,rfl⟩
 by_cases hlt : k < l.length
 ·obtain ⟨m,hm⟩ : ∃ m,l[k]? = some m:=⟨l[k],List.getElem?_eq_getElem hlt⟩
  have g1 : (k : Int) < (l.length : Int):=by omega
  have g2 : (0 : Int) ≤ (k : Int):=by omega
  have g3:=at_ml hm
  have g4 : inR .i64 ((k : Int) + 1) = true:=inR_of (by omega)
  have hst:=findS_step (s:=s) hm
  simp only [fdSt]
  by_cases he : m.stream = s
  ·have e1 : (m.stream != s) = false:=by simpa using he
   rw [if_pos (by simpa using he)] at hst
   rw [hs,hst]
   refine wk (an6 @g1 @g2 @g3 @g4 @e1 @len_ml) ?_
   exact ValsLe.refl _
  ·have e1 : (m.stream != s) = true:=by simpa using he
   rw [if_neg (by simpa using he)] at hst
   rw [hst] at hs
   refine wk (an6 @g1 @g2 @g3 @g4 @e1 @len_ml) ?_
   exact ⟨l.length - (k + 1),_,by omega,Le.refl _,k + 1,by omega,rfl,hs,by simp only [fdSt,Int.natCast_add,Int.cast_ofNat_Int]⟩
 ·have hk' : k = l.length:=by omega
  subst hk'
  have g1 : ¬ (l.length : Int) < (l.length : Int):=by omega
  rw [hs,findS_end]
  simp only [fdSt]
  refine wk (an2 @g1 @len_ml) ?_
  exact ValsLe.refl _
def ftSt (told put : List Ms) (used : List (Int × Value)) (k : Nat) : St:=⟨[(1,sD 2 (encMl put)),(5,hD 200009),(10,sD 2 (encMl told)),(11,vI told.length),(12,vI k)],[(200009,used.map encE)],[]⟩
def ftJ (told put : List Ms) (n : Nat) (st : St) : Prop:=∃ (k : Nat) (used : List (Int × Value)),k ≤ told.length ∧ n = told.length - k ∧ used.length ≤ k ∧ (∀ s : Int,∃ u : Nat,(mget used s).getD (.int .i64 0) = .int .i64 u ∧ u ≤ put.length ∧ ofS (told.take k) s = ofS (put.take u) s) ∧ st = ftSt told put used k
theorem ft_next {told put : List Ms} {m x : Ms} {k n a : Nat} {used : List (Int × Value)} (hlt : k < told.length) (hn : n = told.length - k) (hul : used.length ≤ k) (hinv : ∀ s : Int,∃ u : Nat,(mget used s).getD (.int .i64 0) = .int .i64 u ∧ u ≤ put.length ∧ ofS (told.take k) s = ofS (put.take u) s)
  (hm : told[k]? = some m) (ha : a ≤ put.length) (h : ofS (told.take k) m.stream = ofS (put.take a) m.stream) (hx : put[findS put m.stream a]? = some x) (he : sameM m x = true) :
  Next (ftJ told put) n ⟨[(1,sD 2 (encMl put)),(5,hD 200009),(10,sD 2 (encMl told)),(11,vI told.length),(12,vI ((k : Int) + 1))],[(200009,aD [vI m.stream,vI ((findS put m.stream a : Nat) + 1 : Int)] :: used.map encE)],[]⟩:=by
 have hlt2 : findS put m.stream a < put.length:=(List.getElem?_eq_some_iff.1 hx).1
 refine ⟨told.length - (k + 1),_,by omega,Le.refl _,k + 1,(m.stream,.int .i64 ((findS put m.stream a : Nat) + 1 : Int)) :: used,by omega,rfl,by simp; omega,fun s => ?_,by simp only [ftSt,Int.natCast_add,Int.cast_ofNat_Int,List.map_cons,encE]⟩
 simp only [mget]
 by_cases hs : m.stream = s
 ·subst hs
  exact ⟨findS put m.stream a + 1,by simp,by omega,fit_step hm ha h hx he⟩
 ·rw [if_neg hs]
  obtain ⟨u,h1,h2,h3⟩:=hinv s
  exact ⟨u,h1,h2,by rw [ofS_snoc hm,if_neg (by simpa using hs)]; exact h3⟩
theorem fits_told (told put : List Ms) (ht : told.length ≤ 1048576) (hp : put.length ≤ 1048576) (hr : right told) : Told Try.prog 16 [sD 2 (encMl told),sD 2 (encMl put)] [vB (fitsS told put)]:=by
 refine told_plain_Fits rfl ?_
 refine wk @len_ml ?_
 refine aw_loop (ftJ told put) told.length (ftSt told put [] 0) (Le.refl _) ⟨0,[],by omega,by omega,Nat.le_refl _,fun s => ⟨0,rfl,Nat.zero_le _,by simp⟩,rfl⟩ ?_
 rintro n st ⟨k,used,hk,hn,hul,hinv,rfl⟩
 by_cases hlt : k < told.length
 ·obtain ⟨m,hm⟩ : ∃ m,told[k]? = some m:=⟨told[k],List.getElem?_eq_getElem hlt⟩
  obtain ⟨⟨hs0,hs2⟩,hdl⟩:=right_at (hr m (List.mem_of_getElem? hm))
  obtain ⟨u,hu,hup,hof⟩:=hinv m.stream
  have g1 : (k : Int) < (told.length : Int):=by omega
  have g2 : (0 : Int) ≤ (k : Int):=by omega
  have g3:=at_ml hm
  have g4 : inR .i64 ((k : Int) + 1) = true:=inR_of (by omega)
  have g5 : inR .i64 m.stream = true:=inR_of (by omega)
  have hfl:=findS_le (s:=m.stream) hup
  have hnx:=fun x => ft_next (x:=x) hlt hn hul hinv hm hup hof
  generalize ftJ told put = J at *
  simp only [ftSt]
  refine wk (an7 @g1 @g2 @g3 @g4 @g5 @mlk_enc @hu) ?_
  refine cg [[vI (findS put m.stream u)]] (an3 @g5 @mlk_enc @hu) ?_ ?_
  ·exact obl_cons (find_told put m.stream u hp hup) obl_nil
  by_cases hend : findS put m.stream u = put.length
  ·have q1 : (((findS put m.stream u : Nat) : Int) == (put.length : Int)) = true:=by simp; omega
   rw [fit_none ⟨hs0,hs2⟩ hm hup hof hend]
   refine wk (an2 @q1 @len_ml) ?_
   exact ValsLe.refl _
  ·have q1 : (((findS put m.stream u : Nat) : Int) == (put.length : Int)) = false:=by simp; omega
   obtain ⟨x,hx⟩ : ∃ x,put[findS put m.stream u]? = some x:=⟨put[findS put m.stream u]'(by omega),List.getElem?_eq_getElem (by omega)⟩
   have g6:=at_ml hx
   have g7 : (0 : Int) ≤ ((findS put m.stream u : Nat) : Int):=by omega
   have g8 : inR .i64 (((findS put m.stream u : Nat) : Int) + 1) = true:=inR_of (by omega)
   have g9 : used.length < 9223372036854775807:=by omega
   have hsm:=same_told m x
   have hoth:=fit_other ⟨hs0,hs2⟩ hm hup hof hx
   have hnx':=hnx x hx
   generalize findS put m.stream u = f at *
   refine wk (an4 @q1 @len_ml @g6 @g7) ?_
   refine cd [[vB (sameM m x)]] (an4 @q1 @len_ml @g6 @g7) ?_ ?_
   ·exact obl_cons hsm obl_nil
   cases hmx : sameM m x with
   | true =>
    refine wk (an5 @g4 @g5 @g8 @g9 @zmap) ?_
    exact hnx' hmx
   | false =>
    rw [hoth hmx]
    refine wk0 ?_
    exact ValsLe.refl _
 ·have hk' : k = told.length:=by omega
  subst hk'
  have g1 : ¬ (told.length : Int) < (told.length : Int):=by omega
  have hf : fitsS told put = true:=by
   have hc : ∀ s : Int,∃ u : Nat,ofS told s = ofS (put.take u) s:=fun s => by
    obtain ⟨u,_,_,h⟩:=hinv s
    rw [List.take_length] at h
    exact ⟨u,h⟩
   refine fitsS_of fun s => ?_
   obtain ⟨u,h⟩:=hc s
   exact (preS_iff _ _).2 ⟨ofS (put.drop u) s,by rw [h,← ofS_app,List.take_append_drop]⟩
  rw [hf]
  simp only [ftSt]
  refine wk @g1 ?_
  exact ValsLe.refl _
theorem all_told (told put : List Ms) (ht : told.length ≤ 1048576) (hp : put.length ≤ 1048576) (hr : right told) : Told Try.prog 12 [sD 2 (encMl told),sD 2 (encMl put)] [vB (fitsS told put && (told.length == put.length))]:=by
 refine told_plain_All rfl ?_
 by_cases h : told.length = put.length
 ·have q1 : ((told.length : Int) == (put.length : Int)) = true:=by simp; omega
  have q2 : (told.length == put.length) = true:=by simpa using h
  rw [q2,Bool.and_true]
  refine wk (an2 @len_ml @q1) ?_
  refine cg [[vB (fitsS told put)]] (an2 @len_ml @q1) ?_ ?_
  ·exact obl_cons (fits_told told put ht hp hr) obl_nil
  refine wk0 ?_
  exact ValsLe.refl _
 ·have q1 : ((told.length : Int) == (put.length : Int)) = false:=by simp; omega
  have q2 : (told.length == put.length) = false:=by simpa using h
  rw [q2,Bool.and_false]
  refine wk (an2 @len_ml @q1) ?_
  exact ValsLe.refl _
end Go.Proofs.Ytgaofjiidedcbad.ab
