import Derived.Test.YtgaofjiidedcbacGreatM20
import Derived.Test.YtgaofjiidedcbacGreatProg
import Derived.Test.YtgaofjiidedcbacGreatM24
import Derived.Test.YtgaofjiidedcbacGreatM23
set_option maxHeartbeats 16000000
set_option linter.unusedVariables false
set_option linter.unusedSimpArgs false
namespace Go.Proofs.YtgaofjiidedcbacGreat.ab
set_option maxRecDepth 100000
open Go Go.RowKit
def Q48r0 : IC:=cReg Tryz.prog [xX 1 0,⟨some 2,none,iMov 2 (.const (.int .i64 0)) true⟩] [1] [1]
def Q48r1 : IC:=cReg Tryz.prog [xF 3 0 1,xL 4 1 3,xC 5 .lss 4 0,xM 6 5,xG 6 false (xF 7 0 1),xG 6 false (xL 8 1 7),xG 6 false (xC 9 .gtr 8 2),xP 10 6 9] [1,10] [1]
def Q48r2 : IC:=cReg Tryz.prog [⟨some 2,none,iMov 2 (.const (.int .i64 3)) true⟩] [2] []
def Q48c1a : IC:=(cSeq Q48r2 cRet)
def Q48c1 : IC:=cCond (.tmp 10) Q48c1a cSkip
def Q48r3 : IC:=cReg Tryz.prog [xF 11 1 1,xL 12 1 11,xN 13 12,xC 14 .gtr 13 6] [14] []
def Q48r4 : IC:=cReg Tryz.prog [⟨some 2,none,iMov 2 (.const (.int .i64 4)) true⟩] [2] []
def Q48c2a : IC:=(cSeq Q48r4 cRet)
def Q48c2 : IC:=cCond (.tmp 14) Q48c2a cSkip
def Q48r5 : IC:=cReg Tryz.prog [⟨some 2,none,iMov 2 (.const (.int .i64 0)) true⟩] [2] []
def r1_WrongMsg : IC:=(cSeq Q48r0 (cSeq (cSeq Q48r1 Q48c1) (cSeq (cSeq Q48r3 Q48c2) (cSeq Q48r5 cRet))))
theorem told_r1_WrongMsg {args r : List D} (hl : args.length = 1) (h : r1_WrongMsg (start args) (fin [(2,none)] r)) : Told Tryz.prog 52 args r :=
 told_of follows Tryz.func52 rfl (an:=[([],[1],[1],[]),([],[1,10],[1],[]),([],[2],[],[]),([],[14],[],[]),([],[2],[],[]),([],[2],[],[])]) (by kernel_rfl) (by kernel_rfl) (by rw [hl]; decide +kernel) h
def Q41r0 : IC:=cReg Tryz.prog [xX 2 0,xX 3 1,⟨some 4,none,iMov 4 (.const (.bool false)) true⟩] [2,3] [2,3]
def Q41r1_0 : IC:=cReg Tryz.prog [xF 5 0 2,xL 6 1 5,xF 7 0 3,xL 8 1 7,xB 9 .eql 6 8,xM 10 9,xG 10 true (xF 11 1 2),xG 10 true (xL 12 1 11),⟨some 13,some (10,true),iStr 13 (.tmp 12)⟩,xG 10 true (xF 14 1 3)] [10,13,14] [3]
def Q41r1_1 : IC:=cReg Tryz.prog [xG 10 true (xL 15 1 14),⟨some 16,some (10,true),iStr 16 (.tmp 15)⟩,xG 10 true (xB 17 .eql 13 16),xQ 18 10 17,xT 4 18] [4] []
def Q41r1 : IC:=(cSeq Q41r1_0 Q41r1_1)
def r1_SameMsg : IC:=(cSeq Q41r0 (cSeq Q41r1 cRet))
theorem told_r1_SameMsg {args r : List D} (hl : args.length = 2) (h : r1_SameMsg (start args) (fin [(4,none)] r)) : Told Tryz.prog 39 args r :=
 told_of follows Tryz.func39 rfl (an:=[([],[2,3],[2,3],[]),([(10,[10,13,14],[3])],[4],[],[])]) (by kernel_rfl) (by kernel_rfl) (by rw [hl]; decide +kernel) h
def Q42r0 : IC:=cReg Tryz.prog [⟨some 4,none,iMov 4 (.const (.bool false)) true⟩] [0,1] []
def Q42r1 : IC:=cReg Tryz.prog [xM 6 0,xN 7 6,xM 8 1,xN 9 8,xB 10 .neq 7 9] [0,1,10] []
def Q42r2 : IC:=cReg Tryz.prog [⟨some 4,none,iMov 4 (.const (.bool false)) true⟩] [4] []
def Q42c1a : IC:=(cSeq Q42r2 cRet)
def Q42c1 : IC:=cCond (.tmp 10) Q42c1a cSkip
def Q42r3 : IC:=cReg Tryz.prog [xM 11 0,xN 12 11,⟨some 13,none,iMov 13 (.const (.int .i64 0)) false⟩] [0,1,12,13] []
def Q42r4 : IC:=cReg Tryz.prog [xB 14 .lss 13 12] [0,1,12,13,14] []
def Q42c4 : IC:=cCond (.tmp 14) cSkip (cExit 0)
def Q42r5 : IC:=cReg Tryz.prog [xM 15 13,xT 5 15] [0,1,5,12,13] []
def Q42r6 : IC:=cRegD Tryz.prog [xM 16 0,xM 17 5,xI 18 2 16 17,xA 19 2 18,xM 20 1,xM 21 5,xI 22 2 20 21,xA 23 2 22,xV2 24 39 19 23,xO 25 24] [[],[],[0,1],[2,0,1],[],[],[4,5],[6,4,5],[3,7,2,0,1,6,4,5],[8,3,7,2,0,1,6,4,5]] [0,1,12,13,25] []
def Q42r7 : IC:=cReg Tryz.prog [⟨some 4,none,iMov 4 (.const (.bool false)) true⟩] [4] []
def Q42c6a : IC:=(cSeq Q42r7 cRet)
def Q42c6 : IC:=cCond (.tmp 25) Q42c6a cSkip
def Q42b5 : IC:=cBlock 1 (cSeq Q42r5 (cSeq Q42r6 Q42c6))
def Q42r8 : IC:=cReg Tryz.prog [xC 26 .add 13 1,xM 13 26] [0,1,12,13] []
def Q42l3a : IC:=(cSeq Q42r4 (cSeq Q42c4 (cSeq Q42b5 Q42r8)))
def Q42l3 : IC:=cLoop Q42l3a
def Q42b2 : IC:=cBlock 0 Q42l3
def Q42r9 : IC:=cReg Tryz.prog [⟨some 4,none,iMov 4 (.const (.bool true)) true⟩] [4] []
def r1_SameMsgs : IC:=(cSeq Q42r0 (cSeq (cSeq Q42r1 Q42c1) (cSeq (cSeq Q42r3 Q42b2) (cSeq Q42r9 cRet))))
theorem told_r1_SameMsgs {args r : List D} (hl : args.length = 2) (h : r1_SameMsgs (start args) (fin [(4,none)] r)) : Told Tryz.prog 26 args r :=
 told_of follows Tryz.func26 rfl (an:=[([],[0,1],[],[]),([],[0,1,10],[],[]),([],[4],[],[]),([],[0,1,12,13],[],[]),([],[0,1,12,13,14],[],[]),([],[0,1,5,12,13],[],[]),([],[0,1,12,13,25],[],[]),([],[4],[],[]),([],[0,1,12,13],[],[]),([],[4],[],[])]) (by kernel_rfl) (by kernel_rfl) (by rw [hl]; decide +kernel) h
end Go.Proofs.YtgaofjiidedcbacGreat.ab
namespace Go.Proofs.YtgaofjiidedcbacGreat.mth
def ofS (l : List Ms) (s : Int) : List Ms:=l.filter (fun m => m.stream == s)
theorem ofS_snoc {l : List Ms} {s : Int} {k : Nat} {m : Ms} (h : l[k]? = some m) : ofS (l.take (k + 1)) s = if m.stream == s then ofS (l.take k) s ++ [m] else ofS (l.take k) s:=by
 rw [List.take_add_one,h]
 simp only [ofS,List.filter_append,Option.toList_some,List.filter_cons,List.filter_nil]
 split <;> simp
theorem ofS_len (l : List Ms) (s : Int) : (ofS l s).length ≤ l.length:=List.length_filter_le _ _
theorem ofS_app (a b : List Ms) (s : Int) : ofS (a ++ b) s = ofS a s ++ ofS b s:=List.filter_append ..
def sameL : List Ms → List Ms → Bool
 | [],[] => true
 | a :: r,b :: t => sameM a b && sameL r t
 | _,_ => false
theorem sameL_iff : ∀ (a b : List Ms),sameL a b = true ↔ a = b
 | [],[] => by simp [sameL]
 | [],_ :: _ => by simp [sameL]
 | _ :: _,[] => by simp [sameL]
 | a :: r,b :: t => by simp only [sameL,Bool.and_eq_true,sameM_iff,sameL_iff r t,List.cons.injEq]
def preS (a b : List Ms) : Bool:=decide (a.length ≤ b.length) && sameL a (b.take a.length)
theorem preS_iff (a b : List Ms) : preS a b = true ↔ ∃ c,b = a ++ c:=by
 simp only [preS,Bool.and_eq_true,decide_eq_true_eq,sameL_iff]
 constructor
 ·rintro ⟨h1,h2⟩
  refine ⟨b.drop a.length,?_⟩
  have h3:=List.take_append_drop a.length b
  rw [← h2] at h3
  exact h3.symm
 ·rintro ⟨c,rfl⟩
  simp
def fitsS (told put : List Ms) : Bool:=preS (ofS told 0) (ofS put 0) && (preS (ofS told 1) (ofS put 1) && preS (ofS told 2) (ofS put 2))
theorem fitsS_no {told put : List Ms} {s : Int} (hs : 0 ≤ s ∧ s ≤ 2) (h : preS (ofS told s) (ofS put s) = false) : fitsS told put = false:=by
 rcases (by omega : s = 0 ∨ s = 1 ∨ s = 2) with rfl | rfl | rfl <;> simp [fitsS,h]
end Go.Proofs.YtgaofjiidedcbacGreat.mth
namespace Go.Proofs.YtgaofjiidedcbacGreat.ab
open Go Go.RowKit
open mth
theorem ba_list (a : List UInt8) : (⟨a.toArray⟩ : ByteArray).toList = a:=by
 rw [ByteArray.toList_eq]
theorem sameMsg_told (a b : Ms) : Told Tryz.prog 39 [aD (encMs a),aD (encMs b)] [vB (sameM a b)]:=by
 refine told_r1_SameMsg rfl ?_
 simp only [encMs,sameM]
 by_cases h : a.stream = b.stream
 ·have h1 : (a.stream == b.stream) = true:=by simpa using h
  rw [h1,Bool.true_and]
  refine wk (an3 @h1 @bytesOf_enc @ba_list) ?_
  exact ValsLe.refl _
 ·have h1 : (a.stream == b.stream) = false:=by simpa using h
  rw [h1,Bool.false_and]
  refine wk @h1 ?_
  exact ValsLe.refl _
theorem wrongMsg_told (m : Ms) : Told Tryz.prog 52 [aD (encMs m)] [vI (wrongMsgL m.stream m.data)]:=by
 refine told_r1_WrongMsg rfl ?_
 unfold wrongMsgL
 simp only [encMs]
 by_cases h1 : m.stream < 0 ∨ 2 < m.stream
 ·rw [if_pos h1]
  by_cases h2 : m.stream < 0
  ·refine wk @h2 ?_
   exact ValsLe.refl _
  ·have h3 : 2 < m.stream:=by omega
   refine wk (an2 @h2 @h3) ?_
   exact ValsLe.refl _
 ·have h2 : ¬ m.stream < 0:=by omega
  have h3 : ¬ 2 < m.stream:=by omega
  rw [if_neg h1]
  by_cases h4 : 6 < m.data.length
  ·have h5 : 6 < ((m.data.length : Int)):=by omega
   rw [if_pos h4]
   refine wk (an4 @h2 @h3 @h5 @zmap) ?_
   exact ValsLe.refl _
  ·have h5 : ¬ 6 < ((m.data.length : Int)):=by omega
   rw [if_neg h4]
   refine wk (an4 @h2 @h3 @h5 @zmap) ?_
   exact ValsLe.refl _
def smSt (a b : List Ms) (k : Nat) : St:=⟨[(0,sD 2 (encMl a)),(1,sD 2 (encMl b)),(12,vI a.length),(13,vI k)],[],[]⟩
theorem sameL_step {a b : List Ms} {k : Nat} {x y : Ms} (hx : a[k]? = some x) (hy : b[k]? = some y) : sameL (a.drop k) (b.drop k) = (sameM x y && sameL (a.drop (k + 1)) (b.drop (k + 1))):=by
 obtain ⟨h1,rfl⟩:=List.getElem?_eq_some_iff.1 hx
 obtain ⟨h2,rfl⟩:=List.getElem?_eq_some_iff.1 hy
 rw [List.drop_eq_getElem_cons h1,List.drop_eq_getElem_cons h2,sameL]
theorem sameMsgs_told (a b : List Ms) (hl : a.length ≤ 1048576) : Told Tryz.prog 26 [sD 2 (encMl a),sD 2 (encMl b)] [vB (sameL a b)]:=by
 refine told_r1_SameMsgs rfl ?_
 by_cases hlen : a.length = b.length
 ·have l1 : ((a.length : Int) != (b.length : Int)) = false:=by simp; omega
  refine wk (an2 @len_ml @l1) ?_
  refine aw_loop (fun n st => ∃ k,k ≤ a.length ∧ n = a.length - k ∧ sameL a b = sameL (a.drop k) (b.drop k) ∧ st = smSt a b k) a.length (smSt a b 0) (Le.refl _) ⟨0,by omega,by omega,rfl,rfl⟩ ?_
  rintro n st ⟨k,hk,hn,hs,rfl⟩
  by_cases hlt : k < a.length
  ·obtain ⟨x,hx⟩ : ∃ m,a[k]? = some m:=⟨a[k],List.getElem?_eq_getElem hlt⟩
   obtain ⟨y,hy⟩ : ∃ m,b[k]? = some m:=⟨b[k]'(by omega),List.getElem?_eq_getElem (by omega)⟩
   have g1 : (k : Int) < (a.length : Int):=by omega
   have g2 : (0 : Int) ≤ (k : Int):=by omega
   have g3:=at_ml hx
   have g3':=at_ml hy
   have g4 : inR .i64 ((k : Int) + 1) = true:=inR_of (by omega)
   have hst:=sameL_step hx hy
   rw [← hs] at hst
   simp only [smSt]
   refine wk (an5 @g1 @g2 @g3 @g3' @g4) ?_
   refine cd [[vB (sameM x y)]] (an3 @g2 @g3 @g3') ?_ ?_
   ·exact obl_cons (sameMsg_told x y) obl_nil
   cases hxy : sameM x y with
   | true =>
    rw [hxy,Bool.true_and] at hst
    refine wk @g4 ?_
    exact ⟨a.length - (k + 1),_,by omega,Le.refl _,k + 1,by omega,rfl,hst,by simp only [smSt,Int.natCast_add,Int.cast_ofNat_Int]⟩
   | false =>
    rw [hxy,Bool.false_and] at hst
    rw [hst]
    refine wk0 ?_
    exact ValsLe.refl _
  ·have hk' : k = a.length:=by omega
   subst hk'
   have hs' : sameL a b = true:=by rw [hs,hlen,List.drop_length,← hlen,List.drop_length]; rfl
   have g1 : ¬ (a.length : Int) < (a.length : Int):=by omega
   rw [hs']
   simp only [smSt]
   refine wk @g1 ?_
   exact ValsLe.refl _
 ·have l1 : ((a.length : Int) != (b.length : Int)) = true:=by simp; omega
  have : sameL a b = false:=by
   rw [Bool.eq_false_iff]
   intro h
   exact hlen (congrArg List.length ((sameL_iff a b).1 h))
  rw [this]
  refine wk (an2 @len_ml @l1) ?_
  exact ValsLe.refl _
def right (l : List Ms) : Prop:=∀ m ∈ l,wrongMsgL m.stream m.data = 0
end Go.Proofs.YtgaofjiidedcbacGreat.ab
namespace Go.Proofs.YtgaofjiidedcbacGreat.mth
structure Sd where
 queue : List Ms
 next : Int
 p0 : Int
 p1 : Int
 p2 : Int
 flight : List Ch
 turn : Int
def putE (s : Sd) (m : Ms) : Int:=if wrongMsgL m.stream m.data ≠ 0 then wrongMsgL m.stream m.data else if 5 < s.queue.length then 9 else if 39 < s.next + s.queue.length then 4 else 0
def putS (s : Sd) (m : Ms) : Sd:=if putE s m = 0 then { s with queue:=s.queue ++ [m] } else s
def cameL (c : Ch) (n : Int) : Bool:=decide (n < c.number) || c.early.contains n
def hearS (s : Sd) (c : Ch) : Sd:=if c.kind = 2 then { s with flight:=s.flight.filter (fun x => !cameL c x.number) } else s
def placeOf (s : Sd) (k : Int) : Int:=if k = 0 then s.p0 else if k = 1 then s.p1 else s.p2
def newC (s : Sd) (m : Ms) : Ch:=⟨1,s.next,m.stream,placeOf s m.stream,m.data,[]⟩
def newS (s : Sd) (m : Ms) (r : List Ms) : Sd :=
 { s with queue:=r,next:=s.next + 1,p0:=if m.stream = 0 then s.p0 + 1 else s.p0,p1:=if m.stream = 1 then s.p1 + 1 else s.p1,p2:=if m.stream = 2 then s.p2 + 1 else s.p2,flight:=s.flight ++ [newC s m] }
def againK (s : Sd) : Int:=s.turn % s.flight.length
def sayL (s : Sd) : Sd × Ch × Bool :=
 match s.queue with
 | [] => if s.flight.length = 0 then (s,zeroC,false) else ({ s with turn:=againK s + 1 },s.flight.getD (againK s).toNat zeroC,true)
 | m :: r => if 3 < s.flight.length then ({ s with turn:=againK s + 1 },s.flight.getD (againK s).toNat zeroC,true) else (newS s m r,newC s m,true)
end Go.Proofs.YtgaofjiidedcbacGreat.mth
namespace Go.Proofs.YtgaofjiidedcbacGreat.ab
open Go Go.RowKit
open mth
theorem at_il {l : List Int} {i : Nat} {x : Int} (h : l[i]? = some x) : (l.map vI)[i]? = some (vI x):=by simp [h]
theorem len_cl (l : List Ch) : (encCl l).length = l.length:=by simp [encCl]
theorem at_cl {l : List Ch} {i : Nat} {c : Ch} (h : l[i]? = some c) : (encCl l)[i]? = some (aD [vI c.kind,vI c.number,vI c.stream,vI c.place,sD 1 (c.data.map encB),sD 1 (c.early.map vI)]):=by simp [encCl,h,encCh]
theorem ne_f {n : Nat} (h : n = 0) : ((n : Int) != 0) = false:=by subst h; rfl
theorem ne_t {n : Nat} (h : n ≠ 0) : ((n : Int) != 0) = true:=by
 have : ¬ (n : Int) = 0:=by omega
 simpa using this
def wrSt (l : List Int) (last : Int) (k : Nat) : St:=⟨[(3,vI last),(71,sD 1 (l.map vI)),(72,vI l.length),(73,vI k)],[],[]⟩
theorem wrong_told (c : Ch) (hl : c.early.length ≤ 9223372036854775807) : Told Tryz.prog 80 [aD (encCh c)] [vI (wrongL c)]:=by
 refine told_r1_Wrong rfl ?_
 simp only [encCh]
 by_cases hk : c.kind = 1
 ·have k1 : (c.kind != 1) = false:=by simpa using hk
  have k2 : (c.kind == 1) = true:=by simpa using hk
  by_cases hn : c.number < 0 ∨ 40 < c.number
  ·have hw : wrongL c = 3:=by unfold wrongL; rw [if_neg (by omega),if_pos hn]
   rw [hw]
   by_cases n1 : c.number < 0
   ·refine wk (an2 @k1 @n1) ?_
    exact ValsLe.refl _
   ·have n2 : 40 < c.number:=by omega
    refine wk (an3 @k1 @n1 @n2) ?_
    exact ValsLe.refl _
  ·have n1 : ¬ c.number < 0:=by omega
   have n2 : ¬ 40 < c.number:=by omega
   by_cases hp : 39 < c.number ∨ c.place < 0 ∨ c.number < c.place
   ·have hw : wrongL c = 3:=by unfold wrongL; rw [if_neg (by omega),if_neg hn,if_pos hk,if_pos hp]
    rw [hw]
    by_cases p1 : 39 < c.number
    ·refine wk (an5 @k1 @k2 @n1 @n2 @p1) ?_
     exact ValsLe.refl _
    ·by_cases p2 : c.place < 0
     ·refine wk (an6 @k1 @k2 @n1 @n2 @p1 @p2) ?_
      exact ValsLe.refl _
     ·have p3 : c.number < c.place:=by omega
      refine wk (an7 @k1 @k2 @n1 @n2 @p1 @p2 @p3) ?_
      exact ValsLe.refl _
   ·have p1 : ¬ 39 < c.number:=by omega
    have p2 : ¬ c.place < 0:=by omega
    have p3 : ¬ c.number < c.place:=by omega
    by_cases he : c.early.length = 0
    ·have e1 : ((c.early.length : Int) != 0) = false:=ne_f (by omega)
     have hw : wrongL c = wrongMsgL c.stream c.data:=by unfold wrongL; rw [if_neg (by omega),if_neg hn,if_pos hk,if_neg hp,if_neg (by omega)]
     rw [hw]
     have hm:=wrongMsg_told ⟨c.stream,c.data⟩
     simp only [encMs] at hm
     refine wk (an9 @k1 @k2 @n1 @n2 @p1 @p2 @p3 @e1 @zmap) ?_
     refine cg0 [[vI (wrongMsgL c.stream c.data)]] ?_ ?_
     ·exact obl_cons hm obl_nil
     refine wk0 ?_
     exact ValsLe.refl _
    ·have e1 : ((c.early.length : Int) != 0) = true:=ne_t (by omega)
     have hw : wrongL c = 5:=by unfold wrongL; rw [if_neg (by omega),if_neg hn,if_pos hk,if_neg hp,if_pos he]
     rw [hw]
     refine wk (an9 @k1 @k2 @n1 @n2 @p1 @p2 @p3 @e1 @zmap) ?_
     exact ValsLe.refl _
 ·have k1 : (c.kind != 1) = true:=by simpa using hk
  have k2 : (c.kind == 1) = false:=by simpa using hk
  by_cases hk2 : c.kind = 2
  ·have k3 : (c.kind != 2) = false:=by simpa using hk2
   by_cases hn : c.number < 0 ∨ 40 < c.number
   ·have hw : wrongL c = 3:=by unfold wrongL; rw [if_neg (by omega),if_pos hn]
    rw [hw]
    by_cases n1 : c.number < 0
    ·refine wk (an3 @k1 @k3 @n1) ?_
     exact ValsLe.refl _
    ·have n2 : 40 < c.number:=by omega
     refine wk (an4 @k1 @k3 @n1 @n2) ?_
     exact ValsLe.refl _
   ·have n1 : ¬ c.number < 0:=by omega
    have n2 : ¬ 40 < c.number:=by omega
    by_cases hs : c.stream ≠ 0 ∨ c.place ≠ 0
    ·have hw : wrongL c = 3:=by unfold wrongL; rw [if_neg (by omega),if_neg hn,if_neg hk,if_pos hs]
     rw [hw]
     by_cases s1 : c.stream = 0
     ·have s2 : (c.stream != 0) = false:=by simpa using s1
      have s3 : (c.place != 0) = true:=by simp; omega
      refine wk (an7 @k1 @k2 @k3 @n1 @n2 @s2 @s3) ?_
      exact ValsLe.refl _
     ·have s2 : (c.stream != 0) = true:=by simpa using s1
      refine wk (an6 @k1 @k2 @k3 @n1 @n2 @s2) ?_
      exact ValsLe.refl _
    ·have s2 : (c.stream != 0) = false:=by simp; omega
     have s3 : (c.place != 0) = false:=by simp; omega
     by_cases hd : c.data.length ≠ 0 ∨ 3 < c.early.length
     ·have hw : wrongL c = 5:=by unfold wrongL; rw [if_neg (by omega),if_neg hn,if_neg hk,if_neg hs,if_pos hd]
      rw [hw]
      by_cases d1 : c.data.length = 0
      ·have d2 : ((c.data.length : Int) != 0) = false:=ne_f (by omega)
       have d3 : 3 < (c.early.length : Int):=by omega
       refine wk (an10 @k1 @k2 @k3 @n1 @n2 @s2 @s3 @d2 @d3 @zmap) ?_
       exact ValsLe.refl _
      ·have d2 : ((c.data.length : Int) != 0) = true:=ne_t (by omega)
       refine wk (an9 @k1 @k2 @k3 @n1 @n2 @s2 @s3 @d2 @zmap) ?_
       exact ValsLe.refl _
     ·have d2 : ((c.data.length : Int) != 0) = false:=ne_f (by omega)
      have d3 : ¬ 3 < (c.early.length : Int):=by omega
      have hw : wrongL c = if risesL c.number c.early = true then 0 else 3:=by unfold wrongL; rw [if_neg (by omega),if_neg hn,if_neg hk,if_neg hs,if_neg hd]
      rw [hw]
      refine wk (an10 @k1 @k2 @k3 @n1 @n2 @s2 @s3 @d2 @d3 @zmap) ?_
      clear hw
      generalize c.early = l at *
      generalize c.number = low at *
      refine aw_loop (fun n st => ∃ (k : Nat) (last : Int),k ≤ l.length ∧ n = l.length - k ∧ risesL low l = risesL last (l.drop k) ∧ st = wrSt l last k) l.length (wrSt l low 0) (Le.refl _) ⟨0,low,by omega,by omega,rfl,rfl⟩ ?_
      rintro n st ⟨k,last,hk',hn',hr,rfl⟩
      by_cases hlt : k < l.length
      ·obtain ⟨x,hx⟩ : ∃ m,l[k]? = some m:=⟨l[k],List.getElem?_eq_getElem hlt⟩
       have g1 : (k : Int) < (l.length : Int):=by omega
       have g2 : (0 : Int) ≤ (k : Int):=by omega
       have g3:=at_il hx
       have g4 : inR .i64 ((k : Int) + 1) = true:=inR_of (by omega)
       have hst:=rises_drop last l k x hx
       rw [← hr] at hst
       simp only [wrSt]
       by_cases x1 : x ≤ last
       ·rw [show decide (last < x) = false by simp; omega,Bool.false_and] at hst
        rw [hst]
        refine wk (an4 @g1 @g2 @g3 @x1) ?_
        exact ValsLe.refl _
       ·rw [show decide (last < x) = true by simp; omega,Bool.true_and] at hst
        by_cases x2 : 39 < x
        ·rw [show decide (x ≤ 39) = false by simp; omega,Bool.false_and] at hst
         rw [hst]
         refine wk (an5 @g1 @g2 @g3 @x1 @x2) ?_
         exact ValsLe.refl _
        ·rw [show decide (x ≤ 39) = true by simp; omega,Bool.true_and] at hst
         refine wk (an6 @g1 @g2 @g3 @g4 @x1 @x2) ?_
         exact ⟨l.length - (k + 1),_,by omega,Le.refl _,k + 1,x,by omega,rfl,hst,by simp only [wrSt,Int.natCast_add,Int.cast_ofNat_Int]⟩
      ·have hk'' : k = l.length:=by omega
       subst hk''
       have g1 : ¬ (l.length : Int) < (l.length : Int):=by omega
       have : risesL low l = true:=by rw [hr,List.drop_length]; rfl
       rw [if_pos this]
       simp only [wrSt]
       refine wk @g1 ?_
       exact ValsLe.refl _
  ·have k3 : (c.kind != 2) = true:=by simpa using hk2
   have hw : wrongL c = 1:=by unfold wrongL; rw [if_pos ⟨hk,hk2⟩]
   rw [hw]
   refine wk (an2 @k1 @k3) ?_
   exact ValsLe.refl _
theorem enc_b8 {n : Int} (h : 0 ≤ n ∧ n ≤ 255) : encB (b8 n) = vD (.int .u8 n):=by
 unfold encB
 rw [b8_toNat h]
def enc8 (n : Int) : D:=vD (.int .u8 n)
theorem map_b8 {l : List Int} (h : ∀ x ∈ l,0 ≤ x ∧ x ≤ 255) : (l.map b8).map encB = l.map enc8:=by
 rw [List.map_map]
 refine List.map_congr_left fun x hx => ?_
 exact enc_b8 (h x hx)
def byJ (n : Int) (l : List Int) (k : Nat) : St:=⟨[(3,sD 1 ([vD (.int .u8 2),vD (.int .u8 n)] ++ (l.take k).map enc8)),(33,sD 1 (l.map vI)),(34,vI l.length),(35,vI k)],[],[((3,none),(5,1,none))]⟩
theorem take_enc8 {l : List Int} {k : Nat} {x : Int} (h : l[k]? = some x) : (l.take (k + 1)).map enc8 = (l.take k).map enc8 ++ [vD (.int .u8 x)]:=by
 rw [List.take_add_one,h,List.map_append]
 rfl
theorem bytes_told (c : Ch) (hc : wrongL c = 0) : Told Tryz.prog 72 [aD (encCh c)] [sD 1 ((sealL (bodyL c)).map encB)]:=by
 refine told_chunk_Bytes rfl ?_
 have hlen:=len_body c hc
 have o1:=seal_told (bodyL c) (by omega)
 rcases right_cases c hc with ⟨h1,h2,h3,h4,h5,h6⟩ | ⟨h1,h2,h3,h4,h5,h6,h7⟩
 ·obtain ⟨kind,number,stream,place,data,early⟩:=c
  simp only at h1 h2 h3 h4 h5 h6
  subst h1 h6
  have hb : (bodyL ⟨1,number,stream,place,data,[]⟩).map encB = ([vD (.int .u8 1),vD (.int .u8 number)] ++ [vD (.int .u8 stream),vD (.int .u8 place)]) ++ data.map encB:=by
   unfold bodyL
   rw [if_pos rfl]
   simp only [List.map_append,List.map_cons,List.map_nil,enc_b8 (show (0 : Int) ≤ 1 ∧ (1 : Int) ≤ 255 by decide),enc_b8 (show 0 ≤ number ∧ number ≤ 255 by omega),enc_b8 (show 0 ≤ stream ∧ stream ≤ 255 by omega),enc_b8 (show 0 ≤ place ∧ place ≤ 255 by omega),List.cons_append,List.nil_append]
  rw [hb] at o1
  have e1 : IntKind.u8.wrap 1 = 1:=by decide
  have e2:=wrap_8 (show 0 ≤ number ∧ number ≤ 255 by omega)
  have e3:=wrap_8 (show 0 ≤ stream ∧ stream ≤ 255 by omega)
  have e4:=wrap_8 (show 0 ≤ place ∧ place ≤ 255 by omega)
  have b1 : (2 + 2) * 1 ≤ 140737488355328:=by decide
  have b2 : (2 + 2 + data.length) * 1 ≤ 140737488355328:=by omega
  generalize (sealL (bodyL ⟨1,number,stream,place,data,[]⟩)).map encB = R at *
  simp only [encCh,List.map_nil]
  refine wk (an11 @e1 @e2 @e3 @e4 @b1 @b2 @zbeq @zmap @zapp @zcons @znil) ?_
  refine cg0 [[sD 1 R]] ?_ ?_
  ·exact obl_cons o1 obl_nil
  refine wk0 ?_
  exact ValsLe.refl _
 ·obtain ⟨kind,number,stream,place,data,early⟩:=c
  simp only at h1 h2 h3 h4 h5 h6 h7
  subst h1 h3 h4 h5
  have hr:=fun x hx => rises_mem _ _ h7 x hx
  have hb : (bodyL ⟨2,number,0,0,[],early⟩).map encB = [vD (.int .u8 2),vD (.int .u8 number)] ++ early.map enc8:=by
   unfold bodyL
   rw [if_neg (fun e => by cases e),List.map_append,map_b8 (fun x hx => by have:=hr x hx; omega)]
   simp only [List.map_cons,List.map_nil,enc_b8 (show (0 : Int) ≤ 2 ∧ (2 : Int) ≤ 255 by decide),enc_b8 (show 0 ≤ number ∧ number ≤ 255 by omega)]
  rw [hb] at o1
  have e1 : IntKind.u8.wrap 2 = 2:=by decide
  have e2:=wrap_8 (show 0 ≤ number ∧ number ≤ 255 by omega)
  have e3 : ((2 : Int) == 1) = false:=by decide
  generalize (sealL (bodyL ⟨2,number,0,0,[],early⟩)).map encB = R at *
  simp only [encCh,List.map_nil]
  refine wk (an5 @e1 @e2 @e3 @zbeq @zmap) ?_
  refine aw_loop (fun m st => ∃ k,k ≤ early.length ∧ m = early.length - k ∧ st = byJ number early k) early.length (byJ number early 0) (Le.refl _) ⟨0,by omega,by omega,rfl⟩ ?_
  rintro m st ⟨k,hk,hm,rfl⟩
  by_cases hlt : k < early.length
  ·obtain ⟨x,hx⟩ : ∃ x,early[k]? = some x:=⟨early[k],List.getElem?_eq_getElem hlt⟩
   have hxr:=hr x (List.mem_of_getElem? hx)
   have q1 : (k : Int) < (early.length : Int):=by omega
   have q2 : (0 : Int) ≤ (k : Int):=by omega
   have q3:=at_is hx
   have q4 : inR .i64 ((k : Int) + 1) = true:=inR_of (by omega)
   have q5:=wrap_8 (show 0 ≤ x ∧ x ≤ 255 by omega)
   have b1 : (([vD (.int .u8 2),vD (.int .u8 number)] ++ (early.take k).map enc8).length + 1) * 1 ≤ 140737488355328:=by simp only [List.length_append,List.length_map,List.length_take,List.length_cons,List.length_nil]; omega
   have hnx : Next (fun m st => ∃ k,k ≤ early.length ∧ m = early.length - k ∧ st = byJ number early k) m (byJ number early (k + 1)):=⟨early.length - (k + 1),_,by omega,Le.refl _,k + 1,by omega,rfl,rfl⟩
   generalize (fun m st => ∃ k,k ≤ early.length ∧ m = early.length - k ∧ st = byJ number early k) = J at *
   unfold byJ at hnx ⊢
   rw [take_enc8 hx,← List.append_assoc] at hnx
   generalize ([vD (.int .u8 2),vD (.int .u8 number)] ++ (early.take k).map enc8) = E at *
   simp only [Int.natCast_add,Int.cast_ofNat_Int] at hnx ⊢
   refine wk (an8 @q1 @q2 @q3 @q4 @q5 @b1 @zmap @Int.toNat_natCast) ?_
   exact hnx
  ·have hin : k = early.length:=by omega
   subst hin
   have q1 : ¬ (early.length : Int) < (early.length : Int):=by omega
   generalize (fun m st => ∃ k,k ≤ early.length ∧ m = early.length - k ∧ st = byJ number early k) = J at *
   unfold byJ
   rw [List.take_length]
   generalize [vD (.int .u8 2),vD (.int .u8 number)] ++ early.map enc8 = E at *
   refine wk @q1 ?_
   refine cg0 [[sD 1 R]] ?_ ?_
   ·exact obl_cons o1 obl_nil
   refine wk0 ?_
   exact ValsLe.refl _
def suSt (l : List UInt8) (k : Nat) : St:=⟨[(0,sD 1 (l.map encB)),(3,vI (sumL (l.take k))),(6,vI l.length),(7,vI k)],[],[]⟩
theorem sum_step (l : List UInt8) (k : Nat) (h : k < l.length) : sumL (l.take (k + 1)) = (139 * sumL (l.take k) + ((l.getD k 0).toNat : Int) + 1) % 65521:=by
 rw [List.take_add_one,List.getElem?_eq_getElem h,Option.toList_some,sumL_snoc,List.getD_eq_getElem?_getD,List.getElem?_eq_getElem h]
 simp only [mth.step]
 rw [Int.mul_comm]
 rfl
theorem refSum_told (l : List UInt8) (hl : l.length ≤ 9223372036854775807) : Told Tryz.prog 97 [sD 1 (l.map encB)] [vI (sumL l)]:=by
 refine told_r1_Sum rfl ?_
 refine wk @zmap ?_
 refine aw_loop (fun m st => ∃ k,k ≤ l.length ∧ m = l.length - k ∧ st = suSt l k) l.length (suSt l 0) (Le.refl _) ⟨0,by omega,by omega,rfl⟩ ?_
 rintro m st ⟨k,hk,hm,rfl⟩
 by_cases hlt : k < l.length
 ·have q1 : (k : Int) < (l.length : Int):=by omega
  have q2 : (0 : Int) ≤ (k : Int):=by omega
  have q3:=at_bs hlt
  have q4 : inR .i64 ((k : Int) + 1) = true:=inR_of (by omega)
  have q5:=wrap_64 (u8_lt (l.getD k 0))
  have hs:=sumL_bd (l.take k)
  have hu:=u8_lt (l.getD k 0)
  have hst:=sum_step l k hlt
  have hnx : Next (fun m st => ∃ k,k ≤ l.length ∧ m = l.length - k ∧ st = suSt l k) m (suSt l (k + 1)):=⟨l.length - (k + 1),_,by omega,Le.refl _,k + 1,by omega,rfl,rfl⟩
  generalize (fun m st => ∃ k,k ≤ l.length ∧ m = l.length - k ∧ st = suSt l k) = J at *
  unfold suSt at hnx ⊢
  rw [hst] at hnx
  generalize sumL (l.take k) = s at *
  generalize ((l.getD k 0).toNat : Int) = u at *
  have r1 : inR .i64 (139 * s) = true:=inR_of (by omega)
  have r2 : inR .i64 (139 * s + u) = true:=inR_of (by omega)
  have r3 : inR .i64 (139 * s + u + 1) = true:=inR_of (by omega)
  have r4 : (139 * s + u + 1).tmod 65521 = (139 * s + u + 1) % 65521:=Int.tmod_eq_emod_of_nonneg (by omega)
  have r5 : (65521 : Int) ≠ 0:=by decide
  simp only [Int.natCast_add,Int.cast_ofNat_Int] at hnx ⊢
  refine wk (an12 @q1 @q2 @q3 @q4 @q5 @r1 @r2 @r3 @r4 @r5 @zmap @Int.toNat_natCast) ?_
  exact hnx
 ·have hin : k = l.length:=by omega
  subst hin
  have q1 : ¬ (l.length : Int) < (l.length : Int):=by omega
  generalize (fun m st => ∃ k,k ≤ l.length ∧ m = l.length - k ∧ st = suSt l k) = J at *
  unfold suSt
  rw [List.take_length]
  refine wk @q1 ?_
  exact ValsLe.refl _
theorem seal_enc (l : List UInt8) : (sealL l).map encB = l.map encB ++ [vD (.int .u8 (sumL l / 256)),vD (.int .u8 (sumL l % 256))]:=by
 have hb:=sumL_bd l
 unfold sealL
 rw [List.map_append]
 simp only [List.map_cons,List.map_nil]
 unfold encB
 rw [hiB_toNat hb,loB_toNat hb]
theorem refSeal_told (l : List UInt8) (hl : l.length ≤ 1048600) : Told Tryz.prog 77 [sD 1 (l.map encB)] [sD 1 ((sealL l).map encB)]:=by
 refine told_r1_Seal rfl ?_
 have o1:=refSum_told l (by omega)
 have hb:=sumL_bd l
 rw [seal_enc]
 generalize sumL l = s at *
 have r1 : s.tdiv 256 = s / 256:=Int.tdiv_eq_ediv_of_nonneg hb.1
 have r2 : s.tmod 256 = s % 256:=Int.tmod_eq_emod_of_nonneg hb.1
 have r3 : (256 : Int) ≠ 0:=by decide
 have r4 : inR .i64 (s / 256) = true:=inR_of (by omega)
 have r5:=wrap_8 (show 0 ≤ s / 256 ∧ s / 256 ≤ 255 by omega)
 have r6:=wrap_8 (show 0 ≤ s % 256 ∧ s % 256 ≤ 255 by omega)
 have b0 : l.length * 1 ≤ 140737488355328:=by omega
 have b1 : (0 + l.length) * 1 ≤ 140737488355328:=by omega
 have b2 : (l.length + 2) * 1 ≤ 140737488355328:=by omega
 have b3 : (0 + l.length + 2) * 1 ≤ 140737488355328:=by omega
 refine wk0 ?_
 refine cg0 [[vI s]] ?_ ?_
 ·exact obl_cons o1 obl_nil
 refine wk (an14 @r1 @r2 @r3 @r4 @r5 @r6 @b0 @b1 @b2 @b3 @zmap @zapp @zcons @znil) ?_
 exact ValsLe.refl _
theorem ba_list3 (a : List UInt8) : (⟨a.toArray⟩ : ByteArray).toList = a:=by
 rw [ByteArray.toList_eq]
theorem refOpen_told (xs : List UInt8) (hx : xs.length ≤ 1048600) : Told Tryz.prog 79 [sD 1 (xs.map encB)] [sD 1 ((openL xs).map encB),vB (okL xs)]:=by
 refine told_r1_Open rfl ?_
 by_cases h : xs.length < 2
 ·have hk : okL xs = false:=by unfold okL; rw [decide_eq_false (by omega)]; rfl
  have ho : openL xs = []:=by unfold openL; rw [hk]; rfl
  have g1 : (xs.length : Int) < 2:=by omega
  rw [hk,ho]
  refine wk (an2 @g1 @zmap) ?_
  repeat' (first | exact vals_nil | exact row_nil | exact es_nil | exact CVLe.refl _ | exact LfLe.refl _ | exact LfLe.nil _ | exact EsLe.refl _ | refine vals_cons ?_ ?_ | refine row_cons ?_ ?_ | refine es_cons ?_ ?_ | refine EsLe.app ?_ ?_ | refine CVLe.row ?_ | refine CVLe.leafV ?_ | refine CVLe.leafS ?_ | refine LfLe.s ?_)
 have g1 : ¬ (xs.length : Int) < 2:=by omega
 have g2 : inR .i64 ((xs.length : Int) - 2) = true:=inR_of (by omega)
 have g3 : (0 : Int) ≤ (xs.length : Int) - 2:=by omega
 have g4 : (xs.length : Int) - 2 ≤ (xs.length : Int):=by omega
 have g5 : ((xs.length : Int) - 2).toNat = xs.length - 2:=by omega
 have g6 : (xs.map encB).take (xs.length - 2) = (xs.take (xs.length - 2)).map encB:=List.map_take.symm
 have hok : okL xs = (sealL (xs.take (xs.length - 2)) == xs):=by unfold okL; rw [decide_eq_true (by omega)]; rfl
 have o1:=refSeal_told (xs.take (xs.length - 2)) (by rw [List.length_take]; omega)
 have z0 : (0 : Int) ≤ 0:=by decide
 have z1 : (0 : Int).toNat = 0:=rfl
 refine wk (an12 @g1 @g2 @g3 @g4 @g5 @g6 @z0 @z1 @zmap @zd0 @Int.le_refl @Int.natCast_zero) ?_
 unfold openL
 rw [hok]
 generalize xs.take (xs.length - 2) = ys at *
 cases hb : (sealL ys == xs) with
 | true =>
  generalize sealL ys = ss at *
  refine cd [[sD 1 (ss.map encB)]] (an4 @bytesOf_enc @ba_list3 @hb Bool.not_true) ?_ ?_
  ·exact obl_cons o1 obl_nil
  refine wk0 ?_
  exact ValsLe.refl _
 | false =>
  generalize sealL ys = ss at *
  refine cd [[sD 1 (ss.map encB)]] (an4 @bytesOf_enc @ba_list3 @hb Bool.not_false) ?_ ?_
  ·exact obl_cons o1 obl_nil
  refine wk0 ?_
  repeat' (first | exact vals_nil | exact row_nil | exact es_nil | exact CVLe.refl _ | exact LfLe.refl _ | exact LfLe.nil _ | exact EsLe.refl _ | refine vals_cons ?_ ?_ | refine row_cons ?_ ?_ | refine es_cons ?_ ?_ | refine EsLe.app ?_ ?_ | refine CVLe.row ?_ | refine CVLe.leafV ?_ | refine CVLe.leafS ?_ | refine LfLe.s ?_)
end Go.Proofs.YtgaofjiidedcbacGreat.ab
