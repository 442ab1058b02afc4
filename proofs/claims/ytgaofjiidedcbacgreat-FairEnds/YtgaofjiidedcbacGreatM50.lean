import Derived.Test.YtgaofjiidedcbacGreatM46
import Derived.Test.YtgaofjiidedcbacGreatM48
import Derived.Test.YtgaofjiidedcbacGreatM49
import Derived.Test.YtgaofjiidedcbacGreatM31
import Derived.Test.YtgaofjiidedcbacGreatM20
import Derived.Test.YtgaofjiidedcbacGreatM37
import Derived.Test.YtgaofjiidedcbacGreatProg
import Derived.Test.YtgaofjiidedcbacGreatM45
import Derived.Test.YtgaofjiidedcbacGreatM40
import Derived.Test.YtgaofjiidedcbacGreatM41
set_option maxHeartbeats 16000000
set_option linter.unusedVariables false
set_option linter.unusedSimpArgs false
namespace Go.Proofs.YtgaofjiidedcbacGreat.ab
open Go Go.RowKit
open mth
theorem come_none (l : Ln) (n : Int) (back : Bool) (hg : GoodL l) (hn : n < 0 ∨ ((wayP l back).length : Int) ≤ n) : Told Tryz.prog 37 [aD (encLn l),vI n,vB back] [aD (encLn l),vI 6]:=by
 refine told_lane_Come rfl ?_
 have h1:=ToldX.of (landL_own l hg)
 have h2:=way_toldP back
 have h3:=hasP_told (encPk (wayP l back)) n
 rw [no_has hn] at h3
 simp only [encLn] at h1 ⊢
 refine wk0 ?_
 refine ⟨3,_,_,[],[],_,[],⟨rfl,rfl,rfl,rfl,row_refl _,fun x hx => by cases hx⟩,rfl,h1,rfl,List.nodup_nil,?_⟩
 simp only [preP,preOff,flOf,List.map_nil,List.nil_append]
 refine wk0 ?_
 refine ⟨_,fun _ _ _ _ _ _ h => h,?_⟩
 cases back with
 | true =>
  simp only [wayP,if_true] at h2 h3
  refine cg0 [[mP 0 16]] ?_ ?_
  ·exact obl_adr h2 obl_nil
  refine wk0 ?_
  refine cg [[vB false]] Bool.not_false ?_ ?_
  ·exact obl_cons h3 obl_nil
  refine wk Bool.not_false ?_
  exact ValsLe.refl _
 | false =>
  simp only [wayP,Bool.false_eq_true,if_false] at h2 h3
  refine cg0 [[mP 0 15]] ?_ ?_
  ·exact obl_adr h2 obl_nil
  refine wk0 ?_
  refine cg [[vB false]] Bool.not_false ?_ ?_
  ·exact obl_cons h3 obl_nil
  refine wk Bool.not_false ?_
  exact ValsLe.refl _
theorem come_one (l : Ln) (n : Nat) (back : Bool) (hg : GoodL l) (x : List UInt8) (hx : (wayP l back)[n]? = some x) : Told Tryz.prog 37 [aD (encLn l),vI n,vB back] [aD (encLn (comeL l n back)),vI 0]:=by
 refine told_lane_Come rfl ?_
 have hn : n < (wayP l back).length:=(List.getElem?_eq_some_iff.1 hx).1
 have h2:=way_toldP back
 have hxl:=(hg.way back).2 x (List.mem_of_getElem? hx)
 have hwl:=(hg.way back).1
 have h5:=read_told x (by omega)
 have g4:=at_pk hx
 have k1 : inR .i64 ((n : Int) + 1) = true:=inR_of (by omega)
 have k2 : (0 : Int) ≤ (n : Int):=by omega
 have k3 : (n : Int) < (((wayP l back).length : Nat) : Int):=by omega
 have e0 : (wayP l back).getD n [] = x:=by rw [List.getD_eq_getElem?_getD,hx]; rfl
 have hr:=readC_right (xs:=x)
 unfold comeL
 simp only [e0]
 clear e0
 have h1:=landL_ownX l hg
 simp only [encLn,ownLn,rowsL] at h1 ⊢
 refine wk0 ?_
 refine ⟨3,_,_,[],[],_,_,⟨rfl,rfl,rfl,rfl,row_refl _,fun x hx => by cases hx⟩,rfl,h1,rfl,by show [15,16].Nodup; decide,?_⟩
 simp only [preP,preOff,flOf,List.map_cons,List.map_nil,List.cons_append,List.nil_append]
 refine wk0 ?_
 cases back with
 | true =>
  simp only [wayP,withP,if_true] at h2 hn hwl g4 k3 ⊢
  by_cases hE : readE x = 0
  ·have e1 : (readE x != 0) = false:=by rw [hE]; rfl
   have hc:=hr hE
   rw [if_pos hE]
   have h6:=land_hear l.s (readC x) hg.s hc
   generalize readC x = c at *
   generalize readE x = ev at *
   generalize hearS l.s (c) = q at *
   simp only [encCh,encSd] at h5 h6 ⊢
   have h3:=hasP_told (encPk l.back) n
   rw [yes_has hn] at h3
   have h4:=delete_toldP (encPk l.back) n (by rw [len_pk]; exact hn)
   rw [cut_pk] at h4
   refine ⟨_,fun b0 w0 I0 N a w hr => le_lane16 (b:=3) (by decide) (pk_ne hn) rfl b0 w0 I0 N a w hr,?_⟩
   refine cg [[mP 0 16]] @len_pk ?_ ?_
   ·exact obl_adr h2 obl_nil
   refine wk0 ?_
   refine cg [[vB true]] (an2 Bool.not_true @len_pk) ?_ ?_
   ·exact obl_cons h3 obl_nil
   refine wk (an2 Bool.not_true @len_pk) ?_
   refine cg [[aD (encCh c),vI ev]] (an6 @encCh.eq_1 @g4 @k2 @k3 @len_pk @Int.toNat_natCast) ?_ ?_
   ·exact obl_cons h5 obl_nil
   refine wk (an2 @k1 @len_pk) ?_
   refine cg [[sD 1 (encPk (cutP l.back n))]] (an2 @k1 @len_pk) ?_ ?_
   ·exact obl_updL h4 obl_nil
   refine wk @e1 ?_
   refine cg [[aD (encSd q)]] @encSd.eq_1 ?_ ?_
   ·exact obl_cons h6 obl_nil
   refine wk0 ?_
   exact ValsLe.refl _
  ·have e1 : (readE x != 0) = true:=by simpa using hE
   rw [if_neg hE]
   generalize readC x = c at *
   generalize readE x = ev at *
   simp only [encCh] at h5 ⊢
   have h3:=hasP_told (encPk l.back) n
   rw [yes_has hn] at h3
   have h4:=delete_toldP (encPk l.back) n (by rw [len_pk]; exact hn)
   rw [cut_pk] at h4
   refine ⟨_,fun b0 w0 I0 N a w hr => le_lane16 (b:=3) (by decide) (pk_ne hn) rfl b0 w0 I0 N a w hr,?_⟩
   refine cg [[mP 0 16]] @len_pk ?_ ?_
   ·exact obl_adr h2 obl_nil
   refine wk0 ?_
   refine cg [[vB true]] (an2 Bool.not_true @len_pk) ?_ ?_
   ·exact obl_cons h3 obl_nil
   refine wk (an2 Bool.not_true @len_pk) ?_
   refine cg [[aD (encCh c),vI ev]] (an6 @encCh.eq_1 @g4 @k2 @k3 @len_pk @Int.toNat_natCast) ?_ ?_
   ·exact obl_cons h5 obl_nil
   refine wk (an2 @k1 @len_pk) ?_
   refine cg [[sD 1 (encPk (cutP l.back n))]] (an2 @k1 @len_pk) ?_ ?_
   ·exact obl_updL h4 obl_nil
   refine wk @e1 ?_
   exact ValsLe.refl _
 | false =>
  simp only [wayP,withP,Bool.false_eq_true,if_false] at h2 hn hwl g4 k3 ⊢
  by_cases hE : readE x = 0
  ·have e1 : (readE x != 0) = false:=by rw [hE]; rfl
   have hc:=hr hE
   rw [if_pos hE]
   have h6:=landR_hear l.r (readC x) hg.r hc
   generalize readC x = c at *
   generalize readE x = ev at *
   generalize hearR l.r (c) = q at *
   simp only [encCh,encRv] at h5 h6 ⊢
   have h3:=hasP_told (encPk l.there) n
   rw [yes_has hn] at h3
   have h4:=delete_toldP (encPk l.there) n (by rw [len_pk]; exact hn)
   rw [cut_pk] at h4
   refine ⟨_,fun b0 w0 I0 N a w hr => le_lane15 (b:=3) (by decide) (pk_ne hn) rfl b0 w0 I0 N a w hr,?_⟩
   refine cg [[mP 0 15]] @len_pk ?_ ?_
   ·exact obl_adr h2 obl_nil
   refine wk0 ?_
   refine cg [[vB true]] (an2 Bool.not_true @len_pk) ?_ ?_
   ·exact obl_cons h3 obl_nil
   refine wk (an2 Bool.not_true @len_pk) ?_
   refine cg [[aD (encCh c),vI ev]] (an6 @encCh.eq_1 @g4 @k2 @k3 @len_pk @Int.toNat_natCast) ?_ ?_
   ·exact obl_cons h5 obl_nil
   refine wk (an2 @k1 @len_pk) ?_
   refine cg [[sD 1 (encPk (cutP l.there n))]] (an2 @k1 @len_pk) ?_ ?_
   ·exact obl_updL h4 obl_nil
   refine wk @e1 ?_
   refine cg [[aD (encRv q)]] @encRv.eq_1 ?_ ?_
   ·exact obl_cons h6 obl_nil
   refine wk0 ?_
   exact ValsLe.refl _
  ·have e1 : (readE x != 0) = true:=by simpa using hE
   rw [if_neg hE]
   generalize readC x = c at *
   generalize readE x = ev at *
   simp only [encCh] at h5 ⊢
   have h3:=hasP_told (encPk l.there) n
   rw [yes_has hn] at h3
   have h4:=delete_toldP (encPk l.there) n (by rw [len_pk]; exact hn)
   rw [cut_pk] at h4
   refine ⟨_,fun b0 w0 I0 N a w hr => le_lane15 (b:=3) (by decide) (pk_ne hn) rfl b0 w0 I0 N a w hr,?_⟩
   refine cg [[mP 0 15]] @len_pk ?_ ?_
   ·exact obl_adr h2 obl_nil
   refine wk0 ?_
   refine cg [[vB true]] (an2 Bool.not_true @len_pk) ?_ ?_
   ·exact obl_cons h3 obl_nil
   refine wk (an2 Bool.not_true @len_pk) ?_
   refine cg [[aD (encCh c),vI ev]] (an6 @encCh.eq_1 @g4 @k2 @k3 @len_pk @Int.toNat_natCast) ?_ ?_
   ·exact obl_cons h5 obl_nil
   refine wk (an2 @k1 @len_pk) ?_
   refine cg [[sD 1 (encPk (cutP l.there n))]] (an2 @k1 @len_pk) ?_ ?_
   ·exact obl_updL h4 obl_nil
   refine wk @e1 ?_
   exact ValsLe.refl _
theorem landL_come : CLStep 37 3:=by
 intro l n back hg
 unfold packetL
 by_cases hn : n < 0 ∨ ((wayP l back).length : Int) ≤ n
 ·rw [if_pos hn]
  exact come_none l n back hg hn
 ·rw [if_neg hn,if_neg (by decide),if_neg (by decide),if_neg (by decide)]
  obtain ⟨m,rfl⟩ : ∃ m : Nat,n = m:=⟨n.toNat,by omega⟩
  obtain ⟨x,hx⟩ : ∃ x,(wayP l back)[m]? = some x:=⟨_,List.getElem?_eq_getElem (by omega)⟩
  rw [Int.toNat_natCast]
  exact come_one l m back hg x hx
set_option maxRecDepth 100000
def Q21r0 : IC:=cReg Tryz.prog [xX 4 0,⟨some 8,none,iAlo 8 [zS,zI,zI,zI,zI,zS,zI,zI,zS,zI,zI,zI,zS,zS,zF,zS,zS]⟩,⟨some 9,none,iMov 9 (.const (.int .i64 0)) true⟩] [1,2,3,4,8] [4,8]
def Q21r1_0 : IC:=cXd Tryz.prog 4 11 12 36 17
def Q21r1_1 : IC:=cReg Tryz.prog [] [1,2,3,4,8] [4,8,100002,100001]
def Q21r1 : IC:=(cSeq Q21r1_0 Q21r1_1)
def Q21r2 : IC:=cReg Tryz.prog [xM 13 3,⟨some 14,none,iCallP 14 63 [(.tmp 4),(.tmp 13)]⟩,⟨some 15,none,iNck 15 (.tmp 14)⟩,xL 16 1 15,xT 10 16] [1,2,4,8,10] [4,8,100002,100001]
def Q21r3 : IC:=cReg Tryz.prog [xM 17 10,xM 18 1,⟨some 19,none,iCallL 19 64 [(.tmp 17),(.tmp 18)]⟩,xO 20 19] [1,2,4,8,10,20] [4,8,100002,100001]
def Q21r4 : IC:=cReg Tryz.prog [xA 21 17 4,xS 17 8 21,⟨some 9,none,iMov 9 (.const (.int .i64 6)) true⟩] [8,9] [8]
def Q21c1a : IC:=(cSeq Q21r4 cRet)
def Q21c1 : IC:=cCond (.tmp 20) Q21c1a cSkip
def Q21r5 : IC:=cReg Tryz.prog [xM 22 10,xM 23 1,xI 24 1 22 23,xL 25 1 24,xM 26 2,⟨some 27,none,iCallL 27 76 [(.tmp 25),(.tmp 26)]⟩,xO 28 27] [1,2,4,8,10,28] [4,8,100002,100001]
def Q21r6 : IC:=cReg Tryz.prog [xA 29 17 4,xS 17 8 29,⟨some 9,none,iMov 9 (.const (.int .i64 3)) true⟩] [8,9] [8]
def Q21c2a : IC:=(cSeq Q21r6 cRet)
def Q21c2 : IC:=cCond (.tmp 28) Q21c2a cSkip
def Q21r7 : IC:=cReg Tryz.prog [xM 30 10,xM 31 1,xI 32 1 30 31,xL 33 1 32,xM 34 2,xI 35 1 33 34,xL 36 1 35,⟨some 37,none,iXor 37 (.tmp 36) (.const (.int .u8 1))⟩,xI 38 1 33 34,xS 1 38 37] [4,8] [4,8]
def Q21r8 : IC:=cReg Tryz.prog [xA 39 17 4,xS 17 8 39,⟨some 9,none,iMov 9 (.const (.int .i64 0)) true⟩] [8,9] [8]
def lane_Spoil : IC:=(cSeq Q21r0 (cSeq Q21r1 (cSeq Q21r2 (cSeq (cSeq Q21r3 Q21c1) (cSeq (cSeq Q21r5 Q21c2) (cSeq Q21r7 (cSeq Q21r8 cRet)))))))
theorem told_lane_Spoil {args r : List D} (hl : args.length = 4) (h : lane_Spoil (start args) (fin [(8,some (17,true)),(9,none)] r)) : Told Tryz.prog 47 args r :=
 told_of follows Tryz.func47 rfl (an:=[([],[1,2,3,4,8],[4,8],[]),([(13003,[],[])],[1,2,3,4,8],[4,8,100002,100001],[]),([],[1,2,4,8,10],[4,8,100002,100001],[2000014]),([],[1,2,4,8,10,20],[4,8,100002,100001],[19]),([],[8,9],[8],[]),([],[1,2,4,8,10,28],[4,8,100002,100001],[27]),([],[8,9],[8],[]),([],[4,8],[4,8],[]),([],[8,9],[8],[])]) (by kernel_rfl) (by kernel_rfl) (by rw [hl]; decide +kernel) h
set_option maxRecDepth 10000
open leaf
theorem deep_in {w : World} {base k : Nat} {u : Value} {xs : List Value} {p : List (List UInt8)} (h : Deep w base u k xs p) (hk : k ≤ p.length) : ∀ x ∈ xs,∀ g,x.ownBlock = some g → base ≤ g ∧ g < w.heap.size ∧ u.ownBlock ≠ some g:=fun x hx g hg => by
 obtain ⟨j,hj,rfl⟩:=List.mem_iff_getElem.1 hx
 have hjk : j < k:=by have:=h.own.1; omega
 obtain ⟨x',q1,q2⟩:=h.el j p[j] hjk (List.getElem?_eq_getElem (by omega))
 rw [List.getElem?_eq_getElem hj] at q1; cases q1
 exact ⟨(q2.lt g hg).1,(q2.lt g hg).2,owns_type h.own q2 (by decide) hg⟩
theorem deep_rep {I : Still} {w : World} {base : Nat} {u : Value} {xs : List Value} {p : List (List UInt8)} (h : Deep w base u p.length xs p) (hI : ∀ x ∈ xs,∀ g j,x.ownBlock = some g → I g j) (hu : ∀ g j,u.ownBlock = some g → I g j) : CRep I w (sD 1 (encPk p)) u:=by
 have h1:=deep_own (I:=fun g _ => ∃ x ∈ xs,x.ownBlock = some g) (L:=fun _ => False) h (fun x hx g j hg => ⟨x,hx,hg⟩) (fun g j hg ⟨x,hx,hg'⟩ => (deep_in h (Nat.le_refl _) x hx g hg').2.2 hg) (fun _ _ q => q)
 exact own_rep h1 (fun b j ⟨x,hx,hg⟩ => hI x hx b j hg) (fun g j hg => hu g j hg)
theorem deep_pick {I : Still} {w : World} {base n : Nat} {u : Value} {xs : List Value} {p : List (List UInt8)} {x : List UInt8} (h : Deep w base u p.length xs p) (hx : p[n]? = some x) (hne : x ≠ []) (hI : ∀ j y,j ≠ n → xs[j]? = some y → ∀ g i,y.ownBlock = some g → I g i) :
  ∃ g cap g' cap' cur cur' y,u = .slice (some ⟨g,0,none⟩) p.length cap ∧ (p.length ≤ cap ∧ cap ≤ maxLen) ∧ w.heap[g]? = some (.cells cur 41 (0,0)) ∧ ElemsAt I w 1 ((encPk p).set n xD) cur.toList ∧ cur.toList[n]? = some (.slice (some ⟨g',0,none⟩) x.length cap') ∧ (x.length ≤ cap' ∧ cap' ≤ maxLen) ∧
   w.heap[g']? = some (.cells cur' 5 (0,0)) ∧ ElemsAt I w 1 (x.map encB) cur'.toList ∧ (base ≤ g ∧ base ≤ g') ∧ xs[n]? = some y ∧ y.ownBlock = some g' ∧ u.ownBlock = some g:=by
 have hn : n < p.length:=(List.getElem?_eq_some_iff.1 hx).1
 have hlen : xs.length = p.length:=by have:=h.own.1; omega
 obtain ⟨y,y1,y2⟩:=h.el n x hn hx
 obtain ⟨_,⟨_,e0⟩ | ⟨g,cap,cur,e1,e2,e3,e4,e5,e6,e7⟩⟩:=h.own
 ·omega
 obtain ⟨k1,⟨_,k0⟩ | ⟨g',cap',cur',k2,k3,k4,k5,k6,k7,k8⟩⟩:=y2
 ·exact absurd (List.eq_nil_of_length_eq_zero k0) hne
 rw [Nat.mul_one] at e6 e7 k7 k8
 have hcur : ∀ j,j < p.length → cur.toList[j]? = xs[j]?:=fun j hj => by rw [← e7,List.getElem?_take,if_pos hj]
 refine ⟨g,cap,g',cap',cur,cur',y,e1,⟨e4,e5⟩,e3,⟨fun e he => ?_,?_,fun i j e l he hl => ?_⟩,by rw [hcur n hn,y1,k2],⟨k5,k6⟩,k4,⟨fun e he => ?_,?_,fun i j e l he hl => ?_⟩,⟨e2,k3⟩,y1,by rw [k2]; rfl,by rw [e1]; rfl⟩
 ·rcases List.mem_or_eq_of_mem_set he with q | rfl
  ·obtain ⟨b,_,rfl⟩:=List.mem_map.1 q; rfl
  ·rfl
 ·rw [List.length_set,len_pk,Nat.mul_one]; have h9 : cur.toList.length = cur.size:=Array.length_toList ..; omega
 ·have hi : i < p.length:=by have:=(List.getElem?_eq_some_iff.1 he).1; rw [List.length_set,len_pk] at this; exact this
  by_cases hin : i = n
  ·subst hin
   rw [List.getElem?_set_self (by rw [len_pk]; exact hi)] at he
   cases he
   have hj : j = 0:=by have:=(List.getElem?_eq_some_iff.1 hl).1; simp [cellsD] at this; omega
   subst hj
   simp [cellsD] at hl
   subst hl
   exact ⟨y,by rw [Nat.mul_one,Nat.add_zero,hcur i hi,y1],CRep.x (by rw [k2]; rfl)⟩
  ·rw [List.getElem?_set_ne (fun q => hin q.symm)] at he
   unfold encPk at he
   rw [List.getElem?_map] at he
   obtain ⟨b,hb,rfl⟩:=Option.map_eq_some_iff.1 he
   have hj : j = 0:=by have:=(List.getElem?_eq_some_iff.1 hl).1; simp [cellsD] at this; omega
   subst hj
   simp [cellsD] at hl
   subst hl
   obtain ⟨z,q1,q2⟩:=h.el i b hi hb
   exact ⟨z,by rw [Nat.mul_one,Nat.add_zero,hcur i hi]; exact q1,rep_one q2 (fun g j hg => hI i z hin q1 g j hg)⟩
 ·obtain ⟨b,_,rfl⟩:=List.mem_map.1 he; rfl
 ·rw [List.length_map,Nat.mul_one]; have h9 : cur'.toList.length = cur'.size:=Array.length_toList ..; omega
 ·rw [List.getElem?_map] at he
  obtain ⟨b,hb,rfl⟩:=Option.map_eq_some_iff.1 he
  have hi : i < x.length:=(List.getElem?_eq_some_iff.1 hb).1
  have hj : j = 0:=by have:=(List.getElem?_eq_some_iff.1 hl).1; simp [cellsD,encB] at this; omega
  subst hj
  simp [cellsD,encB] at hl
  subst hl
  refine ⟨.int .u8 (b.toNat : Int),?_,CRep.v rfl⟩
  rw [Nat.mul_one,Nat.add_zero]
  have : (cur'.toList.take x.length)[i]? = (x.map B)[i]?:=by rw [k8]
  rw [List.getElem?_take,if_pos hi,List.getElem?_map,hb] at this
  exact this
def dLn (l : Ln) (back : Bool) : List D :=
 [sD 2 (encMl l.s.queue),vI l.s.next,vI l.s.p0,vI l.s.p1,vI l.s.p2,sD 6 (encCl l.s.flight),vI l.s.turn,vI l.r.next,sD 1 (l.r.early.map vI),vI l.r.p0,vI l.r.p1,vI l.r.p2,sD 6 (encCl l.r.hold),sD 2 (encMl l.r.told),vB l.r.owes,(if back = true then sD 1 (encPk l.there) else xD),(if back = true then xD else sD 1 (encPk l.back))]
theorem landL_ownD (l : Ln) (hg : GoodL l) (back : Bool) (n : Nat) (x : List UInt8) (hx : (wayP l back)[n]? = some x) (hne : x ≠ []) : ToldD Tryz.prog 36 [aD (encLn l)] (dLn l back) (if back = true then 16 else 15) ((encPk (wayP l back)).set n xD) n (x.map encB):=by
 intro w I vs hv hlt
 obtain ⟨v1,rfl⟩ : ∃ v1,vs = [v1]:=by
  match vs,hv.1 with
  | [v1],_ => exact ⟨v1,rfl⟩
  | [],q => simp at q
  | _ :: _ :: _,q => simp at q
 obtain ⟨us,rfl,hrow⟩:=CVRep.agg (hv.2 0 _ _ rfl rfl)
 obtain ⟨a0,a1,a2,a3,a4,a5,a6,a7,a8,a9,a10,a11,a12,a13,a14,a15,a16,rfl⟩:=list17 (by rw [← hrow.1]; rfl)
 refine (laneOwn_walk l hg a0 a1 a2 a3 a4 a5 a6 a7 a8 a9 a10 a11 a12 a13 a14 a15 a16 w I hrow hlt).mono fun e w' ⟨s,r,u,v,xs,ys,top,mid,he,hs,hr,h1,h2,h3,hR,hD,hU,hE,hb⟩ => ?_
 have hUe:=deep_under hE (Nat.le_refl _)
 have hsr : (s ++ r).length = 15:=by simp [hs,hr]
 have e15 : (s ++ r ++ [u,v])[15]? = some u:=by rw [List.getElem?_append_right (by omega),hsr]; rfl
 have e16 : (s ++ r ++ [u,v])[16]? = some v:=by rw [List.getElem?_append_right (by omega),hsr]; rfl
 have hc : ∀ b j,I b j → w'.cell? ⟨b,j,none⟩ = w.cell? ⟨b,j,none⟩:=fun b j hi => hb.cell (p:=⟨b,j,none⟩) (hlt b j hi)
 have hn : n < (wayP l back).length:=(List.getElem?_eq_some_iff.1 hx).1
 have hset : ((encPk (wayP l back)).set n xD)[n]? = some xD:=List.getElem?_set_self (by rw [len_pk]; exact hn)
 have hsl : ((encPk (wayP l back)).set n xD).length = (wayP l back).length:=by rw [List.length_set,len_pk]
 have hxl : (x.map encB).length = x.length:=List.length_map ..
 cases back with
 | true =>
  simp only [wayP,if_true] at hx hn hset hsl ⊢
  let I' : Still:=fun b j => I b j ∨ (w.heap.size ≤ b ∧ b < top) ∨ (u.ownBlock = some b ∨ ∃ z ∈ xs,z.ownBlock = some b) ∨ ∃ k z,k ≠ n ∧ ys[k]? = some z ∧ z.ownBlock = some b
  obtain ⟨g,cap,g',cap',cur,cur',y,d1,d2,d3,d4,d5,d6,d7,d8,⟨d9,d10⟩,d11,d12,d13⟩:=deep_pick (I:=I') hE hx hne (fun j z hj hz g i hg' => .inr (.inr (.inr ⟨j,z,hj,hz,hg'⟩)))
  have hlow : ∀ b j,(I b j ∨ (w.heap.size ≤ b ∧ b < top) ∨ (u.ownBlock = some b ∨ ∃ z ∈ xs,z.ownBlock = some b)) → b < mid:=fun b j hi => by
   rcases hi with hi | hi | hi | ⟨z,hz,hi⟩
   ·have:=hlt b j hi; omega
   ·omega
   ·exact hU.1 b hi
   ·exact hU.2 z hz b hi
  refine ⟨_,I',g,cap,g',cap',cur,cur',_,_,he,fun b j hi => ⟨.inl hi,hc b j hi⟩,fun b j hi => ?_,?_,by rw [hsl,e16,d1],by rw [hsl]; exact d2,d3,d4,hset,by rw [hxl]; exact d5,by rw [hxl]; exact d6,d7,d8,fun j hi => ?_,fun j hi => ?_,?_,by omega,by omega,hb⟩
  ·rcases hi with hi | hi | hi | ⟨k,z,hk,hz,hi⟩
   ·exact .inl hi
   ·exact .inr ⟨hi.1,by omega⟩
   ·rcases hi with hi | ⟨z,hz,hi⟩
    ·have:=(hD.own.lt b hi); exact .inr ⟨by omega,this.2⟩
    ·have:=deep_in hD (Nat.le_refl _) z hz b hi; exact .inr ⟨by omega,this.2.1⟩
   ·have:=deep_in hE (Nat.le_refl _) z (List.mem_of_getElem? hz) b hi; exact .inr ⟨by omega,this.2.1⟩
  ·have h5 : Row I' w' (encSd l.s ++ encRv l.r) (s ++ r):=hR.keep (fun b j hi => hi.imp id .inl) (fun _ _ _ => rfl)
   have h6 : Row I' w' [sD 1 (encPk l.there),xD] [u,v]:=(Row.single (deep_rep hD (fun z hz g j hg' => .inr (.inr (.inl (.inr ⟨z,hz,hg'⟩)))) (fun g j hg' => .inr (.inr (.inl (.inl hg')))))).app (Row.single (CRep.x (by rw [d1]; rfl)))
   exact h5.app h6
  ·rcases hi with hi | hi | hi | ⟨k,z,hk,hz,hi⟩
   ·have:=hlow g j (.inl hi); omega
   ·have:=hlow g j (.inr (.inl hi)); omega
   ·have:=hlow g j (.inr (.inr hi)); omega
   ·exact (deep_in hE (Nat.le_refl _) z (List.mem_of_getElem? hz) g hi).2.2 d13
  ·rcases hi with hi | hi | hi | ⟨k,z,hk,hz,hi⟩
   ·have:=hlow g' j (.inl hi); omega
   ·have:=hlow g' j (.inr (.inl hi)); omega
   ·have:=hlow g' j (.inr (.inr hi)); omega
   ·exact hk (hE.apart k n z y g' hz d11 hi d12)
  ·intro q; subst q
   exact (deep_in hE (Nat.le_refl _) y (List.mem_of_getElem? d11) g d12).2.2 d13
 | false =>
  simp only [wayP,Bool.false_eq_true,if_false] at hx hn hset hsl ⊢
  let I' : Still:=fun b j => I b j ∨ (w.heap.size ≤ b ∧ b < top) ∨ (v.ownBlock = some b ∨ ∃ z ∈ ys,z.ownBlock = some b) ∨ ∃ k z,k ≠ n ∧ xs[k]? = some z ∧ z.ownBlock = some b
  obtain ⟨g,cap,g',cap',cur,cur',y,d1,d2,d3,d4,d5,d6,d7,d8,⟨d9,d10⟩,d11,d12,d13⟩:=deep_pick (I:=I') hD hx hne (fun j z hj hz g i hg' => .inr (.inr (.inr ⟨j,z,hj,hz,hg'⟩)))
  have hgm:=hU.1 g d13
  have hgm':=hU.2 y (List.mem_of_getElem? d11) g' d12
  have hlow : ∀ b j,(I b j ∨ (w.heap.size ≤ b ∧ b < top) ∨ (v.ownBlock = some b ∨ ∃ z ∈ ys,z.ownBlock = some b)) → b < top ∨ mid ≤ b:=fun b j hi => by
   rcases hi with hi | hi | hi | ⟨z,hz,hi⟩
   ·have:=hlt b j hi; omega
   ·omega
   ·exact .inr (hE.own.lt b hi).1
   ·exact .inr (deep_in hE (Nat.le_refl _) z hz b hi).1
  refine ⟨_,I',g,cap,g',cap',cur,cur',_,_,he,fun b j hi => ⟨.inl hi,hc b j hi⟩,fun b j hi => ?_,?_,by rw [hsl,e15,d1],by rw [hsl]; exact d2,d3,d4,hset,by rw [hxl]; exact d5,by rw [hxl]; exact d6,d7,d8,fun j hi => ?_,fun j hi => ?_,?_,by omega,by omega,hb⟩
  ·rcases hi with hi | hi | hi | ⟨k,z,hk,hz,hi⟩
   ·exact .inl hi
   ·exact .inr ⟨hi.1,by omega⟩
   ·rcases hi with hi | ⟨z,hz,hi⟩
    ·have:=(hE.own.lt b hi); exact .inr ⟨by omega,this.2⟩
    ·have:=deep_in hE (Nat.le_refl _) z hz b hi; exact .inr ⟨by omega,this.2.1⟩
   ·have:=deep_in hD (Nat.le_refl _) z (List.mem_of_getElem? hz) b hi; exact .inr ⟨by omega,this.2.1⟩
  ·have h5 : Row I' w' (encSd l.s ++ encRv l.r) (s ++ r):=hR.keep (fun b j hi => hi.imp id .inl) (fun _ _ _ => rfl)
   have h6 : Row I' w' [xD,sD 1 (encPk l.back)] [u,v]:=(Row.single (CRep.x (by rw [d1]; rfl))).app (Row.single (deep_rep hE (fun z hz g j hg' => .inr (.inr (.inl (.inr ⟨z,hz,hg'⟩)))) (fun g j hg' => .inr (.inr (.inl (.inl hg'))))))
   exact h5.app h6
  ·rcases hi with hi | hi | hi | ⟨k,z,hk,hz,hi⟩
   ·have:=hlow g j (.inl hi); omega
   ·have:=hlow g j (.inr (.inl hi)); omega
   ·have:=hlow g j (.inr (.inr hi)); omega
   ·exact (deep_in hD (Nat.le_refl _) z (List.mem_of_getElem? hz) g hi).2.2 d13
  ·rcases hi with hi | hi | hi | ⟨k,z,hk,hz,hi⟩
   ·have:=hlow g' j (.inl hi); omega
   ·have:=hlow g' j (.inr (.inl hi)); omega
   ·have:=hlow g' j (.inr (.inr hi)); omega
   ·exact hk (hD.apart k n z y g' hz d11 hi d12)
  ·intro q; subst q
   exact (deep_in hD (Nat.le_refl _) y (List.mem_of_getElem? d11) g d12).2.2 d13
theorem turn_even {b : UInt8} (h : b.toNat % 2 = 0) : (turnB b).toNat = b.toNat + 1:=by
 have hb : b.toNat < 256:=b.toNat_lt
 unfold turnB
 rw [if_pos (by unfold i8; omega)]
 unfold i8 b8
 rw [show ((b.toNat : Int) + 1) = ((b.toNat + 1 : Nat) : Int) by omega]
 simp [UInt8.toNat_ofNat']; omega
theorem turn_odd {b : UInt8} (h : ¬ b.toNat % 2 = 0) : ((turnB b).toNat : Int) = (b.toNat : Int) - 1:=by
 have hb : b.toNat < 256:=b.toNat_lt
 unfold turnB
 rw [if_neg (by unfold i8; omega)]
 unfold i8 b8
 rw [show ((b.toNat : Int) - 1) = ((b.toNat - 1 : Nat) : Int) by omega]
 simp [UInt8.toNat_ofNat']; omega
theorem enc_spoil {p : List (List UInt8)} {n k : Nat} {x : List UInt8} {b : UInt8} (hx : p[n]? = some x) (hb : x[k]? = some b) : encPk (spoilP p n k) = (encPk p).set n (sD 1 ((x.map encB).set k (encB (turnB b)))):=by
 have e0 : p.getD n [] = x:=by rw [List.getD_eq_getElem?_getD,hx]; rfl
 have e1 : x.getD k 0 = b:=by rw [List.getD_eq_getElem?_getD,hb]; rfl
 unfold spoilP
 rw [e0,e1]
 simp [encPk,List.map_set]
theorem packet_spoil : CSpoilR 34:=by
 intro l n k back x hg hx hk
 refine told_r6_Packet rfl ?_
 obtain ⟨w1,w2⟩:=hg.way back
 have hlt : n < (wayP l back).length:=(List.getElem?_eq_some_iff.1 hx).1
 have hxl:=w2 x (List.mem_of_getElem? hx)
 obtain ⟨b,hb⟩ : ∃ b,x[k]? = some b:=⟨_,List.getElem?_eq_getElem hk⟩
 have h1:=wayP_told l back
 have h3:=withP_told l back (spoilP (wayP l back) n k)
 have he:=enc_spoil hx hb
 generalize hl' : withP l back (spoilP (wayP l back) n k) = l' at *
 clear hl'
 generalize spoilP (wayP l back) n k = q at *
 generalize wayP l back = p at *
 have hbl : b.toNat < 256:=b.toNat_lt
 have g0 : ¬ (n : Int) < 0:=by omega
 have g1 : ¬ (p.length : Int) ≤ (n : Int):=by omega
 have g2 : (0 : Int) ≤ (n : Int):=by omega
 have g3 : (n : Int) < (p.length : Int):=by omega
 have g4:=at_pk hx
 have hEl:=len_pk p
 have k0 : ¬ (k : Int) < 0:=by omega
 have k1 : ¬ (x.length : Int) ≤ (k : Int):=by omega
 have k2 : (0 : Int) ≤ (k : Int):=by omega
 have k3 : (k : Int) < (x.length : Int):=by omega
 have k4 : (x.map encB)[k]? = some (vD (.int .u8 (b.toNat : Int))):=by rw [List.getElem?_map,hb]; rfl
 have k5 : 0 < p.length:=by omega
 have k6 : 0 < x.length:=by omega
 have k7 : p.length * 24 ≤ 140737488355328:=by omega
 have k8 : x.length * 1 ≤ 140737488355328:=by omega
 have k9 : (2 : Int) ≠ 0:=by decide
 have k10 : (b.toNat : Int).tmod 2 = ((b.toNat % 2 : Nat) : Int):=by rw [Int.tmod_eq_emod_of_nonneg (by omega)]; omega
 by_cases hev : b.toNat % 2 = 0
 ·have e1 : (((b.toNat % 2 : Nat) : Int) == 0) = true:=by simp; omega
  have e2 : inR .u8 ((b.toNat : Int) + 1) = true:=inR_u8.2 (by omega)
  have e3 : encB (turnB b) = vD (.int .u8 ((b.toNat : Int) + 1)):=by unfold encB; rw [turn_even hev]; rfl
  rw [e3] at he
  rw [he] at h3
  generalize encPk p = E at *
  simp only [encLn] at h1 h3 ⊢
  refine wk0 ?_
  refine cg0 [[sD 1 E]] ?_ ?_
  ·exact obl_cons h1 obl_nil
  refine wk (an23 @g0 @g1 @g2 @g3 @g4 @hEl @k0 @k1 @k2 @k3 @k4 @k5 @k6 @k7 @k8 @k9 @k10 @e1 @e2 @zmap @zset @zss @Int.toNat_natCast) ?_
  refine cg [[aD (encLn l')]] @encLn.eq_1 ?_ ?_
  ·exact obl_cons h3 obl_nil
  refine wk0 ?_
  exact ValsLe.refl _
 ·have e1 : (((b.toNat % 2 : Nat) : Int) == 0) = false:=by simp; omega
  have e2 : inR .u8 ((b.toNat : Int) - 1) = true:=inR_u8.2 (by omega)
  have e3 : encB (turnB b) = vD (.int .u8 ((b.toNat : Int) - 1)):=by unfold encB; rw [turn_odd hev]
  rw [e3] at he
  rw [he] at h3
  generalize encPk p = E at *
  simp only [encLn] at h1 h3 ⊢
  refine wk0 ?_
  refine cg0 [[sD 1 E]] ?_ ?_
  ·exact obl_cons h1 obl_nil
  refine wk (an23 @g0 @g1 @g2 @g3 @g4 @hEl @k0 @k1 @k2 @k3 @k4 @k5 @k6 @k7 @k8 @k9 @k10 @e1 @e2 @zmap @zset @zss @Int.toNat_natCast) ?_
  refine cg [[aD (encLn l')]] @encLn.eq_1 ?_ ?_
  ·exact obl_cons h3 obl_nil
  refine wk0 ?_
  exact ValsLe.refl _
theorem xor_one : ∀ n : Nat,n < 256 → n ^^^ 1 = if n % 2 = 0 then n + 1 else n - 1:=by decide +kernel
theorem xor_turn (b : UInt8) : ((b.toNat ^^^ 1 : Nat) : Int) = ((turnB b).toNat : Int):=by
 have hb : b.toNat < 256:=b.toNat_lt
 rw [xor_one b.toNat hb]
 by_cases h : b.toNat % 2 = 0
 ·rw [if_pos h,turn_even h]
 ·rw [if_neg h,turn_odd h]; omega
theorem spoil_none (l : Ln) (n k : Int) (back : Bool) (hg : GoodL l) (hn : n < 0 ∨ ((wayP l back).length : Int) ≤ n) : Told Tryz.prog 47 [aD (encLn l),vI n,vI k,vB back] [aD (encLn l),vI 6]:=by
 refine told_lane_Spoil rfl ?_
 have h1:=ToldX.of (landL_own l hg)
 have h2:=way_toldP back
 have h3:=hasP_told (encPk (wayP l back)) n
 rw [no_has hn] at h3
 simp only [encLn] at h1 ⊢
 refine wk0 ?_
 refine .inl ⟨4,_,_,[],[],_,[],⟨rfl,rfl,rfl,rfl,row_refl _,fun x hx => by cases hx⟩,rfl,h1,rfl,List.nodup_nil,?_⟩
 simp only [preP,preOff,flOf,List.map_nil,List.nil_append]
 refine wk0 ?_
 cases back with
 | true =>
  simp only [wayP,if_true] at h2 h3
  refine cg0 [[mP 0 16]] ?_ ?_
  ·exact obl_adr h2 obl_nil
  refine wk0 ?_
  refine cg [[vB false]] Bool.not_false ?_ ?_
  ·exact obl_cons h3 obl_nil
  refine wk Bool.not_false ?_
  exact ValsLe.refl _
 | false =>
  simp only [wayP,Bool.false_eq_true,if_false] at h2 h3
  refine cg0 [[mP 0 15]] ?_ ?_
  ·exact obl_adr h2 obl_nil
  refine wk0 ?_
  refine cg [[vB false]] Bool.not_false ?_ ?_
  ·exact obl_cons h3 obl_nil
  refine wk Bool.not_false ?_
  exact ValsLe.refl _
theorem no_hasB {x : List UInt8} {k : Int} (h : k < 0 ∨ (x.length : Int) ≤ k) : decide (0 ≤ k ∧ k < ((x.map encB).length : Int)) = false:=by
 rw [List.length_map]; exact decide_eq_false (by omega)
theorem yes_hasB {x : List UInt8} {k : Nat} (h : k < x.length) : decide (0 ≤ (k : Int) ∧ (k : Int) < ((x.map encB).length : Int)) = true:=by
 rw [List.length_map]; exact decide_eq_true (by omega)
theorem spoil_range (l : Ln) (n : Nat) (k : Int) (back : Bool) (hg : GoodL l) (x : List UInt8) (hx : (wayP l back)[n]? = some x) (hk : k < 0 ∨ (x.length : Int) ≤ k) : Told Tryz.prog 47 [aD (encLn l),vI n,vI k,vB back] [aD (encLn l),vI 3]:=by
 refine told_lane_Spoil rfl ?_
 have hn : n < (wayP l back).length:=(List.getElem?_eq_some_iff.1 hx).1
 have h1:=ToldX.of (landL_own l hg)
 have h2:=way_toldP back
 have h3:=hasP_told (encPk (wayP l back)) n
 rw [yes_has hn] at h3
 have h4:=hasB_told (x.map encB) k
 rw [no_hasB hk] at h4
 have g4:=at_pk hx
 have k2 : (0 : Int) ≤ (n : Int):=by omega
 have k3 : (n : Int) < (((wayP l back).length : Nat) : Int):=by omega
 simp only [encLn] at h1 ⊢
 refine wk0 ?_
 refine .inl ⟨4,_,_,[],[],_,[],⟨rfl,rfl,rfl,rfl,row_refl _,fun x hx => by cases hx⟩,rfl,h1,rfl,List.nodup_nil,?_⟩
 simp only [preP,preOff,flOf,List.map_nil,List.nil_append]
 refine wk0 ?_
 cases back with
 | true =>
  simp only [wayP,if_true] at h2 h3 g4 k3
  refine cg0 [[mP 0 16]] ?_ ?_
  ·exact obl_adr h2 obl_nil
  refine wk0 ?_
  refine cg [[vB true]] Bool.not_true ?_ ?_
  ·exact obl_cons h3 obl_nil
  refine wk Bool.not_true ?_
  refine cg [[vB false]] (an6 Bool.not_false @g4 @k2 @k3 @len_pk @Int.toNat_natCast) ?_ ?_
  ·exact obl_cons h4 obl_nil
  refine wk Bool.not_false ?_
  exact ValsLe.refl _
 | false =>
  simp only [wayP,Bool.false_eq_true,if_false] at h2 h3 g4 k3
  refine cg0 [[mP 0 15]] ?_ ?_
  ·exact obl_adr h2 obl_nil
  refine wk0 ?_
  refine cg [[vB true]] Bool.not_true ?_ ?_
  ·exact obl_cons h3 obl_nil
  refine wk Bool.not_true ?_
  refine cg [[vB false]] (an6 Bool.not_false @g4 @k2 @k3 @len_pk @Int.toNat_natCast) ?_ ?_
  ·exact obl_cons h4 obl_nil
  refine wk Bool.not_false ?_
  exact ValsLe.refl _
theorem spoil_one (l : Ln) (n k : Nat) (back : Bool) (hg : GoodL l) (x : List UInt8) (hx : (wayP l back)[n]? = some x) (hk : k < x.length) : Told Tryz.prog 47 [aD (encLn l),vI n,vI k,vB back] [aD (encLn (withP l back (spoilP (wayP l back) n k))),vI 0]:=by
 refine told_lane_Spoil rfl ?_
 have hn : n < (wayP l back).length:=(List.getElem?_eq_some_iff.1 hx).1
 obtain ⟨b,hb⟩ : ∃ b,x[k]? = some b:=⟨_,List.getElem?_eq_getElem hk⟩
 have hxl:=(hg.way back).2 x (List.mem_of_getElem? hx)
 have hwl:=(hg.way back).1
 have h1:=landL_ownD l hg back n x hx (by intro e; subst e; simp at hk)
 have h2:=way_toldP back
 have h3:=hasP_told ((encPk (wayP l back)).set n xD) n
 rw [show decide (0 ≤ (n : Int) ∧ (n : Int) < (((encPk (wayP l back)).set n xD).length : Int)) = true from by rw [List.length_set]; exact yes_has hn] at h3
 have h4:=hasB_told (x.map encB) k
 rw [yes_hasB hk] at h4
 have he:=enc_spoil hx hb
 have e3 : encB (turnB b) = vD (.int .u8 ((b.toNat ^^^ 1 : Nat) : Int)):=by unfold encB; rw [xor_turn]
 rw [e3] at he
 have hbl : b.toNat < 256:=b.toNat_lt
 have g4 : ((encPk (wayP l back)).set n xD)[n]? = some xD:=List.getElem?_set_self (by rw [len_pk]; exact hn)
 have k2 : (0 : Int) ≤ (n : Int):=by omega
 have k3 : (n : Int) < (((wayP l back).length : Nat) : Int):=by omega
 have k4 : (0 : Int) ≤ (k : Int):=by omega
 have k5 : (k : Int) < ((x.length : Nat) : Int):=by omega
 have k6 : (x.map encB)[k]? = some (vD (.int .u8 (b.toNat : Int))):=by rw [List.getElem?_map,hb]; rfl
 have k7 : inR .u8 (b.toNat : Int) = true:=inR_u8.2 (by omega)
 have k8 : inR .u8 1 = true:=by decide
 have k9 : Int.toNat 1 = 1:=rfl
 simp only [encLn,dLn] at h1 ⊢
 refine wk0 ?_
 cases back with
 | true =>
  simp only [wayP,withP,if_true] at h1 h2 h3 he g4 k3 hn ⊢
  refine .inr ⟨4,_,_,_,16,_,n,_,100001,100002,⟨rfl,rfl,rfl,rfl,row_refl _,fun x hx => by cases hx⟩,rfl,h1,rfl,by decide,by decide,by decide,by decide,rfl,rfl,?_⟩
  rw [he]
  refine wk (an3 @zmap @zset @len_pk) ?_
  refine cg [[mP 0 16]] (an2 @zset @len_pk) ?_ ?_
  ·exact obl_adr h2 obl_nil
  refine wk (an2 @zset @len_pk) ?_
  refine cg [[vB true]] (an3 Bool.not_true @zset @len_pk) ?_ ?_
  ·exact obl_cons h3 obl_nil
  refine wk (an3 Bool.not_true @zset @len_pk) ?_
  refine cg [[vB true]] (an8 Bool.not_true @g4 @k2 @k3 @zmap @zset @len_pk @Int.toNat_natCast) ?_ ?_
  ·exact obl_cons h4 obl_nil
  refine wk (an15 Bool.not_true @g4 @k2 @k3 @k4 @k5 @k6 @k7 @k8 @k9 @zmap @zset @zss @len_pk @Int.toNat_natCast) ?_
  exact ValsLe.refl _
 | false =>
  simp only [wayP,withP,Bool.false_eq_true,if_false] at h1 h2 h3 he g4 k3 hn ⊢
  refine .inr ⟨4,_,_,_,15,_,n,_,100001,100002,⟨rfl,rfl,rfl,rfl,row_refl _,fun x hx => by cases hx⟩,rfl,h1,rfl,by decide,by decide,by decide,by decide,rfl,rfl,?_⟩
  rw [he]
  refine wk (an3 @zmap @zset @len_pk) ?_
  refine cg [[mP 0 15]] (an2 @zset @len_pk) ?_ ?_
  ·exact obl_adr h2 obl_nil
  refine wk (an2 @zset @len_pk) ?_
  refine cg [[vB true]] (an3 Bool.not_true @zset @len_pk) ?_ ?_
  ·exact obl_cons h3 obl_nil
  refine wk (an3 Bool.not_true @zset @len_pk) ?_
  refine cg [[vB true]] (an8 Bool.not_true @g4 @k2 @k3 @zmap @zset @len_pk @Int.toNat_natCast) ?_ ?_
  ·exact obl_cons h4 obl_nil
  refine wk (an15 Bool.not_true @g4 @k2 @k3 @k4 @k5 @k6 @k7 @k8 @k9 @zmap @zset @zss @len_pk @Int.toNat_natCast) ?_
  exact ValsLe.refl _
theorem landL_spoil : CLSpoil 47:=by
 intro l n k back hg
 unfold packetL
 by_cases hn : n < 0 ∨ ((wayP l back).length : Int) ≤ n
 ·rw [if_pos hn]
  exact spoil_none l n k back hg hn
 ·rw [if_neg hn,if_neg (by decide),if_neg (by decide),if_pos rfl]
  obtain ⟨m,rfl⟩ : ∃ m : Nat,n = m:=⟨n.toNat,by omega⟩
  obtain ⟨x,hx⟩ : ∃ x,(wayP l back)[m]? = some x:=⟨_,List.getElem?_eq_getElem (by omega)⟩
  have e0 : (wayP l back).getD m [] = x:=by rw [List.getD_eq_getElem?_getD,hx]; rfl
  rw [Int.toNat_natCast,e0]
  by_cases hk : k < 0 ∨ (x.length : Int) ≤ k
  ·rw [if_pos hk]
   exact spoil_range l m k back hg x hx hk
  ·rw [if_neg hk]
   obtain ⟨i,rfl⟩ : ∃ i : Nat,k = i:=⟨k.toNat,by omega⟩
   rw [Int.toNat_natCast]
   exact spoil_one l m i back hg x hx (by omega)
theorem landW_own : CWOwn 22:=ownWd_told landL_own
theorem landW_new : CWNew 19:=newWd_told
theorem landW_do : CWDo 20:=lDo_told landL_own landL_speak (fun s m h => lput_told s m h) landL_come landL_lose landL_twice landL_spoil
theorem landF_playX : CFPlay 7:=landF_play landW_new landW_do
theorem landF_roundX : CFRound 11:=landF_round landL_own landL_come landW_do
theorem landF_settleX : CFSettle 13:=landF_settle landW_own landF_roundX landK_still
end Go.Proofs.YtgaofjiidedcbacGreat.ab
