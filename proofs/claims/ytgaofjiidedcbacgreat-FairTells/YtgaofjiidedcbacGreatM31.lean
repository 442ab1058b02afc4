import Derived.Test.YtgaofjiidedcbacGreatM30
import Derived.Test.YtgaofjiidedcbacGreatM29
import Derived.Test.YtgaofjiidedcbacGreatM20
import Derived.Test.YtgaofjiidedcbacGreatProg
set_option maxHeartbeats 8000000
set_option linter.unusedVariables false
set_option linter.unusedSimpArgs false
namespace Go.Proofs.YtgaofjiidedcbacGreat.ab
open Go Go.RowKit
open mth
theorem packet_none (l : Ln) (kind n at' : Int) (back : Bool) (h : n < 0 ∨ (wayP l back).length ≤ n) : Told Tryz.prog 34 [aD (encLn l),vI kind,vI n,vI at',vB back] [aD (encLn l),vI 6]:=by
 refine told_r6_Packet rfl ?_
 have h1:=wayP_told l back
 generalize wayP l back = p at *
 by_cases hn : n < 0
 ·simp only [encLn] at h1 ⊢
  refine wk0 ?_
  refine cg0 [[sD 1 (encPk p)]] ?_ ?_
  ·exact obl_cons h1 obl_nil
  refine wk (an2 @hn @len_pk) ?_
  exact ValsLe.refl _
 ·have g1 : (p.length : Int) ≤ n:=by omega
  simp only [encLn] at h1 ⊢
  refine wk0 ?_
  refine cg0 [[sD 1 (encPk p)]] ?_ ?_
  ·exact obl_cons h1 obl_nil
  refine wk (an3 @hn @g1 @len_pk) ?_
  exact ValsLe.refl _
theorem packet_lose (l : Ln) (n : Nat) (at' : Int) (back : Bool) (h : n < (wayP l back).length) (hp : (wayP l back).length ≤ 1048576) : Told Tryz.prog 34 [aD (encLn l),vI 4,vI n,vI at',vB back] [aD (encLn (withP l back (cutP (wayP l back) n))),vI 0]:=by
 refine told_r6_Packet rfl ?_
 have h1:=wayP_told l back
 have h2:=without_told (wayP l back) n h hp
 have h3:=withP_told l back (cutP (wayP l back) n)
 generalize wayP l back = p at *
 generalize withP l back (cutP p n) = l' at *
 generalize cutP p n = q at *
 have g0 : ¬ (n : Int) < 0:=by omega
 have g1 : ¬ (p.length : Int) ≤ (n : Int):=by omega
 simp only [encLn] at h1 h3 ⊢
 refine wk0 ?_
 refine cg0 [[sD 1 (encPk p)]] ?_ ?_
 ·exact obl_cons h1 obl_nil
 refine wk (an3 @g0 @g1 @len_pk) ?_
 refine cd [[sD 1 (encPk q)],[aD (encLn l')]] @encLn.eq_1 ?_ ?_
 ·exact obl_cons h2 (obl_cons h3 obl_nil)
 refine wk0 ?_
 exact ValsLe.refl _
theorem packet_twice (l : Ln) (n : Nat) (at' : Int) (back : Bool) (x : List UInt8) (hx : (wayP l back)[n]? = some x) : Told Tryz.prog 34 [aD (encLn l),vI 5,vI n,vI at',vB back] [aD (encLn (withP l back (joinP (wayP l back) x))),vI 0]:=by
 refine told_r6_Packet rfl ?_
 have h1:=wayP_told l back
 have h2:=putP_told (wayP l back) x
 have h3:=withP_told l back (joinP (wayP l back) x)
 have hlt : n < (wayP l back).length:=(List.getElem?_eq_some_iff.1 hx).1
 generalize wayP l back = p at *
 generalize withP l back (joinP p x) = l' at *
 generalize joinP p x = q at *
 have g0 : ¬ (n : Int) < 0:=by omega
 have g1 : ¬ (p.length : Int) ≤ (n : Int):=by omega
 have g2 : (0 : Int) ≤ (n : Int):=by omega
 have g3 : (n : Int) < (p.length : Int):=by omega
 have g4:=at_pk hx
 simp only [encLn] at h1 h3 ⊢
 refine wk0 ?_
 refine cg0 [[sD 1 (encPk p)]] ?_ ?_
 ·exact obl_cons h1 obl_nil
 refine wk (an7 @g0 @g1 @g2 @g3 @g4 @len_pk @Int.toNat_natCast) ?_
 refine cd [[sD 1 (encPk q)],[aD (encLn l')]] (an8 @encLn.eq_1 @g0 @g1 @g2 @g3 @g4 @len_pk @Int.toNat_natCast) ?_ ?_
 ·exact obl_cons h2 (obl_cons h3 obl_nil)
 refine wk0 ?_
 exact ValsLe.refl _
theorem packet_come (l : Ln) (hg : GoodL l) (n : Nat) (at' : Int) (back : Bool) (x : List UInt8) (hx : (wayP l back)[n]? = some x) : Told Tryz.prog 34 [aD (encLn l),vI 3,vI n,vI at',vB back] [aD (encLn (comeL l n back)),vI 0]:=by
 refine told_r6_Packet rfl ?_
 obtain ⟨w1,w2⟩:=hg.way back
 have hlt : n < (wayP l back).length:=(List.getElem?_eq_some_iff.1 hx).1
 have hxl:=w2 x (List.mem_of_getElem? hx)
 have h1:=wayP_told l back
 have h2:=without_told (wayP l back) n hlt (by omega)
 have h3:=withP_told l back (cutP (wayP l back) n)
 have h4:=refRead_told x (by omega)
 obtain ⟨k1,k2⟩:=cutP_ok n w1 w2
 have hg':=hg.with back k1 k2
 have hr:=readC_right (xs:=x)
 have e0 : (wayP l back).getD n [] = x:=by rw [List.getD_eq_getElem?_getD,hx]; rfl
 unfold comeL
 simp only [e0]
 have g0 : ¬ (n : Int) < 0:=by omega
 have g1 : ¬ ((wayP l back).length : Int) ≤ (n : Int):=by omega
 have g2 : (0 : Int) ≤ (n : Int):=by omega
 have g3 : (n : Int) < ((wayP l back).length : Int):=by omega
 have g4:=at_pk hx
 generalize wayP l back = p at *
 generalize withP l back (cutP p n) = l' at *
 generalize cutP p n = q at *
 by_cases hE : readE x = 0
 ·have e1 : (readE x == 0) = true:=by simpa using hE
  have hc:=hr hE
  rw [if_pos hE]
  have hec : (readC x).early.length ≤ 9223372036854775807:=by
   rcases right_cases _ hc with ⟨_,_,_,_,_,q⟩ | ⟨_,_,_,_,_,q,_⟩
   ·rw [q]; simp
   ·omega
  have h5:=hear_told l'.s (readC x) (by have:=hg'.s.f; omega) hec
  have h6:=recvHear_told hg'.r hc
  generalize readC x = c at *
  generalize readE x = e at *
  subst hE
  cases back with
  | true =>
   rw [if_pos rfl]
   generalize hearS l'.s c = s' at *
   simp only [encLn,encSd,encRv,encCh] at h1 h3 h4 h5 ⊢
   refine wk0 ?_
   refine cg0 [[sD 1 (encPk p)]] ?_ ?_
   ·exact obl_cons h1 obl_nil
   refine wk (an3 @g0 @g1 @len_pk) ?_
   refine cd [[sD 1 (encPk q)],[aD (encLn l')]] @encLn.eq_1 ?_ ?_
   ·exact obl_cons h2 (obl_cons h3 obl_nil)
   refine wk (an7 @g0 @g1 @g2 @g3 @g4 @len_pk @Int.toNat_natCast) ?_
   refine cg [[aD (encCh c),vI 0]] (an8 @encCh.eq_1 @g0 @g1 @g2 @g3 @g4 @len_pk @Int.toNat_natCast) ?_ ?_
   ·exact obl_cons h4 obl_nil
   refine wk Bool.not_true ?_
   refine cg [[aD (encSd s')]] @encSd.eq_1 ?_ ?_
   ·exact obl_cons h5 obl_nil
   refine wk Bool.not_true ?_
   exact ValsLe.refl _
  | false =>
   rw [if_neg (by simp)]
   generalize hearR l'.r c = r' at *
   simp only [encLn,encSd,encRv,encCh] at h1 h3 h4 h6 ⊢
   refine wk0 ?_
   refine cg0 [[sD 1 (encPk p)]] ?_ ?_
   ·exact obl_cons h1 obl_nil
   refine wk (an3 @g0 @g1 @len_pk) ?_
   refine cd [[sD 1 (encPk q)],[aD (encLn l')]] @encLn.eq_1 ?_ ?_
   ·exact obl_cons h2 (obl_cons h3 obl_nil)
   refine wk (an7 @g0 @g1 @g2 @g3 @g4 @len_pk @Int.toNat_natCast) ?_
   refine cg [[aD (encCh c),vI 0]] (an8 @encCh.eq_1 @g0 @g1 @g2 @g3 @g4 @len_pk @Int.toNat_natCast) ?_ ?_
   ·exact obl_cons h4 obl_nil
   refine wk Bool.not_false ?_
   refine cg [[aD (encRv r')]] @encRv.eq_1 ?_ ?_
   ·exact obl_cons h6 obl_nil
   refine wk0 ?_
   exact ValsLe.refl _
 ·have e1 : (readE x == 0) = false:=by simpa using hE
  rw [if_neg hE]
  generalize readC x = c at *
  generalize readE x = e at *
  simp only [encLn,encCh] at h1 h3 h4 ⊢
  refine wk0 ?_
  refine cg0 [[sD 1 (encPk p)]] ?_ ?_
  ·exact obl_cons h1 obl_nil
  refine wk (an3 @g0 @g1 @len_pk) ?_
  refine cd [[sD 1 (encPk q)],[aD (encLn l')]] @encLn.eq_1 ?_ ?_
  ·exact obl_cons h2 (obl_cons h3 obl_nil)
  refine wk (an7 @g0 @g1 @g2 @g3 @g4 @len_pk @Int.toNat_natCast) ?_
  refine cg [[aD (encCh c),vI e]] (an8 @encCh.eq_1 @g0 @g1 @g2 @g3 @g4 @len_pk @Int.toNat_natCast) ?_ ?_
  ·exact obl_cons h4 obl_nil
  refine wk @e1 ?_
  exact ValsLe.refl _
theorem packet_range (l : Ln) (n : Nat) (k : Int) (back : Bool) (x : List UInt8) (hx : (wayP l back)[n]? = some x) (hk : k < 0 ∨ (x.length : Int) ≤ k) : Told Tryz.prog 34 [aD (encLn l),vI 6,vI n,vI k,vB back] [aD (encLn l),vI 3]:=by
 refine told_r6_Packet rfl ?_
 have h1:=wayP_told l back
 have hlt : n < (wayP l back).length:=(List.getElem?_eq_some_iff.1 hx).1
 generalize wayP l back = p at *
 have g0 : ¬ (n : Int) < 0:=by omega
 have g1 : ¬ (p.length : Int) ≤ (n : Int):=by omega
 have g2 : (0 : Int) ≤ (n : Int):=by omega
 have g3 : (n : Int) < (p.length : Int):=by omega
 have g4:=at_pk hx
 by_cases hk0 : k < 0
 ·simp only [encLn] at h1 ⊢
  refine wk0 ?_
  refine cg0 [[sD 1 (encPk p)]] ?_ ?_
  ·exact obl_cons h1 obl_nil
  refine wk (an4 @g0 @g1 @len_pk @hk0) ?_
  exact ValsLe.refl _
 ·have g5 : (x.length : Int) ≤ k:=by omega
  simp only [encLn] at h1 ⊢
  refine wk0 ?_
  refine cg0 [[sD 1 (encPk p)]] ?_ ?_
  ·exact obl_cons h1 obl_nil
  refine wk (an10 @g0 @g1 @g2 @g3 @g4 @g5 @len_pk @hk0 @zmap @Int.toNat_natCast) ?_
  exact ValsLe.refl _
def CSpoilR (f : Nat) : Prop:=∀ (l : Ln) (n k : Nat) (back : Bool) (x : List UInt8),GoodL l → (wayP l back)[n]? = some x → k < x.length → Told Tryz.prog f [aD (encLn l),vI 6,vI n,vI k,vB back] [aD (encLn (withP l back (spoilP (wayP l back) n k))),vI 0]
theorem packet_told (hS : CSpoilR 34) (l : Ln) (hg : GoodL l) (kind n k : Int) (hk : 3 ≤ kind ∧ kind ≤ 6) (back : Bool) : Told Tryz.prog 34 [aD (encLn l),vI kind,vI n,vI k,vB back] [aD (encLn (packetL l kind n k back).1),vI (packetL l kind n k back).2]:=by
 unfold packetL
 by_cases hn : n < 0 ∨ ((wayP l back).length : Int) ≤ n
 ·rw [if_pos hn]
  exact packet_none l kind n k back hn
 rw [if_neg hn]
 obtain ⟨m,rfl⟩ : ∃ m : Nat,n = m:=⟨n.toNat,by omega⟩
 have hlt : m < (wayP l back).length:=by omega
 obtain ⟨x,hx⟩ : ∃ x,(wayP l back)[m]? = some x:=⟨_,List.getElem?_eq_getElem hlt⟩
 have e0 : (wayP l back).getD m [] = x:=by rw [List.getD_eq_getElem?_getD,hx]; rfl
 have hw:=(hg.way back).1
 simp only [Int.toNat_natCast,e0]
 by_cases h4 : kind = 4
 ·rw [if_pos h4,h4]
  exact packet_lose l m k back hlt (by omega)
 rw [if_neg h4]
 by_cases h5 : kind = 5
 ·rw [if_pos h5,h5]
  exact packet_twice l m k back x hx
 rw [if_neg h5]
 by_cases h6 : kind = 6
 ·rw [if_pos h6,h6]
  by_cases hk : k < 0 ∨ (x.length : Int) ≤ k
  ·rw [if_pos hk]
   exact packet_range l m k back x hx hk
  ·rw [if_neg hk]
   obtain ⟨j,rfl⟩ : ∃ j : Nat,k = j:=⟨k.toNat,by omega⟩
   exact hS l m j back x hg hx (by omega)
 ·rw [if_neg h6,show kind = 3 by omega]
  exact packet_come l hg m k back x hx
set_option maxRecDepth 100000
def Q52r0 : IC:=cReg Tryz.prog [xX 2 0,xX 3 1,⟨some 4,none,iAlo 4 [zS,zI]⟩,⟨some 5,none,iMov 5 (.const (.int .i64 0)) true⟩] [2,3,4] [2,3,4]
def Q52r1 : IC:=cReg Tryz.prog [xF 9 0 3,xL 10 1 9,xC 11 .lss 10 1,xM 12 11,xG 12 false (xF 13 0 3),xG 12 false (xL 14 1 13),xG 12 false (xC 15 .gtr 14 6),xP 16 12 15] [2,3,4,16] [2,3,4]
def Q52r2 : IC:=cReg Tryz.prog [xA 17 2 2,xS 2 4 17,⟨some 5,none,iMov 5 (.const (.int .i64 1)) true⟩] [4,5] [4]
def Q52c1a : IC:=(cSeq Q52r2 cRet)
def Q52c1 : IC:=cCond (.tmp 16) Q52c1a cSkip
def Q52r3 : IC:=cReg Tryz.prog [xF 18 1 3,xL 19 1 18,xT 6 19] [2,3,4,6] [2,3,4]
def Q52r4 : IC:=cReg Tryz.prog [xF 20 0 3,xL 21 1 20,xC 22 .eql 21 1] [2,3,4,6,22] [2,3,4]
def Q52r5 : IC:=cReg Tryz.prog [xF 23 1 2,xL 24 1 23,xF 25 0 2,xL 26 1 25,xN 27 26,xB 28 .rem 24 27,xT 6 28] [2,3,4,6] [2,3,4]
def Q52r6 : IC:=cReg Tryz.prog [xF 29 1 2,xL 30 1 29,xC 31 .add 30 1,xF 32 1 2,xS 1 32 31] [2,3,4,6] [2,3,4]
def Q52c2a : IC:=(cSeq Q52r5 Q52r6)
def Q52c2 : IC:=cCond (.tmp 22) Q52c2a cSkip
def Q52r7 : IC:=cReg Tryz.prog [xM 33 6,xC 34 .lss 33 0,xM 35 34,xG 35 false (xM 36 6),xG 35 false (xF 37 0 2),xG 35 false (xL 38 1 37),xG 35 false (xN 39 38),xG 35 false (xB 40 .geq 36 39),xP 41 35 40] [2,3,4,6,41] [2,3,4]
def Q52r8 : IC:=cReg Tryz.prog [xA 42 2 2,xS 2 4 42,⟨some 5,none,iMov 5 (.const (.int .i64 6)) true⟩] [4,5] [4]
def Q52c3a : IC:=(cSeq Q52r8 cRet)
def Q52c3 : IC:=cCond (.tmp 41) Q52c3a cSkip
def Q52r9 : IC:=cReg Tryz.prog [xF 43 0 2,xL 44 1 43,xM 45 6,xI 46 17 44 45,xA 47 17 46,⟨some 7,none,iAlo 7 [zS,zI,zI,zI,zI,zS,zI,zI,zS,zI,zI,zI,zS,zS,zF,zS,zS]⟩,xS 17 7 47,⟨some 8,none,iMov 8 (.const (.int .i64 0)) true⟩] [2,3,4,6,7,8] [2,3,4,7]
def Q52r10 : IC:=cReg Tryz.prog [xF 48 0 3,xL 49 1 48] [2,3,4,6,7,8,49] [2,3,4,7]
def Q52r12 : IC:=cReg Tryz.prog [xC 64 .eql 49 1,xT 63 64] [2,3,4,6,7,8,49,63] [2,3,4,7]
def Q52r13 : IC:=cReg Tryz.prog [xA 65 17 7,xV1 66 32 65,xS 17 7 66] [2,4,6,7,8] [2,4,7]
def Q52r14 : IC:=cReg Tryz.prog [xC 68 .eql 49 2,xT 67 68] [2,3,4,6,7,67] [2,3,4,7]
def Q52r15 : IC:=cReg Tryz.prog [xF 70 0 7,xA 71 7 70,xF 72 5 3,xA 73 2 72,xV2 74 33 71 73,xM 69 74,xE 75 69 0,xE 76 69 1,xF 77 0 7,xS 7 77 75,xT 8 76] [2,4,6,7,8] [2,4,7]
def Q52r11_0 : IC:=cReg Tryz.prog [xA 51 17 7,xF 52 0 3,xL 53 1 52,xF 54 2 3,xL 55 1 54,xF 56 3 3,xL 57 1 56,xF 58 4 3,xL 59 1 58,⟨some 60,none,iCall 60 34 [(.tmp 51),(.tmp 53),(.tmp 55),(.tmp 57),(.tmp 59)]⟩] [2,4,6,7,60] [2,4,7,100081]
def Q52r11_1 : IC:=cReg Tryz.prog [xM 50 60,xE 61 50 0,xE 62 50 1,xS 17 7 61,xT 8 62] [2,4,6,7,8] [2,4,7]
def Q52r11 : IC:=(cSeq Q52r11_0 Q52r11_1)
def Q52c6 : IC:=cCond (.tmp 67) Q52r15 Q52r11
def Q52c5b : IC:=(cSeq Q52r14 Q52c6)
def Q52c5 : IC:=cCond (.tmp 63) Q52r13 Q52c5b
def Q52b4 : IC:=cBlock 0 (cSeq Q52r12 Q52c5)
def Q52r16 : IC:=cReg Tryz.prog [⟨some 78,none,iRow 78 56 17 []⟩,xF 79 0 2,xL 80 1 79,⟨some 81,none,iApr 81 56 17 248 78 (.tmp 80)⟩,xF 82 0 2,xS 1 82 81] [2,4,6,7,8] [2,4,7,100081]
def Q52r17 : IC:=cReg Tryz.prog [xF 83 0 2,xL 84 1 83,xM 85 6,xA 86 17 7,xI 87 17 84 85,xS 17 87 86] [2,4,8] [2,4]
def Q52r18 : IC:=cReg Tryz.prog [xA 88 2 2,xM 89 8,xS 2 4 88,xT 5 89] [4,5] [4]
def r6_Do : IC:=(cSeq Q52r0 (cSeq (cSeq Q52r1 Q52c1) (cSeq Q52r3 (cSeq (cSeq Q52r4 Q52c2) (cSeq (cSeq Q52r7 Q52c3) (cSeq Q52r9 (cSeq (cSeq Q52r10 Q52b4) (cSeq Q52r16 (cSeq Q52r17 (cSeq Q52r18 cRet))))))))))
theorem told_r6_Do {args r : List D} (hl : args.length = 2) (h : r6_Do (start args) (fin [(4,some (2,true)),(5,none)] r)) : Told Tryz.prog 21 args r :=
 told_of follows Tryz.func21 rfl (an:=[([],[2,3,4],[2,3,4],[]),([],[2,3,4,16],[2,3,4],[]),([],[4,5],[4],[]),([],[2,3,4,6],[2,3,4],[]),([],[2,3,4,6,22],[2,3,4],[]),([],[2,3,4,6],[2,3,4],[]),([],[2,3,4,6],[2,3,4],[]),([],[2,3,4,6,41],[2,3,4],[]),([],[4,5],[4],[]),([],[2,3,4,6,7,8],[2,3,4,7],[]),([],[2,3,4,6,7,8,49],[2,3,4,7],[]),([],[2,3,4,6,7,8,49,63],[2,3,4,7],[]),([],[2,4,6,7,8],[2,4,7],[]),([],[2,3,4,6,7,67],[2,3,4,7],[]),([],[2,4,6,7,8],[2,4,7],[]),([(10,[2,4,6,7,60],[2,4,7,100081])],[2,4,6,7,8],[2,4,7],[]),([],[2,4,6,7,8],[2,4,7,100081],[81]),([],[2,4,8],[2,4],[]),([],[4,5],[4],[])]) (by kernel_rfl) (by kernel_rfl) (by rw [hl]; decide +kernel) h
def Q55r0 : IC:=cReg Tryz.prog [⟨some 4,none,iAlo 4 [zS,zI]⟩,⟨some 5,none,iMov 5 (.const (.slice none 0 0)) true⟩] [0,1,4] [4]
def Q55r1 : IC:=cReg Tryz.prog [xM 14 0,xV1 15 8 14,xM 13 15,xE 16 13 0,xE 17 13 1,⟨some 6,none,iAlo 6 [zS,zI]⟩,xS 2 6 16,xT 7 17] [1,4,6] [4,6]
def Q55r2 : IC:=cReg Tryz.prog [⟨some 8,none,iMov 8 (.const (.slice none 0 0)) true⟩] [1,4,6,8] [4,6]
def Q55r3 : IC:=cReg Tryz.prog [xM 18 1,xN 19 18,⟨some 20,none,iMov 20 (.const (.int .i64 0)) false⟩] [4,6,8,18,19,20] [4,6]
def Q55r4 : IC:=cReg Tryz.prog [xB 21 .lss 20 19] [4,6,8,18,19,20,21] [4,6]
def Q55c3 : IC:=cCond (.tmp 21) cSkip (cExit 0)
def Q55r5 : IC:=cReg Tryz.prog [xM 22 20,xI 23 7 18 20,xA 24 7 23,⟨some 10,none,iAlo 10 [zI,zI,zI,zI,zF,zI,zS]⟩,xT 9 22,xS 7 10 24] [4,6,8,9,10,18,19,20] [4,6,10]
def Q55r6 : IC:=cReg Tryz.prog [xM 25 9,xC 26 .eql 25 160] [4,6,8,10,18,19,20,26] [4,6,10]
def Q55c5 : IC:=cCond (.tmp 26) (cExit 0) cSkip
def Q55r7 : IC:=cReg Tryz.prog [xA 28 2 6,xA 29 7 10,xV2 30 21 28 29,xM 27 30,xE 31 27 0,xE 32 27 1,⟨some 11,none,iAlo 11 [zS,zI]⟩,xS 2 11 31,xT 12 32] [4,6,8,11,12,18,19,20] [4,6,11]
def Q55r8 : IC:=cReg Tryz.prog [xA 33 2 11,xS 2 6 33] [4,6,8,12,18,19,20] [4,6]
def Q55r9 : IC:=cReg Tryz.prog [xT 34 8,xM 35 12,xR 36 27 1 35,xW 37 27 1 8 34 36,xT 8 37] [4,6,8,18,19,20] [4,6]
def Q55b4 : IC:=cBlock 1 (cSeq Q55r5 (cSeq (cSeq Q55r6 Q55c5) (cSeq Q55r7 (cSeq Q55r8 Q55r9))))
def Q55r10 : IC:=cReg Tryz.prog [xC 38 .add 20 1,xM 20 38] [4,6,8,18,19,20] [4,6]
def Q55l2a : IC:=(cSeq Q55r4 (cSeq Q55c3 (cSeq Q55b4 Q55r10)))
def Q55l2 : IC:=cLoop Q55l2a
def Q55b1 : IC:=cBlock 0 Q55l2
def Q55r11 : IC:=cReg Tryz.prog [xA 39 2 6,xM 40 8,xS 2 4 39,xT 5 40] [4,5] [4]
def r6_Play : IC:=(cSeq Q55r0 (cSeq Q55r1 (cSeq Q55r2 (cSeq (cSeq Q55r3 Q55b1) (cSeq Q55r11 cRet)))))
theorem told_r6_Play {args r : List D} (hl : args.length = 2) (h : r6_Play (start args) (fin [(4,some (2,true)),(5,none)] r)) : Told Tryz.prog 9 args r :=
 told_of follows Tryz.func9 rfl (an:=[([],[0,1,4],[4],[]),([],[1,4,6],[4,6],[]),([],[1,4,6,8],[4,6],[]),([],[4,6,8,18,19,20],[4,6],[]),([],[4,6,8,18,19,20,21],[4,6],[]),([],[4,6,8,9,10,18,19,20],[4,6,10],[]),([],[4,6,8,10,18,19,20,26],[4,6,10],[]),([],[4,6,8,11,12,18,19,20],[4,6,11],[]),([],[4,6,8,12,18,19,20],[4,6],[]),([],[4,6,8,18,19,20],[4,6],[]),([],[4,6,8,18,19,20],[4,6],[]),([],[4,5],[4],[])]) (by kernel_rfl) (by kernel_rfl) (by rw [hl]; decide +kernel) h
end Go.Proofs.YtgaofjiidedcbacGreat.ab
namespace Go.Proofs.YtgaofjiidedcbacGreat.mth
structure Sp where
 kind : Int
 tenant : Int
 n : Int
 m : Int
 back : Bool
 msg : Ms
structure Wd where
 lanes : List Ln
 ticks : Int
def zeroL : Ln:=⟨zeroS,zeroR,[],[]⟩
def whoW (w : Wd) (s : Sp) : Int:=if s.kind = 1 then w.ticks.tmod w.lanes.length else s.tenant
def ticksW (w : Wd) (s : Sp) : Int:=if s.kind = 1 then w.ticks + 1 else w.ticks
def laneW (l : Ln) (s : Sp) : Ln × Int :=
 if s.kind = 1 then (speakL l,0) else if s.kind = 2 then ({ l with s:=putS l.s s.msg },putE l.s s.msg) else packetL l s.kind s.n s.m s.back
def doW (w : Wd) (s : Sp) : Wd × Int :=
 if s.kind < 1 ∨ 6 < s.kind then (w,1) else
 if whoW w s < 0 ∨ (w.lanes.length : Int) ≤ whoW w s then (⟨w.lanes,ticksW w s⟩,6) else
 (⟨w.lanes.set (whoW w s).toNat (laneW (w.lanes.getD (whoW w s).toNat zeroL) s).1,ticksW w s⟩,(laneW (w.lanes.getD (whoW w s).toNat zeroL) s).2)
structure GoodW (w : Wd) : Prop where
 n : 1 ≤ w.lanes.length ∧ w.lanes.length ≤ 3
 t : 0 ≤ w.ticks
 l : ∀ l ∈ w.lanes,GoodL l
theorem good_zeroL : GoodL zeroL:=⟨good_zero,good_zeroR,by simp [zeroL],by simp [zeroL],by simp [zeroL],by simp [zeroL]⟩
theorem GoodL.lane {l : Ln} (h : GoodL l) (s : Sp) : GoodL (laneW l s).1:=by
 unfold laneW
 split
 ·exact h.speak
 split
 ·exact ⟨h.s.put _,h.r,h.t,h.b,h.tn,h.bn⟩
 ·exact h.packet _ _ _ _
theorem GoodW.step {w : Wd} (h : GoodW w) (s : Sp) : GoodW (doW w s).1:=by
 have ht : 0 ≤ ticksW w s:=by have:=h.t; unfold ticksW; split <;> omega
 unfold doW
 split
 ·exact h
 split
 ·exact ⟨h.n,ht,h.l⟩
 ·refine ⟨by simpa using h.n,ht,fun l hl => ?_⟩
  rcases List.mem_or_eq_of_mem_set hl with q | q
  ·exact h.l l q
  ·rw [q]
   refine GoodL.lane ?_ s
   rw [List.getD_eq_getElem?_getD]
   cases hq : w.lanes[(whoW w s).toNat]? with
   | none => exact good_zeroL
   | some y => exact h.l y (List.mem_of_getElem? hq)
def newW (n : Nat) : Wd:=⟨List.replicate n zeroL,0⟩
def runW (w : Wd) (l : List Sp) : Wd × List Int:=l.foldl (fun x s => ((doW x.1 s).1,x.2 ++ [(doW x.1 s).2])) (w,[])
theorem runW_nil (w : Wd) : runW w [] = (w,[]):=rfl
theorem runW_snoc (w : Wd) (l : List Sp) (s : Sp) : runW w (l ++ [s]) = ((doW (runW w l).1 s).1,(runW w l).2 ++ [(doW (runW w l).1 s).2]):=by simp [runW,List.foldl_append]
theorem good_new {n : Nat} (h : 1 ≤ n ∧ n ≤ 3) : GoodW (newW n):=⟨by simpa [newW] using h,by simp [newW],fun l hl => by
 rw [(List.mem_replicate.1 hl).2]; exact good_zeroL⟩
theorem ticks_do (w : Wd) (s : Sp) : (doW w s).1.ticks ≤ w.ticks + 1:=by
 have h : ticksW w s ≤ w.ticks + 1:=by unfold ticksW; split <;> omega
 unfold doW
 split
 ·simp only; omega
 ·split
  ·exact h
  ·exact h
theorem good_run {w : Wd} (h : GoodW w) (l : List Sp) : ∀ k,GoodW (runW w (l.take k)).1 ∧ (runW w (l.take k)).1.ticks ≤ w.ticks + k ∧ (runW w (l.take k)).2.length ≤ k:=by
 intro k
 induction k with
 | zero => simp [runW_nil,h]
 | succ k ih =>
  by_cases hk : k < l.length
  ·rw [List.take_add_one,List.getElem?_eq_getElem hk,Option.toList_some,runW_snoc]
   refine ⟨ih.1.step _,?_,?_⟩
   ·have:=ticks_do (runW w (l.take k)).1 l[k]
    simp only
    omega
   ·simp only [List.length_append,List.length_singleton]
    omega
  ·rw [List.take_of_length_le (by omega)] at ih ⊢
   exact ⟨ih.1,by omega,by omega⟩
end Go.Proofs.YtgaofjiidedcbacGreat.mth
namespace Go.Proofs.YtgaofjiidedcbacGreat.ab
set_option maxRecDepth 100000
open Go Go.RowKit
def Q53r0 : IC:=cReg Tryz.prog [⟨some 2,none,iAlo 2 [zS,zI]⟩,⟨some 3,none,iMov 3 (.const (.int .i64 0)) true⟩] [0,2] [2]
def Q53r1 : IC:=cReg Tryz.prog [xM 4 0,xC 5 .lss 4 1,xM 6 5,xG 6 false (xM 7 0),xG 6 false (xC 8 .gtr 7 3),xP 9 6 8] [0,2,9] [2]
def Q53r2 : IC:=cReg Tryz.prog [⟨some 10,none,iBld 10 [zS,zI] [] []⟩,xS 2 2 10,⟨some 3,none,iMov 3 (.const (.int .i64 3)) true⟩] [2,3] [2]
def Q53c1a : IC:=(cSeq Q53r2 cRet)
def Q53c1 : IC:=cCond (.tmp 9) Q53c1a cSkip
def Q53r3_0 : IC:=cReg Tryz.prog [xM 11 0,⟨some 12,none,iMkS 12 17 248 (aD [zS,zI,zI,zI,zI,zS,zI,zI,zS,zI,zI,zI,zS,zS,zF,zS,zS]) (.tmp 11) (.tmp 11)⟩] [2,12] [2]
def Q53r3_1 : IC:=cReg Tryz.prog [⟨some 13,none,iBld 13 [zS,zI] [(0,1)] [(.tmp 12)]⟩,xS 2 2 13,⟨some 3,none,iMov 3 (.const (.int .i64 0)) true⟩] [2,3] [2]
def Q53r3 : IC:=(cSeq Q53r3_0 Q53r3_1)
def r6_NewQ : IC:=(cSeq Q53r0 (cSeq (cSeq Q53r1 Q53c1) (cSeq Q53r3 cRet)))
theorem told_r6_NewQ {args r : List D} (hl : args.length = 1) (h : r6_NewQ (start args) (fin [(2,some (2,true)),(3,none)] r)) : Told Tryz.prog 8 args r :=
 told_of follows Tryz.func8 rfl (an:=[([],[0,2],[2],[]),([],[0,2,9],[2],[]),([],[2,3],[2],[]),([(2,[2,12],[2])],[2,3],[2],[])]) (by kernel_rfl) (by kernel_rfl) (by rw [hl]; decide +kernel) h
open mth
def encLl (l : List Ln) : List D:=l.map fun x => aD (encLn x)
def encWd (w : Wd) : List D:=[sD 17 (encLl w.lanes),vI w.ticks]
def encSp (s : Sp) : List D:=[vI s.kind,vI s.tenant,vI s.n,vI s.m,vB s.back,vI s.msg.stream,sD 1 (s.msg.data.map encB)]
theorem len_ll (l : List Ln) : (encLl l).length = l.length:=by simp [encLl]
theorem at_ll {l : List Ln} {i : Nat} {x : Ln} (h : l[i]? = some x) : (encLl l)[i]? = some (aD (encLn x)):=by simp [encLl,h]
theorem do_kind (w : Wd) (s : Sp) (h : s.kind < 1 ∨ 6 < s.kind) : Told Tryz.prog 21 [aD (encWd w),aD (encSp s)] [aD (encWd w),vI 1]:=by
 refine told_r6_Do rfl ?_
 obtain ⟨kind,tenant,n,m,back,msg⟩:=s
 simp only at h
 simp only [encWd,encSp]
 by_cases h1 : kind < 1
 ·refine wk @h1 ?_
  exact ValsLe.refl _
 ·have h2 : 6 < kind:=by omega
  refine wk (an2 @h1 @h2) ?_
  exact ValsLe.refl _
theorem do_none (w : Wd) (s : Sp) (h : 2 ≤ s.kind ∧ s.kind ≤ 6) (hw : s.tenant < 0 ∨ (w.lanes.length : Int) ≤ s.tenant) : Told Tryz.prog 21 [aD (encWd w),aD (encSp s)] [aD (encWd w),vI 6]:=by
 refine told_r6_Do rfl ?_
 obtain ⟨kind,tenant,n,m,back,msg⟩:=s
 simp only at h hw
 have h1 : ¬ kind < 1:=by omega
 have h2 : ¬ 6 < kind:=by omega
 have h3 : (kind == 1) = false:=by rw [beq_eq_false_iff_ne]; omega
 simp only [encWd,encSp]
 by_cases h4 : tenant < 0
 ·refine wk (an4 @h1 @h2 @h3 @h4) ?_
  exact ValsLe.refl _
 ·have h5 : (w.lanes.length : Int) ≤ tenant:=by omega
  refine wk (an6 @h1 @h2 @h3 @h4 @h5 @len_ll) ?_
  exact ValsLe.refl _
theorem set_ll (l : List Ln) (j : Nat) (x : Ln) : encLl (l.set j x) = (encLl l).set j (aD (encLn x)):=by simp [encLl,List.map_set]
theorem do_put (w : Wd) (s : Sp) (h : s.kind = 2) (j : Nat) (hj : s.tenant = j) (l : Ln) (hl : w.lanes[j]? = some l) (hg : GoodL l) (hn : w.lanes.length ≤ 3) : Told Tryz.prog 21 [aD (encWd w),aD (encSp s)] [aD (encWd ⟨w.lanes.set j { l with s:=putS l.s s.msg },w.ticks⟩),vI (putE l.s s.msg)]:=by
 refine told_r6_Do rfl ?_
 obtain ⟨kind,tenant,n,m,back,msg⟩:=s
 simp only at h hj ⊢
 subst h hj
 have h1:=refPut_told hg.s msg
 have hlt : j < w.lanes.length:=(List.getElem?_eq_some_iff.1 hl).1
 have g1 : ¬ (j : Int) < 0:=by omega
 have g2 : ¬ (w.lanes.length : Int) ≤ (j : Int):=by omega
 have g3 : (0 : Int) ≤ (j : Int):=by omega
 have g4 : (j : Int) < (w.lanes.length : Int):=by omega
 have g5:=at_ll hl
 have b1 : w.lanes.length * 248 ≤ 140737488355328:=by omega
 obtain ⟨lanes,ticks⟩:=w
 obtain ⟨s',r',t',k'⟩:=l
 simp only at *
 generalize putS s' msg = q at *
 generalize putE s' msg = e at *
 have b0 : 0 < lanes.length:=by omega
 simp only [encWd,encSp,set_ll,encLn,encSd,encMs] at h1 g5 ⊢
 refine wk (an7 @g1 @g2 @g3 @g4 @g5 @len_ll @Int.toNat_natCast) ?_
 refine cg [[aD (encSd q),vI e]] (an8 @encSd.eq_1 @g1 @g2 @g3 @g4 @g5 @len_ll @Int.toNat_natCast) ?_ ?_
 ·exact obl_cons h1 obl_nil
 refine wk (an10 @g1 @g2 @g3 @g4 @g5 @b0 @b1 @len_ll @Int.toNat_natCast @zset) ?_
 exact ValsLe.refl _
theorem do_packet (hS : CSpoilR 34) (w : Wd) (s : Sp) (h : 3 ≤ s.kind ∧ s.kind ≤ 6) (j : Nat) (hj : s.tenant = j) (l : Ln) (hl : w.lanes[j]? = some l) (hg : GoodL l) (hn : w.lanes.length ≤ 3) : Told Tryz.prog 21 [aD (encWd w),aD (encSp s)] [aD (encWd ⟨w.lanes.set j (packetL l s.kind s.n s.m s.back).1,w.ticks⟩),vI (packetL l s.kind s.n s.m s.back).2]:=by
 refine told_r6_Do rfl ?_
 have h1:=packet_told hS l hg s.kind s.n s.m h s.back
 generalize packetL l s.kind s.n s.m s.back = R at *
 obtain ⟨l',e⟩:=R
 obtain ⟨kind,tenant,n,m,back,msg⟩:=s
 simp only at h hj h1 ⊢
 subst hj
 have hlt : j < w.lanes.length:=(List.getElem?_eq_some_iff.1 hl).1
 have g1 : ¬ (j : Int) < 0:=by omega
 have g2 : ¬ (w.lanes.length : Int) ≤ (j : Int):=by omega
 have g3 : (0 : Int) ≤ (j : Int):=by omega
 have g4 : (j : Int) < (w.lanes.length : Int):=by omega
 have g5:=at_ll hl
 have b1 : w.lanes.length * 248 ≤ 140737488355328:=by omega
 have k1 : ¬ kind < 1:=by omega
 have k2 : ¬ 6 < kind:=by omega
 have k3 : (kind == 1) = false:=by rw [beq_eq_false_iff_ne]; omega
 have k4 : (kind == 2) = false:=by rw [beq_eq_false_iff_ne]; omega
 obtain ⟨lanes,ticks⟩:=w
 simp only at *
 have b0 : 0 < lanes.length:=by omega
 simp only [encWd,encSp,set_ll,encLn] at h1 g5 ⊢
 refine wk (an11 @g1 @g2 @g3 @g4 @g5 @k1 @k2 @k3 @k4 @len_ll @Int.toNat_natCast) ?_
 refine cg [[aD (encLn l'),vI e]] (an12 @encLn.eq_1 @g1 @g2 @g3 @g4 @g5 @k1 @k2 @k3 @k4 @len_ll @Int.toNat_natCast) ?_ ?_
 ·exact obl_cons h1 obl_nil
 refine wk (an10 @g1 @g2 @g3 @g4 @g5 @b0 @b1 @len_ll @Int.toNat_natCast @zset) ?_
 exact ValsLe.refl _
theorem do_tick (w : Wd) (s : Sp) (h : s.kind = 1) (j : Nat) (hj : w.ticks.tmod w.lanes.length = j) (l : Ln) (hl : w.lanes[j]? = some l) (hg : GoodL l) (hn : w.lanes.length ≤ 3) (ht : 0 ≤ w.ticks ∧ w.ticks ≤ 1000000) : Told Tryz.prog 21 [aD (encWd w),aD (encSp s)] [aD (encWd ⟨w.lanes.set j (speakL l),w.ticks + 1⟩),vI 0]:=by
 refine told_r6_Do rfl ?_
 have h1:=refSpeak_told l hg.s hg.r
 generalize speakL l = l' at *
 obtain ⟨kind,tenant,n,m,back,msg⟩:=s
 simp only at h ⊢
 subst h
 have hlt : j < w.lanes.length:=(List.getElem?_eq_some_iff.1 hl).1
 have g1 : ¬ (j : Int) < 0:=by omega
 have g2 : ¬ (w.lanes.length : Int) ≤ (j : Int):=by omega
 have g3 : (0 : Int) ≤ (j : Int):=by omega
 have g4 : (j : Int) < (w.lanes.length : Int):=by omega
 have g5:=at_ll hl
 have b1 : w.lanes.length * 248 ≤ 140737488355328:=by omega
 have g6 : inR .i64 (w.ticks + 1) = true:=inR_of (by omega)
 obtain ⟨lanes,ticks⟩:=w
 simp only at *
 have b0 : 0 < lanes.length:=by omega
 have g7 : ((lanes.length : Int) == 0) = false:=by rw [beq_eq_false_iff_ne]; omega
 have g8 : ¬ (lanes.length : Int) = 0:=by omega
 have g9 : inR .i64 (j : Int) = true:=inR_of (by omega)
 simp only [encWd,encSp,set_ll,encLn] at h1 g5 ⊢
 refine wk (an12 @hj @g1 @g2 @g3 @g4 @g5 @g6 @g7 @g8 @g9 @len_ll @Int.toNat_natCast) ?_
 refine cg [[aD (encLn l')]] (an10 @encLn.eq_1 @hj @g1 @g2 @g3 @g4 @g5 @g6 @len_ll @Int.toNat_natCast) ?_ ?_
 ·exact obl_cons h1 obl_nil
 refine wk (an10 @g1 @g2 @g3 @g4 @g5 @b0 @b1 @len_ll @Int.toNat_natCast @zset) ?_
 exact ValsLe.refl _
theorem do_told (hS : CSpoilR 34) (w : Wd) (hw : GoodW w) (ht : w.ticks ≤ 1000000) (s : Sp) : Told Tryz.prog 21 [aD (encWd w),aD (encSp s)] [aD (encWd (doW w s).1),vI (doW w s).2]:=by
 unfold doW
 by_cases hk : s.kind < 1 ∨ 6 < s.kind
 ·rw [if_pos hk]; exact do_kind w s hk
 rw [if_neg hk]
 have hn:=hw.n
 have ht0:=hw.t
 by_cases h1 : s.kind = 1
 ·have hwho : whoW w s = w.ticks.tmod w.lanes.length:=by unfold whoW; rw [if_pos h1]
  have htk : ticksW w s = w.ticks + 1:=by unfold ticksW; rw [if_pos h1]
  rw [hwho,htk]
  have q0 : 0 ≤ w.ticks.tmod w.lanes.length:=Int.tmod_nonneg _ ht0
  have q1 : w.ticks.tmod w.lanes.length < w.lanes.length:=by
   have:=Int.tmod_lt_of_pos w.ticks (b:=(w.lanes.length : Int)) (by omega)
   omega
  obtain ⟨j,hj⟩ : ∃ j : Nat,w.ticks.tmod w.lanes.length = j:=⟨(w.ticks.tmod w.lanes.length).toNat,by omega⟩
  rw [hj] at q0 q1 ⊢
  rw [if_neg (by omega)]
  obtain ⟨l,hl⟩ : ∃ l,w.lanes[j]? = some l:=⟨_,List.getElem?_eq_getElem (by omega)⟩
  have e0 : w.lanes.getD j zeroL = l:=by rw [List.getD_eq_getElem?_getD,hl]; rfl
  have:=do_tick w s h1 j hj l hl (hw.l l (List.mem_of_getElem? hl)) hn.2 ⟨ht0,ht⟩
  simpa only [Int.toNat_natCast,e0,laneW,h1,if_true] using this
 ·have hwho : whoW w s = s.tenant:=by unfold whoW; rw [if_neg h1]
  have htk : ticksW w s = w.ticks:=by unfold ticksW; rw [if_neg h1]
  rw [hwho,htk]
  by_cases hr : s.tenant < 0 ∨ (w.lanes.length : Int) ≤ s.tenant
  ·rw [if_pos hr]
   exact do_none w s (by omega) hr
  rw [if_neg hr]
  obtain ⟨j,hj⟩ : ∃ j : Nat,s.tenant = j:=⟨s.tenant.toNat,by omega⟩
  rw [hj]
  obtain ⟨l,hl⟩ : ∃ l,w.lanes[j]? = some l:=⟨_,List.getElem?_eq_getElem (by omega)⟩
  have e0 : w.lanes.getD j zeroL = l:=by rw [List.getD_eq_getElem?_getD,hl]; rfl
  have hg:=hw.l l (List.mem_of_getElem? hl)
  by_cases h2 : s.kind = 2
  ·have:=do_put w s h2 j hj l hl hg hn.2
   have hL : laneW l s = ({ l with s:=putS l.s s.msg },putE l.s s.msg):=by unfold laneW; rw [if_neg h1,if_pos h2]
   rw [Int.toNat_natCast,e0,hL]
   exact this
  ·have:=do_packet hS w s (by omega) j hj l hl hg hn.2
   have hL : laneW l s = packetL l s.kind s.n s.m s.back:=by unfold laneW; rw [if_neg h1,if_neg h2]
   rw [Int.toNat_natCast,e0,hL]
   exact this
theorem new_told (n : Nat) (h : 1 ≤ n ∧ n ≤ 3) : Told Tryz.prog 8 [vI n] [aD (encWd (newW n)),vI 0]:=by
 refine told_r6_NewQ rfl ?_
 have h3 : n = 1 ∨ n = 2 ∨ n = 3:=by omega
 rcases h3 with rfl | rfl | rfl
 ·simp only [newW,encWd,encLl,List.replicate,List.map_cons,List.map_nil,encLn,zeroL,zeroS,zeroR,encMl,encCl,encPk]
  refine wk (an4 @Int.toNat_natCast @zrs @zr0 @zcons) ?_
  repeat' (first | exact vals_nil | exact row_nil | exact es_nil | exact CVLe.refl _ | exact LfLe.refl _ | exact LfLe.nil _ | exact EsLe.refl _ | refine vals_cons ?_ ?_ | refine row_cons ?_ ?_ | refine es_cons ?_ ?_ | refine EsLe.app ?_ ?_ | refine CVLe.row ?_ | refine CVLe.leafV ?_ | refine CVLe.leafS ?_ | refine LfLe.s ?_)
 ·simp only [newW,encWd,encLl,List.replicate,List.map_cons,List.map_nil,encLn,zeroL,zeroS,zeroR,encMl,encCl,encPk]
  refine wk (an4 @Int.toNat_natCast @zrs @zr0 @zcons) ?_
  repeat' (first | exact vals_nil | exact row_nil | exact es_nil | exact CVLe.refl _ | exact LfLe.refl _ | exact LfLe.nil _ | exact EsLe.refl _ | refine vals_cons ?_ ?_ | refine row_cons ?_ ?_ | refine es_cons ?_ ?_ | refine EsLe.app ?_ ?_ | refine CVLe.row ?_ | refine CVLe.leafV ?_ | refine CVLe.leafS ?_ | refine LfLe.s ?_)
 ·simp only [newW,encWd,encLl,List.replicate,List.map_cons,List.map_nil,encLn,zeroL,zeroS,zeroR,encMl,encCl,encPk]
  refine wk (an4 @Int.toNat_natCast @zrs @zr0 @zcons) ?_
  repeat' (first | exact vals_nil | exact row_nil | exact es_nil | exact CVLe.refl _ | exact LfLe.refl _ | exact LfLe.nil _ | exact EsLe.refl _ | refine vals_cons ?_ ?_ | refine row_cons ?_ ?_ | refine es_cons ?_ ?_ | refine EsLe.app ?_ ?_ | refine CVLe.row ?_ | refine CVLe.leafV ?_ | refine CVLe.leafS ?_ | refine LfLe.s ?_)
def encSl (l : List Sp) : List D:=l.map fun s => aD (encSp s)
theorem len_sl (l : List Sp) : (encSl l).length = l.length:=by simp [encSl]
theorem at_sl {l : List Sp} {i : Nat} {s : Sp} (h : l[i]? = some s) : (encSl l)[i]? = some (aD [vI s.kind,vI s.tenant,vI s.n,vI s.m,vB s.back,vI s.msg.stream,sD 1 (s.msg.data.map encB)]):=by simp [encSl,h,encSp]
def plSt (l : List Sp) (w : Wd) (es : List Int) (k : Nat) : St :=
 ⟨[(4,pD 4 0),(6,pD 6 0),(8,sD 1 (es.map vI)),(18,sD 7 (encSl l)),(19,vI l.length),(20,vI k)],[(4,[vD (.slice none 0 0),vI 0]),(6,encWd w)],[((8,none),(27,1,none))]⟩
def plJ (n : Nat) (l : List Sp) : Nat → St → Prop:=fun m st => ∃ k : Nat,k ≤ l.length ∧ k ≤ 160 ∧ m = l.length - k ∧ st = plSt l (runW (newW n) (l.take k)).1 (runW (newW n) (l.take k)).2 k
theorem play_told (hS : CSpoilR 34) (n : Nat) (hn : 1 ≤ n ∧ n ≤ 3) (l : List Sp) (hl : l.length ≤ 9223372036854775807) : Told Tryz.prog 9 [vI n,sD 7 (encSl l)] [aD (encWd (runW (newW n) (l.take 160)).1),sD 1 ((runW (newW n) (l.take 160)).2.map vI)]:=by
 refine told_r6_Play rfl ?_
 have hN:=new_told n hn
 have hgood:=good_run (good_new hn) l
 simp only [encWd] at hN
 refine wk0 ?_
 refine cg [[aD (encWd (newW n)),vI 0]] @encWd.eq_1 ?_ ?_
 ·exact obl_cons hN obl_nil
 refine wk @len_sl ?_
 refine aw_loop (plJ n l) l.length (plSt l (newW n) [] 0) ?_ ⟨0,by omega,by omega,rfl,rfl⟩ ?_
 ·exact (Le.nilS 8 27 1 rfl).trans (Le.keep (lv:=[4,6,8,18,19,20]) (lb:=[4,6]) (by simp only [ev0,ev1,ev2,look,lookF,cellsFrom,offT,offP,List.tail_nil,List.length_nil,Int.cast_ofNat_Int,Nat.reduceEqDiff,Nat.reduceAdd,Nat.reduceMul,Nat.reduceLeDiff,Nat.reduceLT,↓reduceIte,reduceCtorEq,Int.reduceBEq,Int.reduceBNe,Int.reduceLT,Int.reduceLE,Int.reduceToNat]; rfl))
 rintro m st ⟨k,hk,hk160,hm,rfl⟩
 obtain ⟨hw,htk,hel⟩:=hgood k
 by_cases hlt : k < l.length
 ·obtain ⟨s,hs⟩ : ∃ s,l[k]? = some s:=⟨l[k],List.getElem?_eq_getElem hlt⟩
  have g1 : (k : Int) < (l.length : Int):=by omega
  have g2 : (0 : Int) ≤ (k : Int):=by omega
  have g3:=at_sl hs
  have g4 : inR .i64 ((k : Int) + 1) = true:=inR_of (by omega)
  by_cases h160 : k = 160
  ·subst h160
   have g5 : ((160 : Int) == 160) = true:=rfl
   have g6 : (160 : Int) < (l.length : Int):=by omega
   have g7 : (0 : Int) ≤ 160:=by omega
   have e160 : ((160 : Nat) : Int) = 160:=rfl
   generalize plJ n l = J at *
   generalize (runW (newW n) (l.take 160)).1 = w at *
   generalize (runW (newW n) (l.take 160)).2 = es at *
   simp only [plSt,encWd,e160]
   refine wk (an5 @g5 @g6 @g7 @g3 @len_sl) ?_
   exact ValsLe.refl _
  ·have g5 : ((k : Int) == 160) = false:=by rw [beq_eq_false_iff_ne]; omega
   have ht0 : (newW n).ticks = 0:=rfl
   have hD:=do_told hS _ hw (by rw [ht0] at htk; omega) s
   have hnx : Next (plJ n l) m (plSt l (doW (runW (newW n) (l.take k)).1 s).1 ((runW (newW n) (l.take k)).2 ++ [(doW (runW (newW n) (l.take k)).1 s).2]) (k + 1)):=by
    refine ⟨l.length - (k + 1),_,by omega,Le.refl _,k + 1,by omega,by omega,rfl,?_⟩
    rw [List.take_add_one,hs,Option.toList_some,runW_snoc]
   generalize plJ n l = J at *
   generalize (runW (newW n) (l.take k)).1 = w at *
   generalize (runW (newW n) (l.take k)).2 = es at *
   generalize doW w s = R at *
   obtain ⟨w',e⟩:=R
   have b1 : (es.length + 1) * 8 ≤ 140737488355328:=by omega
   simp only [plSt,encWd,encSp,Int.natCast_add,Int.cast_ofNat_Int,List.map_append,List.map_cons,List.map_nil] at hD hnx ⊢
   refine wk (an6 @g1 @g2 @g3 @g5 @len_sl @Int.toNat_natCast) ?_
   refine cg [[aD (encWd w'),vI e]] (an7 @encWd.eq_1 @g1 @g2 @g3 @g5 @len_sl @Int.toNat_natCast) ?_ ?_
   ·exact obl_cons hD obl_nil
   refine wk (an3 @g4 @b1 @zmap) ?_
   exact hnx
 ·have : k = l.length:=by omega
  subst this
  have g1 : ¬ (l.length : Int) < (l.length : Int):=by omega
  have e1 : l.take 160 = l.take l.length:=by rw [List.take_of_length_le (by omega),List.take_of_length_le (Nat.le_refl _)]
  rw [e1]
  generalize plJ n l = J at *
  generalize (runW (newW n) (l.take l.length)).1 = w at *
  generalize (runW (newW n) (l.take l.length)).2 = es at *
  simp only [plSt,encWd]
  refine wk @g1 ?_
  exact ValsLe.refl _
open Go.ChangeShapes Go.WideShapes
theorem cellsSp : Tryz.prog.cellsOf 45 = 7:=by kernel_rfl
theorem cells4 : Tryz.prog.cellsOf 4 = 1:=by kernel_rfl
section
variable {H : Type} {enc : TypeId × Value → H} {W : World}
set_option maxRecDepth 100000 in
theorem in_step {n : Nat} {cs : List Value} {y : DataW H × List MemPlace} (hf : DataW.trod enc Tryz.prog W 0 (fun _ => true) true n 45 cs = some y) (hl7 : cs.length = 7) :
  ∃ s : Sp,Row (AllOf W) W (encSp s) cs ∧ s.msg.data.length ≤ Rows.uptoBulk y.1:=by
 obtain ⟨v0,v1,v2,v3,v4,v5,v6,rfl⟩ : ∃ v0 v1 v2 v3 v4 v5 v6,cs = [v0,v1,v2,v3,v4,v5,v6]:=by
  match cs,hl7 with
  | [v0,v1,v2,v3,v4,v5,v6],_ => exact ⟨v0,v1,v2,v3,v4,v5,v6,rfl⟩
 obtain ⟨ys,n',_,hx,hl,hlen,hfs⟩:=DataW.trod_struct Tryz.underlying45 hf
 have f0:=hfs 0 _ rfl
 have f1:=hfs 1 _ rfl
 have f2:=hfs 2 _ rfl
 have f3:=hfs 3 _ rfl
 have f4:=hfs 4 _ rfl
 have f5:=hfs 5 _ rfl
 obtain ⟨y0,y1,y2,y3,y4,y5,rfl⟩ : ∃ y0 y1 y2 y3 y4 y5,ys = [y0,y1,y2,y3,y4,y5]:=by
  match ys,hlen with
  | [y0,y1,y2,y3,y4,y5],_ => exact ⟨y0,y1,y2,y3,y4,y5,rfl⟩
 simp [cells3,cells4,cellsMs] at f0 f1 f2 f3 f4 f5
 obtain ⟨a0,h0,_,k0⟩:=DataW.trod_int Tryz.underlying3 f0
 obtain ⟨a1,h1,_,k1⟩:=DataW.trod_int Tryz.underlying3 f1
 obtain ⟨a2,h2,_,k2⟩:=DataW.trod_int Tryz.underlying3 f2
 obtain ⟨a3,h3,_,k3⟩:=DataW.trod_int Tryz.underlying3 f3
 obtain ⟨a4,h4,_⟩:=DataW.trod_bool Tryz.underlying4 f4
 simp at h0 h1 h2 h3 h4
 subst h0 h1 h2 h3 h4
 obtain ⟨m,hm,_,hb⟩:=in_msg f5 rfl
 exact ⟨⟨a0,a1,a2,a3,a4,m⟩,(Row.single (CRep.v rfl)).app ((Row.single (CRep.v rfl)).app ((Row.single (CRep.v rfl)).app ((Row.single (CRep.v rfl)).app ((Row.single (CRep.v rfl)).app hm)))),by
  rw [hx]
  simp only [Rows.uptoBulk,Rows.uptoBulkAll,List.map_cons,List.map_nil]
  omega⟩
theorem in_steps {n : Nat} {v : Value} {y : DataW H × List MemPlace} (hf : DataW.trod enc Tryz.prog W 0 (fun _ => true) true n 22 [v] = some y) :
  ∃ cs : List Sp,CRep (AllOf W) W (sD 7 (encSl cs)) v ∧ cs.length ≤ Rows.uptoBulk y.1 ∧ ∀ c ∈ cs,True :=
 in_slice (α:=Sp) (encA:=fun c => aD (encSp c)) (Pa:=fun c => True) (size:=7) Tryz.underlying22 cellsSp (by omega) (fun n cs' y h hl => by
  obtain ⟨s,h1,_⟩:=in_step h hl
  exact ⟨s,h1,trivial⟩) hf
end
end Go.Proofs.YtgaofjiidedcbacGreat.ab
