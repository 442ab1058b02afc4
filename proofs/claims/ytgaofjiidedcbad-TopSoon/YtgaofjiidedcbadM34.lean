import Derived.Test.YtgaofjiidedcbadM33
import Derived.Test.YtgaofjiidedcbadM21
import Derived.Test.YtgaofjiidedcbadM29
import Derived.ChangeOld
import Derived.SizedLaws
import Derived.Test.YtgaofjiidedcbadM20
import Derived.Test.YtgaofjiidedcbadProg
set_option maxHeartbeats 16000000
set_option linter.unusedVariables false
set_option linter.unusedSimpArgs false
namespace Go.Proofs.Ytgaofjiidedcbad.ab
open Go Go.RowKit
open mth
def ts1 (n t r : Nat) (L : List Sp) (i : Nat) : St:=⟨[(0,vI n),(1,vI t),(7,sD 7 (encSl L)),(40,vI r),(41,vI i)],[],[((7,none),(30,7,none))]⟩
def ts2 (n t : Nat) (w : Wd) (i : Nat) : St:=⟨[(1,vI t),(10,pD 10 0),(12,vI 0),(68,vI ((n : Int) + 1)),(69,vI i)],[(10,encWd (roundN i w))],[]⟩
def TsJ (n t r : Nat) : Nat → St → Prop:=fun m st => ∃ (L : List Sp) (i : Nat),i ≤ r ∧ m = r - i ∧ L.length ≤ i ∧ onlyW L t = [] ∧ st = ts1 n t r L i
theorem topSoon_not (hT : CTParse 22) (hP : CFPlay 9) (hS : CFSettle 10) (hK : CKStill 11) (n t r : Int) (h : n < 1 ∨ 3 < n ∨ t < 0 ∨ n ≤ t ∨ r < 0 ∨ 20 < r) : Told Try.prog 6 [vI n,vI t,vI r] [vB true]:=by
 refine told_lktop_TopSoon rfl ?_
 have hA:=aliveTop_told hT hP hS hK
 refine wk0 ?_
 refine cg [[vB true]] Bool.not_true ?_ ?_
 ·exact obl_cons hA obl_nil
 by_cases n1 : n < 1
 ·refine wk @n1 ?_
  exact ValsLe.refl _
 by_cases n2 : 3 < n
 ·refine wk (an2 @n1 @n2) ?_
  exact ValsLe.refl _
 by_cases n3 : t < 0
 ·refine wk (an3 @n1 @n2 @n3) ?_
  exact ValsLe.refl _
 by_cases n4 : n ≤ t
 ·refine wk (an4 @n1 @n2 @n3 @n4) ?_
  exact ValsLe.refl _
 by_cases n5 : r < 0
 ·refine wk (an5 @n1 @n2 @n3 @n4 @n5) ?_
  exact ValsLe.refl _
 have n6 : 20 < r:=by omega
 refine wk (an6 @n1 @n2 @n3 @n4 @n5 @n6) ?_
 exact ValsLe.refl _
theorem bytes97 : bytesOf [vD (.int .u8 97)] = some [97]:=rfl
theorem enc97 : encB 97 = vD (.int .u8 97):=rfl
theorem topSoon_good (hT : CTParse 22) (hP : CFPlay 9) (hR : CFRound 17) (hS : CFSettle 10) (hK : CKStill 11) (hO : CVOf 15) (n t r : Nat) (hn : 1 ≤ n ∧ n ≤ 3) (ht : t < n) (hr : r ≤ 20) : Told Try.prog 6 [vI n,vI t,vI r] [vB true]:=by
 refine told_lktop_TopSoon rfl ?_
 have hA:=aliveTop_told hT hP hS hK
 have n1 : ¬ (n : Int) < 1:=by omega
 have n2 : ¬ 3 < (n : Int):=by omega
 have n3 : ¬ (t : Int) < 0:=by omega
 have n4 : ¬ (n : Int) ≤ (t : Int):=by omega
 have n5 : ¬ (r : Int) < 0:=by omega
 have n6 : ¬ 20 < (r : Int):=by omega
 have n7 : ¬ (n : Int) = 0:=by omega
 have n8 : ((n : Int) == 0) = false:=by rw [beq_eq_false_iff_ne]; omega
 have n9 : inR .i64 ((n : Int) + 1) = true:=inR_of (by omega)
 refine wk0 ?_
 refine cg [[vB true]] Bool.not_true ?_ ?_
 ·exact obl_cons hA obl_nil
 refine wk (an6 @n1 @n2 @n3 @n4 @n5 @n6) ?_
 refine aw_loop (TsJ n t r) r (ts1 n t r [] 0) ((Le.nilS 7 30 7 rfl).trans (Le.keep (lv:=[0,1,7,40,41]) (lb:=[]) (by simp only [ev0,ev1,ev2,look,lookF,cellsFrom,offT,offP,List.tail_nil,List.length_nil,Int.cast_ofNat_Int,Nat.reduceEqDiff,Nat.reduceAdd,Nat.reduceMul,Nat.reduceLeDiff,Nat.reduceLT,↓reduceIte,reduceCtorEq,Int.reduceBEq,Int.reduceBNe,Int.reduceLT,Int.reduceLE,Int.reduceToNat]; rfl))) ⟨[],0,by omega,by omega,by simp,rfl,rfl⟩ ?_
 rintro m st ⟨L,i,hi,hm,hL,ho,rfl⟩
 by_cases hlt : i < r
 ·have g1 : (i : Int) < (r : Int):=by omega
  have g4 : inR .i64 ((i : Int) + 1) = true:=inR_of (by omega)
  have g5 : (i : Int).tmod (n : Int) = (i : Int) % (n : Int):=Int.tmod_eq_emod_of_nonneg (by omega)
  have hmod0 : 0 ≤ (i : Int) % (n : Int):=Int.emod_nonneg _ (by omega)
  have hmod1 : (i : Int) % (n : Int) < n:=Int.emod_lt_of_pos _ (by omega)
  have g6 : inR .i64 ((i : Int) % (n : Int)) = true:=inR_of (by omega)
  have b1 : (L.length + 1) * 72 ≤ 140737488355328:=by omega
  by_cases hk : (i : Int) % (n : Int) = t
  ·have q : (((i : Int) % (n : Int)) != (t : Int)) = false:=by simpa using hk
   have hnx : Next (TsJ n t r) m (ts1 n t r L (i + 1)):=⟨r - (i + 1),_,by omega,Le.refl _,L,i + 1,by omega,rfl,by omega,ho,rfl⟩
   generalize TsJ n t r = J at *
   simp only [ts1,Int.natCast_add,Int.cast_ofNat_Int] at hnx ⊢
   refine wk (an6 @g1 @n7 @n8 @g5 @g6 @q) ?_
   refine wk @g4 ?_
   exact hnx
  ·have q : (((i : Int) % (n : Int)) != (t : Int)) = true:=by simpa using hk
   have a1:=tput_told hT ((i : Int) % (n : Int)) ⟨#[50,58,102,102,102,102]⟩ [50,58,102,102,102,102] rfl (by decide) (by decide)
   rw [show parseM [50,58,102,102,102,102] = msF from rfl] at a1
   have hone : onlyW (L ++ [putSp ((i : Int) % (n : Int)) msF]) t = []:=by
    rw [only_snoc,ho,if_neg]
    ·rfl
    ·unfold mineB putSp
     simp only [Bool.or_eq_true,beq_iff_eq]
     intro w
     rcases w with w | w
     ·cases w
     ·exact hk w
   have hnx : Next (TsJ n t r) m (ts1 n t r (L ++ [putSp ((i : Int) % (n : Int)) msF]) (i + 1)):=⟨r - (i + 1),_,by omega,Le.refl _,_,i + 1,by omega,rfl,by simp; omega,hone,rfl⟩
   generalize TsJ n t r = J at *
   generalize putSp ((i : Int) % (n : Int)) msF = s at *
   simp only [ts1,sl_snoc,encSp,Int.natCast_add,Int.cast_ofNat_Int] at a1 hnx ⊢
   refine wk (an6 @g1 @n7 @n8 @g5 @g6 @q) ?_
   refine cg [[aD (encSp s)]] (an3 @encSp.eq_1 @b1 @len_sl) ?_ ?_
   ·exact obl_cons a1 obl_nil
   refine wk @g4 ?_
   exact hnx
 have hin : i = r:=by omega
 subst hin
 have g1 : ¬ (i : Int) < (i : Int):=by omega
 generalize TsJ n t i = J1 at *
 have a1:=tput_told hT t ⟨#[48,58,54,49]⟩ [48,58,54,49] rfl (by decide) (by decide)
 rw [show parseM [48,58,54,49] = msA from rfl] at a1
 have b1 : (L.length + 1) * 72 ≤ 140737488355328:=by omega
 have h1:=hP.2.2 n (L ++ [putSp t msA]) hn (by simp; omega)
 have hsim:=sim_same t (newW n) (l:=L ++ [putSp t msA]) (m:=[putSp t msA]) (by
  rw [only_snoc,ho]
  unfold onlyW mineB putSp
  simp)
 obtain ⟨hw,hwt,_⟩:=good_run (good_new hn) (L ++ [putSp t msA]) (L ++ [putSp t msA]).length
 rw [List.take_length] at hw hwt
 have ht0 : (newW n).ticks = 0:=rfl
 rw [ht0] at hwt
 have hwt' : (runW (newW n) (L ++ [putSp t msA])).1.ticks ≤ 100:=by simp at hwt; omega
 have hwn : (runW (newW n) (L ++ [putSp t msA])).1.lanes.length = n:=by rw [lenW_run]; simp [newW]
 obtain ⟨l,q1,q2⟩:=soon_told n t hn.1 hn.2 ht
 have hs2:=hsim.rounds (n + 1)
 rw [← hs2.l] at q1
 clear hsim hs2 hwt
 rw [sl_snoc] at h1
 generalize (runW (newW n) (L ++ [putSp t msA])).2 = es at *
 generalize (runW (newW n) (L ++ [putSp t msA])).1 = w at *
 generalize hsp : putSp t msA = s at *
 simp only [ts1,encWd,encSp] at a1 h1 ⊢
 refine wk @g1 ?_
 refine cg [[aD (encSp s)],[aD (encWd w),sD 1 (es.map vI),vI 0]] (an4 @encWd.eq_1 @encSp.eq_1 @b1 @len_sl) ?_ ?_
 ·exact obl_cons a1 (obl_cons h1 obl_nil)
 refine wk @n9 ?_
 refine aw_loop (fun m st => ∃ k : Nat,k ≤ n + 1 ∧ m = n + 1 - k ∧ st = ts2 n t w k) (n + 1) (ts2 n t w 0) (Le.refl _) ⟨0,by omega,by omega,rfl⟩ ?_
 rintro m st ⟨k,hk,hm,rfl⟩
 by_cases hlt : k < n + 1
 ·have g1 : (k : Int) < (n : Int) + 1:=by omega
  have g4 : inR .i64 ((k : Int) + 1) = true:=inR_of (by omega)
  have h2:=hR (roundN k w) (hw.rounds k) (by rw [roundN_ticks]; omega)
  rw [show roundW (roundN k w) = roundN (k + 1) w from rfl] at h2
  have hnx : Next (fun m st => ∃ k : Nat,k ≤ n + 1 ∧ m = n + 1 - k ∧ st = ts2 n t w k) m (ts2 n t w (k + 1)):=⟨n + 1 - (k + 1),_,by omega,Le.refl _,k + 1,by omega,rfl,rfl⟩
  generalize (fun m st => ∃ k : Nat,k ≤ n + 1 ∧ m = n + 1 - k ∧ st = ts2 n t w k) = J at *
  unfold ts2 at hnx ⊢
  generalize roundN (k + 1) w = y2 at *
  generalize roundN k w = y1 at *
  simp only [encWd,Int.natCast_add,Int.cast_ofNat_Int] at h2 hnx ⊢
  refine wk @g1 ?_
  refine cg [[aD (encWd y2)]] @encWd.eq_1 ?_ ?_
  ·exact obl_cons h2 obl_nil
  refine wk @g4 ?_
  exact hnx
 have hkn : k = n + 1:=by omega
 subst hkn
 have g1 : ¬ ((n + 1 : Nat) : Int) < (n : Int) + 1:=by omega
 generalize (fun m st => ∃ k : Nat,k ≤ n + 1 ∧ m = n + 1 - k ∧ st = ts2 n t w k) = J2 at *
 have hyl:=roundN_len (n + 1) w
 have o1:=hO (roundN (n + 1) w) t (hw.rounds (n + 1))
 rw [of_in (by rw [hyl,hwn]; exact ht)] at o1
 rw [show (roundN (n + 1) w).lanes.getD t zeroL = l by rw [List.getD_eq_getElem?_getD,q1]; rfl] at o1
 unfold ts2
 generalize ((n + 1 : Nat) : Int) = c at *
 generalize roundN (n + 1) w = y at *
 simp only [encWd,encLn,q2,msA,encMl,encMs,enc97,List.map_cons,List.map_nil] at o1 ⊢
 refine wk @g1 ?_
 refine cg [[aD (encLn ⟨l.s,⟨l.r.next,l.r.early,l.r.p0,l.r.p1,l.r.p2,l.r.hold,[msA],l.r.owes⟩,l.there,l.back⟩),vB true]] (an7 @encLn.eq_1 @msA.eq_1 @encMl.eq_1 @encMs.eq_1 @enc97 @zmc @zmn) ?_ ?_
 ·exact obl_cons o1 obl_nil
 refine wk (an5 @zcons @znil @Int.toNat_zero @zg0 @bytes97) ?_
 exact ValsLe.refl _
theorem topSoon_told (hT : CTParse 22) (hP : CFPlay 9) (hR : CFRound 17) (hS : CFSettle 10) (hK : CKStill 11) (hO : CVOf 15) (n t r : Int) : Told Try.prog 6 [vI n,vI t,vI r] [vB true]:=by
 by_cases h : n < 1 ∨ 3 < n ∨ t < 0 ∨ n ≤ t ∨ r < 0 ∨ 20 < r
 ·exact topSoon_not hT hP hS hK n t r h
 ·obtain ⟨q,rfl⟩ : ∃ q : Nat,n = q:=⟨n.toNat,by omega⟩
  obtain ⟨u,rfl⟩ : ∃ u : Nat,t = u:=⟨t.toNat,by omega⟩
  obtain ⟨v,rfl⟩ : ∃ v : Nat,r = v:=⟨r.toNat,by omega⟩
  exact topSoon_good hT hP hR hS hK hO q u v (by omega) (by omega) (by omega)
end Go.Proofs.Ytgaofjiidedcbad.ab
namespace Go.Proofs.Ytgaofjiidedcbad.topSoon
open Go Go.ChangeShapes Go.WideShapes Go.ChangeAt Go.RowKit
open ab mth
set_option maxRecDepth 100000 in
theorem lifted (hT : CTParse 22) (hP : CFPlay 9) (hR : CFRound 17) (hS : CFSettle 10) (hK : CKStill 11) (hO : CVOf 15) (os : Os) (started : os.Started) (H : Type) (enc : TypeId × Value → H) :
  ReturnsInHanded {} Try.checked os 6 .any (Rows.topSoonSpec.pre6 enc Try.prog Try.f6 Rows.topSoonRow.domain false) (Rows.topSoonSpec.post enc Try.prog Try.f6 false true false false):=by
 refine returnsInHanded_of_change_sized (C:=Try.checked) own started (by kernel_rfl) Try.func6
  (ChangeSpec.witness6 (enc:=enc) (C:=Try.checked) false ⟨#[],#[.int .i64 0,.int .i64 0,.int .i64 0],[]⟩ 8 (by kernel_rfl) (by kernel_rfl) (by kernel_rfl) (by kernel_rfl)) ?_
 intro W base args ds gs before hval0 hW0 hcnd hsz0 _
 have hval : ∀ (j : Nat) t v,Try.f6.params[j]? = some t → args[j]? = some v → Value.okWide Try.prog W .any base t v:=hval0
 have hW':=hW0
 obtain ⟨p,q,hA0,hV,rfl,hfz,hnd⟩:=hW0
 have hA : DataW.TrodAll enc Try.prog W 0 (fun _ => true) true Try.f6.params.toList args.toList ds p:=hA0
 rw [Try.params6] at hA hval
 obtain ⟨v0,vs0,d0,ds0,p0,q0,hargs,rfl,rfl,h0,r0⟩:=trodAll_cons hA
 obtain ⟨v1,vs1,d1,ds1,p1,q1,rfl,rfl,rfl,h1,r1⟩:=trodAll_cons r0
 obtain ⟨v2,vs2,d2,ds2,p2,q2,rfl,rfl,rfl,h2,r2⟩:=trodAll_cons r1
 obtain ⟨rfl,rfl,rfl⟩:=trodAll_nil r2
 obtain rfl : args = #[v0,v1,v2]:=by cases args; simp_all
 obtain ⟨rfl,rfl⟩:=trodVars_none hV
 have lt0 : ∀ x ∈ p0,x.block < W.heap.size:=by obtain ⟨m,hm⟩:=h0; exact DataW.trod_lt m _ _ _ hm
 have lt1 : ∀ x ∈ p1,x.block < W.heap.size:=by obtain ⟨m,hm⟩:=h1; exact DataW.trod_lt m _ _ _ hm
 have lt2 : ∀ x ∈ p2,x.block < W.heap.size:=by obtain ⟨m,hm⟩:=h2; exact DataW.trod_lt m _ _ _ hm
 obtain ⟨n0,rfl⟩:=okWide_int Try.underlying3 (hval 0 3 v0 rfl rfl)
 obtain ⟨n1,rfl⟩:=okWide_int Try.underlying3 (hval 1 3 v1 rfl rfl)
 obtain ⟨n2,rfl⟩:=okWide_int Try.underlying3 (hval 2 3 v2 rfl rfl)
 clear hA0 hval0
 refine ((topSoon_told hT hP hR hS hK hO n0 n1 n2).yes (W:=W) (vs:=[.int .i64 n0,.int .i64 n1,.int .i64 n2]) (Vals.cons (.inl (CRep.v rfl)) (Vals.cons (.inl (CRep.v rfl)) (Vals.cons (.inl (CRep.v rfl)) Vals.nil)))).mono fun e W' ⟨he,bel⟩ => ?_
 subst he
 exact ⟨_,rfl,_,_,_,[],_,[],hW',trodAll_mk1 (shut_bool Try.underlying4 _),(trodAll_cons_mk (Below.trod laidOut (by kernel_rfl) (of_decide_eq_true (by kernel_rfl)) h0 bel lt0) (trodAll_cons_mk (Below.trod laidOut (by kernel_rfl) (of_decide_eq_true (by kernel_rfl)) h1 bel lt1) (trodAll_cons_mk (Below.trod laidOut (by kernel_rfl) (of_decide_eq_true (by kernel_rfl)) h2 bel lt2) trodAll_mk0))),rfl,bel.frame _,fun h => by cases h⟩
theorem over (hT : CTParse 22) (hP : CFPlay 9) (hR : CFRound 17) (hS : CFSettle 10) (hK : CKStill 11) (hO : CVOf 15) : Rows.topSoonRow.holds Try.pinned (OpenSpec.ofChange Rows.topSoonSpec) :=
 OpenClaim.holds_of_wide 6 Try.f6 rfl rfl rfl rfl rfl rfl rfl ⟨rfl,rfl,rfl,rfl,rfl⟩ rfl rfl rfl rfl rfl (by kernel_rfl) Try.func6 (by kernel_rfl)
  (of_decide_eq_true (by kernel_rfl)) (by unfold Func.isWrapper; first | (rw [if_pos (by decide +kernel)]; kernel_rfl) | (rw [if_neg (by decide +kernel)]; exact ⟨rfl,rfl⟩))
  (fun os started H enc _ => lifted hT hP hR hS hK hO os started H enc)
end Go.Proofs.Ytgaofjiidedcbad.topSoon
namespace Go.Proofs.Ytgaofjiidedcbad.ab
set_option maxRecDepth 100000
open Go Go.RowKit
def Q13r0 : IC:=cReg Try.prog [⟨some 4,none,iAlo 4 [zS,zI]⟩,⟨some 5,none,iMov 5 (.const (.slice none 0 0)) true⟩,⟨some 6,none,iMov 6 (.const (.int .i64 0)) true⟩] [0,1,4] [4]
def Q13r1 : IC:=cReg Try.prog [xM 13 0,xV1 14 18 13,xM 12 14,xE 15 12 0,xE 16 12 1,⟨some 7,none,iAlo 7 [zS,zI]⟩,xS 2 7 15,xT 8 16] [1,4,7,8] [4,7]
def Q13r2 : IC:=cReg Try.prog [xM 17 8,xC 18 .neq 17 0] [1,4,7,8,18] [4,7]
def Q13r3 : IC:=cReg Try.prog [⟨some 19,none,iBld 19 [zS,zI] [] []⟩,xM 20 8,xS 2 4 19,⟨some 5,none,iMov 5 (.const (.slice none 0 0)) true⟩,xT 6 20] [4,5,6] [4]
def Q13c1a : IC:=(cSeq Q13r3 cRet)
def Q13c1 : IC:=cCond (.tmp 18) Q13c1a cSkip
def Q13r4 : IC:=cReg Try.prog [xM 21 1,xN 22 21,xC 23 .gtr 22 160] [1,4,7,23] [4,7]
def Q13r5 : IC:=cReg Try.prog [⟨some 24,none,iBld 24 [zS,zI] [] []⟩,xS 2 4 24,⟨some 5,none,iMov 5 (.const (.slice none 0 0)) true⟩,⟨some 6,none,iMov 6 (.const (.int .i64 5)) true⟩] [4,5,6] [4]
def Q13c2a : IC:=(cSeq Q13r5 cRet)
def Q13c2 : IC:=cCond (.tmp 23) Q13c2a cSkip
def Q13r6 : IC:=cReg Try.prog [xM 25 1,xN 26 25,⟨some 27,none,iMkS 27 1 8 (zI) (.tmp 26) (.tmp 26)⟩,xT 9 27] [1,4,7,9] [4,7,100027]
def Q13r7 : IC:=cReg Try.prog [xM 28 1,xN 29 28,⟨some 30,none,iMov 30 (.const (.int .i64 0)) false⟩] [4,7,9,28,29,30] [4,7,100027]
def Q13r8 : IC:=cReg Try.prog [xB 31 .lss 30 29] [4,7,9,28,29,30,31] [4,7,100027]
def Q13c5 : IC:=cCond (.tmp 31) cSkip (cExit 0)
def Q13r9 : IC:=cReg Try.prog [xM 32 30,xI 33 7 28 30,xA 34 7 33,⟨some 11,none,iAlo 11 [zI,zI,zI,zI,zF,zI,zS]⟩,xT 10 32,xS 7 11 34] [4,7,9,10,11,28,29,30] [4,7,11,100027]
def Q13r10 : IC:=cReg Try.prog [xM 36 9,xM 37 10,xA 38 2 7,xA 39 7 11,xV2 40 19 38 39,xM 35 40,xE 41 35 0,xE 42 35 1,xS 2 7 41,xI 43 1 36 37,xS 1 43 42] [4,7,9,28,29,30] [4,7,100027]
def Q13b6 : IC:=cBlock 1 (cSeq Q13r9 Q13r10)
def Q13r11 : IC:=cReg Try.prog [xC 44 .add 30 1,xM 30 44] [4,7,9,28,29,30] [4,7,100027]
def Q13l4a : IC:=(cSeq Q13r8 (cSeq Q13c5 (cSeq Q13b6 Q13r11)))
def Q13l4 : IC:=cLoop Q13l4a
def Q13b3 : IC:=cBlock 0 Q13l4
def Q13r12 : IC:=cReg Try.prog [xA 45 2 7,xM 46 9,xS 2 4 45,xT 5 46,⟨some 6,none,iMov 6 (.const (.int .i64 0)) true⟩] [4,5,6] [4]
def fair_Play : IC:=(cSeq Q13r0 (cSeq Q13r1 (cSeq (cSeq Q13r2 Q13c1) (cSeq (cSeq Q13r4 Q13c2) (cSeq Q13r6 (cSeq (cSeq Q13r7 Q13b3) (cSeq Q13r12 cRet)))))))
theorem told_fair_Play {args r : List D} (hl : args.length = 2) (h : fair_Play (start args) (fin [(4,some (2,true)),(5,none),(6,none)] r)) : Told Try.prog 9 args r :=
 told_of follows Try.func9 rfl (an:=[([],[0,1,4],[4],[]),([],[1,4,7,8],[4,7],[]),([],[1,4,7,8,18],[4,7],[]),([],[4,5,6],[4],[]),([],[1,4,7,23],[4,7],[]),([],[4,5,6],[4],[]),([],[1,4,7,9],[4,7,100027],[]),([],[4,7,9,28,29,30],[4,7,100027],[]),([],[4,7,9,28,29,30,31],[4,7,100027],[]),([],[4,7,9,10,11,28,29,30],[4,7,11,100027],[]),([],[4,7,9,28,29,30],[4,7,100027],[]),([],[4,7,9,28,29,30],[4,7,100027],[]),([],[4,5,6],[4],[])]) (by kernel_rfl) (by kernel_rfl) (by rw [hl]; decide +kernel) h
def Q16r0 : IC:=cReg Try.prog [xX 2 0,⟨some 4,none,iAlo 4 [zS,zI,zI,zI,zI,zS,zI,zI,zS,zI,zI,zI,zS,zS,zF,zS,zS]⟩] [1,2,4] [2,4]
def Q16r1 : IC:=cReg Try.prog [xA 8 17 2,xM 9 1,⟨some 10,none,iCall 10 38 [(.tmp 8),(.const (.int .i64 0)),(.tmp 9)]⟩,xM 7 10,xE 11 7 0,xE 12 7 1,⟨some 5,none,iAlo 5 [zS,zI,zI,zI,zI,zS,zI,zI,zS,zI,zI,zI,zS,zS,zF,zS,zS]⟩,xS 17 5 11,xT 6 12] [1,2,4,5,6] [2,4,5]
def Q16r2 : IC:=cReg Try.prog [xM 13 6,xC 14 .neq 13 0] [1,2,4,5,14] [2,4,5]
def Q16r3 : IC:=cReg Try.prog [xA 15 17 2,xS 17 4 15] [4] [4]
def Q16c4a : IC:=(cSeq Q16r3 cRet)
def Q16c4 : IC:=cCond (.tmp 14) Q16c4a cSkip
def Q16r4 : IC:=cReg Try.prog [xA 16 17 5,xS 17 2 16] [1,2,4] [2,4]
def Q16b3 : IC:=cBlock 1 (cSeq Q16r1 (cSeq (cSeq Q16r2 Q16c4) Q16r4))
def Q16l2a : IC:=Q16b3
def Q16l2 : IC:=cLoop Q16l2a
def Q16b1 : IC:=cBlock 0 Q16l2
def fair_allCome : IC:=(cSeq Q16r0 Q16b1)
theorem told_fair_allCome {args r : List D} (hl : args.length = 2) (h : fair_allCome (start args) (fin [(4,some (17,true))] r)) : Told Try.prog 27 args r :=
 told_of follows Try.func27 rfl (an:=[([],[1,2,4],[2,4],[]),([],[1,2,4,5,6],[2,4,5],[]),([],[1,2,4,5,14],[2,4,5],[]),([],[4],[4],[]),([],[1,2,4],[2,4],[])]) (by kernel_rfl) (by kernel_rfl) (by rw [hl]; decide +kernel) h
def Q15r0 : IC:=cReg Try.prog [xX 1 0,⟨some 2,none,iAlo 2 [zS,zI]⟩,⟨some 3,none,iMov 3 (.const (.int .i64 0)) true⟩] [1,2] [1,2]
def Q15r1 : IC:=cReg Try.prog [xA 5 2 1,xV1 6 20 5,xS 2 1 6] [1,2] [1,2]
def Q15r2 : IC:=cReg Try.prog [⟨some 4,none,iMov 4 (.const (.int .i64 0)) true⟩] [1,2,4] [1,2]
def Q15r3 : IC:=cReg Try.prog [xM 7 4,xC 8 .lss 7 200,xM 9 8,xG 9 true (xA 10 2 1),xG 9 true (xV1 11 11 10),xG 9 true (xO 12 11),xQ 13 9 12] [1,2,4,13] [1,2]
def Q15c3 : IC:=cCond (.tmp 13) cSkip (cExit 0)
def Q15r4 : IC:=cReg Try.prog [xA 14 2 1,xV1 15 17 14,xS 2 1 15] [1,2,4] [1,2]
def Q15r5 : IC:=cReg Try.prog [xM 16 4,xC 17 .add 16 1,xT 4 17] [1,2,4] [1,2]
def Q15b4 : IC:=cBlock 1 (cSeq Q15r4 Q15r5)
def Q15l2a : IC:=(cSeq (cSeq Q15r3 Q15c3) Q15b4)
def Q15l2 : IC:=cLoop Q15l2a
def Q15b1 : IC:=cBlock 0 Q15l2
def Q15r6 : IC:=cReg Try.prog [xA 18 2 1,xM 19 4,xS 2 2 18,xT 3 19] [2,3] [2]
def fair_Settle : IC:=(cSeq Q15r0 (cSeq Q15r1 (cSeq Q15r2 (cSeq Q15b1 (cSeq Q15r6 cRet)))))
theorem told_fair_Settle {args r : List D} (hl : args.length = 1) (h : fair_Settle (start args) (fin [(2,some (2,true)),(3,none)] r)) : Told Try.prog 10 args r :=
 told_of follows Try.func10 rfl (an:=[([],[1,2],[1,2],[]),([],[1,2],[1,2],[]),([],[1,2,4],[1,2],[]),([],[1,2,4,13],[1,2],[]),([],[1,2,4],[1,2],[]),([],[1,2,4],[1,2],[]),([],[2,3],[2],[])]) (by kernel_rfl) (by kernel_rfl) (by rw [hl]; decide +kernel) h
end Go.Proofs.Ytgaofjiidedcbad.ab
