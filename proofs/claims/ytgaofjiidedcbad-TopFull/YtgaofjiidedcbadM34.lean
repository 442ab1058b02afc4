import Derived.Test.YtgaofjiidedcbadM33
import Derived.Test.YtgaofjiidedcbadM21
import Derived.Test.YtgaofjiidedcbadM29
import Derived.ChangeOld
import Derived.SizedLaws
import Derived.Test.YtgaofjiidedcbadM20
import Derived.Test.YtgaofjiidedcbadProg
set_option maxHeartbeats 16000000
set_option linter.unusedVariables false
set_option linter.unusedSimpArgs false
namespace Go.Proofs.Ytgaofjiidedcbad.ab
open Go Go.RowKit
open mth
def tf1 (r i : Nat) : St:=⟨[(3,sD 7 (encSl (List.replicate i (putSp 0 msA)))),(20,vI (6 + (r : Int))),(21,vI i)],[],[((3,none),(30,7,none))]⟩
def tf2 (w : Wd) (es : List Int) (k : Int) (i : Nat) : St:=⟨[(4,pD 4 0),(43,sD 1 (es.map vI)),(44,vI k),(45,vI i)],[(4,encWd w)],[]⟩
theorem at_esT {es : List Int} {i : Nat} {x : Int} (h : es[i]? = some x) : (es.map vI)[i]? = some (vI x):=by simp [h]
theorem topFull_good (hT : CTParse 22) (hP : CFPlay 9) (hS : CFSettle 10) (hK : CKStill 11) (r : Nat) (hr : r ≤ 20) : Told Try.prog 5 [vI r] [vB true]:=by
 refine told_lktop_TopFull rfl ?_
 have hA:=aliveTop_told hT hP hS hK
 have n1 : ¬ (r : Int) < 0:=by omega
 have n2 : ¬ 20 < (r : Int):=by omega
 have n3 : inR .i64 (6 + (r : Int)) = true:=inR_of (by omega)
 refine wk0 ?_
 refine cg [[vB true]] Bool.not_true ?_ ?_
 ·exact obl_cons hA obl_nil
 refine wk (an3 @n1 @n2 @n3) ?_
 refine aw_loop (fun m st => ∃ i : Nat,i ≤ 6 + r ∧ m = 6 + r - i ∧ st = tf1 r i) (6 + r) (tf1 r 0) ((Le.nilS 3 30 7 rfl).trans (Le.keep (lv:=[3,20,21]) (lb:=[]) (by simp only [ev0,ev1,ev2,look,lookF,cellsFrom,offT,offP,List.tail_nil,List.length_nil,Int.cast_ofNat_Int,Nat.reduceEqDiff,Nat.reduceAdd,Nat.reduceMul,Nat.reduceLeDiff,Nat.reduceLT,↓reduceIte,reduceCtorEq,Int.reduceBEq,Int.reduceBNe,Int.reduceLT,Int.reduceLE,Int.reduceToNat]; rfl))) ⟨0,by omega,by omega,rfl⟩ ?_
 rintro m st ⟨i,hi,hm,rfl⟩
 by_cases hlt : i < 6 + r
 ·have g1 : (i : Int) < 6 + (r : Int):=by omega
  have g4 : inR .i64 ((i : Int) + 1) = true:=inR_of (by omega)
  have b1 : ((List.replicate i (putSp 0 msA)).length + 1) * 72 ≤ 140737488355328:=by rw [List.length_replicate]; omega
  have a1:=tput_told hT 0 ⟨#[48,58,54,49]⟩ [48,58,54,49] rfl (by decide) (by decide)
  rw [show parseM [48,58,54,49] = msA from rfl] at a1
  have hnx : Next (fun m st => ∃ i : Nat,i ≤ 6 + r ∧ m = 6 + r - i ∧ st = tf1 r i) m (tf1 r (i + 1)):=⟨6 + r - (i + 1),_,by omega,Le.refl _,i + 1,by omega,rfl,rfl⟩
  generalize (fun m st => ∃ i : Nat,i ≤ 6 + r ∧ m = 6 + r - i ∧ st = tf1 r i) = J at *
  unfold tf1 at hnx ⊢
  rw [List.replicate_succ',sl_snoc] at hnx
  generalize List.replicate i (putSp 0 msA) = L at *
  generalize putSp 0 msA = s at *
  simp only [encSp,Int.natCast_add,Int.cast_ofNat_Int] at a1 hnx ⊢
  refine wk @g1 ?_
  refine cg [[aD (encSp s)]] (an3 @encSp.eq_1 @b1 @len_sl) ?_ ?_
  ·exact obl_cons a1 obl_nil
  refine wk @g4 ?_
  exact hnx
 have hin : i = 6 + r:=by omega
 subst hin
 have g1 : ¬ ((6 + r : Nat) : Int) < 6 + (r : Int):=by omega
 generalize (fun m st => ∃ i : Nat,i ≤ 6 + r ∧ m = 6 + r - i ∧ st = tf1 r i) = J1 at *
 have h1:=hP.2.2 1 (List.replicate (6 + r) (putSp 0 msA)) (by decide) (by simp; omega)
 rw [run_full] at h1
 have e6 : min (6 + r) 6 = 6:=by omega
 rw [e6] at h1
 have hlen:=errN_len (6 + r)
 have hat:=fun i (h : i < 6 + r) => errN_at h
 have gw : GoodW (fullW 6):=by
  have:=(good_run (good_new (by decide : 1 ≤ 1 ∧ 1 ≤ 3)) (List.replicate 6 (putSp 0 msA)) 6).1
  rw [List.take_of_length_le (by simp),run_full] at this
  exact this
 have hk:=wknow_run 1 (List.replicate 6 (putSp 0 msA)) (fun s hs => by rw [(List.mem_replicate.1 hs).2]; decide) 6 (by simp)
 rw [List.take_of_length_le (by simp),run_full] at hk
 have hend:=settle_ends gw hk
 have hx:=gw.rounds (settleK 200 (fullW 6))
 have h2:=hS (fullW 6) gw (by decide)
 have h3:=hK _ (by have:=hx.n; omega) (fun l hl => good_smallN (hx.l l hl))
 rw [hend] at h3
 obtain ⟨l,q1,q2⟩:=full_told
 have r1:=at_ll q1
 have hxl : ((roundN (settleK 200 (fullW 6)) (fullW 6)).lanes.length : Int) = 1:=by rw [roundN_len]; rfl
 have z1 : ((l.r.told.length : Nat) : Int) = 6:=by rw [q2]; rfl
 have c1 : ((1 : Nat) : Int) = 1:=rfl
 rw [c1] at h1
 have hLl : (encSl (List.replicate (6 + r) (putSp 0 msA))).length = 6 + r:=by rw [len_sl,List.length_replicate]
 have z2 : (((errN (6 + r)).length : Int) != ((6 + r : Nat) : Int)) = false:=by rw [hlen]; exact bne_self_eq_false _
 clear hk gw hx hend
 unfold tf1
 generalize encSl (List.replicate (6 + r) (putSp 0 msA)) = LD at *
 generalize errN (6 + r) = es at *
 generalize roundN (settleK 200 (fullW 6)) (fullW 6) = x at *
 generalize settleK 200 (fullW 6) = K at *
 generalize fullW 6 = w at *
 simp only [encWd,encLn] at h1 h2 h3 r1 ⊢
 refine wk @g1 ?_
 refine cg [[aD (encWd w),sD 1 (es.map vI),vI 0]] @encWd.eq_1 ?_ ?_
 ·exact obl_cons h1 obl_nil
 refine wk (an3 @z2 @hLl @zmap) ?_
 refine aw_loop (fun m st => ∃ i : Nat,i ≤ es.length ∧ m = es.length - i ∧ st = tf2 w es es.length i) es.length (tf2 w es es.length 0) (Le.refl _) ⟨0,by omega,by omega,rfl⟩ ?_
 rintro m st ⟨i,hi,hm,rfl⟩
 by_cases hlt : i < es.length
 ·have k1 : (i : Int) < (es.length : Int):=by omega
  have k2 : (0 : Int) ≤ (i : Int):=by omega
  have k3:=at_esT (hat i (by omega))
  have k4 : inR .i64 ((i : Int) + 1) = true:=inR_of (by omega)
  have hnx : Next (fun m st => ∃ i : Nat,i ≤ es.length ∧ m = es.length - i ∧ st = tf2 w es es.length i) m (tf2 w es es.length (i + 1)):=⟨es.length - (i + 1),_,by omega,Le.refl _,i + 1,by omega,rfl,rfl⟩
  generalize (fun m st => ∃ i : Nat,i ≤ es.length ∧ m = es.length - i ∧ st = tf2 w es es.length i) = J at *
  simp only [tf2,encWd,Int.natCast_add,Int.cast_ofNat_Int] at hnx ⊢
  by_cases h6 : i < 6
  ·have k5 : (i : Int) < 6:=by omega
   rw [if_pos h6] at k3
   refine wk (an7 @k1 @k2 @k3 @k5 @zbne @zmap @Int.toNat_natCast) ?_
   refine wk @k4 ?_
   exact hnx
  ·have k5 : ¬ (i : Int) < 6:=by omega
   rw [if_neg h6] at k3
   refine wk (an7 @k1 @k2 @k3 @k5 @zbne @zmap @Int.toNat_natCast) ?_
   refine wk @k4 ?_
   exact hnx
 have hin : i = es.length:=by omega
 subst hin
 have k1 : ¬ (es.length : Int) < (es.length : Int):=by omega
 generalize (fun m st => ∃ i : Nat,i ≤ es.length ∧ m = es.length - i ∧ st = tf2 w es es.length i) = J2 at *
 simp only [tf2,encWd]
 refine wk @k1 ?_
 refine cg [[aD (encWd x),vI K]] @encWd.eq_1 ?_ ?_
 ·exact obl_cons h2 obl_nil
 refine wk (an6 @hxl @r1 @z1 @len_ll @len_ml @Int.toNat_zero) ?_
 refine cg [[vB true]] (an6 @hxl @r1 @z1 @len_ll @len_ml @Int.toNat_zero) ?_ ?_
 ·exact obl_cons h3 obl_nil
 refine wk0 ?_
 exact ValsLe.refl _
theorem topFull_told (hT : CTParse 22) (hP : CFPlay 9) (hS : CFSettle 10) (hK : CKStill 11) (r : Int) : Told Try.prog 5 [vI r] [vB true]:=by
 by_cases h : r < 0 ∨ 20 < r
 ·refine told_lktop_TopFull rfl ?_
  have hA:=aliveTop_told hT hP hS hK
  refine wk0 ?_
  refine cg [[vB true]] Bool.not_true ?_ ?_
  ·exact obl_cons hA obl_nil
  by_cases n1 : r < 0
  ·refine wk @n1 ?_
   exact ValsLe.refl _
  have n2 : 20 < r:=by omega
  refine wk (an2 @n1 @n2) ?_
  exact ValsLe.refl _
 ·obtain ⟨v,rfl⟩ : ∃ v : Nat,r = v:=⟨r.toNat,by omega⟩
  exact topFull_good hT hP hS hK v (by omega)
end Go.Proofs.Ytgaofjiidedcbad.ab
namespace Go.Proofs.Ytgaofjiidedcbad.topFull
open Go Go.ChangeShapes Go.WideShapes Go.ChangeAt Go.RowKit
open ab mth
set_option maxRecDepth 100000 in
theorem lifted (hT : CTParse 22) (hP : CFPlay 9) (hS : CFSettle 10) (hK : CKStill 11) (os : Os) (started : os.Started) (H : Type) (enc : TypeId × Value → H) :
  ReturnsInHanded {} Try.checked os 5 .any (Rows.topFullSpec.pre6 enc Try.prog Try.f5 Rows.topFullRow.domain false) (Rows.topFullSpec.post enc Try.prog Try.f5 false true false false):=by
 refine returnsInHanded_of_change_sized (C:=Try.checked) own started (by kernel_rfl) Try.func5
  (ChangeSpec.witness6 (enc:=enc) (C:=Try.checked) false ⟨#[],#[.int .i64 0],[]⟩ 8 (by kernel_rfl) (by kernel_rfl) (by kernel_rfl) (by kernel_rfl)) ?_
 intro W base args ds gs before hval0 hW0 hcnd hsz0 _
 have hval : ∀ (j : Nat) t v,Try.f5.params[j]? = some t → args[j]? = some v → Value.okWide Try.prog W .any base t v:=hval0
 have hW':=hW0
 obtain ⟨p,q,hA0,hV,rfl,hfz,hnd⟩:=hW0
 have hA : DataW.TrodAll enc Try.prog W 0 (fun _ => true) true Try.f5.params.toList args.toList ds p:=hA0
 rw [Try.params5] at hA hval
 obtain ⟨v0,vs0,d0,ds0,p0,q0,hargs,rfl,rfl,h0,r0⟩:=trodAll_cons hA
 obtain ⟨rfl,rfl,rfl⟩:=trodAll_nil r0
 obtain rfl : args = #[v0]:=by cases args; simp_all
 obtain ⟨rfl,rfl⟩:=trodVars_none hV
 have lt0 : ∀ x ∈ p0,x.block < W.heap.size:=by obtain ⟨m,hm⟩:=h0; exact DataW.trod_lt m _ _ _ hm
 obtain ⟨n0,rfl⟩:=okWide_int Try.underlying3 (hval 0 3 v0 rfl rfl)
 clear hA0 hval0
 refine ((topFull_told hT hP hS hK n0).yes (W:=W) (vs:=[.int .i64 n0]) (Vals.cons (.inl (CRep.v rfl)) Vals.nil)).mono fun e W' ⟨he,bel⟩ => ?_
 subst he
 exact ⟨_,rfl,_,_,_,[],_,[],hW',trodAll_mk1 (shut_bool Try.underlying4 _),(trodAll_cons_mk (Below.trod laidOut (by kernel_rfl) (of_decide_eq_true (by kernel_rfl)) h0 bel lt0) trodAll_mk0),rfl,bel.frame _,fun h => by cases h⟩
theorem over (hT : CTParse 22) (hP : CFPlay 9) (hS : CFSettle 10) (hK : CKStill 11) : Rows.topFullRow.holds Try.pinned (OpenSpec.ofChange Rows.topFullSpec) :=
 OpenClaim.holds_of_wide 5 Try.f5 rfl rfl rfl rfl rfl rfl rfl ⟨rfl,rfl,rfl,rfl,rfl⟩ rfl rfl rfl rfl rfl (by kernel_rfl) Try.func5 (by kernel_rfl)
  (of_decide_eq_true (by kernel_rfl)) (by unfold Func.isWrapper; first | (rw [if_pos (by decide +kernel)]; kernel_rfl) | (rw [if_neg (by decide +kernel)]; exact ⟨rfl,rfl⟩))
  (fun os started H enc _ => lifted hT hP hS hK os started H enc)
end Go.Proofs.Ytgaofjiidedcbad.topFull
namespace Go.Proofs.Ytgaofjiidedcbad.ab
set_option maxRecDepth 100000
open Go Go.RowKit
def Q13r0 : IC:=cReg Try.prog [⟨some 4,none,iAlo 4 [zS,zI]⟩,⟨some 5,none,iMov 5 (.const (.slice none 0 0)) true⟩,⟨some 6,none,iMov 6 (.const (.int .i64 0)) true⟩] [0,1,4] [4]
def Q13r1 : IC:=cReg Try.prog [xM 13 0,xV1 14 18 13,xM 12 14,xE 15 12 0,xE 16 12 1,⟨some 7,none,iAlo 7 [zS,zI]⟩,xS 2 7 15,xT 8 16] [1,4,7,8] [4,7]
def Q13r2 : IC:=cReg Try.prog [xM 17 8,xC 18 .neq 17 0] [1,4,7,8,18] [4,7]
def Q13r3 : IC:=cReg Try.prog [⟨some 19,none,iBld 19 [zS,zI] [] []⟩,xM 20 8,xS 2 4 19,⟨some 5,none,iMov 5 (.const (.slice none 0 0)) true⟩,xT 6 20] [4,5,6] [4]
def Q13c1a : IC:=(cSeq Q13r3 cRet)
def Q13c1 : IC:=cCond (.tmp 18) Q13c1a cSkip
def Q13r4 : IC:=cReg Try.prog [xM 21 1,xN 22 21,xC 23 .gtr 22 160] [1,4,7,23] [4,7]
def Q13r5 : IC:=cReg Try.prog [⟨some 24,none,iBld 24 [zS,zI] [] []⟩,xS 2 4 24,⟨some 5,none,iMov 5 (.const (.slice none 0 0)) true⟩,⟨some 6,none,iMov 6 (.const (.int .i64 5)) true⟩] [4,5,6] [4]
def Q13c2a : IC:=(cSeq Q13r5 cRet)
def Q13c2 : IC:=cCond (.tmp 23) Q13c2a cSkip
def Q13r6 : IC:=cReg Try.prog [xM 25 1,xN 26 25,⟨some 27,none,iMkS 27 1 8 (zI) (.tmp 26) (.tmp 26)⟩,xT 9 27] [1,4,7,9] [4,7,100027]
def Q13r7 : IC:=cReg Try.prog [xM 28 1,xN 29 28,⟨some 30,none,iMov 30 (.const (.int .i64 0)) false⟩] [4,7,9,28,29,30] [4,7,100027]
def Q13r8 : IC:=cReg Try.prog [xB 31 .lss 30 29] [4,7,9,28,29,30,31] [4,7,100027]
def Q13c5 : IC:=cCond (.tmp 31) cSkip (cExit 0)
def Q13r9 : IC:=cReg Try.prog [xM 32 30,xI 33 7 28 30,xA 34 7 33,⟨some 11,none,iAlo 11 [zI,zI,zI,zI,zF,zI,zS]⟩,xT 10 32,xS 7 11 34] [4,7,9,10,11,28,29,30] [4,7,11,100027]
def Q13r10 : IC:=cReg Try.prog [xM 36 9,xM 37 10,xA 38 2 7,xA 39 7 11,xV2 40 19 38 39,xM 35 40,xE 41 35 0,xE 42 35 1,xS 2 7 41,xI 43 1 36 37,xS 1 43 42] [4,7,9,28,29,30] [4,7,100027]
def Q13b6 : IC:=cBlock 1 (cSeq Q13r9 Q13r10)
def Q13r11 : IC:=cReg Try.prog [xC 44 .add 30 1,xM 30 44] [4,7,9,28,29,30] [4,7,100027]
def Q13l4a : IC:=(cSeq Q13r8 (cSeq Q13c5 (cSeq Q13b6 Q13r11)))
def Q13l4 : IC:=cLoop Q13l4a
def Q13b3 : IC:=cBlock 0 Q13l4
def Q13r12 : IC:=cReg Try.prog [xA 45 2 7,xM 46 9,xS 2 4 45,xT 5 46,⟨some 6,none,iMov 6 (.const (.int .i64 0)) true⟩] [4,5,6] [4]
def fair_Play : IC:=(cSeq Q13r0 (cSeq Q13r1 (cSeq (cSeq Q13r2 Q13c1) (cSeq (cSeq Q13r4 Q13c2) (cSeq Q13r6 (cSeq (cSeq Q13r7 Q13b3) (cSeq Q13r12 cRet)))))))
theorem told_fair_Play {args r : List D} (hl : args.length = 2) (h : fair_Play (start args) (fin [(4,some (2,true)),(5,none),(6,none)] r)) : Told Try.prog 9 args r :=
 told_of follows Try.func9 rfl (an:=[([],[0,1,4],[4],[]),([],[1,4,7,8],[4,7],[]),([],[1,4,7,8,18],[4,7],[]),([],[4,5,6],[4],[]),([],[1,4,7,23],[4,7],[]),([],[4,5,6],[4],[]),([],[1,4,7,9],[4,7,100027],[]),([],[4,7,9,28,29,30],[4,7,100027],[]),([],[4,7,9,28,29,30,31],[4,7,100027],[]),([],[4,7,9,10,11,28,29,30],[4,7,11,100027],[]),([],[4,7,9,28,29,30],[4,7,100027],[]),([],[4,7,9,28,29,30],[4,7,100027],[]),([],[4,5,6],[4],[])]) (by kernel_rfl) (by kernel_rfl) (by rw [hl]; decide +kernel) h
def Q16r0 : IC:=cReg Try.prog [xX 2 0,⟨some 4,none,iAlo 4 [zS,zI,zI,zI,zI,zS,zI,zI,zS,zI,zI,zI,zS,zS,zF,zS,zS]⟩] [1,2,4] [2,4]
def Q16r1 : IC:=cReg Try.prog [xA 8 17 2,xM 9 1,⟨some 10,none,iCall 10 38 [(.tmp 8),(.const (.int .i64 0)),(.tmp 9)]⟩,xM 7 10,xE 11 7 0,xE 12 7 1,⟨some 5,none,iAlo 5 [zS,zI,zI,zI,zI,zS,zI,zI,zS,zI,zI,zI,zS,zS,zF,zS,zS]⟩,xS 17 5 11,xT 6 12] [1,2,4,5,6] [2,4,5]
def Q16r2 : IC:=cReg Try.prog [xM 13 6,xC 14 .neq 13 0] [1,2,4,5,14] [2,4,5]
def Q16r3 : IC:=cReg Try.prog [xA 15 17 2,xS 17 4 15] [4] [4]
def Q16c4a : IC:=(cSeq Q16r3 cRet)
def Q16c4 : IC:=cCond (.tmp 14) Q16c4a cSkip
def Q16r4 : IC:=cReg Try.prog [xA 16 17 5,xS 17 2 16] [1,2,4] [2,4]
def Q16b3 : IC:=cBlock 1 (cSeq Q16r1 (cSeq (cSeq Q16r2 Q16c4) Q16r4))
def Q16l2a : IC:=Q16b3
def Q16l2 : IC:=cLoop Q16l2a
def Q16b1 : IC:=cBlock 0 Q16l2
def fair_allCome : IC:=(cSeq Q16r0 Q16b1)
theorem told_fair_allCome {args r : List D} (hl : args.length = 2) (h : fair_allCome (start args) (fin [(4,some (17,true))] r)) : Told Try.prog 27 args r :=
 told_of follows Try.func27 rfl (an:=[([],[1,2,4],[2,4],[]),([],[1,2,4,5,6],[2,4,5],[]),([],[1,2,4,5,14],[2,4,5],[]),([],[4],[4],[]),([],[1,2,4],[2,4],[])]) (by kernel_rfl) (by kernel_rfl) (by rw [hl]; decide +kernel) h
def Q15r0 : IC:=cReg Try.prog [xX 1 0,⟨some 2,none,iAlo 2 [zS,zI]⟩,⟨some 3,none,iMov 3 (.const (.int .i64 0)) true⟩] [1,2] [1,2]
def Q15r1 : IC:=cReg Try.prog [xA 5 2 1,xV1 6 20 5,xS 2 1 6] [1,2] [1,2]
def Q15r2 : IC:=cReg Try.prog [⟨some 4,none,iMov 4 (.const (.int .i64 0)) true⟩] [1,2,4] [1,2]
def Q15r3 : IC:=cReg Try.prog [xM 7 4,xC 8 .lss 7 200,xM 9 8,xG 9 true (xA 10 2 1),xG 9 true (xV1 11 11 10),xG 9 true (xO 12 11),xQ 13 9 12] [1,2,4,13] [1,2]
def Q15c3 : IC:=cCond (.tmp 13) cSkip (cExit 0)
def Q15r4 : IC:=cReg Try.prog [xA 14 2 1,xV1 15 17 14,xS 2 1 15] [1,2,4] [1,2]
def Q15r5 : IC:=cReg Try.prog [xM 16 4,xC 17 .add 16 1,xT 4 17] [1,2,4] [1,2]
def Q15b4 : IC:=cBlock 1 (cSeq Q15r4 Q15r5)
def Q15l2a : IC:=(cSeq (cSeq Q15r3 Q15c3) Q15b4)
def Q15l2 : IC:=cLoop Q15l2a
def Q15b1 : IC:=cBlock 0 Q15l2
def Q15r6 : IC:=cReg Try.prog [xA 18 2 1,xM 19 4,xS 2 2 18,xT 3 19] [2,3] [2]
def fair_Settle : IC:=(cSeq Q15r0 (cSeq Q15r1 (cSeq Q15r2 (cSeq Q15b1 (cSeq Q15r6 cRet)))))
theorem told_fair_Settle {args r : List D} (hl : args.length = 1) (h : fair_Settle (start args) (fin [(2,some (2,true)),(3,none)] r)) : Told Try.prog 10 args r :=
 told_of follows Try.func10 rfl (an:=[([],[1,2],[1,2],[]),([],[1,2],[1,2],[]),([],[1,2,4],[1,2],[]),([],[1,2,4,13],[1,2],[]),([],[1,2,4],[1,2],[]),([],[1,2,4],[1,2],[]),([],[2,3],[2],[])]) (by kernel_rfl) (by kernel_rfl) (by rw [hl]; decide +kernel) h
end Go.Proofs.Ytgaofjiidedcbad.ab
