import Derived.Test.YtgaofjiidedcbacGreatM32
import Derived.Test.YtgaofjiidedcbacGreatM35
import Derived.Test.YtgaofjiidedcbacGreatPLane3
import Derived.Test.YtgaofjiidedcbacGreatM20
import Derived.Test.YtgaofjiidedcbacGreatProg
set_option maxHeartbeats 16000000
set_option linter.unusedVariables false
set_option linter.unusedSimpArgs false
namespace Go.Proofs.YtgaofjiidedcbacGreat.ab
open Go Go.RowKit
open mth
def CFPlay (f : Nat) : Prop:=(∀ (n : Int) (l : List Sp),l.length ≤ 9223372036854775807 → n < 1 ∨ 3 < n → Told Tryz.prog f [vI n,sD 7 (encSl l)] [aD (encWd ⟨[],0⟩),sD 1 [],vI 3]) ∧
 (∀ (n : Nat) (l : List Sp),1 ≤ n ∧ n ≤ 3 → l.length ≤ 9223372036854775807 → 160 < l.length → Told Tryz.prog f [vI n,sD 7 (encSl l)] [aD (encWd ⟨[],0⟩),sD 1 [],vI 5]) ∧
 (∀ (n : Nat) (l : List Sp),1 ≤ n ∧ n ≤ 3 → l.length ≤ 160 → Told Tryz.prog f [vI n,sD 7 (encSl l)] [aD (encWd (runW (newW n) l).1),sD 1 ((runW (newW n) l).2.map vI),vI 0])
def zye (f : Nat) : Prop:=∀ w,GoodW w → w.ticks ≤ 1000000 → Told Tryz.prog f [aD (encWd w)] [aD (encWd (roundW w))]
def zhd (f : Nat) : Prop:=∀ w,GoodW w → w.ticks ≤ 100000 → Told Tryz.prog f [aD (encWd w)] [aD (encWd (roundN (zjb 200 w) w)),vI (zjb 200 w)]
set_option maxRecDepth 100000
def Q88r0 : IC:=cReg Tryz.prog [⟨some 0,none,iMov 0 (.const (.bool false)) true⟩] [] []
def Q88r1 : IC:=cReg Tryz.prog [⟨some 7,none,iRow 7 5 1 [(.const (.int .u8 97))]⟩,⟨some 8,none,iCst 8 7⟩,⟨some 9,none,iBld 9 [zI,zS] [(1,1)] [(.tmp 8)]⟩,⟨some 10,none,iBld 10 [zI,zI,zI,zI,zF,zI,zS] [(0,1),(1,1),(5,2)] [(.const (.int .i64 2)),(.const (.int .i64 1)),(.tmp 9)]⟩,xR 11 45 7 10,⟨some 12,none,iCall 12 7 [(.const (.int .i64 2)),(.tmp 11)]⟩,xM 6 12,xE 13 6 0,xE 14 6 1,xE 15 6 2,⟨some 1,none,iAlo 1 [zS,zI]⟩,xS 2 1 13,xT 2 14,xT 3 15] [1,2,3] [1]
def Q88r2 : IC:=cReg Tryz.prog [xA 17 2 1,xV1 18 13 17,xM 16 18,xE 19 16 0,xE 20 16 1,⟨some 4,none,iAlo 4 [zS,zI]⟩,xS 2 4 19,xT 5 20] [1,2,3,4,5] [1,4]
def zy4 : IC:=cReg Tryz.prog [xM 21 3,xC 22 .eql 21 0,xM 23 22,xG 23 true (xM 24 2),xG 23 true (xN 25 24),xG 23 true (xC 26 .eql 25 1),xQ 27 23 26,xM 28 27,xG 28 true (xM 29 5),xG 28 true (xC 30 .gtr 29 1)] [1,4,28,30] [1,4]
def z83 : IC:=cReg Tryz.prog [xQ 31 28 30,xM 32 31,xG 32 true (xF 33 0 4),xG 32 true (xL 34 1 33),⟨some 35,some (32,true),iIaS 35 17 (.tmp 34) (.const (.int .i64 1))⟩,xG 32 true (xF 36 7 35),xG 32 true (xF 37 6 36),xG 32 true (xL 38 1 37),xG 32 true (xN 39 38),xG 32 true (xC 40 .eql 39 1)] [1,4,32,40] [1,4]
def zx4 : IC:=cReg Tryz.prog [xQ 41 32 40,xM 42 41,xG 42 true (xF 43 0 4),xG 42 true (xL 44 1 43),⟨some 45,some (42,true),iIaS 45 17 (.tmp 44) (.const (.int .i64 1))⟩,xG 42 true (xF 46 0 45),xG 42 true (xF 47 5 46),xG 42 true (xL 48 1 47),xG 42 true (xN 49 48),xG 42 true (xC 50 .eql 49 0)] [1,42,50] [1]
def zp6 : IC:=cReg Tryz.prog [xQ 51 42 50,xM 52 51,xG 52 true (xA 53 2 1),xG 52 true (xV1 54 11 53),⟨some 55,some (52,true),iFld 55 1 1 false (.tmp 54)⟩,xG 52 true (xC 56 .eql 55 1),xQ 57 52 56,xT 0 57] [0] []
def Q88r3 : IC:=(cSeq zy4 (cSeq z83 (cSeq zx4 zp6)))
def ztv : IC:=(cSeq Q88r0 (cSeq Q88r1 (cSeq Q88r2 (cSeq Q88r3 cRet))))
theorem z0i {args r : List D} (hl : args.length = 0) (h : ztv (start args) (fin [(0,none)] r)) : Told Tryz.prog 15 args r :=
 ze follows Tryz.func15 rfl (an:=[([],[],[],[]),([],[1,2,3],[1],[]),([],[1,2,3,4,5],[1,4],[]),([(10,[1,4,28,30],[1,4]),(10,[1,4,32,40],[1,4]),(10,[1,42,50],[1])],[0],[],[])]) (by kernel_rfl) (by kernel_rfl) (by rw [hl]; decide +kernel) h
def afP : Sp:=⟨2,1,0,0,false,⟨0,[97]⟩⟩
def afW : Wd:=(runW (newW 2) [afP]).1
theorem af_k : zjb 200 afW = 5:=by decide +kernel
theorem z00 : ∃ l,(roundN 5 afW).lanes[1]? = some l ∧ l.r.told.length = 1 ∧ l.s.flight.length = 0:=⟨(roundN 5 afW).lanes.getD 1 zeroL,by rw [List.getD_eq_getElem?_getD,List.getElem?_eq_getElem (by decide +kernel)]; rfl,by decide +kernel,by decide +kernel⟩
theorem zq0 : encB 97 = vD (.int .u8 97):=rfl
theorem zjg (hP : CFPlay 7) (hR : zye 11) (hT : zhd 13) : Told Tryz.prog 15 [] [vB true]:=by
 refine z0i rfl ?_
 have g0 : GoodW afW:=by
  have:=(z2i (zxi (by decide : 1 ≤ 2 ∧ 2 ≤ 3)) [afP] 1).1
  exact this
 have h1:=hP.2.2 2 [afP] (by decide) (by decide)
 have h2:=hT afW g0 (by decide)
 have h3:=hR afW g0 (by decide)
 rw [show (runW (newW 2) [afP]).1 = afW from rfl,show (runW (newW 2) [afP]).2 = [0] from rfl] at h1
 rw [af_k] at h2
 obtain ⟨l,q1,q2,q3⟩:=z00
 have r1:=at_ll q1
 have t1 : (roundW afW).ticks = 1:=by rw [zkd]; rfl
 have n1 : (((roundN 5 afW).lanes.length : Nat) : Int) = 2:=by rw [zfb]; rfl
 have z1 : ((l.r.told.length : Nat) : Int) = 1:=by rw [q2]; rfl
 have z2 : ((l.s.flight.length : Nat) : Int) = 0:=by rw [q3]; rfl
 have cn : ((2 : Nat) : Int) = 2:=rfl
 have c4 : ((5 : Nat) : Int) = 5:=rfl
 rw [cn] at h1
 rw [c4] at h2
 generalize roundN 5 afW = x at *
 generalize roundW afW = y at *
 generalize afW = w at *
 simp only [encWd,encSl,encSp,afP,zq0,encLn,List.map_cons,List.map_nil] at h1 h2 h3 r1
 rw [t1] at h3
 refine wk0 ?_
 refine cg [[aD (encWd w),sD 1 [vI 0],vI 0]] @encWd.eq_1 ?_ ?_
 ·refine ⟨⟨_,?_,h1⟩,trivial⟩
  repeat' (first | exact zj | exact zo | exact es_nil | exact CVLe.refl _ | exact LfLe.refl _ | exact LfLe.nil _ | exact EsLe.refl _ | refine zf ?_ ?_ | refine zk ?_ ?_ | refine zp ?_ ?_ | refine EsLe.app ?_ ?_ | refine CVLe.row ?_ | refine CVLe.leafV ?_ | refine CVLe.leafS ?_ | refine LfLe.s ?_)
 refine wk0 ?_
 refine cg [[aD (encWd x),vI 5]] @encWd.eq_1 ?_ ?_
 ·exact zb h2 zd
 refine wk (an10 @n1 @r1 @z1 @z2 @len_ll @len_ml @len_cl @zcons @znil @Int.toNat_one) ?_
 refine cg0 [[aD [sD 17 (encLl y.lanes),vI 1]]] ?_ ?_
 ·exact zb h3 zd
 refine wk0 ?_
 exact ValsLe.refl _
set_option maxRecDepth 100000
def Q59r0 : IC:=cReg Tryz.prog [xX 1 0,⟨some 2,none,iMov 2 (.const (.bool false)) true⟩] [1] [1]
def Q59r1 : IC:=cReg Tryz.prog [xF 5 0 1,xL 6 1 5,xN 7 6,⟨some 8,none,iMov 8 (.const (.int .i64 0)) false⟩] [6,7,8] []
def Q59r2 : IC:=cReg Tryz.prog [xB 9 .lss 8 7] [6,7,8,9] []
def Q59c3 : IC:=cCond (.tmp 9) cSkip (cExit 0)
def Q59r3 : IC:=cReg Tryz.prog [xI 10 17 6 8,xA 11 17 10,⟨some 4,none,iAlo 4 [zS,zI,zI,zI,zI,zS,zI,zI,zS,zI,zI,zI,zS,zS,zF,zS,zS]⟩,xS 17 4 11] [4,6,7,8] [4]
def Q59r4 : IC:=cReg Tryz.prog [xF 12 0 4,xF 13 0 12,xL 14 1 13,xN 15 14,xF 16 0 4,xF 17 5 16,xL 18 1 17,xN 19 18,xB 20 .add 15 19,xC 21 .gtr 20 0] [6,7,8,21] []
def Q59r5 : IC:=cReg Tryz.prog [⟨some 2,none,iMov 2 (.const (.bool false)) true⟩] [2] []
def Q59c5a : IC:=(cSeq Q59r5 cRet)
def Q59c5 : IC:=cCond (.tmp 21) Q59c5a cSkip
def Q59b4 : IC:=cBlock 1 (cSeq Q59r3 (cSeq Q59r4 Q59c5))
def Q59r6 : IC:=cReg Tryz.prog [xC 22 .add 8 1,xM 8 22] [6,7,8] []
def Q59l2a : IC:=(cSeq Q59r2 (cSeq Q59c3 (cSeq Q59b4 Q59r6)))
def Q59l2 : IC:=cLoop Q59l2a
def Q59b1 : IC:=cBlock 0 Q59l2
def Q59r7 : IC:=cReg Tryz.prog [⟨some 2,none,iMov 2 (.const (.bool true)) true⟩] [2] []
def zhz : IC:=(cSeq Q59r0 (cSeq (cSeq Q59r1 Q59b1) (cSeq Q59r7 cRet)))
theorem znk {args r : List D} (hl : args.length = 1) (h : zhz (start args) (fin [(2,none)] r)) : Told Tryz.prog 14 args r :=
 ze follows Tryz.func14 rfl (an:=[([],[1],[1],[]),([],[6,7,8],[],[]),([],[6,7,8,9],[],[]),([],[4,6,7,8],[4],[]),([],[6,7,8,21],[],[]),([],[2],[],[]),([],[6,7,8],[],[]),([],[2],[],[])]) (by kernel_rfl) (by kernel_rfl) (by rw [hl]; decide +kernel) h
def slSt (w : Wd) (k : Nat) : St:=⟨[(6,sD 17 (encLl w.lanes)),(7,vI w.lanes.length),(8,vI k)],[],[]⟩
theorem zuq (w : Wd) (hw : GoodW w) : Told Tryz.prog 14 [aD (encWd w)] [vB (stillW w)]:=by
 refine znk rfl ?_
 have hn:=hw.n
 simp only [encWd]
 refine wk @len_ll ?_
 refine zw (fun m st => ∃ k : Nat,k ≤ w.lanes.length ∧ m = w.lanes.length - k ∧ (w.lanes.take k).all idleL = true ∧ st = slSt w k) w.lanes.length (slSt w 0) (Le.refl _) ⟨0,by omega,by omega,by simp,rfl⟩ ?_
 rintro m st ⟨k,hk,hm,hall,rfl⟩
 by_cases hlt : k < w.lanes.length
 ·obtain ⟨x,hx⟩ : ∃ x,w.lanes[k]? = some x:=⟨w.lanes[k],List.getElem?_eq_getElem hlt⟩
  have hxm:=List.mem_of_getElem? hx
  have hg:=hw.l x hxm
  have g1 : (k : Int) < (w.lanes.length : Int):=by omega
  have g2 : (0 : Int) ≤ (k : Int):=by omega
  have g3:=at_ll hx
  have g4 : inR .i64 ((k : Int) + 1) = true:=inR_of (by omega)
  have g5 : inR .i64 ((x.s.queue.length : Int) + (x.s.flight.length : Int)) = true:=inR_of (by have:=hg.s.q; have:=hg.s.f; omega)
  cases hi : idleL x with
  | true =>
   obtain ⟨q1,q2⟩:=zti.1 hi
   have g6 : ¬ 0 < (x.s.queue.length : Int) + (x.s.flight.length : Int):=by rw [q1,q2]; simp
   have hnx : Next (fun m st => ∃ k : Nat,k ≤ w.lanes.length ∧ m = w.lanes.length - k ∧ (w.lanes.take k).all idleL = true ∧ st = slSt w k) m (slSt w (k + 1)):=⟨w.lanes.length - (k + 1),_,by omega,Le.refl _,k + 1,by omega,rfl,by
    rw [List.take_add_one,hx,List.all_append,hall]; simp [hi],rfl⟩
   generalize (fun m st => ∃ k : Nat,k ≤ w.lanes.length ∧ m = w.lanes.length - k ∧ (w.lanes.take k).all idleL = true ∧ st = slSt w k) = J at *
   simp only [slSt,encLn,Int.natCast_add,Int.cast_ofNat_Int] at g3 hnx ⊢
   refine wk (an10 @g1 @g2 @g3 @g4 @g5 @g6 @len_ll @len_ml @len_cl @Int.toNat_natCast) ?_
   exact hnx
  | false =>
   have g6 : 0 < (x.s.queue.length : Int) + (x.s.flight.length : Int):=by
    unfold idleL at hi
    cases h1 : x.s.queue with
    | cons a b => simp only [List.length_cons]; omega
    | nil =>
     cases h2 : x.s.flight with
     | cons a b => simp only [List.length_cons]; omega
     | nil => rw [h1,h2] at hi; cases hi
   have hs : stillW w = false:=by
    unfold stillW
    rw [List.all_eq_false]
    exact ⟨x,hxm,by rw [hi]; simp⟩
   rw [hs]
   generalize (fun m st => ∃ k : Nat,k ≤ w.lanes.length ∧ m = w.lanes.length - k ∧ (w.lanes.take k).all idleL = true ∧ st = slSt w k) = J at *
   simp only [slSt,encLn] at g3 ⊢
   refine wk (an9 @g1 @g2 @g3 @g5 @g6 @len_ll @len_ml @len_cl @Int.toNat_natCast) ?_
   exact ValsLe.refl _
 ·have hkn : k = w.lanes.length:=by omega
  subst hkn
  rw [List.take_length] at hall
  have hs : stillW w = true:=hall
  rw [hs]
  have g1 : ¬ (w.lanes.length : Int) < (w.lanes.length : Int):=by omega
  generalize (fun m st => ∃ k : Nat,k ≤ w.lanes.length ∧ m = w.lanes.length - k ∧ (w.lanes.take k).all idleL = true ∧ st = slSt w k) = J at *
  simp only [slSt]
  refine wk @g1 ?_
  exact ValsLe.refl _
end Go.Proofs.YtgaofjiidedcbacGreat.ab
