import Derived.Test.YtgaofjiidedcbadM31
import Derived.Test.YtgaofjiidedcbadM19
import Derived.Test.YtgaofjiidedcbadProg
set_option maxHeartbeats 16000000
set_option linter.unusedVariables false
set_option linter.unusedSimpArgs false
namespace Go.Proofs.Ytgaofjiidedcbad.ab
open Go Go.RowKit
open mth
def CTParse (f : Nat) : Prop:=∀ (S : ByteArray) (xs : List UInt8),S.data.toList = xs → S.size ≤ 100 → parseE xs = 0 → Told Try.prog f [vD (.string S)] [aD (encMs (parseM xs)),vI 0]
theorem tput_told (hT : CTParse 22) (t : Int) (S : ByteArray) (xs : List UInt8) (h1 : S.data.toList = xs) (h2 : S.size ≤ 100) (h3 : parseE xs = 0) : Told Try.prog 13 [vI t,vD (.string S)] [aD (encSp (putSp t (parseM xs)))]:=by
 refine told_lktop_put rfl ?_
 have hq:=hT S xs h1 h2 h3
 generalize parseM xs = m at *
 simp only [encSp,putSp,encMs] at hq ⊢
 refine wk0 ?_
 refine cg [[aD (encMs m),vI 0]] @encMs.eq_1 ?_ ?_
 ·exact obl_cons hq obl_nil
 refine wk0 ?_
 exact ValsLe.refl _
def msB : Ms:=⟨1,[98]⟩
def atW : Wd:=(runW (newW 2) [putSp 0 msA,putSp 1 msB]).1
theorem at_k : settleK 200 atW = 5:=by decide +kernel
theorem at_still : stillW (roundN 5 atW) = true:=by decide +kernel
theorem at_told : ∃ l,(roundN 5 atW).lanes[1]? = some l ∧ l.r.told.length = 1:=⟨(roundN 5 atW).lanes.getD 1 zeroL,getD_get (by decide +kernel),by decide +kernel⟩
theorem aliveTop_told (hT : CTParse 22) (hP : CFPlay 9) (hS : CFSettle 10) (hK : CKStill 11) : Told Try.prog 7 [] [vB true]:=by
 refine told_lktop_alive rfl ?_
 have g0 : GoodW atW:=by
  have:=(good_run (good_new (by decide : 1 ≤ 2 ∧ 2 ≤ 3)) [putSp 0 msA,putSp 1 msB] 2).1
  exact this
 have a1:=tput_told hT 0 ⟨#[48,58,54,49]⟩ [48,58,54,49] rfl (by decide) (by decide)
 have a2:=tput_told hT 1 ⟨#[49,58,54,50]⟩ [49,58,54,50] rfl (by decide) (by decide)
 rw [show parseM [48,58,54,49] = msA from rfl] at a1
 rw [show parseM [49,58,54,50] = msB from rfl] at a2
 have h1:=hP.2.2 2 [putSp 0 msA,putSp 1 msB] (by decide) (by decide)
 have h2:=hS atW g0 (by decide)
 have g6:=g0.rounds 5
 have h3:=hK (roundN 5 atW) (by have:=g6.n; omega) (fun l hl => good_smallN (g6.l l hl))
 rw [show (runW (newW 2) [putSp 0 msA,putSp 1 msB]).1 = atW from rfl] at h1
 rw [at_k] at h2
 rw [at_still] at h3
 obtain ⟨l,q1,q2⟩:=at_told
 have r1:=at_ll q1
 have n1 : (((roundN 5 atW).lanes.length : Nat) : Int) = 2:=by rw [roundN_len]; rfl
 have z1 : ((l.r.told.length : Nat) : Int) = 1:=by rw [q2]; rfl
 have cn : ((2 : Nat) : Int) = 2:=rfl
 have c6 : ((5 : Nat) : Int) = 5:=rfl
 rw [cn] at h1
 rw [c6] at h2
 generalize (runW (newW 2) [putSp 0 msA,putSp 1 msB]).2 = es at *
 generalize roundN 5 atW = x at *
 generalize atW = w at *
 generalize hs1 : putSp 0 msA = s1 at *
 generalize hs2 : putSp 1 msB = s2 at *
 simp only [encWd,encSl,encSp,encLn,List.map_cons,List.map_nil] at h1 h2 h3 a1 a2 r1
 refine wk0 ?_
 refine cg [[aD (encSp s1)],[aD (encSp s2)],[aD (encWd w),sD 1 (es.map vI),vI 0]] (an2 @encWd.eq_1 @encSp.eq_1) ?_ ?_
 ·exact obl_cons a1 (obl_cons a2 (obl_cons h1 obl_nil))
 refine wk0 ?_
 refine cg [[aD (encWd x),vI 5]] @encWd.eq_1 ?_ ?_
 ·exact obl_cons h2 obl_nil
 refine wk (an6 @n1 @r1 @z1 @len_ll @len_ml @Int.toNat_one) ?_
 refine cg [[vB true]] (an6 @n1 @r1 @z1 @len_ll @len_ml @Int.toNat_one) ?_ ?_
 ·exact obl_cons h3 obl_nil
 refine wk (an6 @n1 @r1 @z1 @len_ll @len_ml @Int.toNat_one) ?_
 exact ValsLe.refl _
set_option maxRecDepth 100000
def Q33r0 : IC:=cReg Try.prog [⟨some 2,none,iMov 2 (.const (.bool false)) true⟩] [0] []
def Q33r1 : IC:=cReg Try.prog [xM 5 0,xN 6 5,⟨some 7,none,iMov 7 (.const (.int .i64 0)) false⟩] [0,5,6,7] []
def Q33r2 : IC:=cReg Try.prog [xB 8 .lss 7 6] [0,5,6,7,8] []
def Q33c3 : IC:=cCond (.tmp 8) cSkip (cExit 0)
def Q33r3 : IC:=cReg Try.prog [xI 9 7 5 7,xA 10 7 9,⟨some 4,none,iAlo 4 [zI,zI,zI,zI,zF,zI,zS]⟩,xS 7 4 10] [0,4,5,6,7] [4]
def Q33r4 : IC:=cReg Try.prog [xF 11 0 4,xL 12 1 11,xC 13 .eql 12 2,xM 14 13,xG 14 false (xF 15 0 4),xG 14 false (xL 16 1 15),xG 14 false (xC 17 .eql 16 6),xP 18 14 17] [0,5,6,7,18] []
def Q33r5 : IC:=cReg Try.prog [⟨some 2,none,iMov 2 (.const (.bool false)) true⟩] [2] []
def Q33c5a : IC:=(cSeq Q33r5 cRet)
def Q33c5 : IC:=cCond (.tmp 18) Q33c5a cSkip
def Q33b4 : IC:=cBlock 1 (cSeq Q33r3 (cSeq Q33r4 Q33c5))
def Q33r6 : IC:=cReg Try.prog [xC 19 .add 7 1,xM 7 19] [0,5,6,7] []
def Q33l2a : IC:=(cSeq Q33r2 (cSeq Q33c3 (cSeq Q33b4 Q33r6)))
def Q33l2 : IC:=cLoop Q33l2a
def Q33b1 : IC:=cBlock 0 Q33l2
def Q33r7 : IC:=cReg Try.prog [xM 20 0,xN 21 20,xC 22 .leq 21 100,xT 2 22] [2] []
def lktop_calm : IC:=(cSeq Q33r0 (cSeq (cSeq Q33r1 Q33b1) (cSeq Q33r7 cRet)))
theorem told_lktop_calm {args r : List D} (hl : args.length = 1) (h : lktop_calm (start args) (fin [(2,none)] r)) : Told Try.prog 8 args r :=
 told_of follows Try.func8 rfl (an:=[([],[0],[],[]),([],[0,5,6,7],[],[]),([],[0,5,6,7,8],[],[]),([],[0,4,5,6,7],[4],[]),([],[0,5,6,7,18],[],[]),([],[2],[],[]),([],[0,5,6,7],[],[]),([],[2],[],[])]) (by kernel_rfl) (by kernel_rfl) (by rw [hl]; decide +kernel) h
def loudB (s : Sp) : Bool:=s.kind == 2 || s.kind == 6
def calmB (l : List Sp) : Bool:=!l.any loudB && decide (l.length ≤ 100)
def caS (l : List Sp) (i : Nat) : St:=⟨[(0,sD 7 (encSl l)),(5,sD 7 (encSl l)),(6,vI l.length),(7,vI i)],[],[]⟩
def CaJ (l : List Sp) : Nat → St → Prop:=fun m st => ∃ i : Nat,i ≤ l.length ∧ m = l.length - i ∧ (l.take i).any loudB = false ∧ st = caS l i
theorem calm_told (l : List Sp) (hl : l.length ≤ 9223372036854775807) : Told Try.prog 8 [sD 7 (encSl l)] [vB (calmB l)]:=by
 refine told_lktop_calm rfl ?_
 refine wk @len_sl ?_
 refine aw_loop (CaJ l) l.length (caS l 0) (Le.refl _) ⟨0,by omega,by omega,by simp,rfl⟩ ?_
 rintro m st ⟨i,hi,hm,ho,rfl⟩
 by_cases hlt : i < l.length
 ·obtain ⟨s,hs⟩ : ∃ s,l[i]? = some s:=⟨l[i],List.getElem?_eq_getElem hlt⟩
  have g1 : (i : Int) < (l.length : Int):=by omega
  have g2 : (0 : Int) ≤ (i : Int):=by omega
  have g3:=at_sl hs
  have g4 : inR .i64 ((i : Int) + 1) = true:=inR_of (by omega)
  have hmem : s ∈ l:=List.mem_of_getElem? hs
  have hno : loudB s = true → calmB l = false:=fun h => by
   unfold calmB
   rw [List.any_eq_true.2 ⟨s,hmem,h⟩]
   rfl
  have hnx : loudB s = false → Next (CaJ l) m (caS l (i + 1)):=fun h => ⟨l.length - (i + 1),_,by omega,Le.refl _,i + 1,by omega,rfl,by rw [List.take_add_one,hs,Option.toList_some,List.any_append,ho]; simp [h],rfl⟩
  generalize CaJ l = J at *
  simp only [caS,encSp,Int.natCast_add,Int.cast_ofNat_Int] at g3 hnx ⊢
  by_cases h1 : s.kind = 2
  ·have q1 : (s.kind == 2) = true:=by simpa using h1
   rw [hno (by unfold loudB; rw [q1]; rfl)]
   refine wk (an6 @g1 @g2 @g3 @q1 @len_sl @Int.toNat_natCast) ?_
   exact ValsLe.refl _
  have q1 : (s.kind == 2) = false:=by simpa using h1
  by_cases h2 : s.kind = 6
  ·have q2 : (s.kind == 6) = true:=by simpa using h2
   rw [hno (by unfold loudB; rw [q1,q2]; rfl)]
   refine wk (an7 @g1 @g2 @g3 @q1 @q2 @len_sl @Int.toNat_natCast) ?_
   exact ValsLe.refl _
  have q2 : (s.kind == 6) = false:=by simpa using h2
  have hnx':=hnx (by unfold loudB; rw [q1,q2]; rfl)
  clear hnx hno
  refine wk (an7 @g1 @g2 @g3 @q1 @q2 @len_sl @Int.toNat_natCast) ?_
  refine wk @g4 ?_
  exact hnx'
 have hin : i = l.length:=by omega
 subst hin
 have g1 : ¬ (l.length : Int) < (l.length : Int):=by omega
 rw [List.take_length] at ho
 have e : calmB l = decide ((l.length : Int) ≤ 100):=by
  unfold calmB
  rw [ho]
  simp only [Bool.not_false,Bool.true_and]
  exact decide_eq_decide.2 (by omega)
 rw [e]
 generalize CaJ l = J at *
 unfold caS
 refine wk (an2 @g1 @len_sl) ?_
 exact ValsLe.refl _
theorem sl_app (l m : List Sp) : encSl (l ++ m) = encSl l ++ encSl m:=by simp [encSl]
end Go.Proofs.Ytgaofjiidedcbad.ab
