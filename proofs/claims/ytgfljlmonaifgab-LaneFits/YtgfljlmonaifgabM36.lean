import Derived.Test.YtgfljlmonaifgabM20
import Derived.Test.YtgfljlmonaifgabProg
import Derived.Test.YtgfljlmonaifgabM35
set_option maxHeartbeats 4000000
set_option linter.unusedVariables false
set_option linter.unusedSimpArgs false
namespace Go.Proofs.Ytgfljlmonaifgab.ab
set_option maxRecDepth 100000
open Go Go.RowKit
def w7_laneOf_r0 : IC:=cReg Try.prog [
  ⟨some 4,none,iAlo 4 [vD (.slice none 0 0),vD (.int .i64 0),vD (.int .i64 0),vD (.int .i64 0),vD (.int .i64 0),vD (.slice none 0 0),vD (.int .i64 0),vD (.int .i64 0),vD (.slice none 0 0),vD (.int .i64 0),vD (.int .i64 0),vD (.int .i64 0),vD (.slice none 0 0),vD (.slice none 0 0),vD (.bool false),vD (.slice none 0 0),vD (.slice none 0 0)]⟩,
  ⟨some 5,none,iMov 5 (.const (.bool false)) true⟩] [0,1,4] [4]
def w7_laneOf_r1 : IC:=cReg Try.prog [
  ⟨some 8,none,iMov 8 (.tmp 0) false⟩,
  ⟨some 9,none,iBin 9 .lss (.tmp 8) (.const (.int .i64 1))⟩,
  ⟨some 10,none,iMov 10 (.tmp 9) false⟩,
  ⟨some 11,some (10,false),iMov 11 (.tmp 0) false⟩,
  ⟨some 12,some (10,false),iBin 12 .gtr (.tmp 11) (.const (.int .i64 3))⟩,
  ⟨some 13,none,iPick 13 (.tmp 10) (.const (.bool true)) (.tmp 12)⟩] [0,1,4,13] [4]
def w7_laneOf_r2 : IC:=cReg Try.prog [
  ⟨some 14,none,iBld 14 [vD (.slice none 0 0),vD (.int .i64 0),vD (.int .i64 0),vD (.int .i64 0),vD (.int .i64 0),vD (.slice none 0 0),vD (.int .i64 0),vD (.int .i64 0),vD (.slice none 0 0),vD (.int .i64 0),vD (.int .i64 0),vD (.int .i64 0),vD (.slice none 0 0),vD (.slice none 0 0),vD (.bool false),vD (.slice none 0 0),vD (.slice none 0 0)] [] []⟩,
  ⟨none,none,iStor 17 (.tmp 4) (.tmp 14)⟩,
  ⟨some 5,none,iMov 5 (.const (.bool false)) true⟩] [4,5] [4]
def w7_laneOf_c1a : IC:=(cSeq w7_laneOf_r2 cRet)
def w7_laneOf_c1 : IC:=cCond (.tmp 13) w7_laneOf_c1a cSkip
def w7_laneOf_r3 : IC:=cReg Try.prog [
  ⟨some 16,none,iMov 16 (.tmp 0) false⟩,
  ⟨some 17,none,iMov 17 (.tmp 1) false⟩,
  ⟨some 18,none,iCall 18 43 [(.tmp 16),(.tmp 17)]⟩,
  ⟨some 15,none,iMov 15 (.tmp 18) false⟩,
  ⟨some 19,none,iExt 19 (.tmp 15) 0⟩,
  ⟨some 20,none,iExt 20 (.tmp 15) 1⟩,
  ⟨some 6,none,iAlo 6 [vD (.slice none 0 0),vD (.int .i64 0)]⟩,
  ⟨none,none,iStor 2 (.tmp 6) (.tmp 19)⟩,
  ⟨some 7,none,iMov 7 (.tmp 20) true⟩] [4,6] [4,6]
def w7_laneOf_r4 : IC:=cReg Try.prog [
  ⟨some 21,none,iFad 21 0 (.tmp 6)⟩,
  ⟨some 22,none,iLoad 22 1 false (.tmp 21) false⟩,
  ⟨some 23,none,iIaS 23 17 (.tmp 22) (.const (.int .i64 0))⟩,
  ⟨some 24,none,iLoad 24 17 true (.tmp 23) false⟩,
  ⟨none,none,iStor 17 (.tmp 4) (.tmp 24)⟩,
  ⟨some 5,none,iMov 5 (.const (.bool true)) true⟩] [4,5] [4]
def w7_laneOf : IC:=(cSeq w7_laneOf_r0 (cSeq (cSeq w7_laneOf_r1 w7_laneOf_c1) (cSeq w7_laneOf_r3 (cSeq w7_laneOf_r4 cRet))))
theorem told_w7_laneOf {args r : List D} (hl : args.length = 2) (h : w7_laneOf (start args) (fin [(4,some (17,true)),(5,none)] r)) : Told Try.prog 32 args r :=
 told_of follows Try.func32 rfl (an:=[([],[0,1,4],[4],[]),([],[0,1,4,13],[4],[]),([],[4,5],[4],[]),([],[4,6],[4,6],[]),([],[4,5],[4],[])]) (by kernel_rfl) (by kernel_rfl) (by rw [hl]; decide +kernel) h
open mth
def laneAt (n : Nat) (l : List Sp) : Ln:=(runW (newW n) (l.take 160)).1.lanes.getD 0 zeroL
theorem good_laneAt {n : Nat} (hn : 1 ≤ n ∧ n ≤ 3) (l : List Sp) : GoodL (laneAt n l) ∧ (runW (newW n) (l.take 160)).1.lanes[0]? = some (laneAt n l):=by
 obtain ⟨hw,_⟩:=good_run (good_new hn) l 160
 have h0:=hw.n
 have hq : (runW (newW n) (l.take 160)).1.lanes[0]? = some (laneAt n l):=by
  unfold laneAt
  rw [List.getD_eq_getElem?_getD,List.getElem?_eq_getElem (by omega)]
  rfl
 exact ⟨hw.l _ (List.mem_of_getElem? hq),hq⟩
theorem laneOf_told (hS : CSpoilR 38) (n : Nat) (hn : 1 ≤ n ∧ n ≤ 3) (l : List Sp) (hl : l.length ≤ 9223372036854775807) : Told Try.prog 32 [vI n,sD 7 (encSl l)] [aD (encLn (laneAt n l)),vB true]:=by
 refine told_w7_laneOf rfl ?_
 have h1:=play_told hS n hn l hl
 obtain ⟨_,hq⟩:=good_laneAt hn l
 obtain ⟨hw,_⟩:=good_run (good_new hn) l 160
 have h0:=hw.n
 generalize laneAt n l = a at *
 generalize (runW (newW n) (l.take 160)).1 = w at *
 generalize (runW (newW n) (l.take 160)).2 = es at *
 have g1 : ¬ (n : Int) < 1:=by omega
 have g2 : ¬ 3 < (n : Int):=by omega
 have g3 : (0 : Int) < (w.lanes.length : Int):=by omega
 have g4:=at_ll hq
 have g5 : (0 : Int) ≤ 0:=by omega
 simp only [encWd,encLn] at h1 g4 ⊢
 refine wk (an2 @g1 @g2) ?_
 refine cg [[aD (encWd w),sD 1 (es.map vI)]] (an3 @encWd.eq_1 @g1 @g2) ?_ ?_
 ·exact obl_cons h1 obl_nil
 refine wk (an5 @g3 @g4 @g5 @len_ll @Int.toNat_zero) ?_
 exact ValsLe.refl _
theorem laneOf_not (n : Int) (hn : n < 1 ∨ 3 < n) (l : List Sp) : Told Try.prog 32 [vI n,sD 7 (encSl l)] [aD (encLn zeroL),vB false]:=by
 refine told_w7_laneOf rfl ?_
 simp only [encLn,zeroL,zeroS,zeroR,encMl,encCl,encPk,List.map_nil]
 by_cases h1 : n < 1
 ·refine wk @h1 ?_
  repeat' (first | exact vals_nil | exact row_nil | exact es_nil | exact CVLe.refl _ | exact LfLe.refl _ | exact LfLe.nil _ | exact EsLe.refl _ | refine vals_cons ?_ ?_ | refine row_cons ?_ ?_ | refine es_cons ?_ ?_ | refine EsLe.app ?_ ?_ | refine CVLe.row ?_ | refine CVLe.leafV ?_ | refine CVLe.leafS ?_ | refine LfLe.s ?_)
 ·have h2 : 3 < n:=by omega
  refine wk (an2 @h1 @h2) ?_
  repeat' (first | exact vals_nil | exact row_nil | exact es_nil | exact CVLe.refl _ | exact LfLe.refl _ | exact LfLe.nil _ | exact EsLe.refl _ | refine vals_cons ?_ ?_ | refine row_cons ?_ ?_ | refine es_cons ?_ ?_ | refine EsLe.app ?_ ?_ | refine CVLe.row ?_ | refine CVLe.leafV ?_ | refine CVLe.leafS ?_ | refine LfLe.s ?_)
set_option maxRecDepth 100000
def w7_alive_r0 : IC:=cReg Try.prog [
  ⟨some 0,none,iMov 0 (.const (.bool false)) true⟩] [] []
def w7_alive_r1 : IC:=cReg Try.prog [
  ⟨some 13,none,iRow 13 5 1 [(.const (.int .u8 1)),(.const (.int .u8 2)),(.const (.int .u8 3))]⟩,
  ⟨some 14,none,iRow 14 30 1 [(.tmp 13)]⟩,
  ⟨some 15,none,iBld 15 [vD (.slice none 0 0),vD (.int .i64 0),vD (.int .i64 0),vD (.int .i64 0),vD (.int .i64 0),vD (.slice none 0 0),vD (.int .i64 0),vD (.int .i64 0),vD (.slice none 0 0),vD (.int .i64 0),vD (.int .i64 0),vD (.int .i64 0),vD (.slice none 0 0),vD (.slice none 0 0),vD (.bool false),vD (.slice none 0 0),vD (.slice none 0 0)] [(15,1)] [(.tmp 14)]⟩,
  ⟨some 16,none,iCall 16 40 [(.tmp 15),(.const (.int .i64 0)),(.const (.bool false))]⟩,
  ⟨some 12,none,iMov 12 (.tmp 16) false⟩,
  ⟨some 17,none,iExt 17 (.tmp 12) 0⟩,
  ⟨some 18,none,iExt 18 (.tmp 12) 1⟩,
  ⟨some 1,none,iAlo 1 [vD (.slice none 0 0),vD (.int .i64 0),vD (.int .i64 0),vD (.int .i64 0),vD (.int .i64 0),vD (.slice none 0 0),vD (.int .i64 0),vD (.int .i64 0),vD (.slice none 0 0),vD (.int .i64 0),vD (.int .i64 0),vD (.int .i64 0),vD (.slice none 0 0),vD (.slice none 0 0),vD (.bool false),vD (.slice none 0 0),vD (.slice none 0 0)]⟩,
  ⟨none,none,iStor 17 (.tmp 1) (.tmp 17)⟩,
  ⟨some 2,none,iMov 2 (.tmp 18) true⟩] [1,2] [1]
def w7_alive_r2 : IC:=cReg Try.prog [
  ⟨some 20,none,iLoad 20 17 true (.tmp 1) false⟩,
  ⟨some 21,none,iCall 21 41 [(.tmp 20),(.const (.int .i64 1)),(.const (.int .i64 2)),(.const (.bool false))]⟩,
  ⟨some 19,none,iMov 19 (.tmp 21) false⟩,
  ⟨some 22,none,iExt 22 (.tmp 19) 0⟩,
  ⟨some 23,none,iExt 23 (.tmp 19) 1⟩,
  ⟨some 3,none,iAlo 3 [vD (.slice none 0 0),vD (.int .i64 0),vD (.int .i64 0),vD (.int .i64 0),vD (.int .i64 0),vD (.slice none 0 0),vD (.int .i64 0),vD (.int .i64 0),vD (.slice none 0 0),vD (.int .i64 0),vD (.int .i64 0),vD (.int .i64 0),vD (.slice none 0 0),vD (.slice none 0 0),vD (.bool false),vD (.slice none 0 0),vD (.slice none 0 0)]⟩,
  ⟨none,none,iStor 17 (.tmp 3) (.tmp 22)⟩,
  ⟨some 4,none,iMov 4 (.tmp 23) true⟩] [1,2,3,4] [1,3]
def w7_alive_r3 : IC:=cReg Try.prog [
  ⟨some 25,none,iLoad 25 17 true (.tmp 3) false⟩,
  ⟨some 26,none,iCall 26 39 [(.tmp 25),(.const (.int .i64 0)),(.const (.bool false))]⟩,
  ⟨some 24,none,iMov 24 (.tmp 26) false⟩,
  ⟨some 27,none,iExt 27 (.tmp 24) 0⟩,
  ⟨some 28,none,iExt 28 (.tmp 24) 1⟩,
  ⟨some 5,none,iAlo 5 [vD (.slice none 0 0),vD (.int .i64 0),vD (.int .i64 0),vD (.int .i64 0),vD (.int .i64 0),vD (.slice none 0 0),vD (.int .i64 0),vD (.int .i64 0),vD (.slice none 0 0),vD (.int .i64 0),vD (.int .i64 0),vD (.int .i64 0),vD (.slice none 0 0),vD (.slice none 0 0),vD (.bool false),vD (.slice none 0 0),vD (.slice none 0 0)]⟩,
  ⟨none,none,iStor 17 (.tmp 5) (.tmp 27)⟩,
  ⟨some 6,none,iMov 6 (.tmp 28) true⟩] [1,2,3,4,5,6] [1,3,5]
def w7_alive_r4 : IC:=cReg Try.prog [
  ⟨some 30,none,iLoad 30 17 true (.tmp 5) false⟩,
  ⟨some 31,none,iCall 31 37 [(.tmp 30),(.const (.int .i64 0)),(.const (.bool false))]⟩,
  ⟨some 29,none,iMov 29 (.tmp 31) false⟩,
  ⟨some 32,none,iExt 32 (.tmp 29) 0⟩,
  ⟨some 33,none,iExt 33 (.tmp 29) 1⟩,
  ⟨some 7,none,iAlo 7 [vD (.slice none 0 0),vD (.int .i64 0),vD (.int .i64 0),vD (.int .i64 0),vD (.int .i64 0),vD (.slice none 0 0),vD (.int .i64 0),vD (.int .i64 0),vD (.slice none 0 0),vD (.int .i64 0),vD (.int .i64 0),vD (.int .i64 0),vD (.slice none 0 0),vD (.slice none 0 0),vD (.bool false),vD (.slice none 0 0),vD (.slice none 0 0)]⟩,
  ⟨none,none,iStor 17 (.tmp 7) (.tmp 32)⟩,
  ⟨some 8,none,iMov 8 (.tmp 33) true⟩] [1,2,3,4,5,6,7,8] [1,3,5,7]
def w7_alive_r5 : IC:=cReg Try.prog [
  ⟨some 35,none,iLoad 35 17 true (.tmp 7) false⟩,
  ⟨some 36,none,iCall 36 37 [(.tmp 35),(.const (.int .i64 0)),(.const (.bool true))]⟩,
  ⟨some 34,none,iMov 34 (.tmp 36) false⟩,
  ⟨some 37,none,iExt 37 (.tmp 34) 0⟩,
  ⟨some 38,none,iExt 38 (.tmp 34) 1⟩,
  ⟨some 9,none,iAlo 9 [vD (.slice none 0 0),vD (.int .i64 0),vD (.int .i64 0),vD (.int .i64 0),vD (.int .i64 0),vD (.slice none 0 0),vD (.int .i64 0),vD (.int .i64 0),vD (.slice none 0 0),vD (.int .i64 0),vD (.int .i64 0),vD (.int .i64 0),vD (.slice none 0 0),vD (.slice none 0 0),vD (.bool false),vD (.slice none 0 0),vD (.slice none 0 0)]⟩,
  ⟨none,none,iStor 17 (.tmp 9) (.tmp 37)⟩,
  ⟨some 10,none,iMov 10 (.tmp 38) true⟩] [1,2,3,4,5,6,7,8,10] [1,3,5,7]
def w7_alive_r6 : IC:=cReg Try.prog [
  ⟨some 39,none,iBld 39 [vD (.int .i64 0),vD (.slice none 0 0),vD (.int .i64 0),vD (.int .i64 0),vD (.int .i64 0),vD (.slice none 0 0),vD (.slice none 0 0),vD (.bool false)] [(7,1)] [(.const (.bool true))]⟩,
  ⟨some 40,none,iBld 40 [vD (.slice none 0 0),vD (.int .i64 0),vD (.int .i64 0),vD (.int .i64 0),vD (.int .i64 0),vD (.slice none 0 0),vD (.int .i64 0),vD (.int .i64 0),vD (.slice none 0 0),vD (.int .i64 0),vD (.int .i64 0),vD (.int .i64 0),vD (.slice none 0 0),vD (.slice none 0 0),vD (.bool false),vD (.slice none 0 0),vD (.slice none 0 0)] [(7,8)] [(.tmp 39)]⟩,
  ⟨some 41,none,iCall 41 35 [(.tmp 40)]⟩,
  ⟨some 11,none,iAlo 11 [vD (.slice none 0 0),vD (.int .i64 0),vD (.int .i64 0),vD (.int .i64 0),vD (.int .i64 0),vD (.slice none 0 0),vD (.int .i64 0),vD (.int .i64 0),vD (.slice none 0 0),vD (.int .i64 0),vD (.int .i64 0),vD (.int .i64 0),vD (.slice none 0 0),vD (.slice none 0 0),vD (.bool false),vD (.slice none 0 0),vD (.slice none 0 0)]⟩,
  ⟨none,none,iStor 17 (.tmp 11) (.tmp 41)⟩] [1,2,3,4,5,6,7,8,10,11] [1,3,5,7,11]
def w7_alive_r7_0 : IC:=cReg Try.prog [
  ⟨some 42,none,iMov 42 (.tmp 2) false⟩,
  ⟨some 43,none,iBin 43 .eql (.tmp 42) (.const (.int .i64 0))⟩,
  ⟨some 44,none,iMov 44 (.tmp 43) false⟩,
  ⟨some 45,some (44,true),iMov 45 (.tmp 4) false⟩,
  ⟨some 46,some (44,true),iBin 46 .eql (.tmp 45) (.const (.int .i64 0))⟩,
  ⟨some 47,none,iPick 47 (.tmp 44) (.tmp 46) (.const (.bool false))⟩,
  ⟨some 48,none,iMov 48 (.tmp 47) false⟩,
  ⟨some 49,some (48,true),iMov 49 (.tmp 6) false⟩,
  ⟨some 50,some (48,true),iBin 50 .eql (.tmp 49) (.const (.int .i64 0))⟩,
  ⟨some 51,none,iPick 51 (.tmp 48) (.tmp 50) (.const (.bool false))⟩] [1,3,5,7,8,10,11,51] [1,3,5,7,11]
def w7_alive_r7_1 : IC:=cReg Try.prog [
  ⟨some 52,none,iMov 52 (.tmp 51) false⟩,
  ⟨some 53,some (52,true),iMov 53 (.tmp 8) false⟩,
  ⟨some 54,some (52,true),iBin 54 .eql (.tmp 53) (.const (.int .i64 0))⟩,
  ⟨some 55,none,iPick 55 (.tmp 52) (.tmp 54) (.const (.bool false))⟩,
  ⟨some 56,none,iMov 56 (.tmp 55) false⟩,
  ⟨some 57,some (56,true),iMov 57 (.tmp 10) false⟩,
  ⟨some 58,some (56,true),iBin 58 .eql (.tmp 57) (.const (.int .i64 6))⟩,
  ⟨some 59,none,iPick 59 (.tmp 56) (.tmp 58) (.const (.bool false))⟩,
  ⟨some 60,none,iMov 60 (.tmp 59) false⟩,
  ⟨some 61,some (60,true),iFad 61 15 (.tmp 1)⟩] [1,3,5,7,11,60,61] [1,3,5,7,11]
def w7_alive_r7_2 : IC:=cReg Try.prog [
  ⟨some 62,some (60,true),iLoad 62 1 false (.tmp 61) false⟩,
  ⟨some 63,some (60,true),iLen 63 false (.tmp 62)⟩,
  ⟨some 64,some (60,true),iBin 64 .eql (.tmp 63) (.const (.int .i64 2))⟩,
  ⟨some 65,none,iPick 65 (.tmp 60) (.tmp 64) (.const (.bool false))⟩,
  ⟨some 66,none,iMov 66 (.tmp 65) false⟩,
  ⟨some 67,some (66,true),iFad 67 15 (.tmp 3)⟩,
  ⟨some 68,some (66,true),iLoad 68 1 false (.tmp 67) false⟩,
  ⟨some 69,some (66,true),iIaS 69 1 (.tmp 68) (.const (.int .i64 1))⟩,
  ⟨some 70,some (66,true),iLoad 70 1 false (.tmp 69) false⟩,
  ⟨some 71,some (66,true),iIaS 71 1 (.tmp 70) (.const (.int .i64 2))⟩] [1,5,7,11,66,71] [1,5,7,11]
def w7_alive_r7_3 : IC:=cReg Try.prog [
  ⟨some 72,some (66,true),iLoad 72 1 false (.tmp 71) false⟩,
  ⟨some 73,some (66,true),iBin 73 .eql (.tmp 72) (.const (.int .u8 2))⟩,
  ⟨some 74,none,iPick 74 (.tmp 66) (.tmp 73) (.const (.bool false))⟩,
  ⟨some 75,none,iMov 75 (.tmp 74) false⟩,
  ⟨some 76,some (75,true),iFad 76 15 (.tmp 5)⟩,
  ⟨some 77,some (75,true),iLoad 77 1 false (.tmp 76) false⟩,
  ⟨some 78,some (75,true),iLen 78 false (.tmp 77)⟩,
  ⟨some 79,some (75,true),iBin 79 .eql (.tmp 78) (.const (.int .i64 1))⟩,
  ⟨some 80,none,iPick 80 (.tmp 75) (.tmp 79) (.const (.bool false))⟩,
  ⟨some 81,none,iMov 81 (.tmp 80) false⟩] [1,7,11,81] [1,7,11]
def w7_alive_r7_4 : IC:=cReg Try.prog [
  ⟨some 82,some (81,true),iFad 82 15 (.tmp 7)⟩,
  ⟨some 83,some (81,true),iLoad 83 1 false (.tmp 82) false⟩,
  ⟨some 84,some (81,true),iLen 84 false (.tmp 83)⟩,
  ⟨some 85,some (81,true),iBin 85 .eql (.tmp 84) (.const (.int .i64 0))⟩,
  ⟨some 86,none,iPick 86 (.tmp 81) (.tmp 85) (.const (.bool false))⟩,
  ⟨some 87,none,iMov 87 (.tmp 86) false⟩,
  ⟨some 88,some (87,true),iFad 88 16 (.tmp 11)⟩,
  ⟨some 89,some (87,true),iLoad 89 1 false (.tmp 88) false⟩,
  ⟨some 90,some (87,true),iLen 90 false (.tmp 89)⟩,
  ⟨some 91,some (87,true),iBin 91 .eql (.tmp 90) (.const (.int .i64 1))⟩] [1,87,91] [1]
def w7_alive_r7_5 : IC:=cReg Try.prog [
  ⟨some 92,none,iPick 92 (.tmp 87) (.tmp 91) (.const (.bool false))⟩,
  ⟨some 93,none,iMov 93 (.tmp 92) false⟩,
  ⟨some 94,some (93,true),iLoad 94 17 true (.tmp 1) false⟩,
  ⟨some 95,some (93,true),iCall 95 34 [(.tmp 94)]⟩,
  ⟨some 96,some (93,true),iFld 96 15 1 false (.tmp 95)⟩,
  ⟨some 97,some (93,true),iLen 97 false (.tmp 96)⟩,
  ⟨some 98,some (93,true),iBin 98 .eql (.tmp 97) (.const (.int .i64 2))⟩,
  ⟨some 99,none,iPick 99 (.tmp 93) (.tmp 98) (.const (.bool false))⟩,
  ⟨some 0,none,iMov 0 (.tmp 99) true⟩] [0] []
def w7_alive_r7 : IC:=(cSeq w7_alive_r7_0 (cSeq w7_alive_r7_1 (cSeq w7_alive_r7_2 (cSeq w7_alive_r7_3 (cSeq w7_alive_r7_4 w7_alive_r7_5)))))
def w7_alive : IC:=(cSeq w7_alive_r0 (cSeq w7_alive_r1 (cSeq w7_alive_r2 (cSeq w7_alive_r3 (cSeq w7_alive_r4 (cSeq w7_alive_r5 (cSeq w7_alive_r6 (cSeq w7_alive_r7 cRet))))))))
theorem told_w7_alive {args r : List D} (hl : args.length = 0) (h : w7_alive (start args) (fin [(0,none)] r)) : Told Try.prog 42 args r :=
 told_of follows Try.func42 rfl (an:=[([],[],[],[]),([],[1,2],[1],[]),([],[1,2,3,4],[1,3],[]),([],[1,2,3,4,5,6],[1,3,5],[]),([],[1,2,3,4,5,6,7,8],[1,3,5,7],[]),([],[1,2,3,4,5,6,7,8,10],[1,3,5,7],[]),([],[1,2,3,4,5,6,7,8,10,11],[1,3,5,7,11],[]),([(10,[1,3,5,7,8,10,11,51],[1,3,5,7,11]),(10,[1,3,5,7,11,60,61],[1,3,5,7,11]),(10,[1,5,7,11,66,71],[1,5,7,11]),(10,[1,7,11,81],[1,7,11]),(10,[1,87,91],[1])],[0],[],[])]) (by kernel_rfl) (by kernel_rfl) (by rw [hl]; decide +kernel) h
end Go.Proofs.Ytgfljlmonaifgab.ab
