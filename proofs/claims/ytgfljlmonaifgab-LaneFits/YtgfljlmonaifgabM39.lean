import Derived.Test.YtgfljlmonaifgabM20
import Derived.Test.YtgfljlmonaifgabProg
import Derived.Test.YtgfljlmonaifgabM35
import Derived.Test.YtgfljlmonaifgabPLane3
import Derived.Test.YtgfljlmonaifgabM29
import Derived.Test.YtgfljlmonaifgabM37
import Derived.ChangeOld
import Derived.SizedLaws
set_option maxHeartbeats 16000000
set_option linter.unusedVariables false
set_option linter.unusedSimpArgs false
namespace Go.Proofs.Ytgfljlmonaifgab.ab
set_option maxRecDepth 100000
open Go Go.RowKit
def w7_spoiltTwice_r0 : IC:=cReg Try.prog [
  ⟨some 2,none,iMov 2 (.const (.bool false)) true⟩] [0] []
def w7_spoiltTwice_r1 : IC:=cReg Try.prog [
  ⟨some 3,none,iMov 3 (.const (.int .i64 0)) true⟩] [0,3] []
def w7_spoiltTwice_r2 : IC:=cReg Try.prog [
  ⟨some 6,none,iMov 6 (.tmp 0) false⟩,
  ⟨some 7,none,iLen 7 false (.tmp 6)⟩,
  ⟨some 8,none,iMov 8 (.const (.int .i64 0)) false⟩] [3,6,7,8] []
def w7_spoiltTwice_r3 : IC:=cReg Try.prog [
  ⟨some 9,none,iBin 9 .lss (.tmp 8) (.tmp 7)⟩] [3,6,7,8,9] []
def w7_spoiltTwice_c3 : IC:=cCond (.tmp 9) cSkip (cExit 0)
def w7_spoiltTwice_r4 : IC:=cReg Try.prog [
  ⟨some 10,none,iIaS 10 7 (.tmp 6) (.tmp 8)⟩,
  ⟨some 11,none,iLoad 11 7 true (.tmp 10) false⟩,
  ⟨some 5,none,iAlo 5 [vD (.int .i64 0),vD (.int .i64 0),vD (.int .i64 0),vD (.int .i64 0),vD (.bool false),vD (.int .i64 0),vD (.slice none 0 0)]⟩,
  ⟨none,none,iStor 7 (.tmp 5) (.tmp 11)⟩] [3,5,6,7,8] [5]
def w7_spoiltTwice_r5 : IC:=cReg Try.prog [
  ⟨some 12,none,iFad 12 0 (.tmp 5)⟩,
  ⟨some 13,none,iLoad 13 1 false (.tmp 12) false⟩,
  ⟨some 14,none,iBin 14 .eql (.tmp 13) (.const (.int .i64 6))⟩] [3,6,7,8,14] []
def w7_spoiltTwice_r6 : IC:=cReg Try.prog [
  ⟨some 15,none,iMov 15 (.tmp 3) false⟩,
  ⟨some 16,none,iBin 16 .add (.tmp 15) (.const (.int .i64 1))⟩,
  ⟨some 3,none,iMov 3 (.tmp 16) true⟩] [3,6,7,8] []
def w7_spoiltTwice_c5 : IC:=cCond (.tmp 14) w7_spoiltTwice_r6 cSkip
def w7_spoiltTwice_b4 : IC:=cBlock 1 (cSeq w7_spoiltTwice_r4 (cSeq w7_spoiltTwice_r5 w7_spoiltTwice_c5))
def w7_spoiltTwice_r7 : IC:=cReg Try.prog [
  ⟨some 17,none,iBin 17 .add (.tmp 8) (.const (.int .i64 1))⟩,
  ⟨some 8,none,iMov 8 (.tmp 17) false⟩] [3,6,7,8] []
def w7_spoiltTwice_l2a : IC:=(cSeq w7_spoiltTwice_r3 (cSeq w7_spoiltTwice_c3 (cSeq w7_spoiltTwice_b4 w7_spoiltTwice_r7)))
def w7_spoiltTwice_l2 : IC:=cLoop w7_spoiltTwice_l2a
def w7_spoiltTwice_b1 : IC:=cBlock 0 w7_spoiltTwice_l2
def w7_spoiltTwice_r8 : IC:=cReg Try.prog [
  ⟨some 18,none,iMov 18 (.tmp 3) false⟩,
  ⟨some 19,none,iBin 19 .gtr (.tmp 18) (.const (.int .i64 1))⟩,
  ⟨some 2,none,iMov 2 (.tmp 19) true⟩] [2] []
def w7_spoiltTwice : IC:=(cSeq w7_spoiltTwice_r0 (cSeq w7_spoiltTwice_r1 (cSeq (cSeq w7_spoiltTwice_r2 w7_spoiltTwice_b1) (cSeq w7_spoiltTwice_r8 cRet))))
theorem told_w7_spoiltTwice {args r : List D} (hl : args.length = 1) (h : w7_spoiltTwice (start args) (fin [(2,none)] r)) : Told Try.prog 45 args r :=
 told_of follows Try.func45 rfl (an:=[([],[0],[],[]),([],[0,3],[],[]),([],[3,6,7,8],[],[]),([],[3,6,7,8,9],[],[]),([],[3,5,6,7,8],[5],[]),([],[3,6,7,8,14],[],[]),([],[3,6,7,8],[],[]),([],[3,6,7,8],[],[]),([],[2],[],[])]) (by kernel_rfl) (by kernel_rfl) (by rw [hl]; decide +kernel) h
def w7_LaneFits_r0 : IC:=cReg Try.prog [
  ⟨some 8,none,iMov 8 (.const (.bool false)) true⟩] [0,1,2,3] []
def w7_LaneFits_r1 : IC:=cReg Try.prog [
  ⟨some 15,none,iCall 15 42 []⟩,
  ⟨some 16,none,iNot 16 (.tmp 15)⟩] [0,1,2,3,16] []
def w7_LaneFits_r2 : IC:=cReg Try.prog [
  ⟨some 8,none,iMov 8 (.const (.bool false)) true⟩] [8] []
def w7_LaneFits_c1a : IC:=(cSeq w7_LaneFits_r2 cRet)
def w7_LaneFits_c1 : IC:=cCond (.tmp 16) w7_LaneFits_c1a cSkip
def w7_LaneFits_r3 : IC:=cReg Try.prog [
  ⟨some 18,none,iMov 18 (.tmp 0) false⟩,
  ⟨some 19,none,iMov 19 (.tmp 1) false⟩,
  ⟨some 20,none,iCall 20 32 [(.tmp 18),(.tmp 19)]⟩,
  ⟨some 17,none,iMov 17 (.tmp 20) false⟩,
  ⟨some 21,none,iExt 21 (.tmp 17) 0⟩,
  ⟨some 22,none,iExt 22 (.tmp 17) 1⟩,
  ⟨some 9,none,iAlo 9 [vD (.slice none 0 0),vD (.int .i64 0),vD (.int .i64 0),vD (.int .i64 0),vD (.int .i64 0),vD (.slice none 0 0),vD (.int .i64 0),vD (.int .i64 0),vD (.slice none 0 0),vD (.int .i64 0),vD (.int .i64 0),vD (.int .i64 0),vD (.slice none 0 0),vD (.slice none 0 0),vD (.bool false),vD (.slice none 0 0),vD (.slice none 0 0)]⟩,
  ⟨none,none,iStor 17 (.tmp 9) (.tmp 21)⟩,
  ⟨some 10,none,iMov 10 (.tmp 22) true⟩] [0,1,2,3,9,10] [9]
def w7_LaneFits_r4 : IC:=cReg Try.prog [
  ⟨some 23,none,iMov 23 (.tmp 10) false⟩,
  ⟨some 24,none,iNot 24 (.tmp 23)⟩] [0,1,2,3,9,24] [9]
def w7_LaneFits_r5 : IC:=cReg Try.prog [
  ⟨some 8,none,iMov 8 (.const (.bool true)) true⟩] [8] []
def w7_LaneFits_c2a : IC:=(cSeq w7_LaneFits_r5 cRet)
def w7_LaneFits_c2 : IC:=cCond (.tmp 24) w7_LaneFits_c2a cSkip
def w7_LaneFits_r6 : IC:=cReg Try.prog [
  ⟨some 26,none,iMov 26 (.tmp 0) false⟩,
  ⟨some 27,none,iMov 27 (.tmp 1) false⟩,
  ⟨some 28,none,iCall 28 43 [(.tmp 26),(.tmp 27)]⟩,
  ⟨some 25,none,iMov 25 (.tmp 28) false⟩,
  ⟨some 29,none,iExt 29 (.tmp 25) 0⟩,
  ⟨some 30,none,iExt 30 (.tmp 25) 1⟩,
  ⟨some 11,none,iAlo 11 [vD (.slice none 0 0),vD (.int .i64 0)]⟩,
  ⟨none,none,iStor 2 (.tmp 11) (.tmp 29)⟩,
  ⟨some 12,none,iMov 12 (.tmp 30) true⟩] [1,2,3,9,12] [9]
def w7_LaneFits_r7 : IC:=cReg Try.prog [
  ⟨some 32,none,iLoad 32 17 true (.tmp 9) false⟩,
  ⟨some 33,none,iMov 33 (.tmp 2) false⟩,
  ⟨some 34,none,iMov 34 (.tmp 3) false⟩,
  ⟨some 35,none,iCall 35 37 [(.tmp 32),(.tmp 33),(.tmp 34)]⟩,
  ⟨some 31,none,iMov 31 (.tmp 35) false⟩,
  ⟨some 36,none,iExt 36 (.tmp 31) 0⟩,
  ⟨some 37,none,iExt 37 (.tmp 31) 1⟩,
  ⟨some 13,none,iAlo 13 [vD (.slice none 0 0),vD (.int .i64 0),vD (.int .i64 0),vD (.int .i64 0),vD (.int .i64 0),vD (.slice none 0 0),vD (.int .i64 0),vD (.int .i64 0),vD (.slice none 0 0),vD (.int .i64 0),vD (.int .i64 0),vD (.int .i64 0),vD (.slice none 0 0),vD (.slice none 0 0),vD (.bool false),vD (.slice none 0 0),vD (.slice none 0 0)]⟩,
  ⟨none,none,iStor 17 (.tmp 13) (.tmp 36)⟩,
  ⟨some 14,none,iMov 14 (.tmp 37) true⟩] [1,12,13] [13]
def w7_LaneFits_r8 : IC:=cRegD Try.prog [
  ⟨some 38,none,iFad 38 7 (.tmp 13)⟩,
  ⟨some 39,none,iFad 39 6 (.tmp 38)⟩,
  ⟨some 40,none,iLoad 40 1 false (.tmp 39) false⟩,
  ⟨some 41,none,iMov 41 (.tmp 1) false⟩,
  ⟨some 42,none,iMov 42 (.tmp 12) false⟩,
  ⟨some 43,none,iCall 43 44 [(.tmp 41),(.tmp 42),(.const (.int .i64 0))]⟩,
  ⟨some 44,none,iCall 44 31 [(.tmp 40),(.tmp 43)]⟩,
  ⟨some 45,none,iMov 45 (.tmp 44) false⟩,
  ⟨some 46,some (45,false),iMov 46 (.tmp 1) false⟩,
  ⟨some 47,some (45,false),iCall 47 45 [(.tmp 46)]⟩,
  ⟨some 48,none,iPick 48 (.tmp 45) (.const (.bool true)) (.tmp 47)⟩,
  ⟨some 8,none,iMov 8 (.tmp 48) true⟩] [[],[0],[1,0],[],[],[3,4],[2,5,1,0,3,4],[6,2,5,1,0,3,4],[7,6,2,5,1,0,3,4],[8,7,6,2,5,1,0,3,4],[7,9,6,2,5,1,0,3,4,8],[10,9,0,1,2,3,4,5,6,7,8]] [8] []
def w7_LaneFits : IC:=(cSeq w7_LaneFits_r0 (cSeq (cSeq w7_LaneFits_r1 w7_LaneFits_c1) (cSeq w7_LaneFits_r3 (cSeq (cSeq w7_LaneFits_r4 w7_LaneFits_c2) (cSeq w7_LaneFits_r6 (cSeq w7_LaneFits_r7 (cSeq w7_LaneFits_r8 cRet)))))))
theorem told_w7_LaneFits {args r : List D} (hl : args.length = 4) (h : w7_LaneFits (start args) (fin [(8,none)] r)) : Told Try.prog 10 args r :=
 told_of follows Try.func10 rfl (an:=[([],[0,1,2,3],[],[]),([],[0,1,2,3,16],[],[]),([],[8],[],[]),([],[0,1,2,3,9,10],[9],[]),([],[0,1,2,3,9,24],[9],[]),([],[8],[],[]),([],[1,2,3,9,12],[9],[]),([],[1,12,13],[13],[]),([],[8],[],[])]) (by kernel_rfl) (by kernel_rfl) (by rw [hl]; decide +kernel) h
set_option maxRecDepth 100000
def r6_Puts_r0 : IC:=cReg Try.prog [
  ⟨some 6,none,iMov 6 (.const (.slice none 0 0)) true⟩] [0,1,2] []
def r6_Puts_r1 : IC:=cReg Try.prog [
  ⟨some 7,none,iMov 7 (.const (.slice none 0 0)) true⟩] [0,1,2,7] []
def r6_Puts_r2 : IC:=cReg Try.prog [
  ⟨some 10,none,iMov 10 (.tmp 0) false⟩,
  ⟨some 11,none,iLen 11 false (.tmp 10)⟩,
  ⟨some 12,none,iMov 12 (.const (.int .i64 0)) false⟩] [1,2,7,10,11,12] []
def r6_Puts_r3 : IC:=cReg Try.prog [
  ⟨some 13,none,iBin 13 .lss (.tmp 12) (.tmp 11)⟩] [1,2,7,10,11,12,13] []
def r6_Puts_c3 : IC:=cCond (.tmp 13) cSkip (cExit 0)
def r6_Puts_r4 : IC:=cReg Try.prog [
  ⟨some 14,none,iMov 14 (.tmp 12) false⟩,
  ⟨some 15,none,iIaS 15 7 (.tmp 10) (.tmp 12)⟩,
  ⟨some 16,none,iLoad 16 7 true (.tmp 15) false⟩,
  ⟨some 9,none,iAlo 9 [vD (.int .i64 0),vD (.int .i64 0),vD (.int .i64 0),vD (.int .i64 0),vD (.bool false),vD (.int .i64 0),vD (.slice none 0 0)]⟩,
  ⟨some 8,none,iMov 8 (.tmp 14) true⟩,
  ⟨none,none,iStor 7 (.tmp 9) (.tmp 16)⟩] [1,2,7,8,9,10,11,12] [9]
def r6_Puts_r5_0 : IC:=cReg Try.prog [
  ⟨some 17,none,iMov 17 (.tmp 8) false⟩,
  ⟨some 18,none,iMov 18 (.tmp 1) false⟩,
  ⟨some 19,none,iLen 19 false (.tmp 18)⟩,
  ⟨some 20,none,iBin 20 .lss (.tmp 17) (.tmp 19)⟩,
  ⟨some 21,none,iMov 21 (.tmp 20) false⟩,
  ⟨some 22,some (21,true),iMov 22 (.tmp 1) false⟩,
  ⟨some 23,some (21,true),iMov 23 (.tmp 8) false⟩,
  ⟨some 24,some (21,true),iIaS 24 1 (.tmp 22) (.tmp 23)⟩,
  ⟨some 25,some (21,true),iLoad 25 1 false (.tmp 24) false⟩,
  ⟨some 26,some (21,true),iBin 26 .eql (.tmp 25) (.const (.int .i64 0))⟩] [1,2,7,9,10,11,12,21,26] [9]
def r6_Puts_r5_1 : IC:=cReg Try.prog [
  ⟨some 27,none,iPick 27 (.tmp 21) (.tmp 26) (.const (.bool false))⟩,
  ⟨some 28,none,iMov 28 (.tmp 27) false⟩,
  ⟨some 29,some (28,true),iFad 29 0 (.tmp 9)⟩,
  ⟨some 30,some (28,true),iLoad 30 1 false (.tmp 29) false⟩,
  ⟨some 31,some (28,true),iBin 31 .eql (.tmp 30) (.const (.int .i64 2))⟩,
  ⟨some 32,none,iPick 32 (.tmp 28) (.tmp 31) (.const (.bool false))⟩,
  ⟨some 33,none,iMov 33 (.tmp 32) false⟩,
  ⟨some 34,some (33,true),iFad 34 1 (.tmp 9)⟩,
  ⟨some 35,some (33,true),iLoad 35 1 false (.tmp 34) false⟩,
  ⟨some 36,some (33,true),iMov 36 (.tmp 2) false⟩,
  ⟨some 37,some (33,true),iBin 37 .eql (.tmp 35) (.tmp 36)⟩,
  ⟨some 38,none,iPick 38 (.tmp 33) (.tmp 37) (.const (.bool false))⟩] [1,2,7,9,10,11,12,38] [9]
def r6_Puts_r5 : IC:=(cSeq r6_Puts_r5_0 r6_Puts_r5_1)
def r6_Puts_r6 : IC:=cReg Try.prog [
  ⟨some 39,none,iMov 39 (.tmp 7) true⟩,
  ⟨some 40,none,iFad 40 5 (.tmp 9)⟩,
  ⟨some 41,none,iLoad 41 2 true (.tmp 40) false⟩,
  ⟨some 42,none,iRow 42 53 2 [(.tmp 41)]⟩,
  ⟨some 43,none,iApp 43 53 2 32 (.tmp 39) (.tmp 42)⟩,
  ⟨some 7,none,iMov 7 (.tmp 43) true⟩] [1,2,7,10,11,12] []
def r6_Puts_c5 : IC:=cCond (.tmp 38) r6_Puts_r6 cSkip
def r6_Puts_b4 : IC:=cBlock 1 (cSeq r6_Puts_r4 (cSeq r6_Puts_r5 r6_Puts_c5))
def r6_Puts_r7 : IC:=cReg Try.prog [
  ⟨some 44,none,iBin 44 .add (.tmp 12) (.const (.int .i64 1))⟩,
  ⟨some 12,none,iMov 12 (.tmp 44) false⟩] [1,2,7,10,11,12] []
def r6_Puts_l2a : IC:=(cSeq r6_Puts_r3 (cSeq r6_Puts_c3 (cSeq r6_Puts_b4 r6_Puts_r7)))
def r6_Puts_l2 : IC:=cLoop r6_Puts_l2a
def r6_Puts_b1 : IC:=cBlock 0 r6_Puts_l2
def r6_Puts_r8 : IC:=cReg Try.prog [
  ⟨some 45,none,iMov 45 (.tmp 7) false⟩,
  ⟨some 6,none,iMov 6 (.tmp 45) true⟩] [6] []
def r6_Puts : IC:=(cSeq r6_Puts_r0 (cSeq r6_Puts_r1 (cSeq (cSeq r6_Puts_r2 r6_Puts_b1) (cSeq r6_Puts_r8 cRet))))
theorem told_r6_Puts {args r : List D} (hl : args.length = 3) (h : r6_Puts (start args) (fin [(6,none)] r)) : Told Try.prog 44 args r :=
 told_of follows Try.func44 rfl (an:=[([],[0,1,2],[],[]),([],[0,1,2,7],[],[]),([],[1,2,7,10,11,12],[],[]),([],[1,2,7,10,11,12,13],[],[]),([],[1,2,7,8,9,10,11,12],[9],[]),([(10,[1,2,7,9,10,11,12,21,26],[9])],[1,2,7,9,10,11,12,38],[9],[]),([],[1,2,7,10,11,12],[],[]),([],[1,2,7,10,11,12],[],[]),([],[6],[],[])]) (by kernel_rfl) (by kernel_rfl) (by rw [hl]; decide +kernel) h
open mth
def putsK (l : List Sp) (es : List Int) (t : Int) (k : Nat) : List Ms:=(((l.zip es).take k).filter (fun x => x.2 == 0 && (x.1.kind == 2 && x.1.tenant == t))).map (fun x => x.1.msg)
theorem putsK_all (l : List Sp) (es : List Int) (t : Int) : putsK l es t l.length = putsW l es t:=by
 unfold putsK putsW
 rw [List.take_of_length_le (by rw [List.length_zip]; omega)]
theorem putsK_len (l : List Sp) (es : List Int) (t : Int) (k : Nat) : (putsK l es t k).length ≤ es.length:=by
 unfold putsK
 rw [List.length_map]
 refine Nat.le_trans (List.length_filter_le _ _) ?_
 rw [List.length_take,List.length_zip]; omega
theorem putsK_no {l : List Sp} {es : List Int} (t : Int) {k : Nat} (h : es.length ≤ k) : putsK l es t (k + 1) = putsK l es t k:=by
 unfold putsK
 rw [List.take_of_length_le (i:=k) (by rw [List.length_zip]; omega),List.take_of_length_le (by rw [List.length_zip]; omega)]
theorem putsK_at {l : List Sp} {es : List Int} (t : Int) {k : Nat} {s : Sp} {e : Int} (hs : l[k]? = some s) (he : es[k]? = some e) : putsK l es t (k + 1) = putsK l es t k ++ (if e = 0 ∧ s.kind = 2 ∧ s.tenant = t then [s.msg] else []):=by
 have hz : (l.zip es)[k]? = some (s,e):=List.getElem?_zip_eq_some.2 ⟨hs,he⟩
 unfold putsK
 rw [List.take_add_one,hz,Option.toList_some,List.filter_append,List.map_append]
 congr 1
 by_cases h1 : e = 0 ∧ s.kind = 2 ∧ s.tenant = t
 ·rw [if_pos h1]; simp [h1]
 ·rw [if_neg h1,List.filter_cons_of_neg]
  ·rfl
  ·simp only [Bool.and_eq_true,beq_iff_eq]; exact h1
def puSt (l : List Sp) (es : List Int) (t : Int) (p : List Ms) (k : Nat) : St :=
 ⟨[(1,sD 1 (es.map vI)),(2,vI t),(7,sD 2 (encMl p)),(10,sD 7 (encSl l)),(11,vI l.length),(12,vI k)],[],[((7,none),(53,2,none))]⟩
def puJ (l : List Sp) (es : List Int) (t : Int) : Nat → St → Prop:=fun m st => ∃ k : Nat,k ≤ l.length ∧ m = l.length - k ∧ st = puSt l es t (putsK l es t k) k
theorem at_es {es : List Int} {i : Nat} {x : Int} (h : es[i]? = some x) : (es.map vI)[i]? = some (vI x):=by simp [h]
theorem puts_told (l : List Sp) (es : List Int) (t : Int) (hl : l.length ≤ 9223372036854775807) (he : es.length ≤ 1048576) : Told Try.prog 44 [sD 7 (encSl l),sD 1 (es.map vI),vI t] [sD 2 (encMl (putsW l es t))]:=by
 refine told_r6_Puts rfl ?_
 refine wk @len_sl ?_
 refine aw_loop (puJ l es t) l.length (puSt l es t [] 0) ?_ ⟨0,by omega,by omega,rfl⟩ ?_
 ·exact (Le.nilS 7 53 2 rfl).trans (Le.keep (lv:=[1,2,7,10,11,12]) (lb:=[]) (by simp only [ev0,ev1,ev2,look,lookF,cellsFrom,offT,offP,List.tail_nil,List.length_nil,Int.cast_ofNat_Int,Nat.reduceEqDiff,Nat.reduceAdd,Nat.reduceMul,Nat.reduceLeDiff,Nat.reduceLT,↓reduceIte,reduceCtorEq,Int.reduceBEq,Int.reduceBNe,Int.reduceLT,Int.reduceLE,Int.reduceToNat]; rfl))
 rintro m st ⟨k,hk,hm,rfl⟩
 have hpl:=putsK_len l es t k
 by_cases hlt : k < l.length
 ·obtain ⟨s,hs⟩ : ∃ s,l[k]? = some s:=⟨l[k],List.getElem?_eq_getElem hlt⟩
  have g1 : (k : Int) < (l.length : Int):=by omega
  have g2 : (0 : Int) ≤ (k : Int):=by omega
  have g3:=at_sl hs
  have g4 : inR .i64 ((k : Int) + 1) = true:=inR_of (by omega)
  have hnx : ∀ p,p = putsK l es t (k + 1) → Next (puJ l es t) m (puSt l es t p (k + 1)):=fun p hp => ⟨l.length - (k + 1),_,by omega,Le.refl _,k + 1,by omega,rfl,by rw [hp]⟩
  by_cases hke : k < es.length
  ·obtain ⟨e,hee⟩ : ∃ e,es[k]? = some e:=⟨es[k],List.getElem?_eq_getElem hke⟩
   have g5 : (k : Int) < (es.length : Int):=by omega
   have g6:=at_es hee
   have hstep:=putsK_at t hs hee
   by_cases c1 : e = 0
   ·have f1 : (e == 0) = true:=by simpa using c1
    by_cases c2 : s.kind = 2
    ·have f2 : (s.kind == 2) = true:=by simpa using c2
     by_cases c3 : s.tenant = t
     ·have f3 : (s.tenant == t) = true:=by simpa using c3
      rw [if_pos ⟨c1,c2,c3⟩] at hstep
      have hnx:=hnx _ hstep.symm
      generalize puJ l es t = J at *
      generalize putsK l es t k = p at *
      have b1 : (p.length + 1) * 32 ≤ 140737488355328:=by omega
      simp only [puSt,Int.natCast_add,Int.cast_ofNat_Int,ml_snoc3] at hnx ⊢
      refine wk (an13 @g1 @g2 @g3 @g4 @g5 @g6 @f1 @f2 @f3 @b1 @len_ml @zmap @Int.toNat_natCast) ?_
      exact hnx
     ·have f3 : (s.tenant == t) = false:=by simpa using c3
      rw [if_neg (fun w => c3 w.2.2),List.append_nil] at hstep
      have hnx:=hnx _ hstep.symm
      generalize puJ l es t = J at *
      generalize putsK l es t k = p at *
      simp only [puSt,Int.natCast_add,Int.cast_ofNat_Int] at hnx ⊢
      refine wk (an11 @g1 @g2 @g3 @g4 @g5 @g6 @f1 @f2 @f3 @zmap @Int.toNat_natCast) ?_
      exact hnx
    ·have f2 : (s.kind == 2) = false:=by simpa using c2
     rw [if_neg (fun w => c2 w.2.1),List.append_nil] at hstep
     have hnx:=hnx _ hstep.symm
     generalize puJ l es t = J at *
     generalize putsK l es t k = p at *
     simp only [puSt,Int.natCast_add,Int.cast_ofNat_Int] at hnx ⊢
     refine wk (an10 @g1 @g2 @g3 @g4 @g5 @g6 @f1 @f2 @zmap @Int.toNat_natCast) ?_
     exact hnx
   ·have f1 : (e == 0) = false:=by simpa using c1
    rw [if_neg (fun w => c1 w.1),List.append_nil] at hstep
    have hnx:=hnx _ hstep.symm
    generalize puJ l es t = J at *
    generalize putsK l es t k = p at *
    simp only [puSt,Int.natCast_add,Int.cast_ofNat_Int] at hnx ⊢
    refine wk (an9 @g1 @g2 @g3 @g4 @g5 @g6 @f1 @zmap @Int.toNat_natCast) ?_
    exact hnx
  ·have g5 : ¬ (k : Int) < (es.length : Int):=by omega
   have hnx:=hnx _ (putsK_no t (by omega)).symm
   generalize puJ l es t = J at *
   generalize putsK l es t k = p at *
   simp only [puSt,Int.natCast_add,Int.cast_ofNat_Int] at hnx ⊢
   refine wk (an7 @g1 @g2 @g3 @g4 @g5 @zmap @Int.toNat_natCast) ?_
   exact hnx
 ·have : k = l.length:=by omega
  subst this
  have g1 : ¬ (l.length : Int) < (l.length : Int):=by omega
  rw [putsK_all]
  generalize puJ l es t = J at *
  generalize putsW l es t = p at *
  simp only [puSt]
  refine wk @g1 ?_
  exact ValsLe.refl _
set_option maxRecDepth 100000
def r1_Of_r0 : IC:=cReg Try.prog [
  ⟨some 4,none,iMov 4 (.const (.slice none 0 0)) true⟩] [0,1] []
def r1_Of_r1 : IC:=cReg Try.prog [
  ⟨some 5,none,iMov 5 (.const (.slice none 0 0)) true⟩] [0,1,5] []
def r1_Of_r2 : IC:=cReg Try.prog [
  ⟨some 8,none,iMov 8 (.tmp 0) false⟩,
  ⟨some 9,none,iLen 9 false (.tmp 8)⟩,
  ⟨some 10,none,iMov 10 (.const (.int .i64 0)) false⟩] [1,5,8,9,10] []
def r1_Of_r3 : IC:=cReg Try.prog [
  ⟨some 11,none,iBin 11 .lss (.tmp 10) (.tmp 9)⟩] [1,5,8,9,10,11] []
def r1_Of_c3 : IC:=cCond (.tmp 11) cSkip (cExit 0)
def r1_Of_r4 : IC:=cReg Try.prog [
  ⟨some 12,none,iIaS 12 2 (.tmp 8) (.tmp 10)⟩,
  ⟨some 13,none,iLoad 13 2 true (.tmp 12) false⟩,
  ⟨some 7,none,iAlo 7 [vD (.int .i64 0),vD (.slice none 0 0)]⟩,
  ⟨none,none,iStor 2 (.tmp 7) (.tmp 13)⟩] [1,5,7,8,9,10] [7]
def r1_Of_r5 : IC:=cReg Try.prog [
  ⟨some 14,none,iFad 14 0 (.tmp 7)⟩,
  ⟨some 15,none,iLoad 15 1 false (.tmp 14) false⟩,
  ⟨some 16,none,iMov 16 (.tmp 1) false⟩,
  ⟨some 17,none,iBin 17 .eql (.tmp 15) (.tmp 16)⟩] [1,5,7,8,9,10,17] [7]
def r1_Of_r6 : IC:=cReg Try.prog [
  ⟨some 18,none,iMov 18 (.tmp 5) true⟩,
  ⟨some 19,none,iLoad 19 2 true (.tmp 7) false⟩,
  ⟨some 20,none,iRow 20 53 2 [(.tmp 19)]⟩,
  ⟨some 21,none,iApp 21 53 2 32 (.tmp 18) (.tmp 20)⟩,
  ⟨some 5,none,iMov 5 (.tmp 21) true⟩] [1,5,8,9,10] []
def r1_Of_c5 : IC:=cCond (.tmp 17) r1_Of_r6 cSkip
def r1_Of_b4 : IC:=cBlock 1 (cSeq r1_Of_r4 (cSeq r1_Of_r5 r1_Of_c5))
def r1_Of_r7 : IC:=cReg Try.prog [
  ⟨some 22,none,iBin 22 .add (.tmp 10) (.const (.int .i64 1))⟩,
  ⟨some 10,none,iMov 10 (.tmp 22) false⟩] [1,5,8,9,10] []
def r1_Of_l2a : IC:=(cSeq r1_Of_r3 (cSeq r1_Of_c3 (cSeq r1_Of_b4 r1_Of_r7)))
def r1_Of_l2 : IC:=cLoop r1_Of_l2a
def r1_Of_b1 : IC:=cBlock 0 r1_Of_l2
def r1_Of_r8 : IC:=cReg Try.prog [
  ⟨some 23,none,iMov 23 (.tmp 5) false⟩,
  ⟨some 4,none,iMov 4 (.tmp 23) true⟩] [4] []
def r1_Of : IC:=(cSeq r1_Of_r0 (cSeq r1_Of_r1 (cSeq (cSeq r1_Of_r2 r1_Of_b1) (cSeq r1_Of_r8 cRet))))
theorem told_r1_Of {args r : List D} (hl : args.length = 2) (h : r1_Of (start args) (fin [(4,none)] r)) : Told Try.prog 72 args r :=
 told_of follows Try.func72 rfl (an:=[([],[0,1],[],[]),([],[0,1,5],[],[]),([],[1,5,8,9,10],[],[]),([],[1,5,8,9,10,11],[],[]),([],[1,5,7,8,9,10],[7],[]),([],[1,5,7,8,9,10,17],[7],[]),([],[1,5,8,9,10],[],[]),([],[1,5,8,9,10],[],[]),([],[4],[],[])]) (by kernel_rfl) (by kernel_rfl) (by rw [hl]; decide +kernel) h
def r1_Fits_r0 : IC:=cReg Try.prog [
  ⟨some 4,none,iMov 4 (.const (.bool false)) true⟩] [0,1] []
def r1_Fits_r1 : IC:=cReg Try.prog [
  ⟨some 8,none,iMov 8 (.const (.int .i64 0)) false⟩] [0,1,8] []
def r1_Fits_r2 : IC:=cReg Try.prog [
  ⟨some 9,none,iBin 9 .lss (.tmp 8) (.const (.int .i64 3))⟩] [0,1,8,9] []
def r1_Fits_c3 : IC:=cCond (.tmp 9) cSkip (cExit 0)
def r1_Fits_r3 : IC:=cReg Try.prog [
  ⟨some 10,none,iMov 10 (.tmp 8) false⟩,
  ⟨some 5,none,iMov 5 (.tmp 10) true⟩] [0,1,5,8] []
def r1_Fits_r4 : IC:=cReg Try.prog [
  ⟨some 11,none,iMov 11 (.tmp 0) false⟩,
  ⟨some 12,none,iMov 12 (.tmp 5) false⟩,
  ⟨some 13,none,iCall 13 72 [(.tmp 11),(.tmp 12)]⟩,
  ⟨some 14,none,iMov 14 (.tmp 1) false⟩,
  ⟨some 15,none,iMov 15 (.tmp 5) false⟩,
  ⟨some 16,none,iCall 16 72 [(.tmp 14),(.tmp 15)]⟩,
  ⟨some 6,none,iMov 6 (.tmp 13) true⟩,
  ⟨some 7,none,iMov 7 (.tmp 16) true⟩] [0,1,6,7,8] []
def r1_Fits_r5 : IC:=cReg Try.prog [
  ⟨some 17,none,iMov 17 (.tmp 6) false⟩,
  ⟨some 18,none,iLen 18 false (.tmp 17)⟩,
  ⟨some 19,none,iMov 19 (.tmp 7) false⟩,
  ⟨some 20,none,iLen 20 false (.tmp 19)⟩,
  ⟨some 21,none,iBin 21 .gtr (.tmp 18) (.tmp 20)⟩,
  ⟨some 22,none,iMov 22 (.tmp 21) false⟩,
  ⟨some 23,some (22,false),iMov 23 (.tmp 6) false⟩,
  ⟨some 24,some (22,false),iMov 24 (.tmp 7) false⟩,
  ⟨some 25,some (22,false),iMov 25 (.tmp 6) false⟩,
  ⟨some 26,some (22,false),iLen 26 false (.tmp 25)⟩,
  ⟨some 27,some (22,false),iSlc 27 2 (.tmp 24) none (some (.tmp 26))⟩,
  ⟨some 28,some (22,false),iCall 28 62 [(.tmp 23),(.tmp 27)]⟩,
  ⟨some 29,some (22,false),iNot 29 (.tmp 28)⟩,
  ⟨some 30,none,iPick 30 (.tmp 22) (.const (.bool true)) (.tmp 29)⟩] [0,1,8,30] []
def r1_Fits_r6 : IC:=cReg Try.prog [
  ⟨some 4,none,iMov 4 (.const (.bool false)) true⟩] [4] []
def r1_Fits_c5a : IC:=(cSeq r1_Fits_r6 cRet)
def r1_Fits_c5 : IC:=cCond (.tmp 30) r1_Fits_c5a cSkip
def r1_Fits_b4 : IC:=cBlock 1 (cSeq r1_Fits_r3 (cSeq r1_Fits_r4 (cSeq r1_Fits_r5 r1_Fits_c5)))
def r1_Fits_r7 : IC:=cReg Try.prog [
  ⟨some 31,none,iBin 31 .add (.tmp 8) (.const (.int .i64 1))⟩,
  ⟨some 8,none,iMov 8 (.tmp 31) false⟩] [0,1,8] []
def r1_Fits_l2a : IC:=(cSeq r1_Fits_r2 (cSeq r1_Fits_c3 (cSeq r1_Fits_b4 r1_Fits_r7)))
def r1_Fits_l2 : IC:=cLoop r1_Fits_l2a
def r1_Fits_b1 : IC:=cBlock 0 r1_Fits_l2
def r1_Fits_r8 : IC:=cReg Try.prog [
  ⟨some 4,none,iMov 4 (.const (.bool true)) true⟩] [4] []
def r1_Fits : IC:=(cSeq r1_Fits_r0 (cSeq (cSeq r1_Fits_r1 r1_Fits_b1) (cSeq r1_Fits_r8 cRet)))
theorem told_r1_Fits {args r : List D} (hl : args.length = 2) (h : r1_Fits (start args) (fin [(4,none)] r)) : Told Try.prog 31 args r :=
 told_of follows Try.func31 rfl (an:=[([],[0,1],[],[]),([],[0,1,8],[],[]),([],[0,1,8,9],[],[]),([],[0,1,5,8],[],[]),([],[0,1,6,7,8],[],[]),([],[0,1,8,30],[],[]),([],[4],[],[]),([],[0,1,8],[],[]),([],[4],[],[])]) (by kernel_rfl) (by kernel_rfl) (by rw [hl]; decide +kernel) h
def ofSt (l : List Ms) (s : Int) (k : Nat) : St:=⟨[(1,vI s),(5,sD 2 (encMl (ofS (l.take k) s))),(8,sD 2 (encMl l)),(9,vI l.length),(10,vI k)],[],[((5,none),(53,2,none))]⟩
theorem ofS_next {l : List Ms} {s : Int} {k n : Nat} (hk : k < l.length) (hn : n = l.length - k) {xs : List D} (hx : xs = encMl (ofS (l.take (k + 1)) s)) :
  Next (fun n st => ∃ k,k ≤ l.length ∧ n = l.length - k ∧ st = ofSt l s k) n ⟨[(1,vI s),(5,sD 2 xs),(8,sD 2 (encMl l)),(9,vI l.length),(10,vI ((k : Int) + 1))],[],[((5,none),(53,2,none))]⟩:=by
 subst hx
 exact ⟨l.length - (k + 1),_,by omega,Le.refl _,k + 1,by omega,rfl,by simp only [ofSt,Int.natCast_add,Int.cast_ofNat_Int]⟩
theorem refOf_told (l : List Ms) (s : Int) (hl : l.length ≤ 1048576) : Told Try.prog 72 [sD 2 (encMl l),vI s] [sD 2 (encMl (ofS l s))]:=by
 refine told_r1_Of rfl ?_
 refine wk @len_ml ?_
 refine aw_loop (fun n st => ∃ k,k ≤ l.length ∧ n = l.length - k ∧ st = ofSt l s k) l.length (ofSt l s 0) ((Le.nilS 5 53 2 rfl).trans (Le.keep (lv:=[1,5,8,9,10]) (lb:=[]) (by simp only [ev0,ev1,ev2,look,lookF,cellsFrom,offT,offP,List.tail_nil,List.length_nil,Int.cast_ofNat_Int,Nat.reduceEqDiff,Nat.reduceAdd,Nat.reduceMul,Nat.reduceLeDiff,Nat.reduceLT,↓reduceIte,reduceCtorEq,Int.reduceBEq,Int.reduceBNe,Int.reduceLT,Int.reduceLE,Int.reduceToNat]; rfl))) ⟨0,by omega,by omega,rfl⟩ ?_
 rintro n st ⟨k,hk,hn,rfl⟩
 by_cases hlt : k < l.length
 ·obtain ⟨m,hm⟩ : ∃ m,l[k]? = some m:=⟨l[k],List.getElem?_eq_getElem hlt⟩
  have g1 : (k : Int) < (l.length : Int):=by omega
  have g2 : (0 : Int) ≤ (k : Int):=by omega
  have g3:=at_ml hm
  have g4 : inR .i64 ((k : Int) + 1) = true:=inR_of (by omega)
  have hsn:=ofS_snoc (s:=s) hm
  have hol:=ofS_len (l.take k) s
  rw [List.length_take] at hol
  have hb1 : ((ofS (l.take k) s).length + 1) * 32 ≤ 140737488355328:=by omega
  have hnx:=fun xs => ofS_next (s:=s) (xs:=xs) hlt hn
  generalize (fun n st => ∃ k,k ≤ l.length ∧ n = l.length - k ∧ st = ofSt l s k) = J at *
  simp only [ofSt]
  by_cases he : m.stream = s
  ·have e1 : (m.stream == s) = true:=by simpa using he
   refine wk (an7 @g1 @g2 @g3 @g4 @e1 @len_ml @hb1) ?_
   refine hnx _ ?_
   rw [hsn,if_pos e1]
   simp only [encMl,List.map_append,List.map_cons,List.map_nil,encMs]
  ·have e1 : (m.stream == s) = false:=by simpa using he
   refine wk (an5 @g1 @g2 @g3 @g4 @e1) ?_
   refine hnx _ ?_
   rw [hsn,if_neg (by rw [e1]; simp)]
 ·have hk' : k = l.length:=by omega
  subst hk'
  have g1 : ¬ (l.length : Int) < (l.length : Int):=by omega
  simp only [ofSt,List.take_length]
  refine wk @g1 ?_
  exact ValsLe.refl _
theorem take_ml (l : List Ms) (n : Nat) : (encMl l).take n = encMl (l.take n):=by simp [encMl,List.map_take]
def rfSt (told put : List Ms) (k : Nat) : St:=⟨[(0,sD 2 (encMl told)),(1,sD 2 (encMl put)),(8,vI k)],[],[]⟩
theorem refFits_told (told put : List Ms) (ht : told.length ≤ 1048576) (hp : put.length ≤ 1048576) : Told Try.prog 31 [sD 2 (encMl told),sD 2 (encMl put)] [vB (fitsS told put)]:=by
 refine told_r1_Fits rfl ?_
 refine wk0 ?_
 refine aw_loop (fun n st => ∃ k : Nat,k ≤ 3 ∧ n = 3 - k ∧ (∀ j : Nat,j < k → preS (ofS told j) (ofS put j) = true) ∧ st = rfSt told put k) 3 (rfSt told put 0) (Le.refl _) ⟨0,by omega,by omega,fun j hj => by omega,rfl⟩ ?_
 rintro n st ⟨k,hk,hn,hpre,rfl⟩
 by_cases hlt : k < 3
 ·have g1 : (k : Int) < 3:=by omega
  have g4 : inR .i64 ((k : Int) + 1) = true:=inR_of (by omega)
  simp only [rfSt]
  refine wk @g1 ?_
  refine cg0 [[sD 2 (encMl (ofS told k))],[sD 2 (encMl (ofS put k))]] ?_ ?_
  ·exact obl_cons (refOf_told told k ht) (obl_cons (refOf_told put k hp) obl_nil)
  have hA:=ofS_len told k
  have hC:=ofS_len put k
  cases hpk : preS (ofS told k) (ofS put k) with
  | true =>
   have hnext : ∀ j : Nat,j < k + 1 → preS (ofS told j) (ofS put j) = true:=fun j hj => by
    rcases Nat.lt_succ_iff_lt_or_eq.1 hj with h | h
    ·exact hpre j h
    ·subst h; exact hpk
   simp only [preS,Bool.and_eq_true,decide_eq_true_eq] at hpk
   generalize ofS told k = A at *
   generalize ofS put k = C at *
   have l1 : ¬ (C.length : Int) < (A.length : Int):=by omega
   have l2 : (0 : Int) ≤ (A.length : Int):=by omega
   have l3 : (A.length : Int) ≤ (C.length : Int):=by omega
   refine wk (an7 @l1 @l2 @l3 @len_ml @take_ml @Int.natCast_zero @Int.le_refl) ?_
   refine cg [[vB true]] (an7 @l1 @l2 @l3 @len_ml @take_ml @Int.natCast_zero @Int.le_refl) ?_ ?_
   ·have:=sameMsgs_told A (C.take A.length) (by omega)
    rw [hpk.2] at this
    exact obl_cons this obl_nil
   refine wk @g4 ?_
   exact ⟨3 - (k + 1),_,by omega,Le.refl _,k + 1,by omega,rfl,hnext,by simp only [rfSt,Int.natCast_add,Int.cast_ofNat_Int]⟩
  | false =>
   have hf : fitsS told put = false:=fitsS_no (s:=k) (by omega) hpk
   rw [hf]
   simp only [preS,Bool.and_eq_false_iff,decide_eq_false_iff_not] at hpk
   generalize ofS told k = A at *
   generalize ofS put k = C at *
   by_cases hg : C.length < A.length
   ·have l1 : (C.length : Int) < (A.length : Int):=by omega
    refine wk (an2 @l1 @len_ml) ?_
    exact ValsLe.refl _
   ·have l1 : ¬ (C.length : Int) < (A.length : Int):=by omega
    have l2 : (0 : Int) ≤ (A.length : Int):=by omega
    have l3 : (A.length : Int) ≤ (C.length : Int):=by omega
    have hss : sameL A (C.take A.length) = false:=hpk.resolve_left (by omega)
    refine wk (an7 @l1 @l2 @l3 @len_ml @take_ml @Int.natCast_zero @Int.le_refl) ?_
    refine cg [[vB false]] (an7 @l1 @l2 @l3 @len_ml @take_ml @Int.natCast_zero @Int.le_refl) ?_ ?_
    ·have:=sameMsgs_told A (C.take A.length) (by omega)
     rw [hss] at this
     exact obl_cons this obl_nil
    refine wk0 ?_
    exact ValsLe.refl _
 ·have hk' : k = 3:=by omega
  subst hk'
  have hf : fitsS told put = true:=by
   have h0:=hpre 0 (by omega)
   have h1:=hpre 1 (by omega)
   have h2:=hpre 2 (by omega)
   simp only [Int.natCast_zero,Int.cast_ofNat_Int] at h0 h1 h2
   simp [fitsS,h0,h1,h2]
  rw [hf]
  have g1 : ¬ ((3 : Nat) : Int) < 3:=by omega
  simp only [rfSt]
  refine wk @g1 ?_
  exact ValsLe.refl _
def stSt (l : List Sp) (i : Nat) : St:=⟨[(3,vI (spoilsW (l.take i))),(6,sD 7 (encSl l)),(7,vI l.length),(8,vI i)],[],[]⟩
def stJ (l : List Sp) : Nat → St → Prop:=fun m st => ∃ i : Nat,i ≤ l.length ∧ m = l.length - i ∧ st = stSt l i
theorem spoils_le (l : List Sp) : spoilsW l ≤ l.length:=List.length_filter_le _ _
theorem spoiltTwice_told (l : List Sp) (hl : l.length ≤ 9223372036854775807) : Told Try.prog 45 [sD 7 (encSl l)] [vB (decide (1 < spoilsW l))]:=by
 refine told_w7_spoiltTwice rfl ?_
 refine wk @len_sl ?_
 refine aw_loop (stJ l) l.length (stSt l 0) (Le.refl _) ⟨0,by omega,by omega,rfl⟩ ?_
 rintro m st ⟨i,hi,hm,rfl⟩
 have hle:=spoils_le (l.take i)
 rw [List.length_take] at hle
 by_cases hlt : i < l.length
 ·obtain ⟨s,hs⟩ : ∃ s,l[i]? = some s:=⟨l[i],List.getElem?_eq_getElem hlt⟩
  have g1 : (i : Int) < (l.length : Int):=by omega
  have g2 : (0 : Int) ≤ (i : Int):=by omega
  have g3:=at_sl hs
  have g4 : inR .i64 ((i : Int) + 1) = true:=inR_of (by omega)
  have hnx : Next (stJ l) m (stSt l (i + 1)):=⟨l.length - (i + 1),_,by omega,Le.refl _,i + 1,by omega,rfl,rfl⟩
  unfold stSt at hnx
  rw [List.take_add_one,hs,Option.toList_some,spoils_snoc] at hnx
  by_cases h6 : s.kind = 6
  ·rw [if_pos h6] at hnx
   have e1 : (s.kind == 6) = true:=by simpa using h6
   have g5 : inR .i64 ((spoilsW (l.take i) : Int) + 1) = true:=inR_of (by omega)
   generalize stJ l = J at *
   unfold stSt
   generalize spoilsW (l.take i) = c at *
   simp only [Int.natCast_add,Int.cast_ofNat_Int] at hnx ⊢
   refine wk (an7 @g1 @g2 @g3 @g4 @g5 @e1 @Int.toNat_natCast) ?_
   exact hnx
  ·rw [if_neg h6] at hnx
   have e1 : (s.kind == 6) = false:=by simpa using h6
   generalize stJ l = J at *
   unfold stSt
   generalize spoilsW (l.take i) = c at *
   simp only [Nat.add_zero,Int.natCast_add,Int.cast_ofNat_Int] at hnx ⊢
   refine wk (an6 @g1 @g2 @g3 @g4 @e1 @Int.toNat_natCast) ?_
   exact hnx
 ·have : i = l.length:=by omega
  subst this
  have g1 : ¬ (l.length : Int) < (l.length : Int):=by omega
  generalize stJ l = J at *
  rw [show stSt l l.length = ⟨[(3,vI (spoilsW l)),(6,sD 7 (encSl l)),(7,vI l.length),(8,vI l.length)],[],[]⟩ by unfold stSt; rw [List.take_length]]
  by_cases h : 1 < spoilsW l
  ·have g2 : (1 : Int) < (spoilsW l : Int):=by omega
   rw [decide_eq_true h]
   refine wk (an2 @g1 @g2) ?_
   exact ValsLe.refl _
  ·have g2 : ¬ (1 : Int) < (spoilsW l : Int):=by omega
   rw [decide_eq_false h]
   refine wk (an2 @g1 @g2) ?_
   exact ValsLe.refl _
theorem zip_take {α β : Type} : ∀ (l : List α) (es : List β) (m : Nat),es.length ≤ m → (l.take m).zip es = l.zip es
 | _,[],_,_ => by simp
 | [],_ :: _,m,_ => by simp
 | a :: l,b :: es,0,h => by simp at h
 | a :: l,b :: es,m + 1,h => by
  rw [List.take_succ_cons,List.zip_cons_cons,List.zip_cons_cons,zip_take l es m (by simpa using h)]
theorem fits_laneAt {n : Nat} (hn : 1 ≤ n ∧ n ≤ 3) (l : List Sp) (k : Int) (back : Bool) (hs : spoilsW l ≤ 1) : fitsS (packetL (laneAt n l) 3 k 0 back).1.r.told (putsW l (runW (newW n) (l.take 160)).2 0) = true:=by
 have h1:=fits_run n (l.take 160) (Nat.le_trans (spoils_take l 160) hs) (good_laneAt hn l).2 k back
 have h2:=(good_run (good_new hn) l 160).2.2
 have h3 : putsW l (runW (newW n) (l.take 160)).2 0 = putsW (l.take 160) (runW (newW n) (l.take 160)).2 0:=by
  unfold putsW
  rw [zip_take l _ 160 h2]
 rw [h3]
 exact h1
theorem laneFits_told (hS : CSpoilR 38) (hO : CLOwn 34) (hK : CLSpeak 35) (hC : CLStep 37 3) (hL : CLStep 39 4) (hT : CLStep 40 5) (hP : CLSpoil 41)
  (n : Int) (l : List Sp) (hl : l.length ≤ 9223372036854775807) (k : Int) (back : Bool) : Told Try.prog 10 [vI n,sD 7 (encSl l),vI k,vB back] [vB true]:=by
 refine told_w7_LaneFits rfl ?_
 have hA:=alive7_told hO hK hC hL hT hP
 refine wk0 ?_
 refine cg [[vB true]] Bool.not_true ?_ ?_
 ·exact obl_cons hA obl_nil
 by_cases hn : n < 1 ∨ 3 < n
 ·have h1:=laneOf_not n hn l
  generalize zeroL = a at *
  simp only [encLn] at h1 ⊢
  refine wk Bool.not_true ?_
  refine cg [[aD (encLn a),vB false]] (an2 @encLn.eq_1 Bool.not_true) ?_ ?_
  ·exact obl_cons h1 obl_nil
  refine wk Bool.not_false ?_
  exact ValsLe.refl _
 obtain ⟨q,rfl⟩ : ∃ q : Nat,n = q:=⟨n.toNat,by omega⟩
 have hq : 1 ≤ q ∧ q ≤ 3:=by omega
 have h1:=laneOf_told hS q hq l hl
 have h2:=play_told hS q hq l hl
 obtain ⟨hg,_⟩:=good_laneAt hq l
 have hf:=fits_laneAt hq l k back
 have he:=(good_run (good_new hq) l 160).2.2
 have h3:=hC (laneAt q l) k back hg
 have hx:=hg.packet 3 k 0 back
 have h4:=puts_told l (runW (newW q) (l.take 160)).2 0 hl (by omega)
 have h6:=spoiltTwice_told l hl
 have hpl : (putsW l (runW (newW q) (l.take 160)).2 0).length ≤ 1048576:=by
  have:=putsK_len l (runW (newW q) (l.take 160)).2 0 l.length
  rw [putsK_all] at this
  omega
 have h5:=refFits_told (packetL (laneAt q l) 3 k 0 back).1.r.told (putsW l (runW (newW q) (l.take 160)).2 0) (by have:=good_sizes hx.r; omega) hpl
 generalize laneAt q l = a at *
 generalize (packetL a 3 k 0 back).2 = e at *
 generalize (packetL a 3 k 0 back).1 = x at *
 generalize (runW (newW q) (l.take 160)).1 = w at *
 generalize putsW l (runW (newW q) (l.take 160)).2 0 = p at *
 generalize (runW (newW q) (l.take 160)).2 = es at *
 by_cases hs : spoilsW l ≤ 1
 ·rw [hf hs] at h5
  simp only [encLn,encWd,encRv] at h1 h2 h3 h5 ⊢
  refine wk Bool.not_true ?_
  refine cg [[aD (encLn a),vB true]] (an3 @encLn.eq_1 @encRv.eq_1 Bool.not_true) ?_ ?_
  ·exact obl_cons h1 obl_nil
  refine wk Bool.not_true ?_
  refine cg [[aD (encWd w),sD 1 (es.map vI)]] (an2 @encWd.eq_1 Bool.not_true) ?_ ?_
  ·exact obl_cons h2 obl_nil
  refine wk0 ?_
  refine cg [[aD (encLn x),vI e]] (an2 @encLn.eq_1 @encRv.eq_1) ?_ ?_
  ·exact obl_cons h3 obl_nil
  refine wk0 ?_
  refine cd0 [[sD 2 (encMl p)],[vB true]] ?_ ?_
  ·exact obl_cons h4 (obl_cons h5 obl_nil)
  refine wk0 ?_
  exact ValsLe.refl _
 ·rw [decide_eq_true (by omega)] at h6
  generalize fitsS x.r.told p = f at *
  simp only [encLn,encWd,encRv] at h1 h2 h3 h5 ⊢
  refine wk Bool.not_true ?_
  refine cg [[aD (encLn a),vB true]] (an3 @encLn.eq_1 @encRv.eq_1 Bool.not_true) ?_ ?_
  ·exact obl_cons h1 obl_nil
  refine wk Bool.not_true ?_
  refine cg [[aD (encWd w),sD 1 (es.map vI)]] (an2 @encWd.eq_1 Bool.not_true) ?_ ?_
  ·exact obl_cons h2 obl_nil
  refine wk0 ?_
  refine cg [[aD (encLn x),vI e]] (an2 @encLn.eq_1 @encRv.eq_1) ?_ ?_
  ·exact obl_cons h3 obl_nil
  refine wk0 ?_
  cases f
  ·refine cd0 [[sD 2 (encMl p)],[vB false],[vB true]] ?_ ?_
   ·exact obl_cons h4 (obl_cons h5 (obl_cons h6 obl_nil))
   refine wk0 ?_
   exact ValsLe.refl _
  ·refine cd0 [[sD 2 (encMl p)],[vB true]] ?_ ?_
   ·exact obl_cons h4 (obl_cons h5 obl_nil)
   refine wk0 ?_
   exact ValsLe.refl _
end Go.Proofs.Ytgfljlmonaifgab.ab
namespace Go.Proofs.Ytgfljlmonaifgab.laneFits
open Go Go.ChangeShapes Go.WideShapes Go.ChangeAt Go.RowKit
open ab mth
set_option maxRecDepth 100000 in
theorem lifted (hS : CSpoilR 38) (hO : CLOwn 34) (hK : CLSpeak 35) (hC : CLStep 37 3) (hL : CLStep 39 4) (hT : CLStep 40 5) (hP : CLSpoil 41) (os : Os) (started : os.Started) (H : Type) (enc : TypeId × Value → H) :
  ReturnsInHanded {} Try.checked os 10 .any (Rows.laneFitsSpec.pre6 enc Try.prog Try.f10 Rows.laneFitsRow.domain false) (Rows.laneFitsSpec.post enc Try.prog Try.f10 false true false false):=by
 refine returnsInHanded_of_change_sized (C:=Try.checked) own started (by kernel_rfl) Try.func10
  (ChangeSpec.witness6 (enc:=enc) (C:=Try.checked) false ⟨#[],#[.int .i64 0,.slice none 0 0,.int .i64 0,.bool false],[]⟩ 8 (by kernel_rfl) (by kernel_rfl) (by kernel_rfl) (by kernel_rfl)) ?_
 intro W base args ds gs before hval0 hW0 hcnd hsz0 _
 have hval : ∀ (j : Nat) t v,Try.f10.params[j]? = some t → args[j]? = some v → Value.okWide Try.prog W .any base t v:=hval0
 have hW':=hW0
 obtain ⟨p,q,hA0,hV,rfl,hfz,hnd⟩:=hW0
 have hA : DataW.TrodAll enc Try.prog W 0 (fun _ => true) true Try.f10.params.toList args.toList ds p:=hA0
 rw [Try.params10] at hA hval
 obtain ⟨v0,vs0,d0,ds0,p0,q0,hargs,rfl,rfl,h0,r0⟩:=trodAll_cons hA
 obtain ⟨v1,vs1,d1,ds1,p1,q1,rfl,rfl,rfl,h1,r1⟩:=trodAll_cons r0
 obtain ⟨v2,vs2,d2,ds2,p2,q2,rfl,rfl,rfl,h2,r2⟩:=trodAll_cons r1
 obtain ⟨v3,vs3,d3,ds3,p3,q3,rfl,rfl,rfl,h3,r3⟩:=trodAll_cons r2
 obtain ⟨rfl,rfl,rfl⟩:=trodAll_nil r3
 obtain rfl : args = #[v0,v1,v2,v3]:=by cases args; simp_all
 obtain ⟨rfl,rfl⟩:=trodVars_none hV
 have lt0 : ∀ x ∈ p0,x.block < W.heap.size:=by obtain ⟨m,hm⟩:=h0; exact DataW.trod_lt m _ _ _ hm
 have lt1 : ∀ x ∈ p1,x.block < W.heap.size:=by obtain ⟨m,hm⟩:=h1; exact DataW.trod_lt m _ _ _ hm
 have lt2 : ∀ x ∈ p2,x.block < W.heap.size:=by obtain ⟨m,hm⟩:=h2; exact DataW.trod_lt m _ _ _ hm
 have lt3 : ∀ x ∈ p3,x.block < W.heap.size:=by obtain ⟨m,hm⟩:=h3; exact DataW.trod_lt m _ _ _ hm
 obtain ⟨n0,rfl⟩:=okWide_int Try.underlying3 (hval 0 3 v0 rfl rfl)
 obtain ⟨n2,rfl⟩:=okWide_int Try.underlying3 (hval 2 3 v2 rfl rfl)
 obtain ⟨b3,rfl⟩:=okWide_bool Try.underlying4 (hval 3 4 v3 rfl rfl)
 obtain ⟨a1,len1,cap1,rfl⟩:=okWide_slice Try.underlying58 (hval 1 58 v1 rfl rfl)
 obtain ⟨x1,hM1,_,_⟩:=(by obtain ⟨fuel,hf⟩:=h1; exact in_steps hf : ∃ cs : List Sp,CRep (AllOf W) W (sD 7 (encSl cs)) (.slice a1 len1 cap1) ∧ cs.length ≤ Rows.uptoBulk d1 ∧ ∀ c ∈ cs,True)
 have hl1:=hM1.len
 rw [len_sl] at hl1
 clear hA0 hval0
 refine ((laneFits_told hS hO hK hC hL hT hP n0 x1 hl1 n2 b3).yes (W:=W) (vs:=[.int .i64 n0,.slice a1 len1 cap1,.int .i64 n2,.bool b3]) (Vals.cons (.inl (CRep.v rfl)) (Vals.cons (.inl hM1) (Vals.cons (.inl (CRep.v rfl)) (Vals.cons (.inl (CRep.v rfl)) Vals.nil))))).mono fun e W' ⟨he,bel⟩ => ?_
 subst he
 exact ⟨_,rfl,_,_,_,[],_,[],hW',trodAll_mk1 (shut_bool Try.underlying4 _),(trodAll_cons_mk (Below.trod laidOut (by kernel_rfl) (of_decide_eq_true (by kernel_rfl)) h0 bel lt0) (trodAll_cons_mk (Below.trod laidOut (by kernel_rfl) (of_decide_eq_true (by kernel_rfl)) h1 bel lt1) (trodAll_cons_mk (Below.trod laidOut (by kernel_rfl) (of_decide_eq_true (by kernel_rfl)) h2 bel lt2) (trodAll_cons_mk (Below.trod laidOut (by kernel_rfl) (of_decide_eq_true (by kernel_rfl)) h3 bel lt3) trodAll_mk0)))),rfl,bel.frame _,fun h => by cases h⟩
theorem over (hS : CSpoilR 38) (hO : CLOwn 34) (hK : CLSpeak 35) (hC : CLStep 37 3) (hL : CLStep 39 4) (hT : CLStep 40 5) (hP : CLSpoil 41) : Rows.laneFitsRow.holds Try.pinned (OpenSpec.ofChange Rows.laneFitsSpec) :=
 OpenClaim.holds_of_wide 10 Try.f10 rfl rfl rfl rfl rfl rfl rfl ⟨rfl,rfl,rfl,rfl,rfl⟩ rfl rfl rfl rfl rfl (by kernel_rfl) Try.func10 (by kernel_rfl)
  (of_decide_eq_true (by kernel_rfl)) (by unfold Func.isWrapper; first | (rw [if_pos (by decide +kernel)]; kernel_rfl) | (rw [if_neg (by decide +kernel)]; exact ⟨rfl,rfl⟩))
  (fun os started H enc _ => lifted hS hO hK hC hL hT hP os started H enc)
end Go.Proofs.Ytgfljlmonaifgab.laneFits
