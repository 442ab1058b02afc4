import Derived.Test.YtgaofjiidedcbadM19
import Derived.Test.YtgaofjiidedcbadProg
import Derived.Test.YtgaofjiidedcbadM31
set_option maxHeartbeats 16000000
set_option linter.unusedVariables false
set_option linter.unusedSimpArgs false
namespace Go.Proofs.Ytgaofjiidedcbad.ab
set_option maxRecDepth 100000
open Go Go.RowKit
def Q34r0 : IC:=cReg Try.prog [⟨some 4,none,iAlo 4 [zI,zI,zI,zI,zF,zI,zS]⟩] [0,1,4] [4]
def Q34r1 : IC:=cReg Try.prog [xM 8 1,xV1 9 22 8,xM 7 9,xE 10 7 0,xE 11 7 1,⟨some 5,none,iAlo 5 [zI,zS]⟩,xS 2 5 10,xT 6 11] [0,4,5] [4,5]
def Q34r2 : IC:=cReg Try.prog [xM 12 0,xA 13 2 5,⟨some 14,none,iBld 14 [zI,zI,zI,zI,zF,zI,zS] [(0,1),(1,1),(5,2)] [(.const (.int .i64 2)),(.tmp 12),(.tmp 13)]⟩,xS 7 4 14] [4] [4]
def lktop_put : IC:=(cSeq Q34r0 (cSeq Q34r1 (cSeq Q34r2 cRet)))
theorem told_lktop_put {args r : List D} (hl : args.length = 2) (h : lktop_put (start args) (fin [(4,some (7,true))] r)) : Told Try.prog 13 args r :=
 told_of follows Try.func13 rfl (an:=[([],[0,1,4],[4],[]),([],[0,4,5],[4,5],[]),([],[4],[4],[])]) (by kernel_rfl) (by kernel_rfl) (by rw [hl]; decide +kernel) h
def Q32r0 : IC:=cReg Try.prog [⟨some 0,none,iMov 0 (.const (.bool false)) true⟩] [] []
def Q32r1 : IC:=cReg Try.prog [⟨some 7,none,iCall 7 13 [(.const (.int .i64 0)),(.const (.string ⟨#[48,58,54,49]⟩))]⟩,⟨some 8,none,iCall 8 13 [(.const (.int .i64 1)),(.const (.string ⟨#[49,58,54,50]⟩))]⟩,⟨some 9,none,iRow 9 30 7 [(.tmp 7),(.tmp 8)]⟩,⟨some 10,none,iCall 10 9 [(.const (.int .i64 2)),(.tmp 9)]⟩,xM 6 10,xE 11 6 0,xE 12 6 1,xE 13 6 2,⟨some 1,none,iAlo 1 [zS,zI]⟩,xS 2 1 11,xT 2 12,xT 3 13] [1,3] [1]
def Q32r2 : IC:=cReg Try.prog [xA 15 2 1,xV1 16 10 15,xM 14 16,xE 17 14 0,xE 18 14 1,⟨some 4,none,iAlo 4 [zS,zI]⟩,xS 2 4 17,xT 5 18] [3,4] [4]
def Q32r3_0 : IC:=cReg Try.prog [xM 19 3,xC 20 .eql 19 0,xM 21 20,xG 21 true (xA 22 2 4),xG 21 true (xV1 23 11 22),xQ 24 21 23,xM 25 24,xG 25 true (xF 26 0 4),xG 25 true (xL 27 1 26),xG 25 true (xN 28 27)] [4,25,28] [4]
def Q32r3_1 : IC:=cReg Try.prog [xG 25 true (xC 29 .eql 28 2),xQ 30 25 29,xM 31 30,xG 31 true (xF 32 0 4),xG 31 true (xL 33 1 32),⟨some 34,some (31,true),iIaS 34 17 (.tmp 33) (.const (.int .i64 1))⟩,xG 31 true (xF 35 7 34),xG 31 true (xF 36 6 35),xG 31 true (xL 37 1 36),xG 31 true (xN 38 37),xG 31 true (xC 39 .eql 38 1),xQ 40 31 39,xT 0 40] [0] []
def Q32r3 : IC:=(cSeq Q32r3_0 Q32r3_1)
def lktop_alive : IC:=(cSeq Q32r0 (cSeq Q32r1 (cSeq Q32r2 (cSeq Q32r3 cRet))))
theorem told_lktop_alive {args r : List D} (hl : args.length = 0) (h : lktop_alive (start args) (fin [(0,none)] r)) : Told Try.prog 7 args r :=
 told_of follows Try.func7 rfl (an:=[([],[],[],[]),([],[1,3],[1],[]),([],[3,4],[4],[]),([(10,[4,25,28],[4])],[0],[],[])]) (by kernel_rfl) (by kernel_rfl) (by rw [hl]; decide +kernel) h
open mth
def CTParse (f : Nat) : Prop:=∀ (S : ByteArray) (xs : List UInt8),S.data.toList = xs → S.size ≤ 100 → parseE xs = 0 → Told Try.prog f [vD (.string S)] [aD (encMs (parseM xs)),vI 0]
theorem tput_told (hT : CTParse 22) (t : Int) (S : ByteArray) (xs : List UInt8) (h1 : S.data.toList = xs) (h2 : S.size ≤ 100) (h3 : parseE xs = 0) : Told Try.prog 13 [vI t,vD (.string S)] [aD (encSp (putSp t (parseM xs)))]:=by
 refine told_lktop_put rfl ?_
 have hq:=hT S xs h1 h2 h3
 generalize parseM xs = m at *
 simp only [encSp,putSp,encMs] at hq ⊢
 refine wk0 ?_
 refine cg [[aD (encMs m),vI 0]] @encMs.eq_1 ?_ ?_
 ·exact obl_cons hq obl_nil
 refine wk0 ?_
 exact ValsLe.refl _
def msB : Ms:=⟨1,[98]⟩
def atW : Wd:=(runW (newW 2) [putSp 0 msA,putSp 1 msB]).1
theorem at_k : settleK 200 atW = 5:=by decide +kernel
theorem at_still : stillW (roundN 5 atW) = true:=by decide +kernel
theorem at_told : ∃ l,(roundN 5 atW).lanes[1]? = some l ∧ l.r.told.length = 1:=⟨(roundN 5 atW).lanes.getD 1 zeroL,getD_get (by decide +kernel),by decide +kernel⟩
theorem aliveTop_told (hT : CTParse 22) (hP : CFPlay 9) (hS : CFSettle 10) (hK : CKStill 11) : Told Try.prog 7 [] [vB true]:=by
 refine told_lktop_alive rfl ?_
 have g0 : GoodW atW:=by
  have:=(good_run (good_new (by decide : 1 ≤ 2 ∧ 2 ≤ 3)) [putSp 0 msA,putSp 1 msB] 2).1
  exact this
 have a1:=tput_told hT 0 ⟨#[48,58,54,49]⟩ [48,58,54,49] rfl (by decide) (by decide)
 have a2:=tput_told hT 1 ⟨#[49,58,54,50]⟩ [49,58,54,50] rfl (by decide) (by decide)
 rw [show parseM [48,58,54,49] = msA from rfl] at a1
 rw [show parseM [49,58,54,50] = msB from rfl] at a2
 have h1:=hP.2.2 2 [putSp 0 msA,putSp 1 msB] (by decide) (by decide)
 have h2:=hS atW g0 (by decide)
 have g6:=g0.rounds 5
 have h3:=hK (roundN 5 atW) (by have:=g6.n; omega) (fun l hl => good_smallN (g6.l l hl))
 rw [show (runW (newW 2) [putSp 0 msA,putSp 1 msB]).1 = atW from rfl] at h1
 rw [at_k] at h2
 rw [at_still] at h3
 obtain ⟨l,q1,q2⟩:=at_told
 have r1:=at_ll q1
 have n1 : (((roundN 5 atW).lanes.length : Nat) : Int) = 2:=by rw [roundN_len]; rfl
 have z1 : ((l.r.told.length : Nat) : Int) = 1:=by rw [q2]; rfl
 have cn : ((2 : Nat) : Int) = 2:=rfl
 have c6 : ((5 : Nat) : Int) = 5:=rfl
 rw [cn] at h1
 rw [c6] at h2
 generalize (runW (newW 2) [putSp 0 msA,putSp 1 msB]).2 = es at *
 generalize roundN 5 atW = x at *
 generalize atW = w at *
 generalize hs1 : putSp 0 msA = s1 at *
 generalize hs2 : putSp 1 msB = s2 at *
 simp only [encWd,encSl,encSp,encLn,List.map_cons,List.map_nil] at h1 h2 h3 a1 a2 r1
 refine wk0 ?_
 refine cg [[aD (encSp s1)],[aD (encSp s2)],[aD (encWd w),sD 1 (es.map vI),vI 0]] (an2 @encWd.eq_1 @encSp.eq_1) ?_ ?_
 ·exact obl_cons a1 (obl_cons a2 (obl_cons h1 obl_nil))
 refine wk0 ?_
 refine cg [[aD (encWd x),vI 5]] @encWd.eq_1 ?_ ?_
 ·exact obl_cons h2 obl_nil
 refine wk (an6 @n1 @r1 @z1 @len_ll @len_ml @Int.toNat_one) ?_
 refine cg [[vB true]] (an6 @n1 @r1 @z1 @len_ll @len_ml @Int.toNat_one) ?_ ?_
 ·exact obl_cons h3 obl_nil
 refine wk (an6 @n1 @r1 @z1 @len_ll @len_ml @Int.toNat_one) ?_
 exact ValsLe.refl _
set_option maxRecDepth 100000
def Q33r0 : IC:=cReg Try.prog [⟨some 2,none,iMov 2 (.const (.bool false)) true⟩] [0] []
def Q33r1 : IC:=cReg Try.prog [xM 5 0,xN 6 5,⟨some 7,none,iMov 7 (.const (.int .i64 0)) false⟩] [0,5,6,7] []
def Q33r2 : IC:=cReg Try.prog [xB 8 .lss 7 6] [0,5,6,7,8] []
def Q33c3 : IC:=cCond (.tmp 8) cSkip (cExit 0)
def Q33r3 : IC:=cReg Try.prog [xI 9 7 5 7,xA 10 7 9,⟨some 4,none,iAlo 4 [zI,zI,zI,zI,zF,zI,zS]⟩,xS 7 4 10] [0,4,5,6,7] [4]
def Q33r4 : IC:=cReg Try.prog [xF 11 0 4,xL 12 1 11,xC 13 .eql 12 2,xM 14 13,xG 14 false (xF 15 0 4),xG 14 false (xL 16 1 15),xG 14 false (xC 17 .eql 16 6),xP 18 14 17] [0,5,6,7,18] []
def Q33r5 : IC:=cReg Try.prog [⟨some 2,none,iMov 2 (.const (.bool false)) true⟩] [2] []
def Q33c5a : IC:=(cSeq Q33r5 cRet)
def Q33c5 : IC:=cCond (.tmp 18) Q33c5a cSkip
def Q33b4 : IC:=cBlock 1 (cSeq Q33r3 (cSeq Q33r4 Q33c5))
def Q33r6 : IC:=cReg Try.prog [xC 19 .add 7 1,xM 7 19] [0,5,6,7] []
def Q33l2a : IC:=(cSeq Q33r2 (cSeq Q33c3 (cSeq Q33b4 Q33r6)))
def Q33l2 : IC:=cLoop Q33l2a
def Q33b1 : IC:=cBlock 0 Q33l2
def Q33r7 : IC:=cReg Try.prog [xM 20 0,xN 21 20,xC 22 .leq 21 100,xT 2 22] [2] []
def lktop_calm : IC:=(cSeq Q33r0 (cSeq (cSeq Q33r1 Q33b1) (cSeq Q33r7 cRet)))
theorem told_lktop_calm {args r : List D} (hl : args.length = 1) (h : lktop_calm (start args) (fin [(2,none)] r)) : Told Try.prog 8 args r :=
 told_of follows Try.func8 rfl (an:=[([],[0],[],[]),([],[0,5,6,7],[],[]),([],[0,5,6,7,8],[],[]),([],[0,4,5,6,7],[4],[]),([],[0,5,6,7,18],[],[]),([],[2],[],[]),([],[0,5,6,7],[],[]),([],[2],[],[])]) (by kernel_rfl) (by kernel_rfl) (by rw [hl]; decide +kernel) h
def Q31r0 : IC:=cReg Try.prog [⟨some 4,none,iMov 4 (.const (.bool false)) true⟩] [0,1] []
def Q31r1 : IC:=cReg Try.prog [⟨some 18,none,iCall 18 7 []⟩,xO 19 18] [0,1,19] []
def Q31r2 : IC:=cReg Try.prog [⟨some 4,none,iMov 4 (.const (.bool false)) true⟩] [4] []
def Q31c1a : IC:=(cSeq Q31r2 cRet)
def Q31c1 : IC:=cCond (.tmp 19) Q31c1a cSkip
def Q31r3 : IC:=cReg Try.prog [xM 20 0,xC 21 .lss 20 0,xM 22 21,xG 22 false (xM 23 0),xG 22 false (xC 24 .gtr 23 40),xP 25 22 24,xM 26 25,xG 26 false (xM 27 1),xG 26 false (xV1 28 8 27),xG 26 false (xO 29 28),xP 30 26 29] [0,1,30] []
def Q31r4 : IC:=cReg Try.prog [⟨some 4,none,iMov 4 (.const (.bool true)) true⟩] [4] []
def Q31c2a : IC:=(cSeq Q31r4 cRet)
def Q31c2 : IC:=cCond (.tmp 30) Q31c2a cSkip
def Q31r5 : IC:=cReg Try.prog [⟨some 31,none,iCall 31 13 [(.const (.int .i64 0)),(.const (.string ⟨#[48,58,54,49]⟩))]⟩,⟨some 32,none,iCall 32 13 [(.const (.int .i64 0)),(.const (.string ⟨#[49,58,54,50]⟩))]⟩,⟨some 33,none,iCall 33 13 [(.const (.int .i64 0)),(.const (.string ⟨#[48,58,54,51]⟩))]⟩,⟨some 34,none,iRow 34 30 7 [(.tmp 31),(.tmp 32),(.tmp 33)]⟩,xT 5 34] [0,1,5] []
def Q31r6 : IC:=cReg Try.prog [⟨some 35,none,iRow 35 30 7 []⟩,xM 36 5,xW 37 30 7 72 35 36,xT 6 37] [0,1,5,6] []
def Q31r7 : IC:=cReg Try.prog [xM 38 0,⟨some 39,none,iMov 39 (.const (.int .i64 0)) false⟩] [1,5,6,38,39] []
def Q31r8 : IC:=cReg Try.prog [xB 40 .lss 39 38] [1,5,6,38,39,40] []
def Q31c5 : IC:=cCond (.tmp 40) cSkip (cExit 0)
def Q31r9 : IC:=cReg Try.prog [xT 41 6,⟨some 42,none,iCall 42 13 [(.const (.int .i64 1)),(.const (.string ⟨#[50,58,102,102,102,102,102,102,102,102,102,102,102,102]⟩))]⟩,xR 43 30 7 42,xW 44 30 7 72 41 43,xT 6 44] [1,5,6,38,39] []
def Q31b6 : IC:=cBlock 1 Q31r9
def Q31r10 : IC:=cReg Try.prog [xC 45 .add 39 1,xM 39 45] [1,5,6,38,39] []
def Q31l4a : IC:=(cSeq Q31r8 (cSeq Q31c5 (cSeq Q31b6 Q31r10)))
def Q31l4 : IC:=cLoop Q31l4a
def Q31b3 : IC:=cBlock 0 Q31l4
def Q31r11 : IC:=cReg Try.prog [xM 46 1,⟨some 47,none,iCall 47 14 [(.tmp 46),(.const (.int .i64 0))]⟩,xT 7 47] [1,5,6,7] []
def Q31r12 : IC:=cReg Try.prog [xT 49 6,xM 50 1,xW 51 30 7 72 49 50,⟨some 52,none,iCall 52 9 [(.const (.int .i64 2)),(.tmp 51)]⟩,xM 48 52,xE 53 48 0,xE 54 48 1,xE 55 48 2,⟨some 8,none,iAlo 8 [zS,zI]⟩,xS 2 8 53,xT 9 54,xT 10 55] [5,7,8,10] [8]
def Q31r13 : IC:=cReg Try.prog [xT 57 5,xM 58 7,xW 59 30 7 72 57 58,⟨some 60,none,iCall 60 9 [(.const (.int .i64 2)),(.tmp 59)]⟩,xM 56 60,xE 61 56 0,xE 62 56 1,xE 63 56 2,⟨some 11,none,iAlo 11 [zS,zI]⟩,xS 2 11 61,xT 12 62,xT 13 63] [8,10,11,13] [8,11]
def Q31r14 : IC:=cReg Try.prog [xM 64 10,xC 65 .neq 64 0,xM 66 65,xG 66 false (xM 67 13),xG 66 false (xC 68 .neq 67 0),xP 69 66 68] [8,11,69] [8,11]
def Q31r15 : IC:=cReg Try.prog [⟨some 4,none,iMov 4 (.const (.bool false)) true⟩] [4] []
def Q31c7a : IC:=(cSeq Q31r15 cRet)
def Q31c7 : IC:=cCond (.tmp 69) Q31c7a cSkip
def Q31r16 : IC:=cReg Try.prog [⟨some 70,none,iMov 70 (.const (.int .i64 0)) false⟩] [8,11,70] [8,11]
def Q31r17 : IC:=cReg Try.prog [xC 71 .lss 70 30] [8,11,70,71] [8,11]
def Q31c10 : IC:=cCond (.tmp 71) cSkip (cExit 2)
def Q31r18 : IC:=cReg Try.prog [xA 73 2 8,⟨some 74,none,iCall 74 15 [(.tmp 73),(.const (.int .i64 0))]⟩,xM 72 74,xE 75 72 0,xE 76 72 1,⟨some 14,none,iAlo 14 [zS,zI,zI,zI,zI,zS,zI,zI,zS,zI,zI,zI,zS,zS,zF,zS,zS]⟩,xS 17 14 75,xT 15 76] [8,11,14,15,70] [8,11,14]
def Q31r19 : IC:=cReg Try.prog [xA 78 2 11,⟨some 79,none,iCall 79 15 [(.tmp 78),(.const (.int .i64 0))]⟩,xM 77 79,xE 80 77 0,xE 81 77 1,⟨some 16,none,iAlo 16 [zS,zI,zI,zI,zI,zS,zI,zI,zS,zI,zI,zI,zS,zS,zF,zS,zS]⟩,xS 17 16 80,xT 17 81] [8,11,14,15,16,17,70] [8,11,14,16]
def Q31r20_0 : IC:=cReg Try.prog [xM 82 15,xO 83 82,xM 84 83,xG 84 false (xM 85 17),xG 84 false (xO 86 85),xP 87 84 86,xM 88 87,xG 88 false (xF 89 7 14),xG 88 false (xF 90 6 89),xG 88 false (xL 91 1 90)] [8,11,14,16,70,88,91] [8,11,14,16]
def Q31r20_1 : IC:=cReg Try.prog [xG 88 false (xN 92 91),xG 88 false (xF 93 7 16),xG 88 false (xF 94 6 93),xG 88 false (xL 95 1 94),xG 88 false (xN 96 95),xG 88 false (xB 97 .neq 92 96),xP 98 88 97,xM 99 98,xG 99 false (xF 100 15 14),xG 99 false (xL 101 1 100)] [8,11,14,16,70,99,101] [8,11,14,16]
def Q31r20_2 : IC:=cReg Try.prog [xG 99 false (xN 102 101),xG 99 false (xF 103 15 16),xG 99 false (xL 104 1 103),xG 99 false (xN 105 104),xG 99 false (xB 106 .neq 102 105),xP 107 99 106,xM 108 107,xG 108 false (xF 109 16 14),xG 108 false (xL 110 1 109),xG 108 false (xN 111 110)] [8,11,14,16,70,108,111] [8,11,14,16]
def Q31r20_3 : IC:=cReg Try.prog [xG 108 false (xF 112 16 16),xG 108 false (xL 113 1 112),xG 108 false (xN 114 113),xG 108 false (xB 115 .neq 111 114),xP 116 108 115,xM 117 116,xG 117 false (xF 118 7 14),xG 117 false (xF 119 6 118),xG 117 false (xL 120 1 119),xG 117 false (xF 121 7 16)] [8,11,70,117,120,121] [8,11,16]
def Q31r20_4 : IC:=cReg Try.prog [xG 117 false (xF 122 6 121),xG 117 false (xL 123 1 122),xG 117 false (xV2 124 16 120 123),xG 117 false (xO 125 124),xP 126 117 125] [8,11,70,126] [8,11]
def Q31r20 : IC:=(cSeq Q31r20_0 (cSeq Q31r20_1 (cSeq Q31r20_2 (cSeq Q31r20_3 Q31r20_4))))
def Q31r21 : IC:=cReg Try.prog [⟨some 4,none,iMov 4 (.const (.bool false)) true⟩] [4] []
def Q31c12a : IC:=(cSeq Q31r21 cRet)
def Q31c12 : IC:=cCond (.tmp 126) Q31c12a cSkip
def Q31r22 : IC:=cRegD Try.prog [xA 127 2 8,xV1 128 17 127,xA 129 2 11,xV1 130 17 129,xS 2 8 128,xS 2 11 130] [[],[0],[],[2,1,0],[1,3,0,2],[3,4,0,1,2]] [8,11,70] [8,11]
def Q31b11 : IC:=cBlock 3 (cSeq Q31r18 (cSeq Q31r19 (cSeq (cSeq Q31r20 Q31c12) Q31r22)))
def Q31r23 : IC:=cReg Try.prog [xC 131 .add 70 1,xM 70 131] [8,11,70] [8,11]
def Q31l9a : IC:=(cSeq Q31r17 (cSeq Q31c10 (cSeq Q31b11 Q31r23)))
def Q31l9 : IC:=cLoop Q31l9a
def Q31b8 : IC:=cBlock 2 Q31l9
def Q31r24 : IC:=cReg Try.prog [⟨some 4,none,iMov 4 (.const (.bool true)) true⟩] [4] []
def lktop_TopFlood : IC:=(cSeq Q31r0 (cSeq (cSeq Q31r1 Q31c1) (cSeq (cSeq Q31r3 Q31c2) (cSeq Q31r5 (cSeq Q31r6 (cSeq (cSeq Q31r7 Q31b3) (cSeq Q31r11 (cSeq Q31r12 (cSeq Q31r13 (cSeq (cSeq Q31r14 Q31c7) (cSeq (cSeq Q31r16 Q31b8) (cSeq Q31r24 cRet))))))))))))
theorem told_lktop_TopFlood {args r : List D} (hl : args.length = 2) (h : lktop_TopFlood (start args) (fin [(4,none)] r)) : Told Try.prog 4 args r :=
 told_of follows Try.func4 rfl (an:=[([],[0,1],[],[]),([],[0,1,19],[],[]),([],[4],[],[]),([],[0,1,30],[],[]),([],[4],[],[]),([],[0,1,5],[],[]),([],[0,1,5,6],[],[]),([],[1,5,6,38,39],[],[]),([],[1,5,6,38,39,40],[],[]),([],[1,5,6,38,39],[],[]),([],[1,5,6,38,39],[],[]),([],[1,5,6,7],[],[]),([],[5,7,8,10],[8],[]),([],[8,10,11,13],[8,11],[]),([],[8,11,69],[8,11],[]),([],[4],[],[]),([],[8,11,70],[8,11],[]),([],[8,11,70,71],[8,11],[]),([],[8,11,14,15,70],[8,11,14],[]),([],[8,11,14,15,16,17,70],[8,11,14,16],[]),([(10,[8,11,14,16,70,88,91],[8,11,14,16]),(10,[8,11,14,16,70,99,101],[8,11,14,16]),(10,[8,11,14,16,70,108,111],[8,11,14,16]),(10,[8,11,70,117,120,121],[8,11,16])],[8,11,70,126],[8,11],[]),([],[4],[],[]),([],[8,11,70],[8,11],[]),([],[8,11,70],[8,11],[]),([],[4],[],[])]) (by kernel_rfl) (by kernel_rfl) (by rw [hl]; decide +kernel) h
end Go.Proofs.Ytgaofjiidedcbad.ab
