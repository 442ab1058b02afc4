import Derived.Test.YtgaofjiidedcbacGreatM20
import Derived.Test.YtgaofjiidedcbacGreatProg
set_option linter.unusedVariables false
set_option linter.unusedSimpArgs false
namespace Go.Proofs.YtgaofjiidedcbacGreat.ab
set_option maxRecDepth 100000
open Go Go.RowKit
def Q81r0 : IC:=cReg Tryz.prog [xX 2 0,xX 3 1,⟨some 4,none,iMov 4 (.const (.int .i64 0)) true⟩] [2,3] [2,3]
def Q81r1 : IC:=cReg Tryz.prog [xA 6 2 3,xV1 7 96 6,xT 5 7] [2,5] [2]
def Q81r2 : IC:=cReg Tryz.prog [xM 8 5,xC 9 .neq 8 0] [2,5,9] [2]
def Q81r3 : IC:=cReg Tryz.prog [xM 10 5,xT 4 10] [4] []
def Q81c1a : IC:=(cSeq Q81r3 cRet)
def Q81c1 : IC:=cCond (.tmp 9) Q81c1a cSkip
def Q81r4 : IC:=cReg Tryz.prog [xF 12 0 2,xL 13 1 12,xN 14 13,xC 15 .geq 14 6,xT 11 15] [2,11] [2]
def Q81r5 : IC:=cReg Tryz.prog [⟨some 4,none,iMov 4 (.const (.int .i64 9)) true⟩] [4] []
def Q81r6 : IC:=cReg Tryz.prog [xF 17 1 2,xL 18 1 17,xF 19 0 2,xL 20 1 19,xN 21 20,xB 22 .add 18 21,xC 23 .geq 22 40,xT 16 23] [16] []
def Q81r7 : IC:=cReg Tryz.prog [⟨some 4,none,iMov 4 (.const (.int .i64 4)) true⟩] [4] []
def Q81c4a : IC:=(cSeq Q81r7 cRet)
def Q81c4 : IC:=cCond (.tmp 16) Q81c4a cSkip
def Q81c3a : IC:=(cSeq Q81r5 cRet)
def Q81c3b : IC:=(cSeq Q81r6 Q81c4)
def Q81c3 : IC:=cCond (.tmp 11) Q81c3a Q81c3b
def Q81b2 : IC:=cBlock 0 (cSeq Q81r4 Q81c3)
def Q81r8 : IC:=cReg Tryz.prog [⟨some 4,none,iMov 4 (.const (.int .i64 0)) true⟩] [4] []
def z2k : IC:=(cSeq Q81r0 (cSeq (cSeq Q81r1 (cSeq Q81r2 Q81c1)) (cSeq Q81b2 (cSeq Q81r8 cRet))))
theorem zbf {args r : List D} (hl : args.length = 2) (h : z2k (start args) (fin [(4,none)] r)) : Told Tryz.prog 74 args r :=
 ze follows Tryz.func74 rfl (an:=[([],[2,3],[2,3],[]),([],[2,5],[2],[]),([],[2,5,9],[2],[]),([],[4],[],[]),([],[2,11],[2],[]),([],[4],[],[]),([],[16],[],[]),([],[4],[],[]),([],[4],[],[])]) (by kernel_rfl) (by kernel_rfl) (by rw [hl]; decide +kernel) h
def Q75r0 : IC:=cReg Tryz.prog [xX 2 0,xX 3 1,⟨some 4,none,iAlo 4 [zS,zI,zI,zI,zI,zS,zI]⟩,⟨some 5,none,iMov 5 (.const (.int .i64 0)) true⟩] [2,3,4] [2,3,4]
def zd1 : IC:=cOwn Tryz.prog 2 7 8 59 7
def zl2 : IC:=cReg Tryz.prog [] [2,3,4] [2,3,4]
def Q75r1 : IC:=(cSeq zd1 zl2)
def Q75r2 : IC:=cReg Tryz.prog [xA 9 7 2,xA 10 2 3,xV2 11 74 9 10,xT 6 11] [2,3,4,6] [2,3,4]
def Q75r3 : IC:=cReg Tryz.prog [xM 12 6,xC 13 .neq 12 0] [2,3,4,6,13] [2,3,4]
def Q75r4 : IC:=cReg Tryz.prog [xA 14 7 2,xM 15 6,xS 7 4 14,xT 5 15] [4,5] [4]
def Q75c1a : IC:=(cSeq Q75r4 cRet)
def Q75c1 : IC:=cCond (.tmp 13) Q75c1a cSkip
def Q75r5 : IC:=cRegD Tryz.prog [xF 16 0 2,xU 17 1 16,xA 18 2 3,xV1 19 75 18,xR 20 43 2 19,xW 21 43 2 32 17 20,xF 22 0 2,xS 1 22 21] [[],[0],[],[2],[3,2],[1,4,3,0,2],[0,1,2,3,4,5],[6,5,0,1,2,3,4]] [2,4] [2,4]
def Q75r6 : IC:=cReg Tryz.prog [xA 23 7 2,xS 7 4 23,⟨some 5,none,iMov 5 (.const (.int .i64 0)) true⟩] [4,5] [4]
def zuy : IC:=(cSeq Q75r0 (cSeq Q75r1 (cSeq (cSeq Q75r2 (cSeq Q75r3 Q75c1)) (cSeq Q75r5 (cSeq Q75r6 cRet)))))
theorem zok {args r : List D} (hl : args.length = 2) (h : zuy (start args) (fin [(4,some (7,true)),(5,none)] r)) : Told Tryz.prog 44 args r :=
 ze follows Tryz.func44 rfl (an:=[([],[2,3,4],[2,3,4],[]),([(1003,[],[])],[2,3,4],[2,3,4],[]),([],[2,3,4,6],[2,3,4],[]),([],[2,3,4,6,13],[2,3,4],[]),([],[4,5],[4],[]),([],[2,4],[2,4],[]),([],[4,5],[4],[])]) (by kernel_rfl) (by kernel_rfl) (by rw [hl]; decide +kernel) h
def Q80r0 : IC:=cReg Tryz.prog [⟨some 2,none,iAlo 2 [zS,zI,zI,zI,zI,zS,zI]⟩,⟨some 3,none,iAlo 3 [zI,zI,zI,zI,zS,zS]⟩] [1,2,3] [1,2,3]
def Q80r1 : IC:=cReg Tryz.prog [xF 6 0 1,xL 7 1 6,⟨some 8,none,iIaS 8 2 (.tmp 7) (.const (.int .i64 0))⟩,xA 9 2 8,⟨some 4,none,iAlo 4 [zI,zS]⟩,xS 2 4 9] [1,2,3,4] [1,2,3,4]
def Q80r2 : IC:=cReg Tryz.prog [xF 10 0 1,xL 11 1 10,⟨some 12,none,iSlc 12 2 (.tmp 11) (some (.const (.int .i64 1))) none⟩,xF 13 0 1,xS 1 13 12] [1,2,3,4] [1,2,3,4]
def Q80r3 : IC:=cRegD Tryz.prog [xF 14 1 1,xL 15 1 14,xF 16 0 4,xL 17 1 16,xF 18 0 4,xL 19 1 18,xF 20 2 1,⟨some 21,none,iIaA 21 3 1 (.tmp 20) (.tmp 19)⟩,xL 22 1 21,xF 23 1 4,xL 24 1 23,⟨some 25,none,iBld 25 [zI,zI,zI,zI,zS,zS] [(0,1),(1,1),(2,1),(3,1),(4,1)] [(.const (.int .i64 1)),(.tmp 15),(.tmp 17),(.tmp 22),(.tmp 24)]⟩,⟨some 5,none,iAlo 5 [zI,zI,zI,zI,zS,zS]⟩,xS 6 5 25] [[],[0],[],[2],[],[4],[],[6,5,4],[7,6,5,4],[],[9],[1,3,8,10,0,2,7,6,5,4,9],[],[12,11,0,1,2,3,4,5,6,7,8,9,10]] [1,2,3,4,5] [1,2,3,4,5]
def Q80r4 : IC:=cReg Tryz.prog [xF 26 1 1,xL 27 1 26,xC 28 .add 27 1,xF 29 1 1,xS 1 29 28] [1,2,3,4,5] [1,2,3,4,5]
def Q80r5 : IC:=cReg Tryz.prog [xF 30 0 4,xL 31 1 30,xF 32 2 1,⟨some 33,none,iIaA 33 3 1 (.tmp 32) (.tmp 31)⟩,xL 34 1 33,xC 35 .add 34 1,xF 36 2 1,⟨some 37,none,iIaA 37 3 1 (.tmp 36) (.tmp 31)⟩,xS 1 37 35] [1,2,3,5] [1,2,3,5]
def Q80r6 : IC:=cReg Tryz.prog [xF 38 5 1,xU 39 1 38,xA 40 6 5,xR 41 85 6 40,xW 42 85 6 80 39 41,xF 43 5 1,xS 1 43 42] [1,2,3,5] [1,2,3,5]
def Q80r7 : IC:=cRegD Tryz.prog [xA 44 7 1,xA 45 6 5,xS 7 2 44,xS 6 3 45] [[],[],[0],[1,2,0]] [2,3] [2,3]
def z7n : IC:=cSeq Q80r0 (cSeq Q80r1 (cSeq Q80r2 (cSeq Q80r3 (cSeq Q80r4 (cSeq Q80r5 (cSeq Q80r6 (cSeq Q80r7 cRet)))))))
theorem zwf {cs r : List D} {off e : Nat} {z : Pay} (h : z7n ⟨[(1,pD 1 0),(0,aD cs)],[(1,cs)],[((1,some off),(e,z))]⟩ (fin [(2,some (7,true)),(3,some (6,true))] r)) : ToldI Tryz.prog 93 [aD cs] 0 (some off) e z r :=
 zal follows Tryz.func93 rfl rfl rfl rfl rfl (by decide +kernel) (rw:=[]) (cuts:=[]) (lv:=[1,2,3]) (lb:=[1,2,3]) (an:=[([],[1,2,3,4],[1,2,3,4],[]),([],[1,2,3,4],[1,2,3,4],[]),([],[1,2,3,4,5],[1,2,3,4,5],[]),([],[1,2,3,4,5],[1,2,3,4,5],[]),([],[1,2,3,5],[1,2,3,5],[]),([],[1,2,3,5],[1,2,3,5],[]),([],[2,3],[2,3],[])]) (by kernel_rfl) (by kernel_rfl) (by kernel_rfl) (by decide +kernel) (by rw [fin_eq]; exact h)
def Q79r0 : IC:=cReg Tryz.prog [xX 1 0,⟨some 2,none,iAlo 2 [zS,zI,zI,zI,zI,zS,zI]⟩,⟨some 3,none,iAlo 3 [zI,zI,zI,zI,zS,zS]⟩] [1,2,3] [1,2,3]
def Q79r1 : IC:=cReg Tryz.prog [xF 5 6 1,xL 6 1 5,xF 7 5 1,xL 8 1 7,xN 9 8,xB 10 .rem 6 9,xT 4 10] [1,2,3,4] [1,2,3]
def Q79r2 : IC:=cReg Tryz.prog [xM 11 4,xC 12 .add 11 1,xF 13 6 1,xS 1 13 12] [1,2,3,4] [1,2,3]
def Q79r3 : IC:=cRegD Tryz.prog [xA 14 7 1,xF 15 5 1,xL 16 1 15,xM 17 4,xI 18 6 16 17,xA 19 6 18,xS 7 2 14,xS 6 3 19] [[],[],[1],[],[2,3,1],[4,2,3,1],[0],[5,6,0,1,2,3,4]] [2,3] [2,3]
def z5j : IC:=(cSeq Q79r0 (cSeq Q79r1 (cSeq Q79r2 (cSeq Q79r3 cRet))))
theorem z3e {args r : List D} (hl : args.length = 1) (h : z5j (start args) (fin [(2,some (7,true)),(3,some (6,true))] r)) : Told Tryz.prog 94 args r :=
 ze follows Tryz.func94 rfl (an:=[([],[1,2,3],[1,2,3],[]),([],[1,2,3,4],[1,2,3],[]),([],[1,2,3,4],[1,2,3],[]),([],[2,3],[2,3],[])]) (by kernel_rfl) (by kernel_rfl) (by rw [hl]; decide +kernel) h
def Q76r0 : IC:=cReg Tryz.prog [xX 1 0,⟨some 2,none,iAlo 2 [zS,zI,zI,zI,zI,zS,zI]⟩,⟨some 3,none,iAlo 3 [zI,zI,zI,zI,zS,zS]⟩,⟨some 4,none,iMov 4 (.const (.bool false)) true⟩] [1,2,3] [1,2,3]
def zv3 : IC:=cOwn Tryz.prog 1 6 7 59 7
def zi1 : IC:=cReg Tryz.prog [] [1,2,3] [1,2,3]
def Q76r1 : IC:=(cSeq zv3 zi1)
def Q76r2 : IC:=cReg Tryz.prog [⟨some 5,none,iAlo 5 [zI,zI,zI,zI,zS,zS]⟩] [1,2,3,5] [1,2,3,5]
def Q76r4 : IC:=cReg Tryz.prog [xF 11 0 1,xL 12 1 11,xN 13 12,xC 14 .gtr 13 0,xM 15 14,xG 15 true (xF 16 5 1),xG 15 true (xL 17 1 16),xG 15 true (xN 18 17),xG 15 true (xC 19 .lss 18 4),xQ 20 15 19,xT 10 20] [1,2,3,5,10] [1,2,3,5]
def zf5 : IC:=cInn Tryz.prog 1 22 23 93 7
def z34 : IC:=cReg Tryz.prog [xM 21 23,xE 24 21 0,xE 25 21 1,xS 7 1 24,xS 6 5 25] [1,2,3,5] [1,2,3,5]
def Q76r5 : IC:=(cSeq zf5 z34)
def Q76r6 : IC:=cReg Tryz.prog [xF 27 5 1,xL 28 1 27,xN 29 28,xC 30 .gtr 29 0,xT 26 30] [1,2,3,5,26] [1,2,3,5]
def Q76r7 : IC:=cReg Tryz.prog [xA 32 7 1,xV1 33 94 32,xM 31 33,xE 34 31 0,xE 35 31 1,xS 7 1 34,xS 6 5 35] [1,2,3,5] [1,2,3,5]
def Q76r3 : IC:=cReg Tryz.prog [xA 8 7 1,⟨some 9,none,iBld 9 [zI,zI,zI,zI,zS,zS] [] []⟩,xS 7 2 8,xS 6 3 9,⟨some 4,none,iMov 4 (.const (.bool false)) true⟩] [2,3,4] [2,3]
def Q76c3b : IC:=(cSeq Q76r3 cRet)
def Q76c3 : IC:=cCond (.tmp 26) Q76r7 Q76c3b
def Q76c2b : IC:=(cSeq Q76r6 Q76c3)
def Q76c2 : IC:=cCond (.tmp 10) Q76r5 Q76c2b
def Q76b1 : IC:=cBlock 0 (cSeq Q76r4 Q76c2)
def Q76r8 : IC:=cRegD Tryz.prog [xA 36 7 1,xA 37 6 5,xV1 38 83 37,xS 7 2 36,xS 6 3 38,⟨some 4,none,iMov 4 (.const (.bool true)) true⟩] [[],[],[1],[0,2,1],[2,3,0,1],[4,0,1,2,3]] [2,3,4] [2,3]
def zzz : IC:=(cSeq Q76r0 (cSeq Q76r1 (cSeq Q76r2 (cSeq Q76b1 (cSeq Q76r8 cRet)))))
theorem z8j {args r : List D} (hl : args.length = 1) (h : zzz (start args) (fin [(2,some (7,true)),(3,some (6,true)),(4,none)] r)) : Told Tryz.prog 70 args r :=
 ze follows Tryz.func70 rfl (an:=[([],[1,2,3],[1,2,3],[]),([(1003,[],[])],[1,2,3],[1,2,3],[]),([],[1,2,3,5],[1,2,3,5],[]),([],[1,2,3,5,10],[1,2,3,5],[]),([(3002,[],[])],[1,2,3,5],[1,2,3,5],[]),([],[1,2,3,5,26],[1,2,3,5],[]),([],[1,2,3,5],[1,2,3,5],[]),([],[2,3,4],[2,3],[]),([],[2,3,4],[2,3],[])]) (by kernel_rfl) (by kernel_rfl) (by rw [hl]; decide +kernel) h
def Q84r0 : IC:=cReg Tryz.prog [⟨some 4,none,iMov 4 (.const (.int .i64 0)) true⟩] [0,1] []
def Q84r1 : IC:=cReg Tryz.prog [xM 6 0,xN 7 6,⟨some 8,none,iMov 8 (.const (.int .i64 0)) false⟩] [0,1,7,8] []
def Q84r2 : IC:=cReg Tryz.prog [xB 9 .lss 8 7] [0,1,7,8,9] []
def Q84c3 : IC:=cCond (.tmp 9) cSkip (cExit 0)
def Q84r3 : IC:=cReg Tryz.prog [xM 10 8,xT 5 10] [0,1,5,7,8] []
def Q84r4 : IC:=cReg Tryz.prog [xM 11 1,xM 12 0,xM 13 5,xI 14 1 12 13,xL 15 1 14,xB 16 .eql 11 15] [0,1,5,7,8,16] []
def Q84r5 : IC:=cReg Tryz.prog [xM 17 5,xT 4 17] [4] []
def Q84c5a : IC:=(cSeq Q84r5 cRet)
def Q84c5 : IC:=cCond (.tmp 16) Q84c5a cSkip
def Q84b4 : IC:=cBlock 1 (cSeq Q84r3 (cSeq Q84r4 Q84c5))
def Q84r6 : IC:=cReg Tryz.prog [xC 18 .add 8 1,xM 8 18] [0,1,7,8] []
def Q84l2a : IC:=(cSeq Q84r2 (cSeq Q84c3 (cSeq Q84b4 Q84r6)))
def Q84l2 : IC:=cLoop Q84l2a
def Q84b1 : IC:=cBlock 0 Q84l2
def Q84r7 : IC:=cReg Tryz.prog [⟨some 4,none,iMov 4 (.const (.int .i64 (-1))) true⟩] [4] []
def zym : IC:=(cSeq Q84r0 (cSeq (cSeq Q84r1 Q84b1) (cSeq Q84r7 cRet)))
theorem zuf {args r : List D} (hl : args.length = 2) (h : zym (start args) (fin [(4,none)] r)) : Told Tryz.prog 109 args r :=
 ze follows Tryz.func109 rfl (an:=[([],[0,1],[],[]),([],[0,1,7,8],[],[]),([],[0,1,7,8,9],[],[]),([],[0,1,5,7,8],[],[]),([],[0,1,5,7,8,16],[],[]),([],[4],[],[]),([],[0,1,7,8],[],[]),([],[4],[],[])]) (by kernel_rfl) (by kernel_rfl) (by rw [hl]; decide +kernel) h
def Q82r0 : IC:=cReg Tryz.prog [⟨some 4,none,iMov 4 (.const (.bool false)) true⟩] [0,1] []
def Q82r1 : IC:=cReg Tryz.prog [xM 5 0,xM 6 1,xV2 7 109 5 6,xC 8 .geq 7 0,xT 4 8] [4] []
def zwh : IC:=(cSeq Q82r0 (cSeq Q82r1 cRet))
theorem z3d {args r : List D} (hl : args.length = 2) (h : zwh (start args) (fin [(4,none)] r)) : Told Tryz.prog 103 args r :=
 ze follows Tryz.func103 rfl (an:=[([],[0,1],[],[]),([],[4],[],[])]) (by kernel_rfl) (by kernel_rfl) (by rw [hl]; decide +kernel) h
def Q78r0 : IC:=cReg Tryz.prog [xX 2 0,⟨some 3,none,iMov 3 (.const (.bool false)) true⟩] [1,2] [2]
def zh2 : IC:=cReg Tryz.prog [xF 4 0 1,xL 5 1 4,xC 6 .eql 5 2,xM 7 6,xG 7 true (xF 8 1 2),xG 7 true (xL 9 1 8),xG 7 true (xF 10 1 1),xG 7 true (xL 11 1 10),xG 7 true (xB 12 .lss 9 11),xG 7 true (xM 13 12)] [1,2,7,13] [2]
def zi5 : IC:=cReg Tryz.prog [xG 13 false (xF 14 5 1),xG 13 false (xL 15 1 14),xG 13 false (xF 16 1 2),xG 13 false (xL 17 1 16),xG 13 false (xV2 18 103 15 17),xG 7 true (xP 19 13 18),xQ 20 7 19,xT 3 20] [3] []
def Q78r1 : IC:=(cSeq zh2 zi5)
def z6k : IC:=(cSeq Q78r0 (cSeq Q78r1 cRet))
theorem z6e {args r : List D} (hl : args.length = 2) (h : z6k (start args) (fin [(3,none)] r)) : Told Tryz.prog 102 args r :=
 ze follows Tryz.func102 rfl (an:=[([],[1,2],[2],[]),([(10,[1,2,7,13],[2])],[3],[],[])]) (by kernel_rfl) (by kernel_rfl) (by rw [hl]; decide +kernel) h
def Q77r0 : IC:=cReg Tryz.prog [⟨some 1,none,iBoxF 1 (.tmp 0)⟩,⟨some 2,none,iMov 2 (.const .nilFunc) true⟩] [1] []
def Q77r1 : IC:=cReg Tryz.prog [⟨some 3,none,iMkf 3 102 1⟩,xT 2 3] [2] []
def zgp : IC:=(cSeq Q77r0 (cSeq Q77r1 cRet))
theorem ztg {args r : List D} (hl : args.length = 1) (h : zgp (start args) (fin [(2,none)] r)) : Told Tryz.prog 89 args r :=
 ze follows Tryz.func89 rfl (an:=[([],[1],[],[1]),([],[2],[],[])]) (by kernel_rfl) (by kernel_rfl) (by rw [hl]; decide +kernel) h
def Q85r0 : IC:=cReg Tryz.prog [⟨some 4,none,iMov 4 (.const (.int .i64 0)) true⟩] [0,1] []
def Q85r1 : IC:=cReg Tryz.prog [xM 6 0,xN 7 6,⟨some 8,none,iMov 8 (.const (.int .i64 0)) false⟩] [0,1,7,8] []
def Q85r2 : IC:=cReg Tryz.prog [xB 9 .lss 8 7] [0,1,7,8,9] []
def Q85c3 : IC:=cCond (.tmp 9) cSkip (cExit 0)
def Q85r3 : IC:=cReg Tryz.prog [xM 10 8,xT 5 10] [0,1,5,7,8] []
def Q85r4 : IC:=cReg Tryz.prog [xM 11 1,xM 12 0,xM 13 5,xI 14 6 12 13,xA 15 6 14,⟨some 16,none,iCallV 16 Tryz.prog 11 [(.tmp 15)]⟩] [0,1,5,7,8,16] []
def Q85r5 : IC:=cReg Tryz.prog [xM 17 5,xT 4 17] [4] []
def Q85c5a : IC:=(cSeq Q85r5 cRet)
def Q85c5 : IC:=cCond (.tmp 16) Q85c5a cSkip
def Q85b4 : IC:=cBlock 1 (cSeq Q85r3 (cSeq Q85r4 Q85c5))
def Q85r6 : IC:=cReg Tryz.prog [xC 18 .add 8 1,xM 8 18] [0,1,7,8] []
def Q85l2a : IC:=(cSeq Q85r2 (cSeq Q85c3 (cSeq Q85b4 Q85r6)))
def Q85l2 : IC:=cLoop Q85l2a
def Q85b1 : IC:=cBlock 0 Q85l2
def Q85r7 : IC:=cReg Tryz.prog [⟨some 4,none,iMov 4 (.const (.int .i64 (-1))) true⟩] [4] []
def zgg : IC:=(cSeq Q85r0 (cSeq (cSeq Q85r1 Q85b1) (cSeq Q85r7 cRet)))
theorem z3b {args r : List D} (hl : args.length = 2) (h : zgg (start args) (fin [(4,none)] r)) : Told Tryz.prog 101 args r :=
 ze follows Tryz.func101 rfl (an:=[([],[0,1],[],[]),([],[0,1,7,8],[],[]),([],[0,1,7,8,9],[],[]),([],[0,1,5,7,8],[],[]),([],[0,1,5,7,8,16],[],[]),([],[4],[],[]),([],[0,1,7,8],[],[]),([],[4],[],[])]) (by kernel_rfl) (by kernel_rfl) (by rw [hl]; decide +kernel) h
def Q83r0 : IC:=cReg Tryz.prog [⟨some 4,none,iMov 4 (.const (.slice none 0 0)) true⟩] [0,1] [100000]
def Q83r1 : IC:=cReg Tryz.prog [xM 8 0,xM 9 1,⟨some 10,none,iCallL 10 101 [(.tmp 8),(.tmp 9)]⟩,xT 5 10] [0,1,5] [100000]
def Q83r2 : IC:=cReg Tryz.prog [xM 11 5,⟨some 12,none,iBin 12 .eql (.tmp 11) (.const (.int .i64 (-1)))⟩] [0,1,5,12] [100000]
def Q83r3 : IC:=cReg Tryz.prog [xM 13 0,xT 4 13] [4] []
def Q83c1a : IC:=(cSeq Q83r3 cRet)
def Q83c1 : IC:=cCond (.tmp 12) Q83c1a cSkip
def Q83r4 : IC:=cReg Tryz.prog [xM 14 5,xC 15 .add 14 1,xT 6 15] [0,1,5,6] [100000]
def Q83r5 : IC:=cReg Tryz.prog [xM 16 6,xM 17 0,xN 18 17,xB 19 .lss 16 18] [0,1,5,6,19] [100000]
def Q83c4 : IC:=cCond (.tmp 19) cSkip (cExit 0)
def Q83r7 : IC:=cReg Tryz.prog [xM 22 0,xM 23 6,xI 24 6 22 23,xA 25 6 24,⟨some 7,none,iAlo 7 [zI,zI,zI,zI,zS,zS]⟩,xS 6 7 25] [0,1,5,6,7] [7,100000]
def Q83r8 : IC:=cReg Tryz.prog [xM 26 1,xA 27 6 7,⟨some 28,none,iCallV 28 Tryz.prog 26 [(.tmp 27)]⟩,xO 29 28] [0,1,5,6,7,29] [7,100000]
def Q83r9 : IC:=cReg Tryz.prog [xM 30 0,xM 31 5,xA 32 6 7,xI 33 6 30 31,xS 6 33 32] [0,1,5,6] [100000]
def Q83r10 : IC:=cReg Tryz.prog [xM 34 5,xC 35 .add 34 1,xT 5 35] [0,1,5,6] [100000]
def Q83c6a : IC:=(cSeq Q83r9 Q83r10)
def Q83c6 : IC:=cCond (.tmp 29) Q83c6a cSkip
def Q83b5 : IC:=cBlock 1 (cSeq Q83r7 (cSeq Q83r8 Q83c6))
def Q83r6 : IC:=cReg Tryz.prog [xM 20 6,xC 21 .add 20 1,xT 6 21] [0,1,5,6] [100000]
def Q83l3a : IC:=(cSeq (cSeq Q83r5 Q83c4) (cSeq Q83b5 Q83r6))
def Q83l3 : IC:=cLoop Q83l3a
def Q83b2 : IC:=cBlock 0 Q83l3
def Q83r11 : IC:=cReg Tryz.prog [xM 36 0,xM 37 5,⟨some 38,none,iSlc 38 6 (.tmp 36) (some (.tmp 37)) none⟩,⟨none,none,iClr 6 (.tmp 38)⟩] [0,5] []
def Q83r12 : IC:=cReg Tryz.prog [xM 39 0,xM 40 5,⟨some 41,none,iSlc 41 6 (.tmp 39) none (some (.tmp 40))⟩,xT 4 41] [4] []
def z1b : IC:=(cSeq Q83r0 (cSeq Q83r1 (cSeq (cSeq Q83r2 Q83c1) (cSeq (cSeq Q83r4 Q83b2) (cSeq Q83r11 (cSeq Q83r12 cRet))))))
theorem z6c {args r es : List D} {e z : Nat} (hl : args.length = 1) (hz : 0 < z) (h0 : es = [] → Told Tryz.prog 88 (sD z [] :: args) r) (h : es ≠ [] → z1b ⟨startT (oD 100000 es.length :: args) 0,[(100000,[sD z es])],[]⟩ (fin [(4,none)] r)) : ToldI Tryz.prog 88 (xD :: args) 0 none e (z,some es) r :=
 z7v follows Tryz.func88 rfl (an:=[([],[0,1],[100000],[]),([],[0,1,5],[100000],[10]),([],[0,1,5,12],[100000],[]),([],[4],[],[]),([],[0,1,5,6],[100000],[]),([],[0,1,5,6,19],[100000],[]),([],[0,1,5,6,7],[7,100000],[]),([],[0,1,5,6,7,29],[7,100000],[]),([],[0,1,5,6],[100000],[]),([],[0,1,5,6],[100000],[]),([],[0,1,5,6],[100000],[]),([],[0,5],[],[]),([],[4],[],[])]) (by kernel_rfl) (by kernel_rfl) (by rw [hl]; decide +kernel) hz h0 (by rw [fin_eq]; exact h)
theorem z8c {args r : List D} (hl : args.length = 2) (h : z1b (start args) (fin [(4,none)] r)) : Told Tryz.prog 88 args r :=
 ze follows Tryz.func88 rfl (an:=[([],[0,1],[100000],[]),([],[0,1,5],[100000],[10]),([],[0,1,5,12],[100000],[]),([],[4],[],[]),([],[0,1,5,6],[100000],[]),([],[0,1,5,6,19],[100000],[]),([],[0,1,5,6,7],[7,100000],[]),([],[0,1,5,6,7,29],[7,100000],[]),([],[0,1,5,6],[100000],[]),([],[0,1,5,6],[100000],[]),([],[0,1,5,6],[100000],[]),([],[0,5],[],[]),([],[4],[],[])]) (by kernel_rfl) (by kernel_rfl) (by rw [hl]; decide +kernel) h
def Q72r0 : IC:=cReg Tryz.prog [xX 2 0,xX 3 1,⟨some 4,none,iAlo 4 [zS,zI,zI,zI,zI,zS,zI]⟩] [2,3,4] [2,3,4]
def z14 : IC:=cOwn Tryz.prog 2 5 6 59 7
def zo1 : IC:=cReg Tryz.prog [] [2,3,4] [2,3,4]
def Q72r1 : IC:=(cSeq z14 zo1)
def Q72r2 : IC:=cRegD Tryz.prog [xF 7 5 2,xU 8 1 7,xA 9 6 3,xV1 10 89 9,xV2 11 88 8 10,xF 12 5 2,xS 1 12 11] [[],[0],[],[2],[1,3,0,2],[0,1,2,3,4],[5,4,0,1,2,3]] [2,4] [2,4]
def Q72r3 : IC:=cReg Tryz.prog [xA 13 7 2,xS 7 4 13] [4] [4]
def zpw : IC:=(cSeq Q72r0 (cSeq Q72r1 (cSeq Q72r2 (cSeq Q72r3 cRet))))
theorem zfj {args r : List D} (hl : args.length = 2) (h : zpw (start args) (fin [(4,some (7,true))] r)) : Told Tryz.prog 67 args r :=
 ze follows Tryz.func67 rfl (an:=[([],[2,3,4],[2,3,4],[]),([(1003,[],[])],[2,3,4],[2,3,4],[]),([],[2,4],[2,4],[8]),([],[4],[4],[])]) (by kernel_rfl) (by kernel_rfl) (by rw [hl]; decide +kernel) h
end Go.Proofs.YtgaofjiidedcbacGreat.ab
