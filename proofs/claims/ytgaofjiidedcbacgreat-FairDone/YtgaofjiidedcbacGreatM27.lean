import Derived.Test.YtgaofjiidedcbacGreatM20
import Derived.Test.YtgaofjiidedcbacGreatProg
import Derived.Test.YtgaofjiidedcbacGreatM25
set_option maxHeartbeats 4000000
set_option linter.unusedVariables false
set_option linter.unusedSimpArgs false
namespace Go.Proofs.YtgaofjiidedcbacGreat.ab
set_option maxRecDepth 100000
open Go Go.RowKit
def Q34r0 : IC:=cReg Tryz.prog [xX 2 0,xX 3 1,⟨some 4,none,iAlo 4 [zS,zI,zI,zI,zI,zS,zI]⟩,⟨some 5,none,iMov 5 (.const (.int .i64 0)) true⟩] [2,3,4] [2,3,4]
def Q34r1 : IC:=cReg Tryz.prog [xA 7 2 3,xV1 8 52 7,xT 6 8] [2,3,4,6] [2,3,4]
def Q34r2 : IC:=cReg Tryz.prog [xM 9 6,xC 10 .neq 9 0] [2,3,4,6,10] [2,3,4]
def Q34r3 : IC:=cReg Tryz.prog [xA 11 7 2,xM 12 6,xS 7 4 11,xT 5 12] [4,5] [4]
def Q34c1a : IC:=(cSeq Q34r3 cRet)
def Q34c1 : IC:=cCond (.tmp 10) Q34c1a cSkip
def Q34r4 : IC:=cReg Tryz.prog [xF 13 0 2,xL 14 1 13,xN 15 14,xC 16 .gtr 15 5] [2,3,4,16] [2,3,4]
def Q34r5 : IC:=cReg Tryz.prog [xA 17 7 2,xS 7 4 17,⟨some 5,none,iMov 5 (.const (.int .i64 9)) true⟩] [4,5] [4]
def Q34c2a : IC:=(cSeq Q34r5 cRet)
def Q34c2 : IC:=cCond (.tmp 16) Q34c2a cSkip
def Q34r6 : IC:=cReg Tryz.prog [xF 18 1 2,xL 19 1 18,xF 20 0 2,xL 21 1 20,xN 22 21,xB 23 .add 19 22,xC 24 .gtr 23 39] [2,3,4,24] [2,3,4]
def Q34r7 : IC:=cReg Tryz.prog [xA 25 7 2,xS 7 4 25,⟨some 5,none,iMov 5 (.const (.int .i64 4)) true⟩] [4,5] [4]
def Q34c3a : IC:=(cSeq Q34r7 cRet)
def Q34c3 : IC:=cCond (.tmp 24) Q34c3a cSkip
def Q34r8 : IC:=cRegD Tryz.prog [⟨some 26,none,iRow 26 43 2 []⟩,xF 27 0 2,xL 28 1 27,xW 29 43 2 32 26 28,xA 30 2 3,xR 31 43 2 30,xW 32 43 2 32 29 31,xF 33 0 2,xS 1 33 32] [[],[],[1],[0,2,1],[],[4],[3,5,0,2,1,4],[0,1,2,3,4,5,6],[7,6,0,1,2,3,4,5]] [2,4] [2,4]
def Q34r9 : IC:=cReg Tryz.prog [xA 34 7 2,xS 7 4 34,⟨some 5,none,iMov 5 (.const (.int .i64 0)) true⟩] [4,5] [4]
def r1_Put : IC:=(cSeq Q34r0 (cSeq (cSeq Q34r1 (cSeq Q34r2 Q34c1)) (cSeq (cSeq Q34r4 Q34c2) (cSeq (cSeq Q34r6 Q34c3) (cSeq Q34r8 (cSeq Q34r9 cRet))))))
theorem zcp {args r : List D} (hl : args.length = 2) (h : r1_Put (start args) (fin [(4,some (7,true)),(5,none)] r)) : Told Tryz.prog 33 args r :=
 ze follows Tryz.func33 rfl (an:=[([],[2,3,4],[2,3,4],[]),([],[2,3,4,6],[2,3,4],[]),([],[2,3,4,6,10],[2,3,4],[]),([],[4,5],[4],[]),([],[2,3,4,16],[2,3,4],[]),([],[4,5],[4],[]),([],[2,3,4,24],[2,3,4],[]),([],[4,5],[4],[]),([],[2,4],[2,4],[]),([],[4,5],[4],[])]) (by kernel_rfl) (by kernel_rfl) (by rw [hl]; decide +kernel) h
def Q48r0 : IC:=cReg Tryz.prog [xX 1 0,⟨some 2,none,iAlo 2 [zS,zI,zI,zI,zI,zS,zI]⟩,⟨some 3,none,iAlo 3 [zI,zI,zI,zI,zS,zS]⟩,⟨some 4,none,iMov 4 (.const (.bool false)) true⟩] [1,2,3] [1,2,3]
def Q48r1 : IC:=cReg Tryz.prog [xF 8 0 1,xL 9 1 8,xN 10 9,xC 11 .eql 10 0,xM 12 11,xG 12 true (xF 13 5 1),xG 12 true (xL 14 1 13),xG 12 true (xN 15 14),xG 12 true (xC 16 .eql 15 0),xQ 17 12 16] [1,2,3,17] [1,2,3]
def Q48r2 : IC:=cReg Tryz.prog [xA 18 7 1,⟨some 19,none,iBld 19 [zI,zI,zI,zI,zS,zS] [] []⟩,xS 7 2 18,xS 6 3 19,⟨some 4,none,iMov 4 (.const (.bool false)) true⟩] [2,3,4] [2,3]
def Q48c1a : IC:=(cSeq Q48r2 cRet)
def Q48c1 : IC:=cCond (.tmp 17) Q48c1a cSkip
def Q48r3 : IC:=cReg Tryz.prog [xF 20 0 1,xL 21 1 20,xN 22 21,xC 23 .eql 22 0,xM 24 23,xG 24 false (xF 25 5 1),xG 24 false (xL 26 1 25),xG 24 false (xN 27 26),xG 24 false (xC 28 .gtr 27 3),xP 29 24 28] [1,2,3,29] [1,2,3]
def Q48r4 : IC:=cRegD Tryz.prog [xF 30 6 1,xL 31 1 30,xF 32 6 1,xL 33 1 32,xF 34 5 1,xL 35 1 34,xN 36 35,xB 37 .quo 33 36,xF 38 5 1,xL 39 1 38,xN 40 39,xB 41 .mul 37 40,xB 42 .sub 31 41,xT 5 42] [[],[0],[],[2],[],[4],[5,4],[3,6,2,5,4],[],[8],[9,8],[7,10,3,6,2,5,4,9,8],[1,11,0,7,10,3,6,2,5,4,9,8],[12,0,1,2,3,4,5,6,7,8,9,10,11]] [1,2,3,5] [1,2,3]
def Q48r5 : IC:=cReg Tryz.prog [xM 43 5,xC 44 .add 43 1,xF 45 6 1,xS 1 45 44] [1,2,3,5] [1,2,3]
def Q48r6 : IC:=cRegD Tryz.prog [xA 46 7 1,xF 47 5 1,xL 48 1 47,xM 49 5,xI 50 6 48 49,xA 51 6 50,xS 7 2 46,xS 6 3 51,⟨some 4,none,iMov 4 (.const (.bool true)) true⟩] [[],[],[1],[],[2,3,1],[4,2,3,1],[0],[5,6,0,1,2,3,4],[7,0,1,2,3,4,5,6]] [2,3,4] [2,3]
def Q48c2a : IC:=(cSeq Q48r4 (cSeq Q48r5 (cSeq Q48r6 cRet)))
def Q48c2 : IC:=cCond (.tmp 29) Q48c2a cSkip
def Q48r7 : IC:=cReg Tryz.prog [xF 52 0 1,xL 53 1 52,⟨some 54,none,iIaS 54 2 (.tmp 53) (.const (.int .i64 0))⟩,xA 55 2 54,⟨some 6,none,iAlo 6 [zI,zS]⟩,xS 2 6 55] [1,2,3,6] [1,2,3,6]
def Q48r8 : IC:=cRegD Tryz.prog [xF 56 1 1,xL 57 1 56,xF 58 0 6,xL 59 1 58,xF 60 0 6,xL 61 1 60,xF 62 2 1,⟨some 63,none,iIaA 63 3 1 (.tmp 62) (.tmp 61)⟩,xL 64 1 63,xF 65 1 6,xL 66 1 65,⟨some 67,none,iBld 67 [zI,zI,zI,zI,zS,zS] [(0,1),(1,1),(2,1),(3,1),(4,1)] [(.const (.int .i64 1)),(.tmp 57),(.tmp 59),(.tmp 64),(.tmp 66)]⟩,⟨some 7,none,iAlo 7 [zI,zI,zI,zI,zS,zS]⟩,xS 6 7 67] [[],[0],[],[2],[],[4],[],[6,5,4],[7,6,5,4],[],[9],[1,3,8,10,0,2,7,6,5,4,9],[],[12,11,0,1,2,3,4,5,6,7,8,9,10]] [1,2,3,6,7] [1,2,3,6,7]
def Q48r9 : IC:=cReg Tryz.prog [xF 68 0 1,xL 69 1 68,⟨some 70,none,iSlc 70 2 (.tmp 69) (some (.const (.int .i64 1))) none⟩,xF 71 0 1,xS 1 71 70] [1,2,3,6,7] [1,2,3,6,7]
def Q48r10 : IC:=cReg Tryz.prog [xF 72 1 1,xL 73 1 72,xC 74 .add 73 1,xF 75 1 1,xS 1 75 74] [1,2,3,6,7] [1,2,3,6,7]
def Q48r11 : IC:=cRegD Tryz.prog [xF 76 0 6,xL 77 1 76,xF 78 0 6,xL 79 1 78,xF 80 2 1,⟨some 81,none,iIaA 81 3 1 (.tmp 80) (.tmp 79)⟩,xL 82 1 81,xC 83 .add 82 1,xF 84 2 1,⟨some 85,none,iIaA 85 3 1 (.tmp 84) (.tmp 77)⟩,xS 1 85 83] [[],[0],[],[2],[],[4,3,2],[5,4,3,2],[6,5,4,3,2],[],[8,1,0,2,3,4,5,6,7],[9,7,0,1,2,3,4,5,6,8]] [1,2,3,7] [1,2,3,7]
def Q48r12 : IC:=cRegD Tryz.prog [⟨some 86,none,iRow 86 85 6 []⟩,xF 87 5 1,xL 88 1 87,xW 89 85 6 80 86 88,xA 90 6 7,xR 91 85 6 90,xW 92 85 6 80 89 91,xF 93 5 1,xS 1 93 92] [[],[],[1],[0,2,1],[],[4],[3,5,0,2,1,4],[0,1,2,3,4,5,6],[7,6,0,1,2,3,4,5]] [1,2,3,7] [1,2,3,7]
def Q48r13 : IC:=cRegD Tryz.prog [xA 94 7 1,xA 95 6 7,xS 7 2 94,xS 6 3 95,⟨some 4,none,iMov 4 (.const (.bool true)) true⟩] [[],[],[0],[1,2,0],[3,0,1,2]] [2,3,4] [2,3]
def zus : IC:=(cSeq Q48r0 (cSeq (cSeq Q48r1 Q48c1) (cSeq (cSeq Q48r3 Q48c2) (cSeq Q48r7 (cSeq Q48r8 (cSeq Q48r9 (cSeq Q48r10 (cSeq Q48r11 (cSeq Q48r12 (cSeq Q48r13 cRet))))))))))
theorem zjc {args r : List D} (hl : args.length = 1) (h : zus (start args) (fin [(2,some (7,true)),(3,some (6,true)),(4,none)] r)) : Told Tryz.prog 48 args r :=
 ze follows Tryz.func48 rfl (an:=[([],[1,2,3],[1,2,3],[]),([],[1,2,3,17],[1,2,3],[]),([],[2,3,4],[2,3],[]),([],[1,2,3,29],[1,2,3],[]),([],[1,2,3,5],[1,2,3],[]),([],[1,2,3,5],[1,2,3],[]),([],[2,3,4],[2,3],[]),([],[1,2,3,6],[1,2,3,6],[]),([],[1,2,3,6,7],[1,2,3,6,7],[]),([],[1,2,3,6,7],[1,2,3,6,7],[]),([],[1,2,3,6,7],[1,2,3,6,7],[]),([],[1,2,3,7],[1,2,3,7],[]),([],[1,2,3,7],[1,2,3,7],[]),([],[2,3,4],[2,3],[])]) (by kernel_rfl) (by kernel_rfl) (by rw [hl]; decide +kernel) h
def Q47r0 : IC:=cReg Tryz.prog [xX 2 0,xX 3 1,⟨some 4,none,iAlo 4 [zS,zI,zI,zI,zI,zS,zI]⟩] [2,3,4] [2,3,4]
def Q47r1 : IC:=cReg Tryz.prog [xF 11 0 3,xL 12 1 11,xC 13 .neq 12 2] [2,3,4,13] [2,3,4]
def Q47r2 : IC:=cReg Tryz.prog [xA 14 7 2,xS 7 4 14] [4] [4]
def Q47c1a : IC:=(cSeq Q47r2 cRet)
def Q47c1 : IC:=cCond (.tmp 13) Q47c1a cSkip
def Q47r3 : IC:=cReg Tryz.prog [⟨some 5,none,iMov 5 (.const (.slice none 0 0)) true⟩] [2,3,4,5] [2,3,4]
def Q47r4 : IC:=cReg Tryz.prog [xF 15 5 2,xL 16 1 15,xN 17 16,⟨some 18,none,iMov 18 (.const (.int .i64 0)) false⟩] [2,3,4,5,16,17,18] [2,3,4]
def Q47r5 : IC:=cReg Tryz.prog [xB 19 .lss 18 17] [2,3,4,5,16,17,18,19] [2,3,4]
def Q47c4 : IC:=cCond (.tmp 19) cSkip (cExit 0)
def Q47r6 : IC:=cReg Tryz.prog [xI 20 6 16 18,xA 21 6 20,⟨some 7,none,iAlo 7 [zI,zI,zI,zI,zS,zS]⟩,xS 6 7 21] [2,3,4,5,7,16,17,18] [2,3,4,7]
def Q47r7 : IC:=cReg Tryz.prog [xF 22 1 7,xL 23 1 22,xF 24 1 3,xL 25 1 24,xB 26 .lss 23 25,xT 8 26] [2,3,4,5,7,8,16,17,18] [2,3,4,7]
def Q47r8 : IC:=cReg Tryz.prog [xF 27 5 3,xL 28 1 27,xN 29 28,⟨some 30,none,iMov 30 (.const (.int .i64 0)) false⟩] [2,3,4,5,7,8,16,17,18,28,29,30] [2,3,4,7]
def Q47r9 : IC:=cReg Tryz.prog [xB 31 .lss 30 29] [2,3,4,5,7,8,16,17,18,28,29,30,31] [2,3,4,7]
def Q47c8 : IC:=cCond (.tmp 31) cSkip (cExit 2)
def Q47r10 : IC:=cReg Tryz.prog [xI 32 1 28 30,xL 33 1 32,xT 10 33] [2,3,4,5,7,8,10,16,17,18,28,29,30] [2,3,4,7]
def Q47r11 : IC:=cReg Tryz.prog [xM 34 8,xM 35 34,xG 35 false (xM 36 10),xG 35 false (xF 37 1 7),xG 35 false (xL 38 1 37),xG 35 false (xB 39 .eql 36 38),xP 40 35 39,xT 8 40] [2,3,4,5,7,8,16,17,18,28,29,30] [2,3,4,7]
def Q47b9 : IC:=cBlock 3 (cSeq Q47r10 Q47r11)
def Q47r12 : IC:=cReg Tryz.prog [xC 41 .add 30 1,xM 30 41] [2,3,4,5,7,8,16,17,18,28,29,30] [2,3,4,7]
def Q47l7a : IC:=(cSeq Q47r9 (cSeq Q47c8 (cSeq Q47b9 Q47r12)))
def Q47l7 : IC:=cLoop Q47l7a
def Q47b6 : IC:=cBlock 2 Q47l7
def Q47r13 : IC:=cReg Tryz.prog [xM 42 8,xO 43 42] [2,3,4,5,7,16,17,18,43] [2,3,4,7]
def Q47r14 : IC:=cReg Tryz.prog [xT 44 5,xA 45 6 7,xR 46 85 6 45,xW 47 85 6 80 44 46,xT 5 47] [2,3,4,5,16,17,18] [2,3,4]
def Q47c10 : IC:=cCond (.tmp 43) Q47r14 cSkip
def Q47b5 : IC:=cBlock 1 (cSeq Q47r6 (cSeq Q47r7 (cSeq (cSeq Q47r8 Q47b6) (cSeq Q47r13 Q47c10))))
def Q47r15 : IC:=cReg Tryz.prog [xC 48 .add 18 1,xM 18 48] [2,3,4,5,16,17,18] [2,3,4]
def Q47l3a : IC:=(cSeq Q47r5 (cSeq Q47c4 (cSeq Q47b5 Q47r15)))
def Q47l3 : IC:=cLoop Q47l3a
def Q47b2 : IC:=cBlock 0 Q47l3
def Q47r16 : IC:=cReg Tryz.prog [xM 49 5,xF 50 5 2,xS 1 50 49] [2,4] [2,4]
def Q47r17 : IC:=cReg Tryz.prog [xA 51 7 2,xS 7 4 51] [4] [4]
def zio : IC:=(cSeq Q47r0 (cSeq (cSeq Q47r1 Q47c1) (cSeq Q47r3 (cSeq (cSeq Q47r4 Q47b2) (cSeq Q47r16 (cSeq Q47r17 cRet))))))
theorem zlg {args r : List D} (hl : args.length = 2) (h : zio (start args) (fin [(4,some (7,true))] r)) : Told Tryz.prog 57 args r :=
 ze follows Tryz.func57 rfl (an:=[([],[2,3,4],[2,3,4],[]),([],[2,3,4,13],[2,3,4],[]),([],[4],[4],[]),([],[2,3,4,5],[2,3,4],[]),([],[2,3,4,5,16,17,18],[2,3,4],[]),([],[2,3,4,5,16,17,18,19],[2,3,4],[]),([],[2,3,4,5,7,16,17,18],[2,3,4,7],[]),([],[2,3,4,5,7,8,16,17,18],[2,3,4,7],[]),([],[2,3,4,5,7,8,16,17,18,28,29,30],[2,3,4,7],[]),([],[2,3,4,5,7,8,16,17,18,28,29,30,31],[2,3,4,7],[]),([],[2,3,4,5,7,8,10,16,17,18,28,29,30],[2,3,4,7],[]),([],[2,3,4,5,7,8,16,17,18,28,29,30],[2,3,4,7],[]),([],[2,3,4,5,7,8,16,17,18,28,29,30],[2,3,4,7],[]),([],[2,3,4,5,7,16,17,18,43],[2,3,4,7],[]),([],[2,3,4,5,16,17,18],[2,3,4],[]),([],[2,3,4,5,16,17,18],[2,3,4],[]),([],[2,4],[2,4],[]),([],[4],[4],[])]) (by kernel_rfl) (by kernel_rfl) (by rw [hl]; decide +kernel) h
def Q45r0 : IC:=cReg Tryz.prog [xX 2 0,xX 3 1,⟨some 4,none,iMov 4 (.const (.bool false)) true⟩] [2,3] [2,3]
def zs2 : IC:=cReg Tryz.prog [xF 5 0 2,xL 6 1 5,xF 7 0 3,xL 8 1 7,xV2 9 26 6 8,xM 10 9,xG 10 true (xF 11 1 2),xG 10 true (xL 12 1 11),xG 10 true (xF 13 1 3),xG 10 true (xL 14 1 13)] [2,3,10,12,14] [2,3]
def zv1 : IC:=cReg Tryz.prog [xG 10 true (xB 15 .eql 12 14),xQ 16 10 15,xM 17 16,xG 17 true (xF 18 2 2),xG 17 true (xA 19 3 18),xG 17 true (xF 20 2 3),xG 17 true (xA 21 3 20),⟨some 22,some (17,true),iEqA 22 true (.tmp 19) (.tmp 21)⟩,xQ 23 17 22,xM 24 23] [2,3,24] [2,3]
def zw6 : IC:=cReg Tryz.prog [xG 24 true (xF 25 5 2),xG 24 true (xL 26 1 25),xG 24 true (xF 27 5 3),xG 24 true (xL 28 1 27),xG 24 true (xV2 29 40 26 28),xQ 30 24 29,xM 31 30,xG 31 true (xF 32 6 2),xG 31 true (xL 33 1 32),xG 31 true (xF 34 6 3)] [31,33,34] [3]
def zv5 : IC:=cReg Tryz.prog [xG 31 true (xL 35 1 34),xG 31 true (xB 36 .eql 33 35),xQ 37 31 36,xT 4 37] [4] []
def Q45r1 : IC:=(cSeq zs2 (cSeq zv1 (cSeq zw6 zv5)))
def zmk : IC:=(cSeq Q45r0 (cSeq Q45r1 cRet))
theorem zcf {args r : List D} (hl : args.length = 2) (h : zmk (start args) (fin [(4,none)] r)) : Told Tryz.prog 27 args r :=
 ze follows Tryz.func27 rfl (an:=[([],[2,3],[2,3],[]),([(10,[2,3,10,12,14],[2,3]),(10,[2,3,24],[2,3]),(10,[31,33,34],[3])],[4],[],[])]) (by kernel_rfl) (by kernel_rfl) (by rw [hl]; decide +kernel) h
open mth
def encSd (s : Sd) : List D:=[sD 2 (encMl s.queue),vI s.next,vI s.p0,vI s.p1,vI s.p2,sD 6 (encCl s.flight),vI s.turn]
theorem ml_nil : encMl [] = []:=rfl
theorem cl_nil : encCl [] = []:=rfl
theorem zog (m : Ms) (r : List Ms) : encMl (m :: r) = aD [vI m.stream,sD 1 (m.data.map encB)] :: encMl r:=rfl
theorem znf (l : List Ch) (c : Ch) : encCl (l ++ [c]) = encCl l ++ [aD [vI c.kind,vI c.number,vI c.stream,vI c.place,sD 1 (c.data.map encB),sD 1 (c.early.map vI)]]:=by simp [encCl,encCh]
theorem zay (s : Sd) (m : Ms) (hn : 0 ≤ s.next ∧ s.next ≤ 40) : Told Tryz.prog 33 [aD (encSd s),aD (encMs m)] [aD (encSd (putS s m)),vI (putE s m)]:=by
 refine zcp rfl ?_
 obtain ⟨e,he⟩ : ∃ e,e = putE s m:=⟨_,rfl⟩
 obtain ⟨t,ht⟩ : ∃ t,t = putS s m:=⟨_,rfl⟩
 rw [← he,← ht]
 simp only [encMs,encSd]
 refine wk0 ?_
 refine cg0 [[vI (zi m.stream m.data)]] ?_ ?_
 ·exact zb (zqf m) zd
 by_cases h0 : zi m.stream m.data = 0
 ·have h0' : (zi m.stream m.data != 0) = false:=by simpa using h0
  by_cases h5 : 5 < s.queue.length
  ·have h5' : 5 < (s.queue.length : Int):=by omega
   have : e = 9:=by rw [he,putE,if_neg (by simpa using h0),if_pos h5]
   subst this
   have : t = s:=by rw [ht,putS,← he,if_neg (by decide)]
   subst this
   refine wk (an3 @h0' @h5' @len_ml) ?_
   exact ValsLe.refl _
  ·have h5' : ¬ 5 < (s.queue.length : Int):=by omega
   have hr : inR .i64 (s.next + (s.queue.length : Int)) = true:=inR_of (by omega)
   by_cases h39 : 39 < s.next + s.queue.length
   ·have h39' : 39 < s.next + (s.queue.length : Int):=by omega
    have : e = 4:=by rw [he,putE,if_neg (by simpa using h0),if_neg h5,if_pos h39]
    subst this
    have : t = s:=by rw [ht,putS,← he,if_neg (by decide)]
    subst this
    refine wk (an5 @h0' @h5' @h39' @hr @len_ml) ?_
    exact ValsLe.refl _
   ·have h39' : ¬ 39 < s.next + (s.queue.length : Int):=by omega
    have : e = 0:=by rw [he,putE,if_neg (by simpa using h0),if_neg h5,if_neg h39]
    subst this
    have : t = { s with queue:=s.queue ++ [m] }:=by rw [ht,putS,← he,if_pos rfl]
    subst this
    have hb1 : s.queue.length * 32 ≤ 140737488355328:=by omega
    have hb2 : (s.queue.length + 1) * 32 ≤ 140737488355328:=by omega
    refine wk (an8 @h0' @h5' @h39' @hr @hb1 @hb2 @len_ml @zapp) ?_
    simp only [encMl,List.map_append,List.map_cons,List.map_nil,encMs]
    exact ValsLe.refl _
 ·have h0' : (zi m.stream m.data != 0) = true:=by simpa using h0
  have : e = zi m.stream m.data:=by rw [he,putE,if_pos h0]
  subst this
  have : t = s:=by rw [ht,putS,← he,if_neg h0]
  subst this
  refine wk @h0' ?_
  exact ValsLe.refl _
theorem zlz {t : Int} {n : Nat} (ht : 0 ≤ t) : t - t.tdiv (n : Int) * (n : Int) = t % (n : Int):=by
 rw [Int.tdiv_eq_ediv_of_nonneg ht,Int.emod_def,Int.mul_comm]
theorem z9d (queue : List Ms) (next p0 p1 p2 turn : Int) (flight : List Ch) (ht : 0 ≤ turn ∧ turn ≤ 1000) (hf0 : 0 < flight.length) (hf : flight.length ≤ 4) (hq : queue = [] ∨ 3 < flight.length) :
  Told Tryz.prog 48 [aD (encSd ⟨queue,next,p0,p1,p2,flight,turn⟩)] [aD (encSd ⟨queue,next,p0,p1,p2,flight,turn % (flight.length : Int) + 1⟩),aD (encCh (flight.getD (turn % (flight.length : Int)).toNat zeroC)),vD (.bool true)]:=by
 refine zjc rfl ?_
 have hn0 : ¬ (flight.length : Int) = 0:=by omega
 have hn1 : ((flight.length : Int) == 0) = false:=by simpa using hn0
 have hae:=zlz (t:=turn) (n:=flight.length) ht.1
 have hm0 : 0 ≤ turn % (flight.length : Int):=Int.emod_nonneg _ hn0
 have hm1 : turn % (flight.length : Int) < flight.length:=Int.emod_lt_of_pos _ (by omega)
 have hd : turn.tdiv (flight.length : Int) * (flight.length : Int) = turn - turn % (flight.length : Int):=by omega
 have hd0 : 0 ≤ turn.tdiv (flight.length : Int):=Int.tdiv_nonneg ht.1 (by omega)
 have hd1 : turn.tdiv (flight.length : Int) ≤ 1000:=by
  have:=Int.tdiv_le_self (flight.length : Int) ht.1
  omega
 generalize hk : turn % (flight.length : Int) = k at *
 generalize hdv : turn.tdiv (flight.length : Int) = dv at *
 have r1 : inR .i64 dv = true:=inR_of (by omega)
 have r2 : inR .i64 (dv * (flight.length : Int)) = true:=inR_of (by omega)
 have r3 : inR .i64 k = true:=inR_of (by omega)
 have r4 : inR .i64 (k + 1) = true:=inR_of (by omega)
 have hlt : k.toNat < flight.length:=by omega
 have hget : (encCl flight)[k.toNat]? = some (aD (encCh (flight.getD k.toNat zeroC))):=by
  rw [encCl,List.getElem?_map,List.getElem?_eq_getElem hlt,List.getD_eq_getElem?_getD,List.getElem?_eq_getElem hlt]; rfl
 obtain ⟨c0,hc0⟩ : ∃ c0,c0 = flight.getD k.toNat zeroC:=⟨_,rfl⟩
 rw [← hc0] at hget ⊢
 simp only [encSd,encCh] at hget ⊢
 rcases hq with hq | hq
 ·subst hq
  refine wk (an15 @len_ml @len_cl @znil @zmn @ml_nil @hn0 @hn1 @hdv @hae @r1 @r2 @r3 @r4 @hm0 @hget) ?_
  repeat' (first | exact zj | exact zo | exact es_nil | exact CVLe.refl _ | exact LfLe.refl _ | exact LfLe.nil _ | exact EsLe.refl _ | refine zf ?_ ?_ | refine zk ?_ ?_ | refine zp ?_ ?_ | refine EsLe.app ?_ ?_ | refine CVLe.row ?_ | refine CVLe.leafV ?_ | refine CVLe.leafS ?_ | refine LfLe.s ?_)
 ·have hq2 : 3 < (flight.length : Int):=by omega
  by_cases hqq : queue = []
  ·subst hqq
   refine wk (an15 @len_ml @len_cl @znil @zmn @ml_nil @hn0 @hn1 @hdv @hae @r1 @r2 @r3 @r4 @hm0 @hget) ?_
   repeat' (first | exact zj | exact zo | exact es_nil | exact CVLe.refl _ | exact LfLe.refl _ | exact LfLe.nil _ | exact EsLe.refl _ | refine zf ?_ ?_ | refine zk ?_ ?_ | refine zp ?_ ?_ | refine EsLe.app ?_ ?_ | refine CVLe.row ?_ | refine CVLe.leafV ?_ | refine CVLe.leafS ?_ | refine LfLe.s ?_)
  ·have hq3 : ((queue.length : Int) == 0) = false:=by
    have : queue.length ≠ 0:=fun h => hqq (List.eq_nil_of_length_eq_zero h)
    have : ¬ (queue.length : Int) = 0:=by omega
    simpa using this
   refine wk (an17 @len_ml @len_cl @znil @zmn @ml_nil @hq2 @hq3 @hn0 @hn1 @hdv @hae @r1 @r2 @r3 @r4 @hm0 @hget) ?_
   repeat' (first | exact zj | exact zo | exact es_nil | exact CVLe.refl _ | exact LfLe.refl _ | exact LfLe.nil _ | exact EsLe.refl _ | refine zf ?_ ?_ | refine zk ?_ ?_ | refine zp ?_ ?_ | refine EsLe.app ?_ ?_ | refine CVLe.row ?_ | refine CVLe.leafV ?_ | refine CVLe.leafS ?_ | refine LfLe.s ?_)
theorem z4j (next p0 p1 p2 turn : Int) : Told Tryz.prog 48 [aD (encSd ⟨[],next,p0,p1,p2,[],turn⟩)] [aD (encSd ⟨[],next,p0,p1,p2,[],turn⟩),aD (encCh zeroC),vD (.bool false)]:=by
 refine zjc rfl ?_
 simp only [encSd,ml_nil,cl_nil,zeroC,encCh,List.map_nil]
 refine wk (an2 @zmn @znil) ?_
 repeat' (first | exact zj | exact zo | exact es_nil | exact CVLe.refl _ | exact LfLe.refl _ | exact LfLe.nil _ | exact EsLe.refl _ | refine zf ?_ ?_ | refine zk ?_ ?_ | refine zp ?_ ?_ | refine EsLe.app ?_ ?_ | refine CVLe.row ?_ | refine CVLe.leafV ?_ | refine CVLe.leafS ?_ | refine LfLe.s ?_)
theorem zjl (m : Ms) (r : List Ms) (next p0 p1 p2 turn : Int) (flight : List Ch) (hn : 0 ≤ next ∧ next ≤ 40) (h0 : 0 ≤ p0 ∧ p0 ≤ 40) (h1 : 0 ≤ p1 ∧ p1 ≤ 40) (h2 : 0 ≤ p2 ∧ p2 ≤ 40) (hf : flight.length ≤ 3) (hr : r.length ≤ 1000) (hm : 0 ≤ m.stream ∧ m.stream ≤ 2) :
  Told Tryz.prog 48 [aD (encSd ⟨m :: r,next,p0,p1,p2,flight,turn⟩)] [aD (encSd (newS ⟨m :: r,next,p0,p1,p2,flight,turn⟩ m r)),aD (encCh (newC ⟨m :: r,next,p0,p1,p2,flight,turn⟩ m)),vD (.bool true)]:=by
 refine zjc rfl ?_
 have q1 : (((r.length + 1 : Nat) : Int) == 0) = false:=by
  have : ¬ ((r.length + 1 : Nat) : Int) = 0:=by omega
  simpa using this
 have q2 : ¬ 3 < (flight.length : Int):=by omega
 have q3 : inR .i64 (next + 1) = true:=inR_of (by omega)
 have q4 : inR .i64 (p0 + 1) = true:=inR_of (by omega)
 have q5 : inR .i64 (p1 + 1) = true:=inR_of (by omega)
 have q6 : inR .i64 (p2 + 1) = true:=inR_of (by omega)
 have q7 : flight.length * 80 ≤ 140737488355328:=by omega
 have q8 : (flight.length + 1) * 80 ≤ 140737488355328:=by omega
 have q9 : (0 : Int) ≤ 1 ∧ (1 : Int) ≤ ((r.length + 1 : Nat) : Int) ∧ ((r.length + 1 : Nat) : Int) ≤ ((r.length + 1 : Nat) : Int):=by omega
 have q10 : (encMl r).take r.length = encMl r:=List.take_of_length_le (by rw [len_ml]; exact Nat.le_refl _)
 obtain ⟨ms,md⟩:=m
 simp only at hm
 rcases (by omega : ms = 0 ∨ ms = 1 ∨ ms = 2) with hs | hs | hs
 ·subst hs
  simp only [encSd,newS,newC,zrc,encCh,zog,znf,List.map_nil,if_true,Int.reduceEq,if_false]
  refine wk (an13 @len_ml @len_cl @zapp @q1 @q2 @q3 @q4 @q5 @q6 @q7 @q8 @q9 @q10) ?_
  repeat' (first | exact zj | exact zo | exact es_nil | exact CVLe.refl _ | exact LfLe.refl _ | exact LfLe.nil _ | exact EsLe.refl _ | refine zf ?_ ?_ | refine zk ?_ ?_ | refine zp ?_ ?_ | refine EsLe.app ?_ ?_ | refine CVLe.row ?_ | refine CVLe.leafV ?_ | refine CVLe.leafS ?_ | refine LfLe.s ?_)
 ·subst hs
  simp only [encSd,newS,newC,zrc,encCh,zog,znf,List.map_nil,if_true,Int.reduceEq,if_false]
  refine wk (an13 @len_ml @len_cl @zapp @q1 @q2 @q3 @q4 @q5 @q6 @q7 @q8 @q9 @q10) ?_
  repeat' (first | exact zj | exact zo | exact es_nil | exact CVLe.refl _ | exact LfLe.refl _ | exact LfLe.nil _ | exact EsLe.refl _ | refine zf ?_ ?_ | refine zk ?_ ?_ | refine zp ?_ ?_ | refine EsLe.app ?_ ?_ | refine CVLe.row ?_ | refine CVLe.leafV ?_ | refine CVLe.leafS ?_ | refine LfLe.s ?_)
 ·subst hs
  simp only [encSd,newS,newC,zrc,encCh,zog,znf,List.map_nil,if_true,Int.reduceEq,if_false]
  refine wk (an13 @len_ml @len_cl @zapp @q1 @q2 @q3 @q4 @q5 @q6 @q7 @q8 @q9 @q10) ?_
  repeat' (first | exact zj | exact zo | exact es_nil | exact CVLe.refl _ | exact LfLe.refl _ | exact LfLe.nil _ | exact EsLe.refl _ | refine zf ?_ ?_ | refine zk ?_ ?_ | refine zp ?_ ?_ | refine EsLe.app ?_ ?_ | refine CVLe.row ?_ | refine CVLe.leafV ?_ | refine CVLe.leafS ?_ | refine LfLe.s ?_)
end Go.Proofs.YtgaofjiidedcbacGreat.ab
namespace Go.Proofs.YtgaofjiidedcbacGreat.mth
def zeroS : Sd:=⟨[],0,0,0,0,[],0⟩
structure GoodS (s : Sd) : Prop where
 q : s.queue.length ≤ 6
 f : s.flight.length ≤ 4
 n : 0 ≤ s.next ∧ s.next + s.queue.length ≤ 40
 p : 0 ≤ s.p0 ∧ 0 ≤ s.p1 ∧ 0 ≤ s.p2 ∧ s.p0 + s.p1 + s.p2 = s.next
 t : 0 ≤ s.turn ∧ s.turn ≤ 4
 m : ∀ m ∈ s.queue,zi m.stream m.data = 0
 c : ∀ c ∈ s.flight,c.kind = 1 ∧ wrongL c = 0 ∧ c.number < s.next
 r : s.flight.Pairwise (fun a b => a.number < b.number)
theorem z8u : GoodS zeroS:=⟨by simp [zeroS],by simp [zeroS],by simp [zeroS],by simp [zeroS],by simp [zeroS],by simp [zeroS],by simp [zeroS],by simp [zeroS]⟩
theorem GoodS.put {s : Sd} (h : GoodS s) (m : Ms) : GoodS (putS s m):=by
 unfold putS
 split
 ·rename_i he
  unfold putE at he
  split at he
  ·rename_i hw; exact absurd he hw
  ·rename_i hw
   split at he
   ·cases he
   ·rename_i hq
    split at he
    ·cases he
    ·rename_i hn
     refine ⟨by simp; omega,h.f,by have:=h.n; simp; omega,h.p,h.t,fun x hx => ?_,h.c,h.r⟩
     rcases List.mem_append.1 hx with hx | hx
     ·exact h.m x hx
     ·simp at hx; subst hx; simpa using hw
 ·exact h
theorem GoodS.hear {s : Sd} (h : GoodS s) (c : Ch) : GoodS (hearS s c):=by
 unfold hearS
 split
 ·exact ⟨h.q,Nat.le_trans (List.length_filter_le _ _) h.f,h.n,h.p,h.t,h.m,fun x hx => h.c x (List.mem_filter.1 hx).1,h.r.filter _⟩
 ·exact h
theorem zkq {s : Int} {d : List UInt8} (h : zi s d = 0) : (0 ≤ s ∧ s ≤ 2) ∧ d.length ≤ 6:=by
 unfold zi at h
 split at h
 ·cases h
 ·split at h
  ·cases h
  ·omega
theorem zzt {s : Sd} (h : GoodS s) (k : Int) : 0 ≤ zrc s k ∧ zrc s k ≤ s.next:=by
 have:=h.p
 unfold zrc
 split
 ·omega
 ·split
  ·omega
  ·omega
theorem zle {s : Sd} {m : Ms} (h : GoodS s) (hm : zi m.stream m.data = 0) (hn : s.next ≤ 39) : wrongL (newC s m) = 0:=by
 have hp:=zzt h m.stream
 have:=h.n
 unfold newC
 rw [zik,if_neg (by omega),if_neg (by omega),if_neg (by simp),hm]
theorem zwb {s : Sd} (h : GoodS s) (hf : 0 < s.flight.length) : 0 ≤ againK s ∧ againK s < s.flight.length:=by
 unfold againK
 exact ⟨Int.emod_nonneg _ (by omega),Int.emod_lt_of_pos _ (by omega)⟩
theorem GoodS.again {s : Sd} (h : GoodS s) (hf : 0 < s.flight.length) : GoodS { s with turn:=againK s + 1 }:=by
 have:=zwb h hf
 have:=h.f
 exact ⟨h.q,h.f,h.n,h.p,by simp only; omega,h.m,h.c,h.r⟩
theorem GoodS.new {s : Sd} {m : Ms} {r : List Ms} (h : GoodS s) (hq : s.queue = m :: r) (hf : s.flight.length ≤ 3) : GoodS (newS s m r):=by
 have h1:=h.q
 have h2:=h.n
 have h3:=h.p
 rw [hq] at h1 h2
 simp only [List.length_cons] at h1 h2
 have hm:=h.m m (by rw [hq]; simp)
 have hs:=(zkq hm).1
 refine ⟨by simp only [newS]; omega,by simp only [newS,List.length_append,List.length_cons,List.length_nil]; omega,by simp only [newS]; omega,?_,h.t,fun x hx => h.m x (by rw [hq]; exact List.mem_cons_of_mem _ hx),fun x hx => ?_,?_⟩
 ·simp only [newS]
  rcases (by omega : m.stream = 0 ∨ m.stream = 1 ∨ m.stream = 2) with e | e | e <;> simp only [e,if_true,Int.reduceEq,if_false] <;> omega
 ·rcases List.mem_append.1 hx with hx | hx
  ·have:=h.c x hx
   exact ⟨this.1,this.2.1,by simp only [newS]; omega⟩
  ·simp at hx
   subst hx
   exact ⟨rfl,zle h hm (by omega),by simp only [newS,newC]; omega⟩
 ·refine List.pairwise_append.2 ⟨h.r,by simp,fun a ha b hb => ?_⟩
  simp at hb
  subst hb
  exact (h.c a ha).2.2
theorem GoodS.say {s : Sd} (h : GoodS s) : GoodS (sayL s).1:=by
 unfold sayL
 split
 ·rename_i hq
  split
  ·exact h
  ·exact h.again (by omega)
 ·rename_i m r hq
  split
  ·exact h.again (by omega)
  ·exact h.new hq (by omega)
theorem GoodS.early {s : Sd} (h : GoodS s) : ∀ c ∈ s.flight,c.early = []:=by
 intro c hc
 obtain ⟨h1,h2,_⟩:=h.c c hc
 unfold wrongL at h2
 rw [if_neg (by omega)] at h2
 split at h2
 ·cases h2
 ·split at h2
  ·cases h2
  ·split at h2
   ·cases h2
   ·rename_i he; exact List.eq_nil_of_length_eq_zero (by omega)
end Go.Proofs.YtgaofjiidedcbacGreat.mth
namespace Go.Proofs.YtgaofjiidedcbacGreat.ab
open Go Go.RowKit
open mth
theorem zfo {s : Sd} (h : GoodS s) (m : Ms) : Told Tryz.prog 33 [aD (encSd s),aD (encMs m)] [aD (encSd (putS s m)),vI (putE s m)]:=zay s m (by have:=h.n; omega)
theorem zep {s : Sd} (h : GoodS s) : Told Tryz.prog 48 [aD (encSd s)] [aD (encSd (sayL s).1),aD (encCh (sayL s).2.1),vB (sayL s).2.2]:=by
 obtain ⟨queue,next,p0,p1,p2,flight,turn⟩:=s
 have hf:=h.f
 have ht:=h.t
 have hn:=h.n
 have hp:=h.p
 have hq:=h.q
 simp only at hf ht hn hp hq
 cases queue with
 | nil =>
  by_cases hz : flight.length = 0
  ·have hz' : flight = []:=List.eq_nil_of_length_eq_zero hz
   subst hz'
   exact z4j next p0 p1 p2 turn
  ·have:=z9d [] next p0 p1 p2 turn flight (by omega) (by omega) hf (.inl rfl)
   simpa [sayL,hz,againK] using this
 | cons m r =>
  by_cases hz : 3 < flight.length
  ·have:=z9d (m :: r) next p0 p1 p2 turn flight (by omega) (by omega) hf (.inr hz)
   simpa [sayL,hz,againK] using this
  ·have hm:=(zkq (h.m m (by simp))).1
   have:=zjl m r next p0 p1 p2 turn flight (by omega) (by omega) (by omega) (by omega) (by omega) (by simp at hq; omega) hm
   simpa [sayL,hz] using this
end Go.Proofs.YtgaofjiidedcbacGreat.ab
