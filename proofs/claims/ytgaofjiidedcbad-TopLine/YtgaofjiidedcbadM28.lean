import Derived.Test.YtgaofjiidedcbadM19
import Derived.Test.YtgaofjiidedcbadProg
import Derived.Test.YtgaofjiidedcbadM18
import Derived.Test.YtgaofjiidedcbadM27
import Derived.Test.YtgaofjiidedcbadM24
import Derived.Test.YtgaofjiidedcbadM26
import Derived.Test.YtgaofjiidedcbadM25
set_option maxHeartbeats 8000000
set_option linter.unusedVariables false
set_option linter.unusedSimpArgs false
namespace Go.Proofs.Ytgaofjiidedcbad.ab
set_option maxRecDepth 100000
open Go Go.RowKit
def Q31r0 : IC:=cReg Try.prog [⟨some 6,none,iMov 6 (.const (.bool false)) true⟩] [0,1,2] []
def Q31r1 : IC:=cReg Try.prog [⟨some 19,none,iCall 19 7 []⟩,xO 20 19] [0,1,2,20] []
def Q31r2 : IC:=cReg Try.prog [⟨some 6,none,iMov 6 (.const (.bool false)) true⟩] [6] []
def Q31c1a : IC:=(cSeq Q31r2 cRet)
def Q31c1 : IC:=cCond (.tmp 20) Q31c1a cSkip
def Q31r3_0 : IC:=cReg Try.prog [xM 21 0,xC 22 .lss 21 1,xM 23 22,xG 23 false (xM 24 0),xG 23 false (xC 25 .gtr 24 3),xP 26 23 25,xM 27 26,xG 27 false (xM 28 1),xG 27 false (xC 29 .lss 28 0),xP 30 27 29] [0,1,2,30] [41]
def Q31r3_1 : IC:=cReg Try.prog [xM 31 30,xG 31 false (xM 32 1),xG 31 false (xC 33 .gtr 32 6),xP 34 31 33,xM 35 34,xG 35 false (xM 36 2),xG 35 false (xV1 37 8 36),xG 35 false (xO 38 37),xP 39 35 38] [0,1,2,39] []
def Q31r3 : IC:=(cSeq Q31r3_0 Q31r3_1)
def Q31r4 : IC:=cReg Try.prog [⟨some 6,none,iMov 6 (.const (.bool true)) true⟩] [6] []
def Q31c2a : IC:=(cSeq Q31r4 cRet)
def Q31c2 : IC:=cCond (.tmp 39) Q31c2a cSkip
def Q31r5 : IC:=cReg Try.prog [⟨some 7,none,iMov 7 (.const (.slice none 0 0)) true⟩] [0,1,2,7] []
def Q31r6 : IC:=cReg Try.prog [xM 40 0,⟨some 41,none,iMkB 41 (zS) (.tmp 40) (.tmp 40)⟩,xT 8 41] [0,1,2,7,8] [41]
def Q31r7 : IC:=cReg Try.prog [xM 42 1,⟨some 43,none,iMov 43 (.const (.int .i64 0)) false⟩] [0,2,7,8,42,43] [41]
def Q31r8 : IC:=cReg Try.prog [xB 44 .lss 43 42] [0,2,7,8,42,43,44] [41]
def Q31c5 : IC:=cCond (.tmp 44) cSkip (cExit 0)
def Q31r9 : IC:=cReg Try.prog [xM 45 43,xT 9 45] [0,2,7,8,9,42,43] [41]
def Q31r10 : IC:=cReg Try.prog [xM 46 0,⟨some 47,none,iMov 47 (.const (.int .i64 0)) false⟩] [0,2,7,8,9,42,43,46,47] [41]
def Q31r11 : IC:=cReg Try.prog [xB 48 .lss 47 46] [0,2,7,8,9,42,43,46,47,48] [41]
def Q31c9 : IC:=cCond (.tmp 48) cSkip (cExit 2)
def Q31r12 : IC:=cReg Try.prog [xM 49 47,xT 10 49] [0,2,7,8,9,10,42,43,46,47] [41]
def Q31r13 : IC:=cReg Try.prog [xM 50 9,xC 51 .rem 50 2,xM 52 10,⟨some 53,none,iCvi 53 .u8 (.tmp 52)⟩,xM 54 9,⟨some 55,none,iCvi 55 .u8 (.tmp 54)⟩,⟨some 56,none,iRow 56 5 1 [(.tmp 53),(.tmp 55)]⟩,⟨some 57,none,iBld 57 [zI,zS] [(0,1),(1,1)] [(.tmp 51),(.tmp 56)]⟩,⟨some 11,none,iAlo 11 [zI,zS]⟩,xS 2 11 57] [0,2,7,8,9,10,11,42,43,46,47] [11,41]
def Q31r14 : IC:=cReg Try.prog [xT 58 7,xM 59 10,xA 60 2 11,⟨some 61,none,iBld 61 [zI,zI,zI,zI,zF,zI,zS] [(0,1),(1,1),(5,2)] [(.const (.int .i64 2)),(.tmp 59),(.tmp 60)]⟩,xR 62 30 7 61,xW 63 30 7 72 58 62,xT 7 63] [0,2,7,8,9,10,11,42,43,46,47] [11,41]
def Q31r15 : IC:=cRegD Try.prog [xM 64 8,xM 65 10,xM 66 8,xM 67 10,xI 68 1 66 67,xU 69 1 68,xA 70 2 11,xR 71 28 2 70,xW 72 28 2 32 69 71,xI 73 1 64 65,xS 1 73 72] [[],[],[],[],[2,3],[4,2,3],[],[6],[5,7,4,2,3,6],[0,1,2,3,4,5,6,7,8],[9,8,0,1,2,3,4,5,6,7]] [0,2,7,8,9,42,43,46,47] [41]
def Q31b10 : IC:=cBlock 3 (cSeq Q31r12 (cSeq Q31r13 (cSeq Q31r14 Q31r15)))
def Q31r16 : IC:=cReg Try.prog [xC 74 .add 47 1,xM 47 74] [0,2,7,8,9,42,43,46,47] [41]
def Q31l8a : IC:=(cSeq Q31r11 (cSeq Q31c9 (cSeq Q31b10 Q31r16)))
def Q31l8 : IC:=cLoop Q31l8a
def Q31b7 : IC:=cBlock 2 Q31l8
def Q31b6 : IC:=cBlock 1 (cSeq Q31r9 (cSeq Q31r10 Q31b7))
def Q31r17 : IC:=cReg Try.prog [xC 75 .add 43 1,xM 43 75] [0,2,7,8,42,43] [41]
def Q31l4a : IC:=(cSeq Q31r8 (cSeq Q31c5 (cSeq Q31b6 Q31r17)))
def Q31l4 : IC:=cLoop Q31l4a
def Q31b3 : IC:=cBlock 0 Q31l4
def Q31r18 : IC:=cReg Try.prog [xM 77 0,xT 78 7,xM 79 2,xW 80 30 7 72 78 79,xV2 81 9 77 80,xM 76 81,xE 82 76 0,xE 83 76 1,xE 84 76 2,⟨some 12,none,iAlo 12 [zS,zI]⟩,xS 2 12 82,xT 13 83,xT 14 84] [0,8,12,14] [12,41]
def Q31r19 : IC:=cReg Try.prog [xA 86 2 12,xV1 87 10 86,xM 85 87,xE 88 85 0,xE 89 85 1,⟨some 15,none,iAlo 15 [zS,zI]⟩,xS 2 15 88,xT 16 89] [0,8,14,15] [15,41]
def Q31r20 : IC:=cReg Try.prog [xM 90 14,xC 91 .neq 90 0,xM 92 91,xG 92 false (xA 93 2 15),xG 92 false (xV1 94 11 93),xG 92 false (xO 95 94),xP 96 92 95,xM 97 96,xG 97 false (xF 98 0 15),xG 97 false (xL 99 1 98),xG 97 false (xN 100 99),xG 97 false (xM 101 0),xG 97 false (xB 102 .neq 100 101),xP 103 97 102] [8,15,103] [15,41]
def Q31r21 : IC:=cReg Try.prog [⟨some 6,none,iMov 6 (.const (.bool false)) true⟩] [6] []
def Q31c11a : IC:=(cSeq Q31r21 cRet)
def Q31c11 : IC:=cCond (.tmp 103) Q31c11a cSkip
def Q31r22 : IC:=cReg Try.prog [xF 104 0 15,xL 105 1 104,xN 106 105,⟨some 107,none,iMov 107 (.const (.int .i64 0)) false⟩] [8,105,106,107] [41]
def Q31r23 : IC:=cReg Try.prog [xB 108 .lss 107 106] [8,105,106,107,108] [41]
def Q31c14 : IC:=cCond (.tmp 108) cSkip (cExit 4)
def Q31r24 : IC:=cReg Try.prog [xM 109 107,xI 110 17 105 107,xA 111 17 110,⟨some 18,none,iAlo 18 [zS,zI,zI,zI,zI,zS,zI,zI,zS,zI,zI,zI,zS,zS,zF,zS,zS]⟩,xT 17 109,xS 17 18 111] [8,17,18,105,106,107] [18,41]
def Q31r25 : IC:=cRegD Try.prog [xF 112 7 18,xF 113 6 112,xL 114 1 113,xM 115 8,xM 116 17,xI 117 1 115 116,xL 118 1 117,xV2 119 12 114 118,xO 120 119] [[],[0],[1,0],[],[],[3,4],[5,3,4],[2,6,1,0,5,3,4],[7,2,6,1,0,5,3,4]] [8,105,106,107,120] [41]
def Q31r26 : IC:=cReg Try.prog [⟨some 6,none,iMov 6 (.const (.bool false)) true⟩] [6] []
def Q31c16a : IC:=(cSeq Q31r26 cRet)
def Q31c16 : IC:=cCond (.tmp 120) Q31c16a cSkip
def Q31b15 : IC:=cBlock 5 (cSeq Q31r24 (cSeq Q31r25 Q31c16))
def Q31r27 : IC:=cReg Try.prog [xC 121 .add 107 1,xM 107 121] [8,105,106,107] [41]
def Q31l13a : IC:=(cSeq Q31r23 (cSeq Q31c14 (cSeq Q31b15 Q31r27)))
def Q31l13 : IC:=cLoop Q31l13a
def Q31b12 : IC:=cBlock 4 Q31l13
def Q31r28 : IC:=cReg Try.prog [⟨some 6,none,iMov 6 (.const (.bool true)) true⟩] [6] []
def lktop_TopLine : IC:=(cSeq Q31r0 (cSeq (cSeq Q31r1 Q31c1) (cSeq (cSeq Q31r3 Q31c2) (cSeq Q31r5 (cSeq Q31r6 (cSeq (cSeq Q31r7 Q31b3) (cSeq Q31r18 (cSeq Q31r19 (cSeq (cSeq Q31r20 Q31c11) (cSeq (cSeq Q31r22 Q31b12) (cSeq Q31r28 cRet)))))))))))
theorem told_lktop_TopLine {args r : List D} (hl : args.length = 3) (h : lktop_TopLine (start args) (fin [(6,none)] r)) : Told Try.prog 3 args r :=
 told_of follows Try.func3 rfl (an:=[([],[0,1,2],[],[]),([],[0,1,2,20],[],[]),([],[6],[],[]),([(10,[0,1,2,30],[41])],[0,1,2,39],[],[]),([],[6],[],[]),([],[0,1,2,7],[],[]),([],[0,1,2,7,8],[41],[3000041]),([],[0,2,7,8,42,43],[41],[]),([],[0,2,7,8,42,43,44],[41],[]),([],[0,2,7,8,9,42,43],[41],[]),([],[0,2,7,8,9,42,43,46,47],[41],[]),([],[0,2,7,8,9,42,43,46,47,48],[41],[]),([],[0,2,7,8,9,10,42,43,46,47],[41],[]),([],[0,2,7,8,9,10,11,42,43,46,47],[11,41],[]),([],[0,2,7,8,9,10,11,42,43,46,47],[11,41],[]),([],[0,2,7,8,9,42,43,46,47],[41],[]),([],[0,2,7,8,9,42,43,46,47],[41],[]),([],[0,2,7,8,42,43],[41],[]),([],[0,8,12,14],[12,41],[]),([],[0,8,14,15],[15,41],[]),([],[8,15,103],[15,41],[]),([],[6],[],[]),([],[8,105,106,107],[41],[]),([],[8,105,106,107,108],[41],[]),([],[8,17,18,105,106,107],[18,41],[]),([],[8,105,106,107,120],[41],[]),([],[6],[],[]),([],[8,105,106,107],[41],[]),([],[6],[],[])]) (by kernel_rfl) (by kernel_rfl) (by rw [hl]; decide +kernel) h
section
variable {P : Program} {st st' : St} {Q : AX → St → Prop} {K : St → Prop} {ops : List IOp} {anc : List (List Nat)} {lv lb : List Nat} {fs : List Foot}
end
section
variable {P : Program} {st st' : St} {Q : AX → St → Prop} {K : St → Prop} {ops : List IOp} {anc : List (List Nat)} {lv lb : List Nat} {fs : List Foot}
end
def mlD (t : Int) (i : Nat) : List D:=[vI ((i % 2 : Nat) : Int),sD 1 [vD (.int .u8 t),vD (.int .u8 (i : Int))]]
def splD (t : Int) (i : Nat) : D:=aD [vI 2,vI t,vI 0,vI 0,vB false,vI ((i % 2 : Nat) : Int),sD 1 [vD (.int .u8 t),vD (.int .u8 (i : Int))]]
theorem u8_small {k : Nat} (h : k ≤ 255) : IntKind.u8.wrap (k : Int) = (k : Int):=by
 show ((k : Int) % 256) = (k : Int)
 omega
theorem tmod2 (k : Nat) : (k : Int).tmod 2 = ((k % 2 : Nat) : Int):=rfl
theorem tl_step_10 (i : Nat) (hi : i ≤ 5) (many : Int) (bs ls q0 : List D) (hL : ls.length ≤ 1000) (hq : q0.length ≤ 1000) (J : Nat → St → Prop) (m : Nat) (Q : AX → St → Prop)
  (hnx : Next J m ⟨[(0,vI 1),(2,sD 7 bs),(7,sD 7 (ls ++ [splD 0 i])),(8,rD 41 0 1 1),(9,vI i),(42,vI many),(43,vI i),(46,vI 1),(47,vI 1)],[(41,[sD 2 (q0 ++ [aD (mlD 0 i)])])],[((41,some 0),(28,2,none)),((7,none),(30,7,none))]⟩) :
  Q31l8a ⟨[(0,vI 1),(2,sD 7 bs),(7,sD 7 ls),(8,rD 41 0 1 1),(9,vI i),(42,vI many),(43,vI i),(46,vI 1),(47,vI 0)],[(41,[sD 2 q0])],[((41,some 0),(28,2,none)),((7,none),(30,7,none))]⟩ (thn (Next J m) Q):=by
 have g1 : (0 : Int) < 1:=by decide
 have e1:=tmod2 i
 have e2 : IntKind.u8.wrap (i : Int) = (i : Int):=u8_small (by omega)
 have e3 : inR .i64 ((i % 2 : Nat) : Int) = true:=inR_of (by omega)
 have b1 : (ls.length + 1) * 72 ≤ 140737488355328:=by omega
 have b2 : (q0.length + 1) * 32 ≤ 140737488355328:=by omega
 have e4 : IntKind.u8.wrap (0 : Int) = 0:=by decide
 have e5 : ((2 : Int) == 0) = false:=by decide
 have e6 : ¬ (2 : Int) = 0:=by decide
 have e7 : inR .i64 1 = true:=by decide
 have e8 : (0 : Int) + 1 = 1:=by decide
 simp only [mlD,splD] at hnx
 refine wk (an12 @g1 @e1 @e2 @e3 @e4 @e5 @e6 @e7 @e8 @b1 @b2 @Int.cast_ofNat_Int) ?_
 exact hnx
theorem tl_step_20 (i : Nat) (hi : i ≤ 5) (many : Int) (bs ls q0 q1 : List D) (hL : ls.length ≤ 1000) (hq : q0.length ≤ 1000) (J : Nat → St → Prop) (m : Nat) (Q : AX → St → Prop)
  (hnx : Next J m ⟨[(0,vI 2),(2,sD 7 bs),(7,sD 7 (ls ++ [splD 0 i])),(8,rD 41 0 1 2),(9,vI i),(42,vI many),(43,vI i),(46,vI 2),(47,vI 1)],[(41,[sD 2 (q0 ++ [aD (mlD 0 i)]),sD 2 q1])],[((41,some 0),(28,2,none)),((7,none),(30,7,none)),((41,some 1),(28,2,none))]⟩) :
  Q31l8a ⟨[(0,vI 2),(2,sD 7 bs),(7,sD 7 ls),(8,rD 41 0 1 2),(9,vI i),(42,vI many),(43,vI i),(46,vI 2),(47,vI 0)],[(41,[sD 2 q0,sD 2 q1])],[((41,some 1),(28,2,none)),((7,none),(30,7,none)),((41,some 0),(28,2,none))]⟩ (thn (Next J m) Q):=by
 have g1 : (0 : Int) < 2:=by decide
 have e1:=tmod2 i
 have e2 : IntKind.u8.wrap (i : Int) = (i : Int):=u8_small (by omega)
 have e3 : inR .i64 ((i % 2 : Nat) : Int) = true:=inR_of (by omega)
 have b1 : (ls.length + 1) * 72 ≤ 140737488355328:=by omega
 have b2 : (q0.length + 1) * 32 ≤ 140737488355328:=by omega
 have e4 : IntKind.u8.wrap (0 : Int) = 0:=by decide
 have e5 : ((2 : Int) == 0) = false:=by decide
 have e6 : ¬ (2 : Int) = 0:=by decide
 have e7 : inR .i64 1 = true:=by decide
 have e8 : (0 : Int) + 1 = 1:=by decide
 simp only [mlD,splD] at hnx
 refine wk (an12 @g1 @e1 @e2 @e3 @e4 @e5 @e6 @e7 @e8 @b1 @b2 @Int.cast_ofNat_Int) ?_
 exact hnx
theorem tl_step_21 (i : Nat) (hi : i ≤ 5) (many : Int) (bs ls q0 q1 : List D) (hL : ls.length ≤ 1000) (hq : q1.length ≤ 1000) (J : Nat → St → Prop) (m : Nat) (Q : AX → St → Prop)
  (hnx : Next J m ⟨[(0,vI 2),(2,sD 7 bs),(7,sD 7 (ls ++ [splD 1 i])),(8,rD 41 0 1 2),(9,vI i),(42,vI many),(43,vI i),(46,vI 2),(47,vI 2)],[(41,[sD 2 q0,sD 2 (q1 ++ [aD (mlD 1 i)])])],[((41,some 1),(28,2,none)),((7,none),(30,7,none)),((41,some 0),(28,2,none))]⟩) :
  Q31l8a ⟨[(0,vI 2),(2,sD 7 bs),(7,sD 7 ls),(8,rD 41 0 1 2),(9,vI i),(42,vI many),(43,vI i),(46,vI 2),(47,vI 1)],[(41,[sD 2 q0,sD 2 q1])],[((41,some 0),(28,2,none)),((7,none),(30,7,none)),((41,some 1),(28,2,none))]⟩ (thn (Next J m) Q):=by
 have g1 : (1 : Int) < 2:=by decide
 have e1:=tmod2 i
 have e2 : IntKind.u8.wrap (i : Int) = (i : Int):=u8_small (by omega)
 have e3 : inR .i64 ((i % 2 : Nat) : Int) = true:=inR_of (by omega)
 have b1 : (ls.length + 1) * 72 ≤ 140737488355328:=by omega
 have b2 : (q1.length + 1) * 32 ≤ 140737488355328:=by omega
 have e4 : IntKind.u8.wrap (1 : Int) = 1:=by decide
 have e5 : ((2 : Int) == 0) = false:=by decide
 have e6 : ¬ (2 : Int) = 0:=by decide
 have e7 : inR .i64 2 = true:=by decide
 have e8 : (1 : Int) + 1 = 2:=by decide
 simp only [mlD,splD] at hnx
 refine wk (an12 @g1 @e1 @e2 @e3 @e4 @e5 @e6 @e7 @e8 @b1 @b2 @Int.cast_ofNat_Int) ?_
 exact hnx
theorem tl_step_30 (i : Nat) (hi : i ≤ 5) (many : Int) (bs ls q0 q1 q2 : List D) (hL : ls.length ≤ 1000) (hq : q0.length ≤ 1000) (J : Nat → St → Prop) (m : Nat) (Q : AX → St → Prop)
  (hnx : Next J m ⟨[(0,vI 3),(2,sD 7 bs),(7,sD 7 (ls ++ [splD 0 i])),(8,rD 41 0 1 3),(9,vI i),(42,vI many),(43,vI i),(46,vI 3),(47,vI 1)],[(41,[sD 2 (q0 ++ [aD (mlD 0 i)]),sD 2 q1,sD 2 q2])],[((41,some 0),(28,2,none)),((7,none),(30,7,none)),((41,some 2),(28,2,none)),((41,some 1),(28,2,none))]⟩) :
  Q31l8a ⟨[(0,vI 3),(2,sD 7 bs),(7,sD 7 ls),(8,rD 41 0 1 3),(9,vI i),(42,vI many),(43,vI i),(46,vI 3),(47,vI 0)],[(41,[sD 2 q0,sD 2 q1,sD 2 q2])],[((41,some 2),(28,2,none)),((7,none),(30,7,none)),((41,some 1),(28,2,none)),((41,some 0),(28,2,none))]⟩ (thn (Next J m) Q):=by
 have g1 : (0 : Int) < 3:=by decide
 have e1:=tmod2 i
 have e2 : IntKind.u8.wrap (i : Int) = (i : Int):=u8_small (by omega)
 have e3 : inR .i64 ((i % 2 : Nat) : Int) = true:=inR_of (by omega)
 have b1 : (ls.length + 1) * 72 ≤ 140737488355328:=by omega
 have b2 : (q0.length + 1) * 32 ≤ 140737488355328:=by omega
 have e4 : IntKind.u8.wrap (0 : Int) = 0:=by decide
 have e5 : ((2 : Int) == 0) = false:=by decide
 have e6 : ¬ (2 : Int) = 0:=by decide
 have e7 : inR .i64 1 = true:=by decide
 have e8 : (0 : Int) + 1 = 1:=by decide
 simp only [mlD,splD] at hnx
 refine wk (an12 @g1 @e1 @e2 @e3 @e4 @e5 @e6 @e7 @e8 @b1 @b2 @Int.cast_ofNat_Int) ?_
 exact hnx
theorem tl_step_31 (i : Nat) (hi : i ≤ 5) (many : Int) (bs ls q0 q1 q2 : List D) (hL : ls.length ≤ 1000) (hq : q1.length ≤ 1000) (J : Nat → St → Prop) (m : Nat) (Q : AX → St → Prop)
  (hnx : Next J m ⟨[(0,vI 3),(2,sD 7 bs),(7,sD 7 (ls ++ [splD 1 i])),(8,rD 41 0 1 3),(9,vI i),(42,vI many),(43,vI i),(46,vI 3),(47,vI 2)],[(41,[sD 2 q0,sD 2 (q1 ++ [aD (mlD 1 i)]),sD 2 q2])],[((41,some 1),(28,2,none)),((7,none),(30,7,none)),((41,some 0),(28,2,none)),((41,some 2),(28,2,none))]⟩) :
  Q31l8a ⟨[(0,vI 3),(2,sD 7 bs),(7,sD 7 ls),(8,rD 41 0 1 3),(9,vI i),(42,vI many),(43,vI i),(46,vI 3),(47,vI 1)],[(41,[sD 2 q0,sD 2 q1,sD 2 q2])],[((41,some 0),(28,2,none)),((7,none),(30,7,none)),((41,some 2),(28,2,none)),((41,some 1),(28,2,none))]⟩ (thn (Next J m) Q):=by
 have g1 : (1 : Int) < 3:=by decide
 have e1:=tmod2 i
 have e2 : IntKind.u8.wrap (i : Int) = (i : Int):=u8_small (by omega)
 have e3 : inR .i64 ((i % 2 : Nat) : Int) = true:=inR_of (by omega)
 have b1 : (ls.length + 1) * 72 ≤ 140737488355328:=by omega
 have b2 : (q1.length + 1) * 32 ≤ 140737488355328:=by omega
 have e4 : IntKind.u8.wrap (1 : Int) = 1:=by decide
 have e5 : ((2 : Int) == 0) = false:=by decide
 have e6 : ¬ (2 : Int) = 0:=by decide
 have e7 : inR .i64 2 = true:=by decide
 have e8 : (1 : Int) + 1 = 2:=by decide
 simp only [mlD,splD] at hnx
 refine wk (an12 @g1 @e1 @e2 @e3 @e4 @e5 @e6 @e7 @e8 @b1 @b2 @Int.cast_ofNat_Int) ?_
 exact hnx
theorem tl_step_32 (i : Nat) (hi : i ≤ 5) (many : Int) (bs ls q0 q1 q2 : List D) (hL : ls.length ≤ 1000) (hq : q2.length ≤ 1000) (J : Nat → St → Prop) (m : Nat) (Q : AX → St → Prop)
  (hnx : Next J m ⟨[(0,vI 3),(2,sD 7 bs),(7,sD 7 (ls ++ [splD 2 i])),(8,rD 41 0 1 3),(9,vI i),(42,vI many),(43,vI i),(46,vI 3),(47,vI 3)],[(41,[sD 2 q0,sD 2 q1,sD 2 (q2 ++ [aD (mlD 2 i)])])],[((41,some 2),(28,2,none)),((7,none),(30,7,none)),((41,some 1),(28,2,none)),((41,some 0),(28,2,none))]⟩) :
  Q31l8a ⟨[(0,vI 3),(2,sD 7 bs),(7,sD 7 ls),(8,rD 41 0 1 3),(9,vI i),(42,vI many),(43,vI i),(46,vI 3),(47,vI 2)],[(41,[sD 2 q0,sD 2 q1,sD 2 q2])],[((41,some 1),(28,2,none)),((7,none),(30,7,none)),((41,some 0),(28,2,none)),((41,some 2),(28,2,none))]⟩ (thn (Next J m) Q):=by
 have g1 : (2 : Int) < 3:=by decide
 have e1:=tmod2 i
 have e2 : IntKind.u8.wrap (i : Int) = (i : Int):=u8_small (by omega)
 have e3 : inR .i64 ((i % 2 : Nat) : Int) = true:=inR_of (by omega)
 have b1 : (ls.length + 1) * 72 ≤ 140737488355328:=by omega
 have b2 : (q2.length + 1) * 32 ≤ 140737488355328:=by omega
 have e4 : IntKind.u8.wrap (2 : Int) = 2:=by decide
 have e5 : ((2 : Int) == 0) = false:=by decide
 have e6 : ¬ (2 : Int) = 0:=by decide
 have e7 : inR .i64 3 = true:=by decide
 have e8 : (2 : Int) + 1 = 3:=by decide
 simp only [mlD,splD] at hnx
 refine wk (an12 @g1 @e1 @e2 @e3 @e4 @e5 @e6 @e7 @e8 @b1 @b2 @Int.cast_ofNat_Int) ?_
 exact hnx
open mth
theorem good_sizes {r : Rv} (h : GoodR r) : r.early.length ≤ 3 ∧ r.hold.length ≤ 43 ∧ r.told.length ≤ 43:=by
 have:=h.n; have:=h.t; have:=h.l
 omega
def CSayR (f : Nat) : Prop:=∀ r,GoodR r → Told Try.prog f [aD (encRv r)] [aD (encRv (sayR r).1),aD (encCh (sayR r).2.1),vB (sayR r).2.2]
def CHearR (f : Nat) : Prop:=∀ r c,GoodR r → wrongL c = 0 → Told Try.prog f [aD (encRv r),aD (encCh c)] [aD (encRv (hearR r c))]
def CLOwn (f : Nat) : Prop:=∀ l,GoodL l → Told Try.prog f [aD (encLn l)] [aD (encLn l)]
def CLSpeak (f : Nat) : Prop:=∀ l,GoodL l → Told Try.prog f [aD (encLn l)] [aD (encLn (speakL l))]
def CLStep (f : Nat) (kind : Int) : Prop:=∀ (l : Ln) (n : Int) (back : Bool),GoodL l → Told Try.prog f [aD (encLn l),vI n,vB back] [aD (encLn (packetL l kind n 0 back).1),vI (packetL l kind n 0 back).2]
def CLSpoil (f : Nat) : Prop:=∀ (l : Ln) (n k : Int) (back : Bool),GoodL l → Told Try.prog f [aD (encLn l),vI n,vI k,vB back] [aD (encLn (packetL l 6 n k back).1),vI (packetL l 6 n k back).2]
end Go.Proofs.Ytgaofjiidedcbad.ab
namespace Go.Proofs.Ytgaofjiidedcbad.mth
structure Made (l : List Ms) (cs : List Ch) : Prop where
 len : cs.length = l.length
 few : l.length ≤ 4
 right : ∀ c ∈ cs,c.kind = 1 ∧ wrongL c = 0
 num : ∀ c ∈ cs,0 ≤ c.number ∧ c.number < l.length
 one : ∀ a ∈ cs,∀ b ∈ cs,a.number = b.number → a = b
 all : ∀ n : Int,0 ≤ n → n < l.length → ∃ c ∈ cs,c.number = n
 two : ∀ a ∈ cs,∀ b ∈ cs,a.stream = b.stream → a.place = b.place → a = b
 low : ∀ a ∈ cs,∀ p : Int,0 ≤ p → p < a.place → ∃ b ∈ cs,b.stream = a.stream ∧ b.place = p
 put : ∀ a ∈ cs,(ofS l a.stream)[a.place.toNat]? = some ⟨a.stream,a.data⟩
def plD (d : Dr) (s : Int) : Int:=plc d.p0 d.p1 d.p2 s
structure DInv (l : List Ms) (cs : List Ch) (K : Ch → Prop) (d : Dr) : Prop where
 p : 0 ≤ d.p0 ∧ 0 ≤ d.p1 ∧ 0 ≤ d.p2
 a : ∀ y ∈ d.hold,y ∈ cs ∧ plD d y.stream ≤ y.place
 b : d.hold.Nodup
 t : ∀ s : Int,0 ≤ s → s ≤ 2 → ofS d.told s = (ofS l s).take (plD d s).toNat
 e : ∀ x ∈ cs,K x ↔ (x.place < plD d x.stream ∨ x ∈ d.hold)
theorem plD_step {d : Dr} {i : Nat} {x : Ch} (hs : x.stream = 0 ∨ x.stream = 1 ∨ x.stream = 2) {s : Int} (h : 0 ≤ s ∧ s ≤ 2) : plD (stepD d i x) s = if s = x.stream then plD d s + 1 else plD d s:=by
 unfold plD stepD plc
 simp only
 rcases hs with e | e | e <;> rw [e] <;> rcases (by omega : s = 0 ∨ s = 1 ∨ s = 2) with rfl | rfl | rfl <;> simp
theorem cut_mem {l : List Ch} {i : Nat} {x : Ch} (hx : l[i]? = some x) (hn : l.Nodup) (y : Ch) : y ∈ l.take i ++ l.drop (i + 1) ↔ y ∈ l ∧ y ≠ x:=by
 obtain ⟨hi,he⟩:=List.getElem?_eq_some_iff.1 hx
 have hl : l = l.take i ++ x :: l.drop (i + 1):=by
  rw [← he,← List.drop_eq_getElem_cons hi,List.take_append_drop]
 have hn':=hn
 rw [hl] at hn'
 have h1:=(List.nodup_append.1 hn').2.2
 have h2:=(List.nodup_cons.1 (List.nodup_append.1 hn').2.1).1
 constructor
 ·intro h
  rcases List.mem_append.1 h with q | q
  ·exact ⟨List.mem_of_mem_take q,fun e => h1 y q x (by simp) e⟩
  ·exact ⟨List.mem_of_mem_drop q,fun e => h2 (e ▸ q)⟩
 ·rintro ⟨h,hne⟩
  rw [hl] at h
  rcases List.mem_append.1 h with q | q
  ·exact List.mem_append_left _ q
  ·rcases List.mem_cons.1 q with q | q
   ·exact absurd q hne
   ·exact List.mem_append_right _ q
theorem cut_nodup {l : List Ch} {i : Nat} (hn : l.Nodup) : (l.take i ++ l.drop (i + 1)).Nodup:=by
 have : (l.take i ++ l.drop (i + 1)).Sublist l:=by
  rw [← List.eraseIdx_eq_take_drop_succ]
  exact List.eraseIdx_sublist l i
 exact hn.sublist this
theorem DInv.step {l : List Ms} {cs : List Ch} {K : Ch → Prop} {d : Dr} (hm : Made l cs) (h : DInv l cs K d) {i : Nat} {x : Ch} (hx : d.hold[i]? = some x) (hr : readyD d x = true) : DInv l cs K (stepD d i x):=by
 have hxm:=List.mem_of_getElem? hx
 have hxc:=(h.a x hxm).1
 have hw:=hm.right x hxc
 have hs:=stream3 (wrong_one hw.1 hw.2).2.2.2
 have hpl : x.place = plD d x.stream:=by simpa [readyD,plD] using hr
 have hstr : ∀ y ∈ cs,0 ≤ y.stream ∧ y.stream ≤ 2:=fun y hy => by
  have:=hm.right y hy
  have:=stream3 (wrong_one this.1 this.2).2.2.2
  omega
 have h0:=h.p
 have hmem:=cut_mem hx h.b
 have hp0 : 0 ≤ plD d x.stream:=by
  unfold plD plc
  split
  ·exact h0.1
  ·split
   ·exact h0.2.1
   ·exact h0.2.2
 refine ⟨?_,fun y hy => ?_,cut_nodup h.b,fun s s0 s2 => ?_,fun z hz => ?_⟩
 ·simp only [stepD]
  refine ⟨?_,?_,?_⟩ <;> split <;> omega
 ·obtain ⟨q1,q2⟩:=(hmem y).1 hy
  obtain ⟨a1,a2⟩:=h.a y q1
  refine ⟨a1,?_⟩
  rw [plD_step hs (hstr y a1)]
  split
  ·rename_i e
   have : y.place ≠ x.place:=fun e2 => q2 (hm.two y a1 x hxc e e2)
   rw [e] at a2 ⊢
   omega
  ·exact a2
 ·show ofS (d.told ++ [⟨x.stream,x.data⟩]) s = _
  rw [ofS_app,h.t s s0 s2,plD_step hs ⟨s0,s2⟩]
  by_cases e : s = x.stream
  ·subst e
   rw [if_pos rfl,show (plD d x.stream + 1).toNat = (plD d x.stream).toNat + 1 by omega,List.take_add_one]
   have:=hm.put x hxc
   rw [hpl] at this
   rw [this]
   simp [ofS]
  ·rw [if_neg e]
   have : (x.stream == s) = false:=by rw [beq_eq_false_iff_ne]; exact fun q => e q.symm
   simp [ofS,this]
 ·rw [h.e z hz,plD_step hs (hstr z hz)]
  show _ ↔ _ ∨ z ∈ d.hold.take i ++ d.hold.drop (i + 1)
  rw [hmem z]
  by_cases ez : z = x
  ·subst ez
   rw [if_pos rfl]
   constructor
   ·intro _; left; omega
   ·intro _; right; exact hxm
  ·by_cases e : z.stream = x.stream
   ·rw [if_pos e]
    have : z.place ≠ x.place:=fun e2 => ez (hm.two z hz x hxc e e2)
    rw [e] at *
    constructor
    ·rintro (q | q)
     ·left; omega
     ·right; exact ⟨q,ez⟩
    ·rintro (q | q)
     ·left; omega
     ·right; exact q.1
   ·rw [if_neg e]
    constructor
    ·rintro (q | q)
     ·left; exact q
     ·right; exact ⟨q,ez⟩
    ·rintro (q | q)
     ·left; exact q
     ·right; exact q.1
theorem find_some {l : List Ch} {p : Ch → Bool} {x : Ch} (h : l[l.findIdx p]? = some x) : p x = true:=by
 obtain ⟨hi,he⟩:=List.getElem?_eq_some_iff.1 h
 rw [← he]
 exact List.findIdx_getElem
theorem find_none {l : List Ch} {p : Ch → Bool} (h : l[l.findIdx p]? = none) : ∀ y ∈ l,p y = false:=by
 intro y hy
 have h1:=List.getElem?_eq_none_iff.1 h
 cases hp : p y with
 | false => rfl
 | true =>
  have:=List.findIdx_lt_length_of_exists ⟨y,hy,hp⟩
  omega
theorem DInv.drain {l : List Ms} {cs : List Ch} {K : Ch → Prop} (hm : Made l cs) : ∀ (f : Nat) {d : Dr},DInv l cs K d → d.hold.length ≤ f → DInv l cs K (drain f d) ∧ ∀ y ∈ (drain f d).hold,readyD (drain f d) y = false
 | 0,d,h,hf => by
  have : d.hold = []:=List.eq_nil_of_length_eq_zero (by omega)
  refine ⟨h,fun y hy => ?_⟩
  have hy : y ∈ d.hold:=hy
  rw [this] at hy
  cases hy
 | f + 1,d,h,hf => by
  unfold mth.drain
  split
  ·rename_i x hx
   refine DInv.drain hm f (h.step hm hx (find_some hx)) ?_
   have hi:=(List.getElem?_eq_some_iff.1 hx).1
   simp only [stepD,List.length_append,List.length_take,List.length_drop]
   omega
  ·rename_i hx
   exact ⟨h,find_none hx⟩
end Go.Proofs.Ytgaofjiidedcbad.mth
