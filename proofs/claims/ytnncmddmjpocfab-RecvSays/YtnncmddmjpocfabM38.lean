/-
  Several texts in one.
-/
import Derived.Test.YtnncmddmjpocfabM21
import Derived.Test.YtnncmddmjpocfabM37
import Derived.Test.YtnncmddmjpocfabProg

/-
  Functions as plain code (written by wip/abs/ir.py): recv.takes, recv.came;B+X, recv.tellDue$1, recv.tellDue;B+N100001, recv.Hear;E.
-/
namespace Go.Proofs.Ytnncmddmjpocfab.ab
set_option linter.unusedSimpArgs false
set_option linter.unusedVariables false
set_option maxRecDepth 100000
open Go Go.RowKit

def recv_takes_r0 : IC := cReg Try.prog [
    ⟨some 2, none, iBox 2 (.tmp 0)⟩,
    ⟨some 4, none, iMov 4 (.const (.bool false)) true⟩] [1, 2] [2]
def recv_takes_r1 : IC := cReg Try.prog [
    ⟨some 5, none, iMov 5 (.tmp 1) false⟩,
    ⟨some 6, none, iFad 6 0 (.tmp 2)⟩,
    ⟨some 7, none, iLoad 7 1 false (.tmp 6) false⟩,
    ⟨some 8, none, iBin 8 .lss (.tmp 5) (.tmp 7)⟩,
    ⟨some 9, none, iMov 9 (.tmp 8) false⟩,
    ⟨some 10, some (9, false), iFad 10 1 (.tmp 2)⟩,
    ⟨some 11, some (9, false), iLoad 11 1 false (.tmp 10) false⟩,
    ⟨some 12, some (9, false), iMov 12 (.tmp 1) false⟩,
    ⟨some 13, some (9, false), iCall 13 82 [(.tmp 11), (.tmp 12)]⟩,
    ⟨some 14, none, iPick 14 (.tmp 9) (.const (.bool true)) (.tmp 13)⟩] [1, 2, 14] [2]
def recv_takes_r2 : IC := cReg Try.prog [
    ⟨some 4, none, iMov 4 (.const (.bool false)) true⟩] [4] []
def recv_takes_c1a : IC := (cSeq recv_takes_r2 cRet)
def recv_takes_c1 : IC := cCond (.tmp 14) recv_takes_c1a cSkip
def recv_takes_r3 : IC := cReg Try.prog [
    ⟨some 15, none, iMov 15 (.tmp 1) false⟩,
    ⟨some 16, none, iFad 16 0 (.tmp 2)⟩,
    ⟨some 17, none, iLoad 17 1 false (.tmp 16) false⟩,
    ⟨some 18, none, iBin 18 .eql (.tmp 15) (.tmp 17)⟩,
    ⟨some 19, none, iMov 19 (.tmp 18) false⟩,
    ⟨some 20, some (19, false), iFad 20 1 (.tmp 2)⟩,
    ⟨some 21, some (19, false), iLoad 21 1 false (.tmp 20) false⟩,
    ⟨some 22, some (19, false), iLen 22 false (.tmp 21)⟩,
    ⟨some 23, some (19, false), iBin 23 .lss (.tmp 22) (.const (.int .i64 3))⟩,
    ⟨some 24, none, iPick 24 (.tmp 19) (.const (.bool true)) (.tmp 23)⟩,
    ⟨some 4, none, iMov 4 (.tmp 24) true⟩] [4] []
def recv_takes : IC := (cSeq recv_takes_r0 (cSeq (cSeq recv_takes_r1 recv_takes_c1) (cSeq recv_takes_r3 cRet)))
theorem told_recv_takes {args r : List D} (hl : args.length = 2) (h : recv_takes (start args) (fin [(4, none)] r)) : Told Try.prog 56 args r :=
  told_of follows Try.func56 rfl (an := [([], [1, 2], [2], []), ([], [1, 2, 14], [2], []), ([], [4], [], []), ([], [4], [], [])]) (by kernel_rfl) (by kernel_rfl) (by rw [hl]; decide +kernel) h

def recv_came_r0 : IC := cReg Try.prog [
    ⟨some 4, none, iAlo 4 [vD (.int .i64 0), vD (.slice none 0 0), vD (.int .i64 0), vD (.int .i64 0), vD (.int .i64 0), vD (.slice none 0 0), vD (.slice none 0 0), vD (.bool false)]⟩] [1, 2, 4] [2, 4]
def recv_came_r1_0 : IC := cLf Try.prog 2 1 8 9 1 10 83 11
def recv_came_r1_1 : IC := cReg Try.prog [
    ⟨some 7, none, iMov 7 (.tmp 11) false⟩,
    ⟨some 12, none, iExt 12 (.tmp 7) 0⟩,
    ⟨some 13, none, iExt 13 (.tmp 7) 1⟩,
    ⟨some 5, none, iMov 5 (.tmp 12) true⟩,
    ⟨some 6, none, iMov 6 (.tmp 13) true⟩] [1, 2, 4, 5] [2, 4]
def recv_came_r1 : IC := (cSeq recv_came_r1_0 recv_came_r1_1)
def recv_came_r2_0 : IC := cIns Try.prog 2 1 14 15 5 16 1 17 18 84 19
def recv_came_r2_1 : IC := cReg Try.prog [
    ⟨some 20, none, iFad 20 1 (.tmp 2)⟩,
    ⟨none, none, iStor 1 (.tmp 20) (.tmp 19)⟩] [2, 4] [2, 4]
def recv_came_r2 : IC := (cSeq recv_came_r2_0 recv_came_r2_1)
def recv_came_r3 : IC := cRegD Try.prog [
    ⟨some 21, none, iFad 21 1 (.tmp 2)⟩,
    ⟨some 22, none, iLoad 22 1 false (.tmp 21) false⟩,
    ⟨some 23, none, iLen 23 false (.tmp 22)⟩,
    ⟨some 24, none, iBin 24 .gtr (.tmp 23) (.const (.int .i64 0))⟩,
    ⟨some 25, none, iMov 25 (.tmp 24) false⟩,
    ⟨some 26, some (25, true), iFad 26 1 (.tmp 2)⟩,
    ⟨some 27, some (25, true), iLoad 27 1 false (.tmp 26) false⟩,
    ⟨some 28, some (25, true), iIaS 28 1 (.tmp 27) (.const (.int .i64 0))⟩,
    ⟨some 29, some (25, true), iLoad 29 1 false (.tmp 28) false⟩,
    ⟨some 30, some (25, true), iFad 30 0 (.tmp 2)⟩,
    ⟨some 31, some (25, true), iLoad 31 1 false (.tmp 30) false⟩,
    ⟨some 32, some (25, true), iBin 32 .eql (.tmp 29) (.tmp 31)⟩,
    ⟨some 33, none, iPick 33 (.tmp 25) (.tmp 32) (.const (.bool false))⟩] [[], [0], [1, 0], [2, 1, 0], [3, 2, 1, 0], [4, 3, 2, 1, 0], [5, 4, 3, 2, 1, 0], [6, 4, 5, 3, 2, 1, 0], [7, 4, 6, 5, 3, 2, 1, 0], [4, 3, 2, 1, 0], [9, 4, 3, 2, 1, 0], [8, 10, 4, 7, 6, 5, 3, 2, 1, 0, 9], [4, 11, 3, 2, 1, 0, 8, 10, 7, 6, 5, 9]] [2, 4, 33] [2, 4]
def recv_came_c3 : IC := cCond (.tmp 33) cSkip (cExit 0)
def recv_came_r4 : IC := cReg Try.prog [
    ⟨some 34, none, iFad 34 1 (.tmp 2)⟩,
    ⟨some 35, none, iLoad 35 1 false (.tmp 34) false⟩,
    ⟨some 36, none, iSlc 36 1 (.tmp 35) (some (.const (.int .i64 1))) none⟩,
    ⟨some 37, none, iFad 37 1 (.tmp 2)⟩,
    ⟨none, none, iStor 1 (.tmp 37) (.tmp 36)⟩] [2, 4] [2, 4]
def recv_came_r5 : IC := cReg Try.prog [
    ⟨some 38, none, iFad 38 0 (.tmp 2)⟩,
    ⟨some 39, none, iLoad 39 1 false (.tmp 38) false⟩,
    ⟨some 40, none, iBin 40 .add (.tmp 39) (.const (.int .i64 1))⟩,
    ⟨some 41, none, iFad 41 0 (.tmp 2)⟩,
    ⟨none, none, iStor 1 (.tmp 41) (.tmp 40)⟩] [2, 4] [2, 4]
def recv_came_b4 : IC := cBlock 1 (cSeq recv_came_r4 recv_came_r5)
def recv_came_l2a : IC := (cSeq (cSeq recv_came_r3 recv_came_c3) recv_came_b4)
def recv_came_l2 : IC := cLoop recv_came_l2a
def recv_came_b1 : IC := cBlock 0 recv_came_l2
def recv_came_r6_0 : IC := cCpX 2 4 42 8
def recv_came_r6_1 : IC := cReg Try.prog [] [4] [4]
def recv_came_r6 : IC := (cSeq recv_came_r6_0 recv_came_r6_1)
def recv_came : IC := cSeq recv_came_r0 (cSeq recv_came_r1 (cSeq recv_came_r2 (cSeq recv_came_b1 (cSeq recv_came_r6 cRet))))
theorem toldX_recv_came {cs ex rs : List D} {ri ro : List (Nat × Nat × Pay)} (hx : ex.length = 1) (hnd : (ri.map (·.1)).Nodup) (h : ∃ st1, Le ⟨(2, pD 2 0) :: startT (aD cs :: ex) 0, [(2, cs)], flOf 2 ri⟩ st1 ∧ recv_came st1 (fin1 (cellFin 4 8 rs ro))) : ToldX Try.prog 57 (aD cs :: ex) (upR ri) [aD rs] (upR ro) :=
  toldX_boxed follows Try.func57 rfl rfl rfl rfl rfl (by rw [hx]; decide +kernel) (rw := []) (cuts := []) (lv := [1, 2, 4]) (lb := [2, 4]) (an := [([(9004, [], [])], [1, 2, 4, 5], [2, 4], []), ([(11006, [], [])], [2, 4], [2, 4], []), ([], [2, 4, 33], [2, 4], []), ([], [2, 4], [2, 4], []), ([], [2, 4], [2, 4], []), ([(8002, [], [])], [4], [4], [])]) (by kernel_rfl) (by kernel_rfl) (by decide +kernel) hnd h
    (fun _ _ _ _ _ _ _ _ ⟨_, _, h1, h2, h3, h4, h5, h6⟩ hr => cell_out rfl (by kernel_rfl) (by kernel_rfl) h1 h2 h3 h4 h5 h6 hr)

def recv_tellDueS1_r0 : IC := cReg Try.prog [
    ⟨some 2, none, iBox 2 (.tmp 0)⟩,
    ⟨some 3, none, iMov 3 (.const (.bool false)) true⟩] [1, 2] [2]
def recv_tellDueS1_r1 : IC := cRegD Try.prog [
    ⟨some 4, none, iFad 4 3 (.tmp 2)⟩,
    ⟨some 5, none, iLoad 5 1 false (.tmp 4) false⟩,
    ⟨some 6, none, iFad 6 2 (.tmp 2)⟩,
    ⟨some 7, none, iLoad 7 1 false (.tmp 6) false⟩,
    ⟨some 8, none, iFad 8 2 (.tmp 1)⟩,
    ⟨some 9, none, iIaA 9 3 1 (.tmp 8) (.tmp 7)⟩,
    ⟨some 10, none, iLoad 10 1 false (.tmp 9) false⟩,
    ⟨some 11, none, iBin 11 .eql (.tmp 5) (.tmp 10)⟩,
    ⟨some 3, none, iMov 3 (.tmp 11) true⟩] [[], [0], [], [2], [], [4, 3, 2], [5, 4, 3, 2], [1, 6, 0, 5, 4, 3, 2], [7, 0, 1, 2, 3, 4, 5, 6]] [3] []
def recv_tellDueS1 : IC := (cSeq recv_tellDueS1_r0 (cSeq recv_tellDueS1_r1 cRet))
theorem told_recv_tellDueS1 {args r : List D} (hl : args.length = 2) (h : recv_tellDueS1 (start args) (fin [(3, none)] r)) : Told Try.prog 85 args r :=
  told_of follows Try.func85 rfl (an := [([], [1, 2], [2], []), ([], [3], [], [])]) (by kernel_rfl) (by kernel_rfl) (by rw [hl]; decide +kernel) h

def recv_tellDue_r0 : IC := cReg Try.prog [
    ⟨some 2, none, iAlo 2 [vD (.int .i64 0), vD (.slice none 0 0), vD (.int .i64 0), vD (.int .i64 0), vD (.int .i64 0), vD (.slice none 0 0), vD (.slice none 0 0), vD (.bool false)]⟩] [1, 2] [1, 2, 100001]
def recv_tellDue_r1 : IC := cReg Try.prog [
    ⟨some 6, none, iMkf 6 85 1⟩,
    ⟨some 3, none, iMov 3 (.tmp 6) true⟩] [1, 2, 3] [1, 2, 100001]
def recv_tellDue_r2 : IC := cReg Try.prog [
    ⟨some 7, none, iFad 7 5 (.tmp 1)⟩,
    ⟨some 8, none, iLoad 8 1 false (.tmp 7) false⟩,
    ⟨some 9, none, iMov 9 (.tmp 3) false⟩,
    ⟨some 10, none, iCallL 10 86 [(.tmp 8), (.tmp 9)]⟩,
    ⟨some 4, none, iMov 4 (.tmp 10) true⟩] [1, 2, 3, 4] [1, 2, 100001]
def recv_tellDue_r3 : IC := cReg Try.prog [
    ⟨some 11, none, iMov 11 (.tmp 4) false⟩,
    ⟨some 12, none, iBin 12 .geq (.tmp 11) (.const (.int .i64 0))⟩] [1, 2, 3, 4, 12] [1, 2, 100001]
def recv_tellDue_c3 : IC := cCond (.tmp 12) cSkip (cExit 0)
def recv_tellDue_r5 : IC := cReg Try.prog [
    ⟨some 17, none, iFad 17 5 (.tmp 1)⟩,
    ⟨some 18, none, iLoad 18 1 false (.tmp 17) false⟩,
    ⟨some 19, none, iMov 19 (.tmp 4) false⟩,
    ⟨some 20, none, iIaS 20 6 (.tmp 18) (.tmp 19)⟩,
    ⟨some 21, none, iLoad 21 6 true (.tmp 20) false⟩,
    ⟨some 5, none, iAlo 5 [vD (.int .i64 0), vD (.int .i64 0), vD (.int .i64 0), vD (.int .i64 0), vD (.slice none 0 0), vD (.slice none 0 0)]⟩,
    ⟨none, none, iStor 6 (.tmp 5) (.tmp 21)⟩] [1, 2, 3, 4, 5] [1, 2, 5, 100001]
def recv_tellDue_r6 : IC := cReg Try.prog [
    ⟨some 22, none, iFad 22 5 (.tmp 1)⟩,
    ⟨some 23, none, iLoad 23 1 false (.tmp 22) false⟩,
    ⟨some 24, none, iMov 24 (.tmp 4) false⟩,
    ⟨some 25, none, iMov 25 (.tmp 4) false⟩,
    ⟨some 26, none, iBin 26 .add (.tmp 25) (.const (.int .i64 1))⟩,
    ⟨some 27, none, iCallL 27 87 [(.tmp 23), (.tmp 24), (.tmp 26)]⟩,
    ⟨some 28, none, iFad 28 5 (.tmp 1)⟩,
    ⟨none, none, iStor 1 (.tmp 28) (.tmp 27)⟩] [1, 2, 3, 5] [1, 2, 5, 100001]
def recv_tellDue_r7 : IC := cReg Try.prog [
    ⟨some 29, none, iFad 29 6 (.tmp 1)⟩,
    ⟨some 30, none, iLoad 30 1 false (.tmp 29) true⟩,
    ⟨some 31, none, iFad 31 2 (.tmp 5)⟩,
    ⟨some 32, none, iLoad 32 1 false (.tmp 31) false⟩,
    ⟨some 33, none, iFad 33 4 (.tmp 5)⟩,
    ⟨some 34, none, iLoad 34 1 false (.tmp 33) false⟩,
    ⟨some 35, none, iBld 35 [vD (.int .i64 0), vD (.slice none 0 0)] [(0, 1), (1, 1)] [(.tmp 32), (.tmp 34)]⟩,
    ⟨some 36, none, iRow 36 53 2 [(.tmp 35)]⟩,
    ⟨some 37, none, iApp 37 53 2 32 (.tmp 30) (.tmp 36)⟩,
    ⟨some 38, none, iFad 38 6 (.tmp 1)⟩,
    ⟨none, none, iStor 1 (.tmp 38) (.tmp 37)⟩] [1, 2, 3, 5] [1, 2, 5, 100001]
def recv_tellDue_r8 : IC := cReg Try.prog [
    ⟨some 39, none, iFad 39 2 (.tmp 5)⟩,
    ⟨some 40, none, iLoad 40 1 false (.tmp 39) false⟩,
    ⟨some 41, none, iFad 41 2 (.tmp 1)⟩,
    ⟨some 42, none, iIaA 42 3 1 (.tmp 41) (.tmp 40)⟩,
    ⟨some 43, none, iLoad 43 1 false (.tmp 42) false⟩,
    ⟨some 44, none, iBin 44 .add (.tmp 43) (.const (.int .i64 1))⟩,
    ⟨some 45, none, iFad 45 2 (.tmp 1)⟩,
    ⟨some 46, none, iIaA 46 3 1 (.tmp 45) (.tmp 40)⟩,
    ⟨none, none, iStor 1 (.tmp 46) (.tmp 44)⟩] [1, 2, 3] [1, 2, 100001]
def recv_tellDue_b4 : IC := cBlock 1 (cSeq recv_tellDue_r5 (cSeq recv_tellDue_r6 (cSeq recv_tellDue_r7 recv_tellDue_r8)))
def recv_tellDue_r4 : IC := cReg Try.prog [
    ⟨some 13, none, iFad 13 5 (.tmp 1)⟩,
    ⟨some 14, none, iLoad 14 1 false (.tmp 13) false⟩,
    ⟨some 15, none, iMov 15 (.tmp 3) false⟩,
    ⟨some 16, none, iCallL 16 86 [(.tmp 14), (.tmp 15)]⟩,
    ⟨some 4, none, iMov 4 (.tmp 16) true⟩] [1, 2, 3, 4] [1, 2, 100001]
def recv_tellDue_l2a : IC := (cSeq (cSeq recv_tellDue_r3 recv_tellDue_c3) (cSeq recv_tellDue_b4 recv_tellDue_r4))
def recv_tellDue_l2 : IC := cLoop recv_tellDue_l2a
def recv_tellDue_b1 : IC := cBlock 0 recv_tellDue_l2
def recv_tellDue_r9_0 : IC := cReg Try.prog [] [1, 2] [1, 2]
def recv_tellDue_r9_1 : IC := cReg Try.prog [
    ⟨some 47, none, iLoad 47 8 true (.tmp 1) false⟩,
    ⟨none, none, iStor 8 (.tmp 2) (.tmp 47)⟩] [2] [2]
def recv_tellDue_r9 : IC := (cSeq recv_tellDue_r9_0 recv_tellDue_r9_1)
def recv_tellDue : IC := cSeq recv_tellDue_r0 (cSeq recv_tellDue_r1 (cSeq (cSeq recv_tellDue_r2 recv_tellDue_b1) (cSeq recv_tellDue_r9 cRet)))
theorem toldX_recv_tellDue {cs ex rs : List D} {ri ro : List (Nat × Nat × Pay)} (hx : ex.length = 0) (hnd : (ri.map (·.1)).Nodup) (h : ∃ st1, Le ⟨(1, pD 1 0) :: startT (aD cs :: ex) 0, [(1, cs)], flOf 1 ri⟩ st1 ∧ recv_tellDue st1 (fin1 (cellFin 2 8 rs ro))) : ToldX Try.prog 58 (aD cs :: ex) (upR ri) [aD rs] (upR ro) :=
  toldX_boxed follows Try.func58 rfl rfl rfl rfl rfl (by rw [hx]; decide +kernel) (rw := []) (cuts := []) (lv := [1, 2]) (lb := [1, 2, 100001]) (an := [([], [1, 2, 3], [1, 2, 100001], []), ([], [1, 2, 3, 4], [1, 2, 100001], [10]), ([], [1, 2, 3, 4, 12], [1, 2, 100001], []), ([], [1, 2, 3, 4, 5], [1, 2, 5, 100001], []), ([], [1, 2, 3, 5], [1, 2, 5, 100001], [27]), ([], [1, 2, 3, 5], [1, 2, 5, 100001], []), ([], [1, 2, 3], [1, 2, 100001], []), ([], [1, 2, 3, 4], [1, 2, 100001], [16]), ([(0, [1, 2], [1, 2])], [2], [2], [])]) (by kernel_rfl) (by kernel_rfl) (by decide +kernel) hnd h
    (fun _ _ _ _ _ _ _ _ ⟨_, _, h1, h2, h3, h4, h5, h6⟩ hr => cell_out rfl (by kernel_rfl) (by kernel_rfl) h1 h2 h3 h4 h5 h6 hr)

def recv_Hear_r0 : IC := cReg Try.prog [
    ⟨some 2, none, iBox 2 (.tmp 0)⟩,
    ⟨some 3, none, iBox 3 (.tmp 1)⟩,
    ⟨some 4, none, iAlo 4 [vD (.int .i64 0), vD (.slice none 0 0), vD (.int .i64 0), vD (.int .i64 0), vD (.int .i64 0), vD (.slice none 0 0), vD (.slice none 0 0), vD (.bool false)]⟩] [2, 3, 4] [2, 3, 4]
def recv_Hear_r1_0 : IC := cXs Try.prog 2 5 6 21 8 none
def recv_Hear_r1_1 : IC := cReg Try.prog [] [2, 3, 4] [2, 3, 4]
def recv_Hear_r1 : IC := (cSeq recv_Hear_r1_0 recv_Hear_r1_1)
def recv_Hear_r2 : IC := cReg Try.prog [
    ⟨some 7, none, iFad 7 0 (.tmp 3)⟩,
    ⟨some 8, none, iLoad 8 1 false (.tmp 7) false⟩,
    ⟨some 9, none, iBin 9 .neq (.tmp 8) (.const (.int .i64 1))⟩] [2, 3, 4, 9] [2, 3, 4]
def recv_Hear_r3_0 : IC := cLe
def recv_Hear_r3_1 : IC := cReg Try.prog [
    ⟨some 10, none, iLoad 10 8 true (.tmp 2) false⟩,
    ⟨none, none, iStor 8 (.tmp 4) (.tmp 10)⟩] [4] [4]
def recv_Hear_r3 : IC := (cSeq recv_Hear_r3_0 recv_Hear_r3_1)
def recv_Hear_c1a : IC := (cSeq recv_Hear_r3 cRet)
def recv_Hear_c1 : IC := cCond (.tmp 9) recv_Hear_c1a cSkip
def recv_Hear_r4 : IC := cReg Try.prog [
    ⟨some 11, none, iFad 11 7 (.tmp 2)⟩,
    ⟨none, none, iStor 1 (.tmp 11) (.const (.bool true))⟩] [2, 3, 4] [2, 3, 4]
def recv_Hear_r5_0 : IC := cLn Try.prog 2 12 15 56 8 (some (3, 1, 13, 14))
def recv_Hear_r5_1 : IC := cReg Try.prog [
    ⟨some 16, none, iNot 16 (.tmp 15)⟩] [2, 3, 4, 16] [2, 3, 4]
def recv_Hear_r5 : IC := (cSeq recv_Hear_r5_0 recv_Hear_r5_1)
def recv_Hear_r6_0 : IC := cLe
def recv_Hear_r6_1 : IC := cReg Try.prog [
    ⟨some 17, none, iLoad 17 8 true (.tmp 2) false⟩,
    ⟨none, none, iStor 8 (.tmp 4) (.tmp 17)⟩] [4] [4]
def recv_Hear_r6 : IC := (cSeq recv_Hear_r6_0 recv_Hear_r6_1)
def recv_Hear_c2a : IC := (cSeq recv_Hear_r6 cRet)
def recv_Hear_c2 : IC := cCond (.tmp 16) recv_Hear_c2a cSkip
def recv_Hear_r7_0 : IC := cXs Try.prog 2 18 21 57 8 (some (3, 1, 19, 20))
def recv_Hear_r7_1 : IC := cReg Try.prog [] [2, 3, 4] [2, 3, 4]
def recv_Hear_r7 : IC := (cSeq recv_Hear_r7_0 recv_Hear_r7_1)
def recv_Hear_r8 : IC := cRegD Try.prog [
    ⟨some 22, none, iFad 22 5 (.tmp 2)⟩,
    ⟨some 23, none, iLoad 23 1 false (.tmp 22) true⟩,
    ⟨some 24, none, iLoad 24 6 true (.tmp 3) false⟩,
    ⟨some 25, none, iCall 25 48 [(.tmp 24)]⟩,
    ⟨some 26, none, iRow 26 32 6 [(.tmp 25)]⟩,
    ⟨some 27, none, iApp 27 32 6 80 (.tmp 23) (.tmp 26)⟩,
    ⟨some 28, none, iFad 28 5 (.tmp 2)⟩,
    ⟨none, none, iStor 1 (.tmp 28) (.tmp 27)⟩] [[], [0], [], [2], [3, 2], [1, 4, 3, 0, 2], [0, 1, 2, 3, 4, 5], [6, 5, 0, 1, 2, 3, 4]] [2, 4] [2, 4]
def recv_Hear_r9_0 : IC := cXn Try.prog 2 29 30 58 8 none
def recv_Hear_r9_1 : IC := cReg Try.prog [
    ⟨none, none, iStor 8 (.tmp 4) (.tmp 30)⟩] [4] [4]
def recv_Hear_r9 : IC := (cSeq recv_Hear_r9_0 recv_Hear_r9_1)
def recv_Hear : IC := (cSeq recv_Hear_r0 (cSeq recv_Hear_r1 (cSeq (cSeq recv_Hear_r2 recv_Hear_c1) (cSeq recv_Hear_r4 (cSeq (cSeq recv_Hear_r5 recv_Hear_c2) (cSeq recv_Hear_r7 (cSeq recv_Hear_r8 (cSeq recv_Hear_r9 cRet))))))))
theorem told_recv_Hear {args r : List D} (hl : args.length = 2) (h : recv_Hear (start args) (fin [(4, some (8, true))] r)) : Told Try.prog 22 args r :=
  told_of follows Try.func22 rfl (an := [([], [2, 3, 4], [2, 3, 4], []), ([(4003, [], [])], [2, 3, 4], [2, 3, 4], []), ([], [2, 3, 4, 9], [2, 3, 4], []), ([(12000, [], [])], [4], [4], []), ([], [2, 3, 4], [2, 3, 4], []), ([(7004, [], [])], [2, 3, 4, 16], [2, 3, 4], []), ([(12000, [], [])], [4], [4], []), ([(5005, [], [])], [2, 3, 4], [2, 3, 4], []), ([], [2, 4], [2, 4], []), ([(6002, [], [])], [4], [4], [])]) (by kernel_rfl) (by kernel_rfl) (by rw [hl]; decide +kernel) h

end Go.Proofs.Ytnncmddmjpocfab.ab

/-
  Functions as plain code (written by wip/abs/ir.py): recv.Own, recv.Own=recv_OwnX;X+Z+H5.
-/
namespace Go.Proofs.Ytnncmddmjpocfab.ab
set_option linter.unusedSimpArgs false
set_option linter.unusedVariables false
set_option maxRecDepth 100000
open Go Go.RowKit

def recv_Own_r0 : IC := cReg Try.prog [
    ⟨some 1, none, iBox 1 (.tmp 0)⟩,
    ⟨some 2, none, iAlo 2 [vD (.int .i64 0), vD (.slice none 0 0), vD (.int .i64 0), vD (.int .i64 0), vD (.int .i64 0), vD (.slice none 0 0), vD (.slice none 0 0), vD (.bool false)]⟩] [1, 2] [1, 2]
def recv_Own_r1 : IC := cReg Try.prog [
    ⟨some 3, none, iFad 3 1 (.tmp 1)⟩,
    ⟨some 4, none, iLoad 4 1 false (.tmp 3) false⟩,
    ⟨some 5, none, iApp 5 3 1 8 (.const (.slice none 0 0)) (.tmp 4)⟩,
    ⟨some 6, none, iFad 6 1 (.tmp 1)⟩,
    ⟨none, none, iStor 1 (.tmp 6) (.tmp 5)⟩] [1, 2] [1, 2]
def recv_Own_r2 : IC := cReg Try.prog [
    ⟨some 7, none, iFad 7 5 (.tmp 1)⟩,
    ⟨some 8, none, iLoad 8 1 false (.tmp 7) false⟩,
    ⟨some 9, none, iCall 9 53 [(.tmp 8), (.func 48)]⟩,
    ⟨some 10, none, iFad 10 5 (.tmp 1)⟩,
    ⟨none, none, iStor 1 (.tmp 10) (.tmp 9)⟩] [1, 2] [1, 2]
def recv_Own_r3 : IC := cReg Try.prog [
    ⟨some 11, none, iFad 11 6 (.tmp 1)⟩,
    ⟨some 12, none, iLoad 12 1 false (.tmp 11) false⟩,
    ⟨some 13, none, iCall 13 54 [(.tmp 12), (.func 55)]⟩,
    ⟨some 14, none, iFad 14 6 (.tmp 1)⟩,
    ⟨none, none, iStor 1 (.tmp 14) (.tmp 13)⟩] [1, 2] [1, 2]
def recv_Own_r4 : IC := cReg Try.prog [
    ⟨some 15, none, iLoad 15 8 true (.tmp 1) false⟩,
    ⟨none, none, iStor 8 (.tmp 2) (.tmp 15)⟩] [2] [2]
def recv_Own : IC := (cSeq recv_Own_r0 (cSeq recv_Own_r1 (cSeq recv_Own_r2 (cSeq recv_Own_r3 (cSeq recv_Own_r4 cRet)))))
theorem told_recv_Own {args r : List D} (hl : args.length = 1) (h : recv_Own (start args) (fin [(2, some (8, true))] r)) : Told Try.prog 21 args r :=
  told_of follows Try.func21 rfl (an := [([], [1, 2], [1, 2], []), ([], [1, 2], [1, 2], []), ([], [1, 2], [1, 2], []), ([], [1, 2], [1, 2], []), ([], [2], [2], [])]) (by kernel_rfl) (by kernel_rfl) (by rw [hl]; decide +kernel) h

def recv_OwnX_r0 : IC := cReg Try.prog [
    ⟨some 1, none, iBox 1 (.tmp 0)⟩,
    ⟨some 2, none, iAlo 2 [vD (.int .i64 0), vD (.slice none 0 0), vD (.int .i64 0), vD (.int .i64 0), vD (.int .i64 0), vD (.slice none 0 0), vD (.slice none 0 0), vD (.bool false)]⟩] [1, 2] [1, 2]
def recv_OwnX_r1 : IC := cReg Try.prog [
    ⟨some 3, none, iFad 3 1 (.tmp 1)⟩,
    ⟨some 4, none, iLoad 4 1 false (.tmp 3) false⟩,
    ⟨some 5, none, iAppH 5 3 1 8 (.const (.slice none 0 0)) (.tmp 4)⟩,
    ⟨some 6, none, iFad 6 1 (.tmp 1)⟩,
    ⟨none, none, iStor 1 (.tmp 6) (.tmp 5)⟩] [1, 2] [1, 2]
def recv_OwnX_r2 : IC := cReg Try.prog [
    ⟨some 7, none, iFad 7 5 (.tmp 1)⟩,
    ⟨some 8, none, iLoad 8 1 false (.tmp 7) false⟩,
    ⟨some 9, none, iCall 9 53 [(.tmp 8), (.func 48)]⟩,
    ⟨some 10, none, iFad 10 5 (.tmp 1)⟩,
    ⟨none, none, iStor 1 (.tmp 10) (.tmp 9)⟩] [1, 2] [1, 2]
def recv_OwnX_r3 : IC := cReg Try.prog [
    ⟨some 11, none, iFad 11 6 (.tmp 1)⟩,
    ⟨some 12, none, iLoad 12 1 false (.tmp 11) false⟩,
    ⟨some 13, none, iCall 13 54 [(.tmp 12), (.func 55)]⟩,
    ⟨some 14, none, iFad 14 6 (.tmp 1)⟩,
    ⟨none, none, iStor 1 (.tmp 14) (.tmp 13)⟩] [1, 2] [1, 2]
def recv_OwnX_r4_0 : IC := cCpX 1 2 15 8
def recv_OwnX_r4_1 : IC := cReg Try.prog [] [2] [2]
def recv_OwnX_r4 : IC := (cSeq recv_OwnX_r4_0 recv_OwnX_r4_1)
def recv_OwnX : IC := (cSeq recv_OwnX_r0 (cSeq recv_OwnX_r1 (cSeq recv_OwnX_r2 (cSeq recv_OwnX_r3 (cSeq recv_OwnX_r4 cRet)))))
theorem toldX_recv_OwnX {args rs : List D} {ro : List (Nat × Nat × Pay)} (hl : args.length = 1) (h : recv_OwnX (start args) (fin1 (cellFin 2 8 rs ro))) : ToldX Try.prog 21 args [] [aD rs] (upR ro) :=
  toldX_out follows Try.func21 rfl (an := [([], [1, 2], [1, 2], []), ([], [1, 2], [1, 2], [1000005]), ([], [1, 2], [1, 2], []), ([], [1, 2], [1, 2], []), ([(8002, [], [])], [2], [2], [])]) (by kernel_rfl) rfl (by kernel_rfl) (by kernel_rfl) (by rw [hl]; decide +kernel) h

end Go.Proofs.Ytnncmddmjpocfab.ab

/-
  Functions as plain code (written by wip/abs/ir.py): chunk.OwnMsg, chunk.Own, list.Own[lanekeeper/api.Msg]=list_OwnM;O, list.Own[lanekeeper/api.Chunk]=list_OwnC;O, send.Own, send.Own=send_OwnO;C.
-/
namespace Go.Proofs.Ytnncmddmjpocfab.ab
set_option linter.unusedSimpArgs false
set_option linter.unusedVariables false
set_option maxRecDepth 100000
open Go Go.RowKit

def chunk_OwnMsg_r0 : IC := cReg Try.prog [
    ⟨some 1, none, iBox 1 (.tmp 0)⟩,
    ⟨some 2, none, iAlo 2 [vD (.int .i64 0), vD (.slice none 0 0)]⟩] [1, 2] [1, 2]
def chunk_OwnMsg_r1 : IC := cReg Try.prog [
    ⟨some 3, none, iFad 3 1 (.tmp 1)⟩,
    ⟨some 4, none, iLoad 4 1 false (.tmp 3) false⟩,
    ⟨some 5, none, iApp 5 5 1 1 (.const (.slice none 0 0)) (.tmp 4)⟩,
    ⟨some 6, none, iFad 6 1 (.tmp 1)⟩,
    ⟨none, none, iStor 1 (.tmp 6) (.tmp 5)⟩] [1, 2] [1, 2]
def chunk_OwnMsg_r2 : IC := cReg Try.prog [
    ⟨some 7, none, iLoad 7 2 true (.tmp 1) false⟩,
    ⟨none, none, iStor 2 (.tmp 2) (.tmp 7)⟩] [2] [2]
def chunk_OwnMsg : IC := (cSeq chunk_OwnMsg_r0 (cSeq chunk_OwnMsg_r1 (cSeq chunk_OwnMsg_r2 cRet)))
theorem told_chunk_OwnMsg {args r : List D} (hl : args.length = 1) (h : chunk_OwnMsg (start args) (fin [(2, some (2, true))] r)) : Told Try.prog 55 args r :=
  told_of follows Try.func55 rfl (an := [([], [1, 2], [1, 2], []), ([], [1, 2], [1, 2], []), ([], [2], [2], [])]) (by kernel_rfl) (by kernel_rfl) (by rw [hl]; decide +kernel) h

def chunk_Own_r0 : IC := cReg Try.prog [
    ⟨some 1, none, iBox 1 (.tmp 0)⟩,
    ⟨some 2, none, iAlo 2 [vD (.int .i64 0), vD (.int .i64 0), vD (.int .i64 0), vD (.int .i64 0), vD (.slice none 0 0), vD (.slice none 0 0)]⟩] [1, 2] [1, 2]
def chunk_Own_r1 : IC := cReg Try.prog [
    ⟨some 3, none, iFad 3 4 (.tmp 1)⟩,
    ⟨some 4, none, iLoad 4 1 false (.tmp 3) false⟩,
    ⟨some 5, none, iApp 5 5 1 1 (.const (.slice none 0 0)) (.tmp 4)⟩,
    ⟨some 6, none, iFad 6 4 (.tmp 1)⟩,
    ⟨none, none, iStor 1 (.tmp 6) (.tmp 5)⟩] [1, 2] [1, 2]
def chunk_Own_r2 : IC := cReg Try.prog [
    ⟨some 7, none, iFad 7 5 (.tmp 1)⟩,
    ⟨some 8, none, iLoad 8 1 false (.tmp 7) false⟩,
    ⟨some 9, none, iApp 9 3 1 8 (.const (.slice none 0 0)) (.tmp 8)⟩,
    ⟨some 10, none, iFad 10 5 (.tmp 1)⟩,
    ⟨none, none, iStor 1 (.tmp 10) (.tmp 9)⟩] [1, 2] [1, 2]
def chunk_Own_r3 : IC := cReg Try.prog [
    ⟨some 11, none, iLoad 11 6 true (.tmp 1) false⟩,
    ⟨none, none, iStor 6 (.tmp 2) (.tmp 11)⟩] [2] [2]
def chunk_Own : IC := (cSeq chunk_Own_r0 (cSeq chunk_Own_r1 (cSeq chunk_Own_r2 (cSeq chunk_Own_r3 cRet))))
theorem told_chunk_Own {args r : List D} (hl : args.length = 1) (h : chunk_Own (start args) (fin [(2, some (6, true))] r)) : Told Try.prog 48 args r :=
  told_of follows Try.func48 rfl (an := [([], [1, 2], [1, 2], []), ([], [1, 2], [1, 2], []), ([], [1, 2], [1, 2], []), ([], [2], [2], [])]) (by kernel_rfl) (by kernel_rfl) (by rw [hl]; decide +kernel) h

def list_OwnM_r0 : IC := cReg Try.prog [
    ⟨some 4, none, iMov 4 (.const (.slice none 0 0)) true⟩] [0, 1] []
def list_OwnM_r1 : IC := cReg Try.prog [
    ⟨some 5, none, iMov 5 (.const (.slice none 0 0)) true⟩] [0, 1, 5] []
def list_OwnM_r2 : IC := cReg Try.prog [
    ⟨some 8, none, iMov 8 (.tmp 0) false⟩,
    ⟨some 9, none, iLen 9 false (.tmp 8)⟩,
    ⟨some 10, none, iMov 10 (.const (.int .i64 0)) false⟩] [1, 5, 8, 9, 10] []
def list_OwnM_r3 : IC := cReg Try.prog [
    ⟨some 11, none, iBin 11 .lss (.tmp 10) (.tmp 9)⟩] [1, 5, 8, 9, 10, 11] []
def list_OwnM_c3 : IC := cCond (.tmp 11) cSkip (cExit 0)
def list_OwnM_r4 : IC := cReg Try.prog [
    ⟨some 12, none, iIaS 12 2 (.tmp 8) (.tmp 10)⟩,
    ⟨some 13, none, iLoad 13 2 true (.tmp 12) false⟩,
    ⟨some 7, none, iAlo 7 [vD (.int .i64 0), vD (.slice none 0 0)]⟩,
    ⟨none, none, iStor 2 (.tmp 7) (.tmp 13)⟩] [1, 5, 7, 8, 9, 10] [7]
def list_OwnM_r5 : IC := cReg Try.prog [
    ⟨some 14, none, iMov 14 (.tmp 5) true⟩,
    ⟨some 15, none, iMov 15 (.tmp 1) false⟩,
    ⟨some 16, none, iLoad 16 2 true (.tmp 7) false⟩,
    ⟨some 17, none, iCallV 17 Try.prog 15 [(.tmp 16)]⟩,
    ⟨some 18, none, iRow 18 53 2 [(.tmp 17)]⟩,
    ⟨some 19, none, iApp 19 53 2 32 (.tmp 14) (.tmp 18)⟩,
    ⟨some 5, none, iMov 5 (.tmp 19) true⟩] [1, 5, 8, 9, 10] []
def list_OwnM_b4 : IC := cBlock 1 (cSeq list_OwnM_r4 list_OwnM_r5)
def list_OwnM_r6 : IC := cReg Try.prog [
    ⟨some 20, none, iBin 20 .add (.tmp 10) (.const (.int .i64 1))⟩,
    ⟨some 10, none, iMov 10 (.tmp 20) false⟩] [1, 5, 8, 9, 10] []
def list_OwnM_l2a : IC := (cSeq list_OwnM_r3 (cSeq list_OwnM_c3 (cSeq list_OwnM_b4 list_OwnM_r6)))
def list_OwnM_l2 : IC := cLoop list_OwnM_l2a
def list_OwnM_b1 : IC := cBlock 0 list_OwnM_l2
def list_OwnM_r7 : IC := cReg Try.prog [
    ⟨some 21, none, iMov 21 (.tmp 5) true⟩,
    ⟨some 4, none, iMov 4 (.tmp 21) true⟩] [4] []
def list_OwnM : IC := (cSeq list_OwnM_r0 (cSeq list_OwnM_r1 (cSeq (cSeq list_OwnM_r2 list_OwnM_b1) (cSeq list_OwnM_r7 cRet))))
theorem toldO_list_OwnM {args : List D} {r : D} {e : Nat} {z : Pay} (hl : args.length = 2) (h : list_OwnM (start args) (fin1 fun st => ∃ r', look st.tm 4 = some r' ∧ isC r' = true ∧ CVLe r' r ∧ lookF st.fl (4, none) = some (e, z))) : ToldO Try.prog 54 args [r] none e z :=
  toldO_slot follows Try.func54 rfl (an := [([], [0, 1], [], []), ([], [0, 1, 5], [], []), ([], [1, 5, 8, 9, 10], [], []), ([], [1, 5, 8, 9, 10, 11], [], []), ([], [1, 5, 7, 8, 9, 10], [7], []), ([], [1, 5, 8, 9, 10], [], []), ([], [1, 5, 8, 9, 10], [], []), ([], [4], [], [21])]) (by kernel_rfl) rfl (by rw [hl]; decide +kernel) h
theorem told_list_OwnM {args r : List D} (hl : args.length = 2) (h : list_OwnM (start args) (fin [(4, none)] r)) : Told Try.prog 54 args r :=
  told_of follows Try.func54 rfl (an := [([], [0, 1], [], []), ([], [0, 1, 5], [], []), ([], [1, 5, 8, 9, 10], [], []), ([], [1, 5, 8, 9, 10, 11], [], []), ([], [1, 5, 7, 8, 9, 10], [7], []), ([], [1, 5, 8, 9, 10], [], []), ([], [1, 5, 8, 9, 10], [], []), ([], [4], [], [21])]) (by kernel_rfl) (by kernel_rfl) (by rw [hl]; decide +kernel) h

def list_OwnC_r0 : IC := cReg Try.prog [
    ⟨some 4, none, iMov 4 (.const (.slice none 0 0)) true⟩] [0, 1] []
def list_OwnC_r1 : IC := cReg Try.prog [
    ⟨some 5, none, iMov 5 (.const (.slice none 0 0)) true⟩] [0, 1, 5] []
def list_OwnC_r2 : IC := cReg Try.prog [
    ⟨some 8, none, iMov 8 (.tmp 0) false⟩,
    ⟨some 9, none, iLen 9 false (.tmp 8)⟩,
    ⟨some 10, none, iMov 10 (.const (.int .i64 0)) false⟩] [1, 5, 8, 9, 10] []
def list_OwnC_r3 : IC := cReg Try.prog [
    ⟨some 11, none, iBin 11 .lss (.tmp 10) (.tmp 9)⟩] [1, 5, 8, 9, 10, 11] []
def list_OwnC_c3 : IC := cCond (.tmp 11) cSkip (cExit 0)
def list_OwnC_r4 : IC := cReg Try.prog [
    ⟨some 12, none, iIaS 12 6 (.tmp 8) (.tmp 10)⟩,
    ⟨some 13, none, iLoad 13 6 true (.tmp 12) false⟩,
    ⟨some 7, none, iAlo 7 [vD (.int .i64 0), vD (.int .i64 0), vD (.int .i64 0), vD (.int .i64 0), vD (.slice none 0 0), vD (.slice none 0 0)]⟩,
    ⟨none, none, iStor 6 (.tmp 7) (.tmp 13)⟩] [1, 5, 7, 8, 9, 10] [7]
def list_OwnC_r5 : IC := cReg Try.prog [
    ⟨some 14, none, iMov 14 (.tmp 5) true⟩,
    ⟨some 15, none, iMov 15 (.tmp 1) false⟩,
    ⟨some 16, none, iLoad 16 6 true (.tmp 7) false⟩,
    ⟨some 17, none, iCallV 17 Try.prog 15 [(.tmp 16)]⟩,
    ⟨some 18, none, iRow 18 32 6 [(.tmp 17)]⟩,
    ⟨some 19, none, iApp 19 32 6 80 (.tmp 14) (.tmp 18)⟩,
    ⟨some 5, none, iMov 5 (.tmp 19) true⟩] [1, 5, 8, 9, 10] []
def list_OwnC_b4 : IC := cBlock 1 (cSeq list_OwnC_r4 list_OwnC_r5)
def list_OwnC_r6 : IC := cReg Try.prog [
    ⟨some 20, none, iBin 20 .add (.tmp 10) (.const (.int .i64 1))⟩,
    ⟨some 10, none, iMov 10 (.tmp 20) false⟩] [1, 5, 8, 9, 10] []
def list_OwnC_l2a : IC := (cSeq list_OwnC_r3 (cSeq list_OwnC_c3 (cSeq list_OwnC_b4 list_OwnC_r6)))
def list_OwnC_l2 : IC := cLoop list_OwnC_l2a
def list_OwnC_b1 : IC := cBlock 0 list_OwnC_l2
def list_OwnC_r7 : IC := cReg Try.prog [
    ⟨some 21, none, iMov 21 (.tmp 5) true⟩,
    ⟨some 4, none, iMov 4 (.tmp 21) true⟩] [4] []
def list_OwnC : IC := (cSeq list_OwnC_r0 (cSeq list_OwnC_r1 (cSeq (cSeq list_OwnC_r2 list_OwnC_b1) (cSeq list_OwnC_r7 cRet))))
theorem toldO_list_OwnC {args : List D} {r : D} {e : Nat} {z : Pay} (hl : args.length = 2) (h : list_OwnC (start args) (fin1 fun st => ∃ r', look st.tm 4 = some r' ∧ isC r' = true ∧ CVLe r' r ∧ lookF st.fl (4, none) = some (e, z))) : ToldO Try.prog 53 args [r] none e z :=
  toldO_slot follows Try.func53 rfl (an := [([], [0, 1], [], []), ([], [0, 1, 5], [], []), ([], [1, 5, 8, 9, 10], [], []), ([], [1, 5, 8, 9, 10, 11], [], []), ([], [1, 5, 7, 8, 9, 10], [7], []), ([], [1, 5, 8, 9, 10], [], []), ([], [1, 5, 8, 9, 10], [], []), ([], [4], [], [21])]) (by kernel_rfl) rfl (by rw [hl]; decide +kernel) h
theorem told_list_OwnC {args r : List D} (hl : args.length = 2) (h : list_OwnC (start args) (fin [(4, none)] r)) : Told Try.prog 53 args r :=
  told_of follows Try.func53 rfl (an := [([], [0, 1], [], []), ([], [0, 1, 5], [], []), ([], [1, 5, 8, 9, 10], [], []), ([], [1, 5, 8, 9, 10, 11], [], []), ([], [1, 5, 7, 8, 9, 10], [7], []), ([], [1, 5, 8, 9, 10], [], []), ([], [1, 5, 8, 9, 10], [], []), ([], [4], [], [21])]) (by kernel_rfl) (by kernel_rfl) (by rw [hl]; decide +kernel) h

end Go.Proofs.Ytnncmddmjpocfab.ab
