/-
  Several texts in one.
-/
import Derived.Test.YtngfedhffehkaacM23
import Derived.Test.YtngfedhffehkaacProg
import Derived.Test.YtngfedhffehkaacChecked
import Derived.Test.YtngfedhffehkaacM22
import Derived.WalkKit
import Derived.ProofKit
import Derived.WalkSpells
import Derived.Laws.CopyOwn
import Derived.Laws.IdiomStrings
import Derived.Laws.AppendOwnNone
import Derived.Outline
import Derived.Deep.DeepMust

/-
  Functions as plain code (written by wip/abs/ir.py): lkref6.SameBytes, lkref6.SameLane, lkref6.put, lkref6.way, lkref6.with, lkref6.without, lkref6.Speak, lkref6.New.
-/
namespace Go.Proofs.Ytngfedhffehkaac.ab
set_option linter.unusedSimpArgs false
set_option linter.unusedVariables false
set_option maxRecDepth 100000
open Go Go.RowKit

def r6_SameBytes_r0 : IC := cReg Try.prog [
    ⟨some 4, none, iMov 4 (.const (.bool false)) true⟩] [0, 1] []
def r6_SameBytes_r1 : IC := cReg Try.prog [
    ⟨some 6, none, iMov 6 (.tmp 0) false⟩,
    ⟨some 7, none, iLen 7 false (.tmp 6)⟩,
    ⟨some 8, none, iMov 8 (.tmp 1) false⟩,
    ⟨some 9, none, iLen 9 false (.tmp 8)⟩,
    ⟨some 10, none, iBin 10 .neq (.tmp 7) (.tmp 9)⟩] [0, 1, 10] []
def r6_SameBytes_r2 : IC := cReg Try.prog [
    ⟨some 4, none, iMov 4 (.const (.bool false)) true⟩] [4] []
def r6_SameBytes_c1a : IC := (cSeq r6_SameBytes_r2 cRet)
def r6_SameBytes_c1 : IC := cCond (.tmp 10) r6_SameBytes_c1a cSkip
def r6_SameBytes_r3 : IC := cReg Try.prog [
    ⟨some 11, none, iMov 11 (.tmp 0) false⟩,
    ⟨some 12, none, iLen 12 false (.tmp 11)⟩,
    ⟨some 13, none, iMov 13 (.const (.int .i64 0)) false⟩] [0, 1, 12, 13] []
def r6_SameBytes_r4 : IC := cReg Try.prog [
    ⟨some 14, none, iBin 14 .lss (.tmp 13) (.tmp 12)⟩] [0, 1, 12, 13, 14] []
def r6_SameBytes_c4 : IC := cCond (.tmp 14) cSkip (cExit 0)
def r6_SameBytes_r5 : IC := cReg Try.prog [
    ⟨some 15, none, iMov 15 (.tmp 13) false⟩,
    ⟨some 5, none, iMov 5 (.tmp 15) true⟩] [0, 1, 5, 12, 13] []
def r6_SameBytes_r6 : IC := cRegD Try.prog [
    ⟨some 16, none, iMov 16 (.tmp 0) false⟩,
    ⟨some 17, none, iMov 17 (.tmp 5) false⟩,
    ⟨some 18, none, iIaS 18 1 (.tmp 16) (.tmp 17)⟩,
    ⟨some 19, none, iLoad 19 1 false (.tmp 18) false⟩,
    ⟨some 20, none, iStr 20 (.tmp 19)⟩,
    ⟨some 21, none, iMov 21 (.tmp 1) false⟩,
    ⟨some 22, none, iMov 22 (.tmp 5) false⟩,
    ⟨some 23, none, iIaS 23 1 (.tmp 21) (.tmp 22)⟩,
    ⟨some 24, none, iLoad 24 1 false (.tmp 23) false⟩,
    ⟨some 25, none, iStr 25 (.tmp 24)⟩,
    ⟨some 26, none, iBin 26 .neq (.tmp 20) (.tmp 25)⟩] [[], [], [0, 1], [2, 0, 1], [3, 2, 0, 1], [], [], [5, 6], [7, 5, 6], [8, 7, 5, 6], [4, 9, 3, 2, 0, 1, 8, 7, 5, 6]] [0, 1, 12, 13, 26] []
def r6_SameBytes_r7 : IC := cReg Try.prog [
    ⟨some 4, none, iMov 4 (.const (.bool false)) true⟩] [4] []
def r6_SameBytes_c6a : IC := (cSeq r6_SameBytes_r7 cRet)
def r6_SameBytes_c6 : IC := cCond (.tmp 26) r6_SameBytes_c6a cSkip
def r6_SameBytes_b5 : IC := cBlock 1 (cSeq r6_SameBytes_r5 (cSeq r6_SameBytes_r6 r6_SameBytes_c6))
def r6_SameBytes_r8 : IC := cReg Try.prog [
    ⟨some 27, none, iBin 27 .add (.tmp 13) (.const (.int .i64 1))⟩,
    ⟨some 13, none, iMov 13 (.tmp 27) false⟩] [0, 1, 12, 13] []
def r6_SameBytes_l3a : IC := (cSeq r6_SameBytes_r4 (cSeq r6_SameBytes_c4 (cSeq r6_SameBytes_b5 r6_SameBytes_r8)))
def r6_SameBytes_l3 : IC := cLoop r6_SameBytes_l3a
def r6_SameBytes_b2 : IC := cBlock 0 r6_SameBytes_l3
def r6_SameBytes_r9 : IC := cReg Try.prog [
    ⟨some 4, none, iMov 4 (.const (.bool true)) true⟩] [4] []
def r6_SameBytes : IC := (cSeq r6_SameBytes_r0 (cSeq (cSeq r6_SameBytes_r1 r6_SameBytes_c1) (cSeq (cSeq r6_SameBytes_r3 r6_SameBytes_b2) (cSeq r6_SameBytes_r9 cRet))))
theorem told_r6_SameBytes {args r : List D} (hl : args.length = 2) (h : r6_SameBytes (start args) (fin [(4, none)] r)) : Told Try.prog 28 args r :=
  told_of follows Try.func28 rfl (an := [([], [0, 1], [], []), ([], [0, 1, 10], [], []), ([], [4], [], []), ([], [0, 1, 12, 13], [], []), ([], [0, 1, 12, 13, 14], [], []), ([], [0, 1, 5, 12, 13], [], []), ([], [0, 1, 12, 13, 26], [], []), ([], [4], [], []), ([], [0, 1, 12, 13], [], []), ([], [4], [], [])]) (by kernel_rfl) (by kernel_rfl) (by rw [hl]; decide +kernel) h

def r6_SameLane_r0 : IC := cReg Try.prog [
    ⟨some 2, none, iBox 2 (.tmp 0)⟩,
    ⟨some 3, none, iBox 3 (.tmp 1)⟩,
    ⟨some 4, none, iMov 4 (.const (.bool false)) true⟩] [2, 3] [2, 3]
def r6_SameLane_r1_0 : IC := cReg Try.prog [
    ⟨some 5, none, iFad 5 0 (.tmp 2)⟩,
    ⟨some 6, none, iLoad 6 7 true (.tmp 5) false⟩,
    ⟨some 7, none, iFad 7 0 (.tmp 3)⟩,
    ⟨some 8, none, iLoad 8 7 true (.tmp 7) false⟩,
    ⟨some 9, none, iCall 9 26 [(.tmp 6), (.tmp 8)]⟩,
    ⟨some 10, none, iMov 10 (.tmp 9) false⟩,
    ⟨some 11, some (10, true), iFad 11 7 (.tmp 2)⟩,
    ⟨some 12, some (10, true), iLoad 12 8 true (.tmp 11) false⟩,
    ⟨some 13, some (10, true), iFad 13 7 (.tmp 3)⟩,
    ⟨some 14, some (10, true), iLoad 14 8 true (.tmp 13) false⟩] [2, 3, 10, 12, 14] [2, 3]
def r6_SameLane_r1_1 : IC := cReg Try.prog [
    ⟨some 15, some (10, true), iCall 15 27 [(.tmp 12), (.tmp 14)]⟩,
    ⟨some 16, none, iPick 16 (.tmp 10) (.tmp 15) (.const (.bool false))⟩,
    ⟨some 17, none, iMov 17 (.tmp 16) false⟩,
    ⟨some 18, some (17, true), iFad 18 15 (.tmp 2)⟩,
    ⟨some 19, some (17, true), iLoad 19 1 false (.tmp 18) false⟩,
    ⟨some 20, some (17, true), iFad 20 15 (.tmp 3)⟩,
    ⟨some 21, some (17, true), iLoad 21 1 false (.tmp 20) false⟩,
    ⟨some 22, some (17, true), iCall 22 28 [(.tmp 19), (.tmp 21)]⟩,
    ⟨some 23, none, iPick 23 (.tmp 17) (.tmp 22) (.const (.bool false))⟩,
    ⟨some 24, none, iMov 24 (.tmp 23) false⟩] [2, 3, 24] [2, 3]
def r6_SameLane_r1_2 : IC := cReg Try.prog [
    ⟨some 25, some (24, true), iFad 25 16 (.tmp 2)⟩,
    ⟨some 26, some (24, true), iLoad 26 1 false (.tmp 25) false⟩,
    ⟨some 27, some (24, true), iFad 27 16 (.tmp 3)⟩,
    ⟨some 28, some (24, true), iLoad 28 1 false (.tmp 27) false⟩,
    ⟨some 29, some (24, true), iCall 29 28 [(.tmp 26), (.tmp 28)]⟩,
    ⟨some 30, none, iPick 30 (.tmp 24) (.tmp 29) (.const (.bool false))⟩,
    ⟨some 4, none, iMov 4 (.tmp 30) true⟩] [4] []
def r6_SameLane_r1 : IC := (cSeq r6_SameLane_r1_0 (cSeq r6_SameLane_r1_1 r6_SameLane_r1_2))
def r6_SameLane : IC := (cSeq r6_SameLane_r0 (cSeq r6_SameLane_r1 cRet))
theorem told_r6_SameLane {args r : List D} (hl : args.length = 2) (h : r6_SameLane (start args) (fin [(4, none)] r)) : Told Try.prog 12 args r :=
  told_of follows Try.func12 rfl (an := [([], [2, 3], [2, 3], []), ([(10, [2, 3, 10, 12, 14], [2, 3]), (10, [2, 3, 24], [2, 3])], [4], [], [])]) (by kernel_rfl) (by kernel_rfl) (by rw [hl]; decide +kernel) h

def r6_put_r0 : IC := cReg Try.prog [
    ⟨some 4, none, iMov 4 (.const (.slice none 0 0)) true⟩] [0, 1] []
def r6_put_r1 : IC := cReg Try.prog [
    ⟨some 5, none, iMov 5 (.tmp 0) false⟩,
    ⟨some 6, none, iLen 6 false (.tmp 5)⟩,
    ⟨some 7, none, iBin 7 .gtr (.tmp 6) (.const (.int .i64 5))⟩] [0, 1, 7] []
def r6_put_r2 : IC := cReg Try.prog [
    ⟨some 8, none, iMov 8 (.tmp 0) false⟩,
    ⟨some 4, none, iMov 4 (.tmp 8) true⟩] [4] []
def r6_put_c1a : IC := (cSeq r6_put_r2 cRet)
def r6_put_c1 : IC := cCond (.tmp 7) r6_put_c1a cSkip
def r6_put_r3 : IC := cReg Try.prog [
    ⟨some 9, none, iRow 9 23 1 []⟩,
    ⟨some 10, none, iMov 10 (.tmp 0) false⟩,
    ⟨some 11, none, iApp 11 23 1 24 (.tmp 9) (.tmp 10)⟩,
    ⟨some 12, none, iMov 12 (.tmp 1) false⟩,
    ⟨some 13, none, iRow 13 23 1 [(.tmp 12)]⟩,
    ⟨some 14, none, iApp 14 23 1 24 (.tmp 11) (.tmp 13)⟩,
    ⟨some 4, none, iMov 4 (.tmp 14) true⟩] [4] []
def r6_put : IC := (cSeq r6_put_r0 (cSeq (cSeq r6_put_r1 r6_put_c1) (cSeq r6_put_r3 cRet)))
theorem told_r6_put {args r : List D} (hl : args.length = 2) (h : r6_put (start args) (fin [(4, none)] r)) : Told Try.prog 49 args r :=
  told_of follows Try.func49 rfl (an := [([], [0, 1], [], []), ([], [0, 1, 7], [], []), ([], [4], [], []), ([], [4], [], [])]) (by kernel_rfl) (by kernel_rfl) (by rw [hl]; decide +kernel) h

def r6_way_r0 : IC := cReg Try.prog [
    ⟨some 2, none, iBox 2 (.tmp 0)⟩,
    ⟨some 4, none, iMov 4 (.const (.slice none 0 0)) true⟩] [1, 2] [2]
def r6_way_r1 : IC := cReg Try.prog [
    ⟨some 5, none, iMov 5 (.tmp 1) false⟩] [2, 5] [2]
def r6_way_r2 : IC := cReg Try.prog [
    ⟨some 6, none, iFad 6 16 (.tmp 2)⟩,
    ⟨some 7, none, iLoad 7 1 false (.tmp 6) false⟩,
    ⟨some 4, none, iMov 4 (.tmp 7) true⟩] [4] []
def r6_way_c1a : IC := (cSeq r6_way_r2 cRet)
def r6_way_c1 : IC := cCond (.tmp 5) r6_way_c1a cSkip
def r6_way_r3 : IC := cReg Try.prog [
    ⟨some 8, none, iFad 8 15 (.tmp 2)⟩,
    ⟨some 9, none, iLoad 9 1 false (.tmp 8) false⟩,
    ⟨some 4, none, iMov 4 (.tmp 9) true⟩] [4] []
def r6_way : IC := (cSeq r6_way_r0 (cSeq (cSeq r6_way_r1 r6_way_c1) (cSeq r6_way_r3 cRet)))
theorem told_r6_way {args r : List D} (hl : args.length = 2) (h : r6_way (start args) (fin [(4, none)] r)) : Told Try.prog 53 args r :=
  told_of follows Try.func53 rfl (an := [([], [1, 2], [2], []), ([], [2, 5], [2], []), ([], [4], [], []), ([], [4], [], [])]) (by kernel_rfl) (by kernel_rfl) (by rw [hl]; decide +kernel) h

def r6_with_r0 : IC := cReg Try.prog [
    ⟨some 3, none, iBox 3 (.tmp 0)⟩,
    ⟨some 6, none, iAlo 6 [vD (.slice none 0 0), vD (.int .i64 0), vD (.int .i64 0), vD (.int .i64 0), vD (.int .i64 0), vD (.slice none 0 0), vD (.int .i64 0), vD (.int .i64 0), vD (.slice none 0 0), vD (.int .i64 0), vD (.int .i64 0), vD (.int .i64 0), vD (.slice none 0 0), vD (.slice none 0 0), vD (.bool false), vD (.slice none 0 0), vD (.slice none 0 0)]⟩] [1, 2, 3, 6] [3, 6]
def r6_with_r1 : IC := cReg Try.prog [
    ⟨some 7, none, iMov 7 (.tmp 1) false⟩] [2, 3, 6, 7] [3, 6]
def r6_with_r2 : IC := cReg Try.prog [
    ⟨some 8, none, iMov 8 (.tmp 2) false⟩,
    ⟨some 9, none, iFad 9 16 (.tmp 3)⟩,
    ⟨none, none, iStor 1 (.tmp 9) (.tmp 8)⟩] [3, 6] [3, 6]
def r6_with_r3 : IC := cReg Try.prog [
    ⟨some 10, none, iMov 10 (.tmp 2) false⟩,
    ⟨some 11, none, iFad 11 15 (.tmp 3)⟩,
    ⟨none, none, iStor 1 (.tmp 11) (.tmp 10)⟩] [3, 6] [3, 6]
def r6_with_c1 : IC := cCond (.tmp 7) r6_with_r2 r6_with_r3
def r6_with_r4 : IC := cReg Try.prog [
    ⟨some 12, none, iLoad 12 17 true (.tmp 3) false⟩,
    ⟨none, none, iStor 17 (.tmp 6) (.tmp 12)⟩] [6] [6]
def r6_with : IC := (cSeq r6_with_r0 (cSeq (cSeq r6_with_r1 r6_with_c1) (cSeq r6_with_r4 cRet)))
theorem told_r6_with {args r : List D} (hl : args.length = 3) (h : r6_with (start args) (fin [(6, some (17, true))] r)) : Told Try.prog 54 args r :=
  told_of follows Try.func54 rfl (an := [([], [1, 2, 3, 6], [3, 6], []), ([], [2, 3, 6, 7], [3, 6], []), ([], [3, 6], [3, 6], []), ([], [3, 6], [3, 6], []), ([], [6], [6], [])]) (by kernel_rfl) (by kernel_rfl) (by rw [hl]; decide +kernel) h

def r6_without_r0 : IC := cReg Try.prog [
    ⟨some 4, none, iMov 4 (.const (.slice none 0 0)) true⟩] [0, 1] []
def r6_without_r1 : IC := cRegD Try.prog [
    ⟨some 5, none, iRow 5 23 1 []⟩,
    ⟨some 6, none, iMov 6 (.tmp 0) false⟩,
    ⟨some 7, none, iMov 7 (.tmp 1) false⟩,
    ⟨some 8, none, iSlc 8 1 (.tmp 6) none (some (.tmp 7))⟩,
    ⟨some 9, none, iApp 9 23 1 24 (.tmp 5) (.tmp 8)⟩,
    ⟨some 10, none, iMov 10 (.tmp 0) false⟩,
    ⟨some 11, none, iMov 11 (.tmp 1) false⟩,
    ⟨some 12, none, iBin 12 .add (.tmp 11) (.const (.int .i64 1))⟩,
    ⟨some 13, none, iSlc 13 1 (.tmp 10) (some (.tmp 12)) none⟩,
    ⟨some 14, none, iApp 14 23 1 24 (.tmp 9) (.tmp 13)⟩,
    ⟨some 4, none, iMov 4 (.tmp 14) true⟩] [[], [], [], [1, 2], [0, 3, 1, 2], [], [], [6], [5, 7, 6], [4, 8, 0, 3, 1, 2, 5, 7, 6], [9, 0, 1, 2, 3, 4, 5, 6, 7, 8]] [4] []
def r6_without : IC := (cSeq r6_without_r0 (cSeq r6_without_r1 cRet))
theorem told_r6_without {args r : List D} (hl : args.length = 2) (h : r6_without (start args) (fin [(4, none)] r)) : Told Try.prog 55 args r :=
  told_of follows Try.func55 rfl (an := [([], [0, 1], [], []), ([], [4], [], [])]) (by kernel_rfl) (by kernel_rfl) (by rw [hl]; decide +kernel) h

def r6_Speak_r0 : IC := cReg Try.prog [
    ⟨some 1, none, iBox 1 (.tmp 0)⟩,
    ⟨some 2, none, iAlo 2 [vD (.slice none 0 0), vD (.int .i64 0), vD (.int .i64 0), vD (.int .i64 0), vD (.int .i64 0), vD (.slice none 0 0), vD (.int .i64 0), vD (.int .i64 0), vD (.slice none 0 0), vD (.int .i64 0), vD (.int .i64 0), vD (.int .i64 0), vD (.slice none 0 0), vD (.slice none 0 0), vD (.bool false), vD (.slice none 0 0), vD (.slice none 0 0)]⟩] [1, 2] [1, 2]
def r6_Speak_r1 : IC := cReg Try.prog [
    ⟨some 8, none, iFad 8 0 (.tmp 1)⟩,
    ⟨some 9, none, iLoad 9 7 true (.tmp 8) false⟩,
    ⟨some 10, none, iCall 10 48 [(.tmp 9)]⟩,
    ⟨some 7, none, iMov 7 (.tmp 10) false⟩,
    ⟨some 11, none, iExt 11 (.tmp 7) 0⟩,
    ⟨some 12, none, iExt 12 (.tmp 7) 1⟩,
    ⟨some 13, none, iExt 13 (.tmp 7) 2⟩,
    ⟨some 3, none, iAlo 3 [vD (.slice none 0 0), vD (.int .i64 0), vD (.int .i64 0), vD (.int .i64 0), vD (.int .i64 0), vD (.slice none 0 0), vD (.int .i64 0)]⟩,
    ⟨some 4, none, iAlo 4 [vD (.int .i64 0), vD (.int .i64 0), vD (.int .i64 0), vD (.int .i64 0), vD (.slice none 0 0), vD (.slice none 0 0)]⟩,
    ⟨none, none, iStor 7 (.tmp 3) (.tmp 11)⟩,
    ⟨none, none, iStor 6 (.tmp 4) (.tmp 12)⟩,
    ⟨some 5, none, iMov 5 (.tmp 13) true⟩] [1, 2, 3, 4, 5] [1, 2, 3, 4]
def r6_Speak_r2 : IC := cReg Try.prog [
    ⟨some 14, none, iLoad 14 7 true (.tmp 3) false⟩,
    ⟨some 15, none, iFad 15 0 (.tmp 1)⟩,
    ⟨none, none, iStor 7 (.tmp 15) (.tmp 14)⟩] [1, 2, 4, 5] [1, 2, 4]
def r6_Speak_r3 : IC := cReg Try.prog [
    ⟨some 16, none, iMov 16 (.tmp 5) false⟩] [1, 2, 4, 16] [1, 2, 4]
def r6_Speak_r4 : IC := cRegD Try.prog [
    ⟨some 17, none, iFad 17 15 (.tmp 1)⟩,
    ⟨some 18, none, iLoad 18 1 false (.tmp 17) false⟩,
    ⟨some 19, none, iLoad 19 6 true (.tmp 4) false⟩,
    ⟨some 20, none, iCall 20 50 [(.tmp 19)]⟩,
    ⟨some 21, none, iCall 21 49 [(.tmp 18), (.tmp 20)]⟩,
    ⟨some 22, none, iFad 22 15 (.tmp 1)⟩,
    ⟨none, none, iStor 1 (.tmp 22) (.tmp 21)⟩] [[], [0], [], [2], [1, 3, 0, 2], [0, 1, 2, 3, 4], [5, 4, 0, 1, 2, 3]] [1, 2, 4] [1, 2, 4]
def r6_Speak_c1 : IC := cCond (.tmp 16) r6_Speak_r4 cSkip
def r6_Speak_r5 : IC := cReg Try.prog [
    ⟨some 24, none, iFad 24 7 (.tmp 1)⟩,
    ⟨some 25, none, iLoad 25 8 true (.tmp 24) false⟩,
    ⟨some 26, none, iCall 26 51 [(.tmp 25)]⟩,
    ⟨some 23, none, iMov 23 (.tmp 26) false⟩,
    ⟨some 27, none, iExt 27 (.tmp 23) 0⟩,
    ⟨some 28, none, iExt 28 (.tmp 23) 1⟩,
    ⟨some 29, none, iExt 29 (.tmp 23) 2⟩,
    ⟨some 6, none, iAlo 6 [vD (.int .i64 0), vD (.slice none 0 0), vD (.int .i64 0), vD (.int .i64 0), vD (.int .i64 0), vD (.slice none 0 0), vD (.slice none 0 0), vD (.bool false)]⟩,
    ⟨none, none, iStor 8 (.tmp 6) (.tmp 27)⟩,
    ⟨none, none, iStor 6 (.tmp 4) (.tmp 28)⟩,
    ⟨some 5, none, iMov 5 (.tmp 29) true⟩] [1, 2, 4, 5, 6] [1, 2, 4, 6]
def r6_Speak_r6 : IC := cReg Try.prog [
    ⟨some 30, none, iLoad 30 8 true (.tmp 6) false⟩,
    ⟨some 31, none, iFad 31 7 (.tmp 1)⟩,
    ⟨none, none, iStor 8 (.tmp 31) (.tmp 30)⟩] [1, 2, 4, 5] [1, 2, 4]
def r6_Speak_r7 : IC := cReg Try.prog [
    ⟨some 32, none, iMov 32 (.tmp 5) false⟩] [1, 2, 4, 32] [1, 2, 4]
def r6_Speak_r8 : IC := cRegD Try.prog [
    ⟨some 33, none, iFad 33 16 (.tmp 1)⟩,
    ⟨some 34, none, iLoad 34 1 false (.tmp 33) false⟩,
    ⟨some 35, none, iLoad 35 6 true (.tmp 4) false⟩,
    ⟨some 36, none, iCall 36 50 [(.tmp 35)]⟩,
    ⟨some 37, none, iCall 37 49 [(.tmp 34), (.tmp 36)]⟩,
    ⟨some 38, none, iFad 38 16 (.tmp 1)⟩,
    ⟨none, none, iStor 1 (.tmp 38) (.tmp 37)⟩] [[], [0], [], [2], [1, 3, 0, 2], [0, 1, 2, 3, 4], [5, 4, 0, 1, 2, 3]] [1, 2] [1, 2]
def r6_Speak_c2 : IC := cCond (.tmp 32) r6_Speak_r8 cSkip
def r6_Speak_r9 : IC := cReg Try.prog [
    ⟨some 39, none, iLoad 39 17 true (.tmp 1) false⟩,
    ⟨none, none, iStor 17 (.tmp 2) (.tmp 39)⟩] [2] [2]
def r6_Speak : IC := (cSeq r6_Speak_r0 (cSeq r6_Speak_r1 (cSeq r6_Speak_r2 (cSeq (cSeq r6_Speak_r3 r6_Speak_c1) (cSeq r6_Speak_r5 (cSeq r6_Speak_r6 (cSeq (cSeq r6_Speak_r7 r6_Speak_c2) (cSeq r6_Speak_r9 cRet))))))))
theorem told_r6_Speak {args r : List D} (hl : args.length = 1) (h : r6_Speak (start args) (fin [(2, some (17, true))] r)) : Told Try.prog 32 args r :=
  told_of follows Try.func32 rfl (an := [([], [1, 2], [1, 2], []), ([], [1, 2, 3, 4, 5], [1, 2, 3, 4], []), ([], [1, 2, 4, 5], [1, 2, 4], []), ([], [1, 2, 4, 16], [1, 2, 4], []), ([], [1, 2, 4], [1, 2, 4], []), ([], [1, 2, 4, 5, 6], [1, 2, 4, 6], []), ([], [1, 2, 4, 5], [1, 2, 4], []), ([], [1, 2, 4, 32], [1, 2, 4], []), ([], [1, 2], [1, 2], []), ([], [2], [2], [])]) (by kernel_rfl) (by kernel_rfl) (by rw [hl]; decide +kernel) h

end Go.Proofs.Ytngfedhffehkaac.ab

/-
  The contracts of the two functions that sum bytes.
-/
namespace Go.Proofs.Ytngfedhffehkaac.leaf
set_option linter.unusedSimpArgs false
set_option linter.unusedVariables false
open Go.RowKit
open mth

/-- A byte as the model's cell. -/
def B (x : UInt8) : Value := .int .u8 (x.toNat : Int)
/-- The slice value v holds the bytes xs. -/
def Bs (w : World) (v : Value) (xs : List UInt8) : Prop :=
  ∃ (a : Option Addr) (cap : Nat), v = .slice a xs.length cap ∧ xs.length ≤ cap ∧ (a = none → cap = 0) ∧ ∀ i, i < xs.length → ∃ x, a = some x ∧ w.cell? (x.add i) = some (.int .u8 ((xs.getD i 0).toNat : Int))

theorem ret_int {k : IntKind} {a b : Int} (h : a = b) : Ending.returned (.int k a) = .returned (.int k b) := by rw [h]

theorem take_snoc (xs : List UInt8) (k : Nat) (h : k < xs.length) : sumL (xs.take (k + 1)) = (sumL (xs.take k) * 139 + ((xs[k].toNat : Nat) : Int) + 1) % 65521 := by
  rw [List.take_succ_eq_append_getElem h, sumL_snoc]; rfl

theorem take_snoc' (xs : List UInt8) (k : Nat) (h : k < xs.length) : sumL (xs.take (k + 1)) = (139 * sumL (xs.take k) + ((xs[k].toNat : Nat) : Int) + 1) % 65521 := by
  rw [take_snoc xs k h, Int.mul_comm]

set_option maxHeartbeats 400000 in
theorem sum_any (a : Option Addr) (cap : Nat) (xs : List UInt8) (w : World) (h : Bs w (.slice a xs.length cap) xs) (hm : xs.length ≤ maxLen) :
    Calls Try.prog 92 #[.slice a xs.length cap] w fun e w' => e = .returned (.int .i64 (sumL xs)) ∧ w = w' := by
  unfold maxLen at hm
  obtain ⟨a', cap', he, hlc, hno, hc⟩ := h
  injection he with h1 _ h2
  subst h1 h2
  by_cases hl : xs.length = 0
  · obtain rfl : xs = [] := List.eq_nil_of_length_eq_zero hl
    clear hc hno hlc
    go_enter Try.func92, Try.ntmps92
    go_wp2
    refine wp_loop_rounds 1 ?_
    rw [rounds_succ]
    go_wp2
    go_ret
    exact ⟨rfl, rfl⟩
  · obtain ⟨x, rfl, hc0⟩ := hc 0 (by omega)
    obtain ⟨b, off, spot⟩ := x
    have hspot : spot = none := by simpa [Addr.add] using World.cell?_spot hc0
    subst hspot
    have hcx : ∀ k (_ : k < xs.length), w.cell? ⟨b, off + k, none⟩ = some (.int .u8 (xs[k].toNat : Int)) := by
      intro k hk
      obtain ⟨x', hx', hcc⟩ := hc k hk
      simp at hx'
      subst hx'
      rw [Addr.add_lit] at hcc
      simpa [List.getD, hk] using hcc
    clear hc hc0 hno
    go_enter Try.func92, Try.ntmps92
    go_wp2
    go_loop [3, 7] (fun s i => ∃ k : Nat, k ≤ xs.length ∧ i = .int .i64 k ∧ s = .int .i64 (sumL (xs.take k))) (fun _ i => xs.length - (intOf i).toNat)
    case atStart => exact ⟨0, Nat.zero_le _, rfl, rfl⟩
    case round =>
      obtain ⟨k, hk, rfl, rfl⟩ := hrel
      have hd := sumL_bd (xs.take k)
      by_cases hlt : k < xs.length
      · have hcell := hcx k hlt
        have HS : Hid (sumL (xs.take (k + 1)) = _) := take_snoc' xs k hlt
        have hb := xs[k].toNat_lt
        clear hcx
        go_wp2
        go_round
        case rel => exact ⟨k + 1, by omega, by go_num, by rw [HS.out]⟩
        case measure => simp [intOf]; omega
      · clear hcx
        go_wp2
        go_ret
        exact ⟨ret_int (by rw [List.take_of_length_le (by omega)]), rfl⟩
end Go.Proofs.Ytngfedhffehkaac.leaf

/-
  The contracts of the two functions that seal bytes.
-/
namespace Go.Proofs.Ytngfedhffehkaac.leaf
set_option maxRecDepth 10000
set_option linter.unusedSimpArgs false
set_option linter.unusedVariables false
open Go.RowKit
open mth

theorem info5 : (Try.prog.info? 5).map (fun i => (i.zero, i.size, i.bytes)) = some (some (.int .u8 0), 1, 1) := by kernel_rfl
theorem B_one (xs : List UInt8) : ∀ v ∈ xs.map B, v.oneCell' = true := by
  intro u hu
  obtain ⟨_, _, rfl⟩ := List.mem_map.1 hu
  rfl

/-- The cells of a slice that came in, as the laws on copy and append ask for them. -/
theorem Bs_cells {w : World} {a : Option Addr} {cap : Nat} {xs : List UInt8} (h : Bs w (.slice a xs.length cap) xs) (hp : 0 < xs.length) : ∃ ad, a = some ad ∧ ∀ j v, (xs.map B)[j]? = some v → w.cell? (ad.add j) = some v := by
  obtain ⟨a', cap', he, hlc, hno, hc⟩ := h
  injection he with h1 _ h2
  subst h1 h2
  obtain ⟨x, rfl, _⟩ := hc 0 hp
  refine ⟨x, rfl, fun j v hv => ?_⟩
  have hj : j < xs.length := by
    have := (List.getElem?_eq_some_iff.1 hv).1
    simpa using this
  obtain ⟨x', hx', hcc⟩ := hc j hj
  simp at hx'
  subst hx'
  rw [hcc]
  simp [hj] at hv
  simp [List.getD, hj, ← hv, B]

/-- Nothing old has turned: what a slice holds it holds still. -/
theorem Bs.later {w w' : World} {v : Value} {xs : List UInt8} (h : Bs w v xs) (hb : Below w.heap.size w w') : Bs w' v xs := by
  obtain ⟨a, cap, rfl, hlc, hno, hc⟩ := h
  refine ⟨a, cap, rfl, hlc, hno, fun i hi => ?_⟩
  obtain ⟨x, rfl, hcc⟩ := hc i hi
  exact ⟨x, rfl, (hb.cell (World.block_lt_of_cell? w _ hcc)).trans hcc⟩

theorem two_new (w : World) (x y : Int) : ∀ (j : Nat) (u : Value), [Value.int .u8 x, Value.int .u8 y][j]? = some u → (w.alloc (.cells #[Value.int .u8 x, Value.int .u8 y] 5)).cell? ((⟨w.heap.size, 0, none⟩ : Addr).add j) = some u := by
  intro j u hj
  rw [Addr.add_lit, Nat.zero_add, World.cell?_alloc_mark]
  simpa using hj
theorem two_new' (w : World) (n : Nat) (x y : Int) (hn : n = w.heap.size) : ∀ (j : Nat) (u : Value), [Value.int .u8 x, Value.int .u8 y][j]? = some u → (w.alloc (.cells #[Value.int .u8 x, Value.int .u8 y] 5)).cell? ((⟨n, 0, none⟩ : Addr).add j) = some u := by
  subst hn; exact two_new w x y
theorem two_one (x y : Int) : ∀ u ∈ [Value.int .u8 x, Value.int .u8 y], u.oneCell' = true := by
  intro u hu
  simp at hu
  rcases hu with rfl | rfl <;> rfl
theorem seal_cells (xs : List UInt8) : (sealL xs).map B = xs.map B ++ [Value.int .u8 (sumL xs / 256), Value.int .u8 (sumL xs % 256)] := by
  simp [sealL, B, hiB_toNat (sumL_bd xs), loB_toNat (sumL_bd xs)]

/-- A slice that was made empty owns nothing. -/
theorem owns_empty (w : World) : (w.alloc (.cells #[] 5)).ownsRow w.heap.size 5 1 (.slice (some ⟨w.heap.size, 0, none⟩) 0 0) 0 [] :=
  World.ownsRow_made w #[] 0 (Nat.le_refl _) (Nat.zero_le _) rfl

set_option maxHeartbeats 400000 in
theorem refSeal_any (a : Option Addr) (cap : Nat) (xs : List UInt8) (w : World) (h : Bs w (.slice a xs.length cap) xs) (hr : xs.length + 2 ≤ 140737488355328) :
    Calls Try.prog 75 #[.slice a xs.length cap] w fun e w' => ∃ v', e = .returned v' ∧ w'.ownsRow w.heap.size 5 1 v' (xs.length + 2) ((sealL xs).map B) ∧ Below w.heap.size w w' := by
  obtain ⟨i0, hi, hz0, hz1, hz2⟩ := info_parts info5
  have hb := sumL_bd xs
  have he := owns_empty w
  have hb0 : Below w.heap.size w (w.alloc (.cells #[] 5)) := (Below.refl _ _).alloc (Nat.le_refl _) _
  cases a with
  | none =>
    obtain ⟨rfl, rfl⟩ : xs = [] ∧ cap = 0 := by
      obtain ⟨a', cap', hv, hlc, hno, hc⟩ := h
      injection hv with h1 _ h2
      subst h1 h2
      have := hno rfl
      exact ⟨List.eq_nil_of_length_eq_zero (by omega), this⟩
    go_enter Try.func75, Try.ntmps75
    go_wp2_with (first
      | (go_at_call 92; refine (sum_any none 0 [] _ h (by unfold maxLen; simp)).mono ?_; rintro e w' ⟨rfl, rfl⟩)
      | (at_builtin; refine wpList_append_own_none rfl (.tmp 6) (.tmp 7) 23 rfl w.heap.size 5 i0 1 Try.underlying23 hi (.slice (some ⟨w.heap.size, 0, none⟩) 0 0) 0 [] rfl he rfl ?_)
      | (at_builtin; refine wpList_append_own _ rfl (.tmp 8) (.tmp 15) 23 rfl w.heap.size 5 i0 (.int .u8 0) 1 1 Try.underlying23 hi hz0 hz1 hz2 rfl (by decide) (.slice (some ⟨w.heap.size, 0, none⟩) 0 0) 0 [] rfl (he.alloc _) ⟨w.heap.size + 1, 0, none⟩ 2 2 [.int .u8 (sumL [] / 256), .int .u8 (sumL [] % 256)] rfl rfl (two_new' _ _ _ _ (by simp)) (two_one _ _) (by unfold maxLen; omega) (by omega) (by simp; omega) ?_; intro v2 w2 hown2 hgrow2 hnil2))
    go_ret
    refine ⟨_, rfl, ?_, ?_⟩
    · rw [seal_cells]; exact hown2
    · exact (hb0.alloc hb0.size _).grown hgrow2 (by simp; omega) (by intro k hk; simp [Value.ownBlock] at hk; omega)
  | some ad =>
    have hsrc : ∀ j v, (xs.map B)[j]? = some v → (w.alloc (.cells #[] 5)).cell? (ad.add j) = some v := by
      intro j v hj
      have hp : 0 < xs.length := by
        have := (List.getElem?_eq_some_iff.1 hj).1
        simp at this; omega
      obtain ⟨ad', h1, h2⟩ := Bs_cells (h.later hb0) hp
      cases h1
      exact h2 j v hj
    go_enter Try.func75, Try.ntmps75
    go_wp2_with (first
      | (go_at_call 92; refine (sum_any (some ad) cap xs _ h (by unfold maxLen; omega)).mono ?_; rintro e w' ⟨rfl, rfl⟩)
      | (at_builtin; refine wpList_append_own _ rfl (.tmp 6) (.tmp 7) 23 rfl w.heap.size 5 i0 (.int .u8 0) 1 1 Try.underlying23 hi hz0 hz1 hz2 rfl (by decide) (.slice (some ⟨w.heap.size, 0, none⟩) 0 0) 0 [] rfl he ad xs.length cap (xs.map B) rfl (by simp) hsrc (B_one xs) (by unfold maxLen; omega) (by omega) (by simp) ?_; intro v1 w1 hown1 hgrow1 hnil1; clear he hsrc hnil1; simp only [Nat.zero_add, List.nil_append] at hown1)
      | (at_builtin; refine wpList_append_own _ rfl (.tmp 8) (.tmp 15) 23 rfl w.heap.size 5 i0 (.int .u8 0) 1 1 Try.underlying23 hi hz0 hz1 hz2 rfl (by decide) v1 xs.length (xs.map B) rfl (hown1.alloc _) ⟨w1.heap.size, 0, none⟩ 2 2 [.int .u8 (sumL xs / 256), .int .u8 (sumL xs % 256)] rfl rfl (two_new _ _ _) (two_one _ _) (by unfold maxLen; omega) (by omega) (by have := hgrow1.size; simp at this ⊢; omega) ?_; intro v2 w2 hown2 hgrow2 hnil2))
    go_ret
    refine ⟨_, rfl, ?_, ?_⟩
    · rw [seal_cells]; exact hown2
    · have hb1 : Below w.heap.size w w1 := hb0.grown hgrow1 (by simp) (by intro k hk; simp [Value.ownBlock] at hk; omega)
      exact (hb1.alloc hb1.size _).grown hgrow2 (by have := hb1.size; simp; omega) (fun k hk => (hown1.lt k hk).1)
end Go.Proofs.Ytngfedhffehkaac.leaf
