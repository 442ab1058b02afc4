/-
  Functions as plain code (written by wip/abs/ir.py): bytes.Equal, bytes.Clone, plain.Same, plain.Of, plain.find, plain.Fits, plain.All, lkref1.WrongMsg, lkref1.SameMsg, lkref1.SameMsgs, lkref1.Of, lkref1.Fits, lklaw4.PlainTells.
-/
import Derived.Test.YtkkneafaklmnaaaAbsProg
import Derived.Test.YtkkneafaklmnaaaProg
namespace Go.Proofs.Ytkkneafaklmnaaa.ab
set_option linter.unusedVariables false
set_option maxRecDepth 100000
open Go Go.RowKit

def bytes_Equal_r0 : IC := cReg Try.prog [
    ⟨some 4, none, iMov 4 (.const (.bool false)) true⟩] [0, 1] []
def bytes_Equal_r1 : IC := cReg Try.prog [
    ⟨some 5, none, iMov 5 (.tmp 0) false⟩,
    ⟨some 6, none, iStr 6 (.tmp 5)⟩,
    ⟨some 7, none, iMov 7 (.tmp 1) false⟩,
    ⟨some 8, none, iStr 8 (.tmp 7)⟩,
    ⟨some 9, none, iBin 9 .eql (.tmp 6) (.tmp 8)⟩,
    ⟨some 4, none, iMov 4 (.tmp 9) true⟩] [4] []
def bytes_Equal : IC := (cSeq bytes_Equal_r0 (cSeq bytes_Equal_r1 cRet))
theorem told_bytes_Equal {args r : List D} (hl : args.length = 2) (h : bytes_Equal (start args) (fin [(4, none)] r)) : Told Try.prog 44 args r :=
  told_of follows Try.func44 rfl (an := [([0, 1], [], []), ([4], [], [])]) (by kernel_rfl) (by kernel_rfl) (by rw [hl]; decide +kernel) h

def bytes_Clone_r0 : IC := cReg Try.prog [
    ⟨some 2, none, iMov 2 (.const (.slice none 0 0)) true⟩] [0] []
def bytes_Clone_r1 : IC := cReg Try.prog [
    ⟨some 3, none, iMov 3 (.tmp 0) false⟩,
    ⟨some 4, none, iNil 4 true (.tmp 3)⟩] [0, 4] []
def bytes_Clone_r2 : IC := cReg Try.prog [
    ⟨some 2, none, iMov 2 (.const (.slice none 0 0)) true⟩] [2] []
def bytes_Clone_c1a : IC := (cSeq bytes_Clone_r2 cRet)
def bytes_Clone_c1 : IC := cCond (.tmp 4) bytes_Clone_c1a cSkip
def bytes_Clone_r3 : IC := cReg Try.prog [
    ⟨some 5, none, iRow 5 5 1 []⟩,
    ⟨some 6, none, iMov 6 (.tmp 0) false⟩,
    ⟨some 7, none, iApp 7 5 1 1 (.tmp 5) (.tmp 6)⟩,
    ⟨some 2, none, iMov 2 (.tmp 7) true⟩] [2] []
def bytes_Clone : IC := (cSeq bytes_Clone_r0 (cSeq (cSeq bytes_Clone_r1 bytes_Clone_c1) (cSeq bytes_Clone_r3 cRet)))
theorem told_bytes_Clone {args r : List D} (hl : args.length = 1) (h : bytes_Clone (start args) (fin [(2, none)] r)) : Told Try.prog 45 args r :=
  told_of follows Try.func45 rfl (an := [([0], [], []), ([0, 4], [], []), ([2], [], []), ([2], [], [])]) (by kernel_rfl) (by kernel_rfl) (by rw [hl]; decide +kernel) h

def plain_Same_r0 : IC := cReg Try.prog [
    ⟨some 2, none, iBox 2 (.tmp 0)⟩,
    ⟨some 3, none, iBox 3 (.tmp 1)⟩,
    ⟨some 4, none, iMov 4 (.const (.bool false)) true⟩] [2, 3] [2, 3]
def plain_Same_r1 : IC := cReg Try.prog [
    ⟨some 5, none, iFad 5 0 (.tmp 2)⟩,
    ⟨some 6, none, iLoad 6 1 false (.tmp 5) false⟩,
    ⟨some 7, none, iFad 7 0 (.tmp 3)⟩,
    ⟨some 8, none, iLoad 8 1 false (.tmp 7) false⟩,
    ⟨some 9, none, iBin 9 .eql (.tmp 6) (.tmp 8)⟩,
    ⟨some 10, none, iMov 10 (.tmp 9) false⟩,
    ⟨some 11, some (10, true), iFad 11 1 (.tmp 2)⟩,
    ⟨some 12, some (10, true), iLoad 12 1 false (.tmp 11) false⟩,
    ⟨some 13, some (10, true), iFad 13 1 (.tmp 3)⟩,
    ⟨some 14, some (10, true), iLoad 14 1 false (.tmp 13) false⟩,
    ⟨some 15, some (10, true), iCall 15 44 [(.tmp 12), (.tmp 14)]⟩,
    ⟨some 16, none, iPick 16 (.tmp 10) (.tmp 15) (.const (.bool false))⟩,
    ⟨some 4, none, iMov 4 (.tmp 16) true⟩] [4] []
def plain_Same : IC := (cSeq plain_Same_r0 (cSeq plain_Same_r1 cRet))
theorem told_plain_Same {args r : List D} (hl : args.length = 2) (h : plain_Same (start args) (fin [(4, none)] r)) : Told Try.prog 29 args r :=
  told_of follows Try.func29 rfl (an := [([2, 3], [2, 3], []), ([4], [], [])]) (by kernel_rfl) (by kernel_rfl) (by rw [hl]; decide +kernel) h

def plain_Of_r0 : IC := cReg Try.prog [
    ⟨some 4, none, iMov 4 (.const (.slice none 0 0)) true⟩] [0, 1] []
def plain_Of_r1 : IC := cReg Try.prog [
    ⟨some 5, none, iMov 5 (.const (.slice none 0 0)) true⟩] [0, 1, 5] []
def plain_Of_r2 : IC := cReg Try.prog [
    ⟨some 8, none, iMov 8 (.tmp 0) false⟩,
    ⟨some 9, none, iLen 9 false (.tmp 8)⟩,
    ⟨some 10, none, iMov 10 (.const (.int .i64 0)) false⟩] [1, 5, 8, 9, 10] []
def plain_Of_r3 : IC := cReg Try.prog [
    ⟨some 11, none, iBin 11 .lss (.tmp 10) (.tmp 9)⟩] [1, 5, 8, 9, 10, 11] []
def plain_Of_c3 : IC := cCond (.tmp 11) cSkip (cExit 0)
def plain_Of_r4 : IC := cReg Try.prog [
    ⟨some 12, none, iIaS 12 2 (.tmp 8) (.tmp 10)⟩,
    ⟨some 13, none, iLoad 13 2 true (.tmp 12) false⟩,
    ⟨some 7, none, iAlo 7 [vD (.int .i64 0), vD (.slice none 0 0)]⟩,
    ⟨none, none, iStor 2 (.tmp 7) (.tmp 13)⟩] [1, 5, 7, 8, 9, 10] [7]
def plain_Of_r5 : IC := cReg Try.prog [
    ⟨some 14, none, iFad 14 0 (.tmp 7)⟩,
    ⟨some 15, none, iLoad 15 1 false (.tmp 14) false⟩,
    ⟨some 16, none, iMov 16 (.tmp 1) false⟩,
    ⟨some 17, none, iBin 17 .eql (.tmp 15) (.tmp 16)⟩] [1, 5, 7, 8, 9, 10, 17] [7]
def plain_Of_r6 : IC := cReg Try.prog [
    ⟨some 18, none, iMov 18 (.tmp 5) true⟩,
    ⟨some 19, none, iMov 19 (.tmp 1) false⟩,
    ⟨some 20, none, iFad 20 1 (.tmp 7)⟩,
    ⟨some 21, none, iLoad 21 1 false (.tmp 20) false⟩,
    ⟨some 22, none, iCall 22 45 [(.tmp 21)]⟩,
    ⟨some 23, none, iBld 23 [vD (.int .i64 0), vD (.slice none 0 0)] [(0, 1), (1, 1)] [(.tmp 19), (.tmp 22)]⟩,
    ⟨some 24, none, iRow 24 34 2 [(.tmp 23)]⟩,
    ⟨some 25, none, iApp 25 34 2 32 (.tmp 18) (.tmp 24)⟩,
    ⟨some 5, none, iMov 5 (.tmp 25) true⟩] [1, 5, 8, 9, 10] []
def plain_Of_c5 : IC := cCond (.tmp 17) plain_Of_r6 cSkip
def plain_Of_b4 : IC := cBlock 1 (cSeq plain_Of_r4 (cSeq plain_Of_r5 plain_Of_c5))
def plain_Of_r7 : IC := cReg Try.prog [
    ⟨some 26, none, iBin 26 .add (.tmp 10) (.const (.int .i64 1))⟩,
    ⟨some 10, none, iMov 10 (.tmp 26) false⟩] [1, 5, 8, 9, 10] []
def plain_Of_l2a : IC := (cSeq plain_Of_r3 (cSeq plain_Of_c3 (cSeq plain_Of_b4 plain_Of_r7)))
def plain_Of_l2 : IC := cLoop plain_Of_l2a
def plain_Of_b1 : IC := cBlock 0 plain_Of_l2
def plain_Of_r8 : IC := cReg Try.prog [
    ⟨some 27, none, iMov 27 (.tmp 5) false⟩,
    ⟨some 4, none, iMov 4 (.tmp 27) true⟩] [4] []
def plain_Of : IC := (cSeq plain_Of_r0 (cSeq plain_Of_r1 (cSeq (cSeq plain_Of_r2 plain_Of_b1) (cSeq plain_Of_r8 cRet))))
theorem told_plain_Of {args r : List D} (hl : args.length = 2) (h : plain_Of (start args) (fin [(4, none)] r)) : Told Try.prog 32 args r :=
  told_of follows Try.func32 rfl (an := [([0, 1], [], []), ([0, 1, 5], [], []), ([1, 5, 8, 9, 10], [], []), ([1, 5, 8, 9, 10, 11], [], []), ([1, 5, 7, 8, 9, 10], [7], []), ([1, 5, 7, 8, 9, 10, 17], [7], []), ([1, 5, 8, 9, 10], [], []), ([1, 5, 8, 9, 10], [], []), ([4], [], [])]) (by kernel_rfl) (by kernel_rfl) (by rw [hl]; decide +kernel) h

def plain_find_r0 : IC := cReg Try.prog [
    ⟨some 6, none, iMov 6 (.const (.int .i64 0)) true⟩] [0, 1, 2] []
def plain_find_r1 : IC := cReg Try.prog [
    ⟨some 7, none, iMov 7 (.tmp 2) false⟩,
    ⟨some 8, none, iMov 8 (.tmp 0) false⟩,
    ⟨some 9, none, iLen 9 false (.tmp 8)⟩,
    ⟨some 10, none, iBin 10 .lss (.tmp 7) (.tmp 9)⟩,
    ⟨some 11, none, iMov 11 (.tmp 10) false⟩,
    ⟨some 12, some (11, true), iMov 12 (.tmp 0) false⟩,
    ⟨some 13, some (11, true), iMov 13 (.tmp 2) false⟩,
    ⟨some 14, some (11, true), iIaS 14 2 (.tmp 12) (.tmp 13)⟩,
    ⟨some 15, some (11, true), iFad 15 0 (.tmp 14)⟩,
    ⟨some 16, some (11, true), iLoad 16 1 false (.tmp 15) false⟩,
    ⟨some 17, some (11, true), iMov 17 (.tmp 1) false⟩,
    ⟨some 18, some (11, true), iBin 18 .neq (.tmp 16) (.tmp 17)⟩,
    ⟨some 19, none, iPick 19 (.tmp 11) (.tmp 18) (.const (.bool false))⟩] [0, 1, 2, 19] []
def plain_find_c3 : IC := cCond (.tmp 19) cSkip (cExit 0)
def plain_find_r2 : IC := cReg Try.prog [
    ⟨some 20, none, iMov 20 (.tmp 2) false⟩,
    ⟨some 21, none, iBin 21 .add (.tmp 20) (.const (.int .i64 1))⟩,
    ⟨some 2, none, iMov 2 (.tmp 21) true⟩] [0, 1, 2] []
def plain_find_b4 : IC := cBlock 1 plain_find_r2
def plain_find_l2a : IC := (cSeq (cSeq plain_find_r1 plain_find_c3) plain_find_b4)
def plain_find_l2 : IC := cLoop plain_find_l2a
def plain_find_b1 : IC := cBlock 0 plain_find_l2
def plain_find_r3 : IC := cReg Try.prog [
    ⟨some 22, none, iMov 22 (.tmp 2) false⟩,
    ⟨some 6, none, iMov 6 (.tmp 22) true⟩] [6] []
def plain_find : IC := (cSeq plain_find_r0 (cSeq plain_find_b1 (cSeq plain_find_r3 cRet)))
theorem told_plain_find {args r : List D} (hl : args.length = 3) (h : plain_find (start args) (fin [(6, none)] r)) : Told Try.prog 46 args r :=
  told_of follows Try.func46 rfl (an := [([0, 1, 2], [], []), ([0, 1, 2, 19], [], []), ([0, 1, 2], [], []), ([6], [], [])]) (by kernel_rfl) (by kernel_rfl) (by rw [hl]; decide +kernel) h

def plain_Fits_r0 : IC := cReg Try.prog [
    ⟨some 4, none, iMov 4 (.const (.bool false)) true⟩] [0, 1] []
def plain_Fits_r1 : IC := cReg Try.prog [
    ⟨some 9, none, iMkM 9⟩,
    ⟨some 5, none, iMov 5 (.tmp 9) true⟩] [0, 1, 5] [200009]
def plain_Fits_r2 : IC := cReg Try.prog [
    ⟨some 10, none, iMov 10 (.tmp 0) false⟩,
    ⟨some 11, none, iLen 11 false (.tmp 10)⟩,
    ⟨some 12, none, iMov 12 (.const (.int .i64 0)) false⟩] [1, 5, 10, 11, 12] [200009]
def plain_Fits_r3 : IC := cReg Try.prog [
    ⟨some 13, none, iBin 13 .lss (.tmp 12) (.tmp 11)⟩] [1, 5, 10, 11, 12, 13] [200009]
def plain_Fits_c3 : IC := cCond (.tmp 13) cSkip (cExit 0)
def plain_Fits_r4 : IC := cReg Try.prog [
    ⟨some 14, none, iIaS 14 2 (.tmp 10) (.tmp 12)⟩,
    ⟨some 15, none, iLoad 15 2 true (.tmp 14) false⟩,
    ⟨some 7, none, iAlo 7 [vD (.int .i64 0), vD (.slice none 0 0)]⟩,
    ⟨none, none, iStor 2 (.tmp 7) (.tmp 15)⟩] [1, 5, 7, 10, 11, 12] [7, 200009]
def plain_Fits_r5 : IC := cReg Try.prog [
    ⟨some 16, none, iMov 16 (.tmp 1) false⟩,
    ⟨some 17, none, iFad 17 0 (.tmp 7)⟩,
    ⟨some 18, none, iLoad 18 1 false (.tmp 17) false⟩,
    ⟨some 19, none, iMov 19 (.tmp 5) false⟩,
    ⟨some 20, none, iFad 20 0 (.tmp 7)⟩,
    ⟨some 21, none, iLoad 21 1 false (.tmp 20) false⟩,
    ⟨some 22, none, iLku 22 (.int .i64 0) (.tmp 19) (.tmp 21)⟩,
    ⟨some 23, none, iCall 23 46 [(.tmp 16), (.tmp 18), (.tmp 22)]⟩,
    ⟨some 8, none, iMov 8 (.tmp 23) true⟩] [1, 5, 7, 8, 10, 11, 12] [7, 200009]
def plain_Fits_r6 : IC := cRegD Try.prog [
    ⟨some 24, none, iMov 24 (.tmp 8) false⟩,
    ⟨some 25, none, iMov 25 (.tmp 1) false⟩,
    ⟨some 26, none, iLen 26 false (.tmp 25)⟩,
    ⟨some 27, none, iBin 27 .eql (.tmp 24) (.tmp 26)⟩,
    ⟨some 28, none, iMov 28 (.tmp 27) false⟩,
    ⟨some 29, some (28, false), iLoad 29 2 true (.tmp 7) false⟩,
    ⟨some 30, some (28, false), iMov 30 (.tmp 1) false⟩,
    ⟨some 31, some (28, false), iMov 31 (.tmp 8) false⟩,
    ⟨some 32, some (28, false), iIaS 32 2 (.tmp 30) (.tmp 31)⟩,
    ⟨some 33, some (28, false), iLoad 33 2 true (.tmp 32) false⟩,
    ⟨some 34, some (28, false), iCall 34 29 [(.tmp 29), (.tmp 33)]⟩,
    ⟨some 35, some (28, false), iNot 35 (.tmp 34)⟩,
    ⟨some 36, none, iPick 36 (.tmp 28) (.const (.bool true)) (.tmp 35)⟩] [[], [], [1], [0, 2, 1], [3, 0, 2, 1], [4, 3, 0, 2, 1], [4, 3, 0, 2, 1], [4, 3, 0, 2, 1], [6, 7, 4, 3, 0, 2, 1], [8, 4, 6, 7, 3, 0, 2, 1], [5, 9, 4, 3, 0, 2, 1, 8, 6, 7], [10, 4, 5, 9, 3, 0, 2, 1, 8, 6, 7], [4, 11, 3, 0, 2, 1, 10, 5, 9, 8, 6, 7]] [1, 5, 7, 8, 10, 11, 12, 36] [7, 200009]
def plain_Fits_r7 : IC := cReg Try.prog [
    ⟨some 4, none, iMov 4 (.const (.bool false)) true⟩] [4] []
def plain_Fits_c5a : IC := (cSeq plain_Fits_r7 cRet)
def plain_Fits_c5 : IC := cCond (.tmp 36) plain_Fits_c5a cSkip
def plain_Fits_r8 : IC := cReg Try.prog [
    ⟨some 37, none, iMov 37 (.tmp 5) false⟩,
    ⟨some 38, none, iFad 38 0 (.tmp 7)⟩,
    ⟨some 39, none, iLoad 39 1 false (.tmp 38) false⟩,
    ⟨some 40, none, iMov 40 (.tmp 8) false⟩,
    ⟨some 41, none, iBin 41 .add (.tmp 40) (.const (.int .i64 1))⟩,
    ⟨none, none, iUpd (.tmp 37) (.tmp 39) (.tmp 41)⟩] [1, 5, 10, 11, 12] [200009]
def plain_Fits_b4 : IC := cBlock 1 (cSeq plain_Fits_r4 (cSeq plain_Fits_r5 (cSeq (cSeq plain_Fits_r6 plain_Fits_c5) plain_Fits_r8)))
def plain_Fits_r9 : IC := cReg Try.prog [
    ⟨some 42, none, iBin 42 .add (.tmp 12) (.const (.int .i64 1))⟩,
    ⟨some 12, none, iMov 12 (.tmp 42) false⟩] [1, 5, 10, 11, 12] [200009]
def plain_Fits_l2a : IC := (cSeq plain_Fits_r3 (cSeq plain_Fits_c3 (cSeq plain_Fits_b4 plain_Fits_r9)))
def plain_Fits_l2 : IC := cLoop plain_Fits_l2a
def plain_Fits_b1 : IC := cBlock 0 plain_Fits_l2
def plain_Fits_r10 : IC := cReg Try.prog [
    ⟨some 4, none, iMov 4 (.const (.bool true)) true⟩] [4] []
def plain_Fits : IC := (cSeq plain_Fits_r0 (cSeq plain_Fits_r1 (cSeq (cSeq plain_Fits_r2 plain_Fits_b1) (cSeq plain_Fits_r10 cRet))))
theorem told_plain_Fits {args r : List D} (hl : args.length = 2) (h : plain_Fits (start args) (fin [(4, none)] r)) : Told Try.prog 34 args r :=
  told_of follows Try.func34 rfl (an := [([0, 1], [], []), ([0, 1, 5], [200009], []), ([1, 5, 10, 11, 12], [200009], []), ([1, 5, 10, 11, 12, 13], [200009], []), ([1, 5, 7, 10, 11, 12], [7, 200009], []), ([1, 5, 7, 8, 10, 11, 12], [7, 200009], []), ([1, 5, 7, 8, 10, 11, 12, 36], [7, 200009], []), ([4], [], []), ([1, 5, 10, 11, 12], [200009], []), ([1, 5, 10, 11, 12], [200009], []), ([4], [], [])]) (by kernel_rfl) (by kernel_rfl) (by rw [hl]; decide +kernel) h

def plain_All_r0 : IC := cReg Try.prog [
    ⟨some 4, none, iMov 4 (.const (.bool false)) true⟩] [0, 1] []
def plain_All_r1 : IC := cReg Try.prog [
    ⟨some 5, none, iMov 5 (.tmp 0) false⟩,
    ⟨some 6, none, iLen 6 false (.tmp 5)⟩,
    ⟨some 7, none, iMov 7 (.tmp 1) false⟩,
    ⟨some 8, none, iLen 8 false (.tmp 7)⟩,
    ⟨some 9, none, iBin 9 .eql (.tmp 6) (.tmp 8)⟩,
    ⟨some 10, none, iMov 10 (.tmp 9) false⟩,
    ⟨some 11, some (10, true), iMov 11 (.tmp 0) false⟩,
    ⟨some 12, some (10, true), iMov 12 (.tmp 1) false⟩,
    ⟨some 13, some (10, true), iCall 13 34 [(.tmp 11), (.tmp 12)]⟩,
    ⟨some 14, none, iPick 14 (.tmp 10) (.tmp 13) (.const (.bool false))⟩,
    ⟨some 4, none, iMov 4 (.tmp 14) true⟩] [4] []
def plain_All : IC := (cSeq plain_All_r0 (cSeq plain_All_r1 cRet))
theorem told_plain_All {args r : List D} (hl : args.length = 2) (h : plain_All (start args) (fin [(4, none)] r)) : Told Try.prog 36 args r :=
  told_of follows Try.func36 rfl (an := [([0, 1], [], []), ([4], [], [])]) (by kernel_rfl) (by kernel_rfl) (by rw [hl]; decide +kernel) h

def r1_WrongMsg_r0 : IC := cReg Try.prog [
    ⟨some 1, none, iBox 1 (.tmp 0)⟩,
    ⟨some 2, none, iMov 2 (.const (.int .i64 0)) true⟩] [1] [1]
def r1_WrongMsg_r1 : IC := cReg Try.prog [
    ⟨some 3, none, iFad 3 0 (.tmp 1)⟩,
    ⟨some 4, none, iLoad 4 1 false (.tmp 3) false⟩,
    ⟨some 5, none, iBin 5 .lss (.tmp 4) (.const (.int .i64 0))⟩,
    ⟨some 6, none, iMov 6 (.tmp 5) false⟩,
    ⟨some 7, some (6, false), iFad 7 0 (.tmp 1)⟩,
    ⟨some 8, some (6, false), iLoad 8 1 false (.tmp 7) false⟩,
    ⟨some 9, some (6, false), iBin 9 .gtr (.tmp 8) (.const (.int .i64 2))⟩,
    ⟨some 10, none, iPick 10 (.tmp 6) (.const (.bool true)) (.tmp 9)⟩] [1, 10] [1]
def r1_WrongMsg_r2 : IC := cReg Try.prog [
    ⟨some 2, none, iMov 2 (.const (.int .i64 3)) true⟩] [2] []
def r1_WrongMsg_c1a : IC := (cSeq r1_WrongMsg_r2 cRet)
def r1_WrongMsg_c1 : IC := cCond (.tmp 10) r1_WrongMsg_c1a cSkip
def r1_WrongMsg_r3 : IC := cReg Try.prog [
    ⟨some 11, none, iFad 11 1 (.tmp 1)⟩,
    ⟨some 12, none, iLoad 12 1 false (.tmp 11) false⟩,
    ⟨some 13, none, iLen 13 false (.tmp 12)⟩,
    ⟨some 14, none, iBin 14 .gtr (.tmp 13) (.const (.int .i64 6))⟩] [14] []
def r1_WrongMsg_r4 : IC := cReg Try.prog [
    ⟨some 2, none, iMov 2 (.const (.int .i64 4)) true⟩] [2] []
def r1_WrongMsg_c2a : IC := (cSeq r1_WrongMsg_r4 cRet)
def r1_WrongMsg_c2 : IC := cCond (.tmp 14) r1_WrongMsg_c2a cSkip
def r1_WrongMsg_r5 : IC := cReg Try.prog [
    ⟨some 2, none, iMov 2 (.const (.int .i64 0)) true⟩] [2] []
def r1_WrongMsg : IC := (cSeq r1_WrongMsg_r0 (cSeq (cSeq r1_WrongMsg_r1 r1_WrongMsg_c1) (cSeq (cSeq r1_WrongMsg_r3 r1_WrongMsg_c2) (cSeq r1_WrongMsg_r5 cRet))))
theorem told_r1_WrongMsg {args r : List D} (hl : args.length = 1) (h : r1_WrongMsg (start args) (fin [(2, none)] r)) : Told Try.prog 21 args r :=
  told_of follows Try.func21 rfl (an := [([1], [1], []), ([1, 10], [1], []), ([2], [], []), ([14], [], []), ([2], [], []), ([2], [], [])]) (by kernel_rfl) (by kernel_rfl) (by rw [hl]; decide +kernel) h

def r1_SameMsg_r0 : IC := cReg Try.prog [
    ⟨some 2, none, iBox 2 (.tmp 0)⟩,
    ⟨some 3, none, iBox 3 (.tmp 1)⟩,
    ⟨some 4, none, iMov 4 (.const (.bool false)) true⟩] [2, 3] [2, 3]
def r1_SameMsg_r1 : IC := cReg Try.prog [
    ⟨some 5, none, iFad 5 0 (.tmp 2)⟩,
    ⟨some 6, none, iLoad 6 1 false (.tmp 5) false⟩,
    ⟨some 7, none, iFad 7 0 (.tmp 3)⟩,
    ⟨some 8, none, iLoad 8 1 false (.tmp 7) false⟩,
    ⟨some 9, none, iBin 9 .eql (.tmp 6) (.tmp 8)⟩,
    ⟨some 10, none, iMov 10 (.tmp 9) false⟩,
    ⟨some 11, some (10, true), iFad 11 1 (.tmp 2)⟩,
    ⟨some 12, some (10, true), iLoad 12 1 false (.tmp 11) false⟩,
    ⟨some 13, some (10, true), iStr 13 (.tmp 12)⟩,
    ⟨some 14, some (10, true), iFad 14 1 (.tmp 3)⟩,
    ⟨some 15, some (10, true), iLoad 15 1 false (.tmp 14) false⟩,
    ⟨some 16, some (10, true), iStr 16 (.tmp 15)⟩,
    ⟨some 17, some (10, true), iBin 17 .eql (.tmp 13) (.tmp 16)⟩,
    ⟨some 18, none, iPick 18 (.tmp 10) (.tmp 17) (.const (.bool false))⟩,
    ⟨some 4, none, iMov 4 (.tmp 18) true⟩] [4] []
def r1_SameMsg : IC := (cSeq r1_SameMsg_r0 (cSeq r1_SameMsg_r1 cRet))
theorem told_r1_SameMsg {args r : List D} (hl : args.length = 2) (h : r1_SameMsg (start args) (fin [(4, none)] r)) : Told Try.prog 30 args r :=
  told_of follows Try.func30 rfl (an := [([2, 3], [2, 3], []), ([4], [], [])]) (by kernel_rfl) (by kernel_rfl) (by rw [hl]; decide +kernel) h

def r1_SameMsgs_r0 : IC := cReg Try.prog [
    ⟨some 4, none, iMov 4 (.const (.bool false)) true⟩] [0, 1] []
def r1_SameMsgs_r1 : IC := cReg Try.prog [
    ⟨some 6, none, iMov 6 (.tmp 0) false⟩,
    ⟨some 7, none, iLen 7 false (.tmp 6)⟩,
    ⟨some 8, none, iMov 8 (.tmp 1) false⟩,
    ⟨some 9, none, iLen 9 false (.tmp 8)⟩,
    ⟨some 10, none, iBin 10 .neq (.tmp 7) (.tmp 9)⟩] [0, 1, 10] []
def r1_SameMsgs_r2 : IC := cReg Try.prog [
    ⟨some 4, none, iMov 4 (.const (.bool false)) true⟩] [4] []
def r1_SameMsgs_c1a : IC := (cSeq r1_SameMsgs_r2 cRet)
def r1_SameMsgs_c1 : IC := cCond (.tmp 10) r1_SameMsgs_c1a cSkip
def r1_SameMsgs_r3 : IC := cReg Try.prog [
    ⟨some 11, none, iMov 11 (.tmp 0) false⟩,
    ⟨some 12, none, iLen 12 false (.tmp 11)⟩,
    ⟨some 13, none, iMov 13 (.const (.int .i64 0)) false⟩] [0, 1, 12, 13] []
def r1_SameMsgs_r4 : IC := cReg Try.prog [
    ⟨some 14, none, iBin 14 .lss (.tmp 13) (.tmp 12)⟩] [0, 1, 12, 13, 14] []
def r1_SameMsgs_c4 : IC := cCond (.tmp 14) cSkip (cExit 0)
def r1_SameMsgs_r5 : IC := cReg Try.prog [
    ⟨some 15, none, iMov 15 (.tmp 13) false⟩,
    ⟨some 5, none, iMov 5 (.tmp 15) true⟩] [0, 1, 5, 12, 13] []
def r1_SameMsgs_r6 : IC := cRegD Try.prog [
    ⟨some 16, none, iMov 16 (.tmp 0) false⟩,
    ⟨some 17, none, iMov 17 (.tmp 5) false⟩,
    ⟨some 18, none, iIaS 18 2 (.tmp 16) (.tmp 17)⟩,
    ⟨some 19, none, iLoad 19 2 true (.tmp 18) false⟩,
    ⟨some 20, none, iMov 20 (.tmp 1) false⟩,
    ⟨some 21, none, iMov 21 (.tmp 5) false⟩,
    ⟨some 22, none, iIaS 22 2 (.tmp 20) (.tmp 21)⟩,
    ⟨some 23, none, iLoad 23 2 true (.tmp 22) false⟩,
    ⟨some 24, none, iCall 24 30 [(.tmp 19), (.tmp 23)]⟩,
    ⟨some 25, none, iNot 25 (.tmp 24)⟩] [[], [], [0, 1], [2, 0, 1], [], [], [4, 5], [6, 4, 5], [3, 7, 2, 0, 1, 6, 4, 5], [8, 3, 7, 2, 0, 1, 6, 4, 5]] [0, 1, 12, 13, 25] []
def r1_SameMsgs_r7 : IC := cReg Try.prog [
    ⟨some 4, none, iMov 4 (.const (.bool false)) true⟩] [4] []
def r1_SameMsgs_c6a : IC := (cSeq r1_SameMsgs_r7 cRet)
def r1_SameMsgs_c6 : IC := cCond (.tmp 25) r1_SameMsgs_c6a cSkip
def r1_SameMsgs_b5 : IC := cBlock 1 (cSeq r1_SameMsgs_r5 (cSeq r1_SameMsgs_r6 r1_SameMsgs_c6))
def r1_SameMsgs_r8 : IC := cReg Try.prog [
    ⟨some 26, none, iBin 26 .add (.tmp 13) (.const (.int .i64 1))⟩,
    ⟨some 13, none, iMov 13 (.tmp 26) false⟩] [0, 1, 12, 13] []
def r1_SameMsgs_l3a : IC := (cSeq r1_SameMsgs_r4 (cSeq r1_SameMsgs_c4 (cSeq r1_SameMsgs_b5 r1_SameMsgs_r8)))
def r1_SameMsgs_l3 : IC := cLoop r1_SameMsgs_l3a
def r1_SameMsgs_b2 : IC := cBlock 0 r1_SameMsgs_l3
def r1_SameMsgs_r9 : IC := cReg Try.prog [
    ⟨some 4, none, iMov 4 (.const (.bool true)) true⟩] [4] []
def r1_SameMsgs : IC := (cSeq r1_SameMsgs_r0 (cSeq (cSeq r1_SameMsgs_r1 r1_SameMsgs_c1) (cSeq (cSeq r1_SameMsgs_r3 r1_SameMsgs_b2) (cSeq r1_SameMsgs_r9 cRet))))
theorem told_r1_SameMsgs {args r : List D} (hl : args.length = 2) (h : r1_SameMsgs (start args) (fin [(4, none)] r)) : Told Try.prog 31 args r :=
  told_of follows Try.func31 rfl (an := [([0, 1], [], []), ([0, 1, 10], [], []), ([4], [], []), ([0, 1, 12, 13], [], []), ([0, 1, 12, 13, 14], [], []), ([0, 1, 5, 12, 13], [], []), ([0, 1, 12, 13, 25], [], []), ([4], [], []), ([0, 1, 12, 13], [], []), ([4], [], [])]) (by kernel_rfl) (by kernel_rfl) (by rw [hl]; decide +kernel) h

def r1_Of_r0 : IC := cReg Try.prog [
    ⟨some 4, none, iMov 4 (.const (.slice none 0 0)) true⟩] [0, 1] []
def r1_Of_r1 : IC := cReg Try.prog [
    ⟨some 5, none, iMov 5 (.const (.slice none 0 0)) true⟩] [0, 1, 5] []
def r1_Of_r2 : IC := cReg Try.prog [
    ⟨some 8, none, iMov 8 (.tmp 0) false⟩,
    ⟨some 9, none, iLen 9 false (.tmp 8)⟩,
    ⟨some 10, none, iMov 10 (.const (.int .i64 0)) false⟩] [1, 5, 8, 9, 10] []
def r1_Of_r3 : IC := cReg Try.prog [
    ⟨some 11, none, iBin 11 .lss (.tmp 10) (.tmp 9)⟩] [1, 5, 8, 9, 10, 11] []
def r1_Of_c3 : IC := cCond (.tmp 11) cSkip (cExit 0)
def r1_Of_r4 : IC := cReg Try.prog [
    ⟨some 12, none, iIaS 12 2 (.tmp 8) (.tmp 10)⟩,
    ⟨some 13, none, iLoad 13 2 true (.tmp 12) false⟩,
    ⟨some 7, none, iAlo 7 [vD (.int .i64 0), vD (.slice none 0 0)]⟩,
    ⟨none, none, iStor 2 (.tmp 7) (.tmp 13)⟩] [1, 5, 7, 8, 9, 10] [7]
def r1_Of_r5 : IC := cReg Try.prog [
    ⟨some 14, none, iFad 14 0 (.tmp 7)⟩,
    ⟨some 15, none, iLoad 15 1 false (.tmp 14) false⟩,
    ⟨some 16, none, iMov 16 (.tmp 1) false⟩,
    ⟨some 17, none, iBin 17 .eql (.tmp 15) (.tmp 16)⟩] [1, 5, 7, 8, 9, 10, 17] [7]
def r1_Of_r6 : IC := cReg Try.prog [
    ⟨some 18, none, iMov 18 (.tmp 5) true⟩,
    ⟨some 19, none, iLoad 19 2 true (.tmp 7) false⟩,
    ⟨some 20, none, iRow 20 34 2 [(.tmp 19)]⟩,
    ⟨some 21, none, iApp 21 34 2 32 (.tmp 18) (.tmp 20)⟩,
    ⟨some 5, none, iMov 5 (.tmp 21) true⟩] [1, 5, 8, 9, 10] []
def r1_Of_c5 : IC := cCond (.tmp 17) r1_Of_r6 cSkip
def r1_Of_b4 : IC := cBlock 1 (cSeq r1_Of_r4 (cSeq r1_Of_r5 r1_Of_c5))
def r1_Of_r7 : IC := cReg Try.prog [
    ⟨some 22, none, iBin 22 .add (.tmp 10) (.const (.int .i64 1))⟩,
    ⟨some 10, none, iMov 10 (.tmp 22) false⟩] [1, 5, 8, 9, 10] []
def r1_Of_l2a : IC := (cSeq r1_Of_r3 (cSeq r1_Of_c3 (cSeq r1_Of_b4 r1_Of_r7)))
def r1_Of_l2 : IC := cLoop r1_Of_l2a
def r1_Of_b1 : IC := cBlock 0 r1_Of_l2
def r1_Of_r8 : IC := cReg Try.prog [
    ⟨some 23, none, iMov 23 (.tmp 5) false⟩,
    ⟨some 4, none, iMov 4 (.tmp 23) true⟩] [4] []
def r1_Of : IC := (cSeq r1_Of_r0 (cSeq r1_Of_r1 (cSeq (cSeq r1_Of_r2 r1_Of_b1) (cSeq r1_Of_r8 cRet))))
theorem told_r1_Of {args r : List D} (hl : args.length = 2) (h : r1_Of (start args) (fin [(4, none)] r)) : Told Try.prog 33 args r :=
  told_of follows Try.func33 rfl (an := [([0, 1], [], []), ([0, 1, 5], [], []), ([1, 5, 8, 9, 10], [], []), ([1, 5, 8, 9, 10, 11], [], []), ([1, 5, 7, 8, 9, 10], [7], []), ([1, 5, 7, 8, 9, 10, 17], [7], []), ([1, 5, 8, 9, 10], [], []), ([1, 5, 8, 9, 10], [], []), ([4], [], [])]) (by kernel_rfl) (by kernel_rfl) (by rw [hl]; decide +kernel) h

def r1_Fits_r0 : IC := cReg Try.prog [
    ⟨some 4, none, iMov 4 (.const (.bool false)) true⟩] [0, 1] []
def r1_Fits_r1 : IC := cReg Try.prog [
    ⟨some 8, none, iMov 8 (.const (.int .i64 0)) false⟩] [0, 1, 8] []
def r1_Fits_r2 : IC := cReg Try.prog [
    ⟨some 9, none, iBin 9 .lss (.tmp 8) (.const (.int .i64 3))⟩] [0, 1, 8, 9] []
def r1_Fits_c3 : IC := cCond (.tmp 9) cSkip (cExit 0)
def r1_Fits_r3 : IC := cReg Try.prog [
    ⟨some 10, none, iMov 10 (.tmp 8) false⟩,
    ⟨some 5, none, iMov 5 (.tmp 10) true⟩] [0, 1, 5, 8] []
def r1_Fits_r4 : IC := cReg Try.prog [
    ⟨some 11, none, iMov 11 (.tmp 0) false⟩,
    ⟨some 12, none, iMov 12 (.tmp 5) false⟩,
    ⟨some 13, none, iCall 13 33 [(.tmp 11), (.tmp 12)]⟩,
    ⟨some 14, none, iMov 14 (.tmp 1) false⟩,
    ⟨some 15, none, iMov 15 (.tmp 5) false⟩,
    ⟨some 16, none, iCall 16 33 [(.tmp 14), (.tmp 15)]⟩,
    ⟨some 6, none, iMov 6 (.tmp 13) true⟩,
    ⟨some 7, none, iMov 7 (.tmp 16) true⟩] [0, 1, 6, 7, 8] []
def r1_Fits_r5 : IC := cReg Try.prog [
    ⟨some 17, none, iMov 17 (.tmp 6) false⟩,
    ⟨some 18, none, iLen 18 false (.tmp 17)⟩,
    ⟨some 19, none, iMov 19 (.tmp 7) false⟩,
    ⟨some 20, none, iLen 20 false (.tmp 19)⟩,
    ⟨some 21, none, iBin 21 .gtr (.tmp 18) (.tmp 20)⟩,
    ⟨some 22, none, iMov 22 (.tmp 21) false⟩,
    ⟨some 23, some (22, false), iMov 23 (.tmp 6) false⟩,
    ⟨some 24, some (22, false), iMov 24 (.tmp 7) false⟩,
    ⟨some 25, some (22, false), iMov 25 (.tmp 6) false⟩,
    ⟨some 26, some (22, false), iLen 26 false (.tmp 25)⟩,
    ⟨some 27, some (22, false), iSlc 27 2 (.tmp 24) none (some (.tmp 26))⟩,
    ⟨some 28, some (22, false), iCall 28 31 [(.tmp 23), (.tmp 27)]⟩,
    ⟨some 29, some (22, false), iNot 29 (.tmp 28)⟩,
    ⟨some 30, none, iPick 30 (.tmp 22) (.const (.bool true)) (.tmp 29)⟩] [0, 1, 8, 30] []
def r1_Fits_r6 : IC := cReg Try.prog [
    ⟨some 4, none, iMov 4 (.const (.bool false)) true⟩] [4] []
def r1_Fits_c5a : IC := (cSeq r1_Fits_r6 cRet)
def r1_Fits_c5 : IC := cCond (.tmp 30) r1_Fits_c5a cSkip
def r1_Fits_b4 : IC := cBlock 1 (cSeq r1_Fits_r3 (cSeq r1_Fits_r4 (cSeq r1_Fits_r5 r1_Fits_c5)))
def r1_Fits_r7 : IC := cReg Try.prog [
    ⟨some 31, none, iBin 31 .add (.tmp 8) (.const (.int .i64 1))⟩,
    ⟨some 8, none, iMov 8 (.tmp 31) false⟩] [0, 1, 8] []
def r1_Fits_l2a : IC := (cSeq r1_Fits_r2 (cSeq r1_Fits_c3 (cSeq r1_Fits_b4 r1_Fits_r7)))
def r1_Fits_l2 : IC := cLoop r1_Fits_l2a
def r1_Fits_b1 : IC := cBlock 0 r1_Fits_l2
def r1_Fits_r8 : IC := cReg Try.prog [
    ⟨some 4, none, iMov 4 (.const (.bool true)) true⟩] [4] []
def r1_Fits : IC := (cSeq r1_Fits_r0 (cSeq (cSeq r1_Fits_r1 r1_Fits_b1) (cSeq r1_Fits_r8 cRet)))
theorem told_r1_Fits {args r : List D} (hl : args.length = 2) (h : r1_Fits (start args) (fin [(4, none)] r)) : Told Try.prog 35 args r :=
  told_of follows Try.func35 rfl (an := [([0, 1], [], []), ([0, 1, 8], [], []), ([0, 1, 8, 9], [], []), ([0, 1, 5, 8], [], []), ([0, 1, 6, 7, 8], [], []), ([0, 1, 8, 30], [], []), ([4], [], []), ([0, 1, 8], [], []), ([4], [], [])]) (by kernel_rfl) (by kernel_rfl) (by rw [hl]; decide +kernel) h

def w4_PlainTells_r0 : IC := cReg Try.prog [
    ⟨some 6, none, iMov 6 (.const (.bool false)) true⟩] [0, 1, 2] []
def w4_PlainTells_r1 : IC := cReg Try.prog [
    ⟨some 9, none, iRow 9 34 2 []⟩,
    ⟨some 10, none, iMov 10 (.tmp 0) false⟩,
    ⟨some 11, none, iApp 11 34 2 32 (.tmp 9) (.tmp 10)⟩,
    ⟨some 12, none, iMov 12 (.tmp 1) false⟩,
    ⟨some 13, none, iApp 13 34 2 32 (.tmp 11) (.tmp 12)⟩,
    ⟨some 14, none, iLen 14 false (.tmp 13)⟩,
    ⟨some 15, none, iMov 15 (.const (.int .i64 0)) false⟩] [0, 1, 2, 13, 14, 15] []
def w4_PlainTells_r2 : IC := cReg Try.prog [
    ⟨some 16, none, iBin 16 .lss (.tmp 15) (.tmp 14)⟩] [0, 1, 2, 13, 14, 15, 16] []
def w4_PlainTells_c3 : IC := cCond (.tmp 16) cSkip (cExit 0)
def w4_PlainTells_r3 : IC := cReg Try.prog [
    ⟨some 17, none, iIaS 17 2 (.tmp 13) (.tmp 15)⟩,
    ⟨some 18, none, iLoad 18 2 true (.tmp 17) false⟩,
    ⟨some 8, none, iAlo 8 [vD (.int .i64 0), vD (.slice none 0 0)]⟩,
    ⟨none, none, iStor 2 (.tmp 8) (.tmp 18)⟩] [0, 1, 2, 8, 13, 14, 15] [8]
def w4_PlainTells_r4 : IC := cReg Try.prog [
    ⟨some 19, none, iLoad 19 2 true (.tmp 8) false⟩,
    ⟨some 20, none, iCall 20 21 [(.tmp 19)]⟩,
    ⟨some 21, none, iBin 21 .neq (.tmp 20) (.const (.int .i64 0))⟩] [0, 1, 2, 8, 13, 14, 15, 21] [8]
def w4_PlainTells_r5 : IC := cReg Try.prog [
    ⟨some 6, none, iMov 6 (.const (.bool true)) true⟩] [6] []
def w4_PlainTells_c5a : IC := (cSeq w4_PlainTells_r5 cRet)
def w4_PlainTells_c5 : IC := cCond (.tmp 21) w4_PlainTells_c5a cSkip
def w4_PlainTells_r6 : IC := cRegD Try.prog [
    ⟨some 22, none, iMov 22 (.tmp 1) false⟩,
    ⟨some 23, none, iLen 23 false (.tmp 22)⟩,
    ⟨some 24, none, iBin 24 .gtr (.tmp 23) (.const (.int .i64 0))⟩,
    ⟨some 25, none, iMov 25 (.tmp 24) false⟩,
    ⟨some 26, some (25, true), iLoad 26 2 true (.tmp 8) false⟩,
    ⟨some 27, some (25, true), iMov 27 (.tmp 1) false⟩,
    ⟨some 28, some (25, true), iIaS 28 2 (.tmp 27) (.const (.int .i64 0))⟩,
    ⟨some 29, some (25, true), iLoad 29 2 true (.tmp 28) false⟩,
    ⟨some 30, some (25, true), iCall 30 29 [(.tmp 26), (.tmp 29)]⟩,
    ⟨some 31, some (25, true), iLoad 31 2 true (.tmp 8) false⟩,
    ⟨some 32, some (25, true), iMov 32 (.tmp 1) false⟩,
    ⟨some 33, some (25, true), iIaS 33 2 (.tmp 32) (.const (.int .i64 0))⟩,
    ⟨some 34, some (25, true), iLoad 34 2 true (.tmp 33) false⟩,
    ⟨some 35, some (25, true), iCall 35 30 [(.tmp 31), (.tmp 34)]⟩,
    ⟨some 36, some (25, true), iBinB 36 false (.tmp 30) (.tmp 35)⟩,
    ⟨some 37, none, iPick 37 (.tmp 25) (.tmp 36) (.const (.bool false))⟩] [[], [0], [1, 0], [2, 1, 0], [3, 2, 1, 0], [3, 2, 1, 0], [5, 3, 2, 1, 0], [6, 3, 5, 2, 1, 0], [4, 7, 3, 2, 1, 0, 6, 5], [3, 2, 1, 0], [3, 2, 1, 0], [10, 3, 2, 1, 0], [11, 3, 10, 2, 1, 0], [9, 12, 8, 3, 2, 1, 0, 11, 10, 4, 7, 6, 5], [8, 13, 3, 4, 7, 2, 1, 0, 6, 5, 9, 12, 11, 10], [3, 14, 2, 1, 0, 8, 13, 4, 7, 6, 5, 9, 12, 11, 10]] [0, 1, 2, 13, 14, 15, 37] []
def w4_PlainTells_r7 : IC := cReg Try.prog [
    ⟨some 6, none, iMov 6 (.const (.bool false)) true⟩] [6] []
def w4_PlainTells_c6a : IC := (cSeq w4_PlainTells_r7 cRet)
def w4_PlainTells_c6 : IC := cCond (.tmp 37) w4_PlainTells_c6a cSkip
def w4_PlainTells_b4 : IC := cBlock 1 (cSeq w4_PlainTells_r3 (cSeq (cSeq w4_PlainTells_r4 w4_PlainTells_c5) (cSeq w4_PlainTells_r6 w4_PlainTells_c6)))
def w4_PlainTells_r8 : IC := cReg Try.prog [
    ⟨some 38, none, iBin 38 .add (.tmp 15) (.const (.int .i64 1))⟩,
    ⟨some 15, none, iMov 15 (.tmp 38) false⟩] [0, 1, 2, 13, 14, 15] []
def w4_PlainTells_l2a : IC := (cSeq w4_PlainTells_r2 (cSeq w4_PlainTells_c3 (cSeq w4_PlainTells_b4 w4_PlainTells_r8)))
def w4_PlainTells_l2 : IC := cLoop w4_PlainTells_l2a
def w4_PlainTells_b1 : IC := cBlock 0 w4_PlainTells_l2
def w4_PlainTells_r9 : IC := cReg Try.prog [
    ⟨some 39, none, iMov 39 (.tmp 0) false⟩,
    ⟨some 40, none, iMov 40 (.tmp 2) false⟩,
    ⟨some 41, none, iCall 41 32 [(.tmp 39), (.tmp 40)]⟩,
    ⟨some 42, none, iMov 42 (.tmp 0) false⟩,
    ⟨some 43, none, iMov 43 (.tmp 2) false⟩,
    ⟨some 44, none, iCall 44 33 [(.tmp 42), (.tmp 43)]⟩,
    ⟨some 45, none, iCall 45 31 [(.tmp 41), (.tmp 44)]⟩,
    ⟨some 46, none, iMov 46 (.tmp 45) false⟩,
    ⟨some 47, some (46, true), iMov 47 (.tmp 0) false⟩,
    ⟨some 48, some (46, true), iMov 48 (.tmp 1) false⟩,
    ⟨some 49, some (46, true), iCall 49 34 [(.tmp 47), (.tmp 48)]⟩,
    ⟨some 50, some (46, true), iMov 50 (.tmp 0) false⟩,
    ⟨some 51, some (46, true), iMov 51 (.tmp 1) false⟩,
    ⟨some 52, some (46, true), iCall 52 35 [(.tmp 50), (.tmp 51)]⟩,
    ⟨some 53, some (46, true), iBinB 53 true (.tmp 49) (.tmp 52)⟩,
    ⟨some 54, none, iPick 54 (.tmp 46) (.tmp 53) (.const (.bool false))⟩,
    ⟨some 55, none, iMov 55 (.tmp 54) false⟩,
    ⟨some 56, some (55, true), iMov 56 (.tmp 0) false⟩,
    ⟨some 57, some (55, true), iMov 57 (.tmp 1) false⟩,
    ⟨some 58, some (55, true), iCall 58 36 [(.tmp 56), (.tmp 57)]⟩,
    ⟨some 59, some (55, true), iMov 59 (.tmp 0) false⟩,
    ⟨some 60, some (55, true), iMov 60 (.tmp 1) false⟩,
    ⟨some 61, some (55, true), iCall 61 35 [(.tmp 59), (.tmp 60)]⟩,
    ⟨some 62, some (55, true), iMov 62 (.tmp 61) false⟩,
    ⟨some 63, some (62, true), iMov 63 (.tmp 0) false⟩,
    ⟨some 64, some (62, true), iLen 64 false (.tmp 63)⟩,
    ⟨some 65, some (62, true), iMov 65 (.tmp 1) false⟩,
    ⟨some 66, some (62, true), iLen 66 false (.tmp 65)⟩,
    ⟨some 67, some (62, true), iBin 67 .eql (.tmp 64) (.tmp 66)⟩,
    ⟨some 68, some (55, true), iPick 68 (.tmp 62) (.tmp 67) (.const (.bool false))⟩,
    ⟨some 69, some (55, true), iBinB 69 true (.tmp 58) (.tmp 68)⟩,
    ⟨some 70, none, iPick 70 (.tmp 55) (.tmp 69) (.const (.bool false))⟩,
    ⟨some 6, none, iMov 6 (.tmp 70) true⟩] [6] []
def w4_PlainTells : IC := (cSeq w4_PlainTells_r0 (cSeq (cSeq w4_PlainTells_r1 w4_PlainTells_b1) (cSeq w4_PlainTells_r9 cRet)))
theorem told_w4_PlainTells {args r : List D} (hl : args.length = 3) (h : w4_PlainTells (start args) (fin [(6, none)] r)) : Told Try.prog 9 args r :=
  told_of follows Try.func9 rfl (an := [([0, 1, 2], [], []), ([0, 1, 2, 13, 14, 15], [], []), ([0, 1, 2, 13, 14, 15, 16], [], []), ([0, 1, 2, 8, 13, 14, 15], [8], []), ([0, 1, 2, 8, 13, 14, 15, 21], [8], []), ([6], [], []), ([0, 1, 2, 13, 14, 15, 37], [], []), ([6], [], []), ([0, 1, 2, 13, 14, 15], [], []), ([6], [], [])]) (by kernel_rfl) (by kernel_rfl) (by rw [hl]; decide +kernel) h

end Go.Proofs.Ytkkneafaklmnaaa.ab
