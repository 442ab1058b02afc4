/-
  Several texts in one.
-/
import Derived.Test.YtngfedhffehkaacM41
import Derived.Test.YtngfedhffehkaacM42
import Derived.Test.YtngfedhffehkaacPLane3
import Derived.Test.YtngfedhffehkaacM23
import Derived.Test.YtngfedhffehkaacProg

/-
  What the functions of package view are held to.
-/
namespace Go.Proofs.Ytngfedhffehkaac.ab
set_option linter.unusedVariables false
set_option linter.unusedSimpArgs false
open Go Go.RowKit
open mth

def CVOf (f : Nat) : Prop := ∀ (w : Wd) (t : Int), GoodW w → Told Try.prog f [aD (encWd w), vI t] [aD (encLn (ofW w t).1), vB (ofW w t).2]
/-- Messages of steps, no longer than a copy may be. -/
def SmallD (l : List Sp) : Prop := ∀ s ∈ l, s.msg.data.length ≤ 1048576
def CVOnly (f : Nat) : Prop := ∀ (l : List Sp) (t : Int), l.length ≤ 1048576 → SmallD l → Told Try.prog f [sD 7 (encSl l), vI t] [sD 7 (encSl (onlyW l t))]
def CVPuts (f : Nat) : Prop := ∀ (l : List Sp) (es : List Int) (t : Int), l.length ≤ 1048576 → SmallD l → es.length ≤ 9223372036854775807 → Told Try.prog f [sD 7 (encSl l), sD 1 (es.map vI), vI t] [sD 2 (encMl (putsW l es t))]
theorem of_in {w : Wd} {t : Nat} (h : t < w.lanes.length) : ofW w t = (w.lanes.getD t zeroL, true) := by
  unfold ofW
  rw [if_neg (by omega)]
  rfl
theorem of_out {w : Wd} {t : Int} (h : t < 0 ∨ (w.lanes.length : Int) ≤ t) : ofW w t = (zeroL, false) := by
  unfold ofW
  rw [if_pos h]
theorem sim_of {t : Nat} {w x : Wd} (h : Sim t w x) : ofW w t = ofW x t := by
  have e : w.lanes.getD t zeroL = x.lanes.getD t zeroL := by rw [List.getD_eq_getElem?_getD, List.getD_eq_getElem?_getD, h.l]
  unfold ofW
  rw [h.n, Int.toNat_natCast, e]
theorem only_snoc (l : List Sp) (s : Sp) (t : Int) : onlyW (l ++ [s]) t = onlyW l t ++ (if mineB t s = true then [s] else []) := by
  unfold onlyW
  rw [List.filter_append]
  congr 1
  cases h : mineB t s with
  | true => rw [List.filter_cons_of_pos h]; rfl
  | false => rw [List.filter_cons_of_neg (by rw [h]; simp)]; rfl
end Go.Proofs.Ytngfedhffehkaac.ab

/-
  Functions as plain code (written by wip/abs/ir.py): lklaw10.alive, lklaw10.ViewAlone, lklaw10.ViewSwap.
-/
namespace Go.Proofs.Ytngfedhffehkaac.ab
set_option linter.unusedSimpArgs false
set_option linter.unusedVariables false
set_option maxRecDepth 100000
open Go Go.RowKit

def w10_alive_r0 : IC := cReg Try.prog [
    ⟨some 0, none, iMov 0 (.const (.bool false)) true⟩] [] []
def w10_alive_r1 : IC := cReg Try.prog [
    ⟨some 9, none, iCall 9 22 [(.const (.int .i64 2))]⟩,
    ⟨some 8, none, iMov 8 (.tmp 9) false⟩,
    ⟨some 10, none, iExt 10 (.tmp 8) 0⟩,
    ⟨some 11, none, iExt 11 (.tmp 8) 1⟩,
    ⟨some 1, none, iAlo 1 [vD (.slice none 0 0), vD (.int .i64 0)]⟩,
    ⟨none, none, iStor 2 (.tmp 1) (.tmp 10)⟩,
    ⟨some 2, none, iMov 2 (.tmp 11) true⟩] [1] [1]
def w10_alive_r2 : IC := cReg Try.prog [
    ⟨some 13, none, iLoad 13 2 true (.tmp 1) false⟩,
    ⟨some 14, none, iCall 14 13 [(.tmp 13), (.const (.int .i64 1))]⟩,
    ⟨some 12, none, iMov 12 (.tmp 14) false⟩,
    ⟨some 15, none, iExt 15 (.tmp 12) 0⟩,
    ⟨some 16, none, iExt 16 (.tmp 12) 1⟩,
    ⟨some 3, none, iAlo 3 [vD (.slice none 0 0), vD (.int .i64 0), vD (.int .i64 0), vD (.int .i64 0), vD (.int .i64 0), vD (.slice none 0 0), vD (.int .i64 0), vD (.int .i64 0), vD (.slice none 0 0), vD (.int .i64 0), vD (.int .i64 0), vD (.int .i64 0), vD (.slice none 0 0), vD (.slice none 0 0), vD (.bool false), vD (.slice none 0 0), vD (.slice none 0 0)]⟩,
    ⟨none, none, iStor 17 (.tmp 3) (.tmp 15)⟩,
    ⟨some 4, none, iMov 4 (.tmp 16) true⟩] [1, 4] [1]
def w10_alive_r3 : IC := cReg Try.prog [
    ⟨some 18, none, iLoad 18 2 true (.tmp 1) false⟩,
    ⟨some 19, none, iCall 19 13 [(.tmp 18), (.const (.int .i64 2))]⟩,
    ⟨some 17, none, iMov 17 (.tmp 19) false⟩,
    ⟨some 20, none, iExt 20 (.tmp 17) 0⟩,
    ⟨some 21, none, iExt 21 (.tmp 17) 1⟩,
    ⟨some 5, none, iAlo 5 [vD (.slice none 0 0), vD (.int .i64 0), vD (.int .i64 0), vD (.int .i64 0), vD (.int .i64 0), vD (.slice none 0 0), vD (.int .i64 0), vD (.int .i64 0), vD (.slice none 0 0), vD (.int .i64 0), vD (.int .i64 0), vD (.int .i64 0), vD (.slice none 0 0), vD (.slice none 0 0), vD (.bool false), vD (.slice none 0 0), vD (.slice none 0 0)]⟩,
    ⟨none, none, iStor 17 (.tmp 5) (.tmp 20)⟩,
    ⟨some 6, none, iMov 6 (.tmp 21) true⟩] [4, 6] []
def w10_alive_r4 : IC := cReg Try.prog [
    ⟨some 22, none, iBld 22 [vD (.int .i64 0), vD (.int .i64 0), vD (.int .i64 0), vD (.int .i64 0), vD (.bool false), vD (.int .i64 0), vD (.slice none 0 0)] [(0, 1)] [(.const (.int .i64 1))]⟩,
    ⟨some 23, none, iBld 23 [vD (.int .i64 0), vD (.int .i64 0), vD (.int .i64 0), vD (.int .i64 0), vD (.bool false), vD (.int .i64 0), vD (.slice none 0 0)] [(0, 1), (1, 1)] [(.const (.int .i64 2)), (.const (.int .i64 1))]⟩,
    ⟨some 24, none, iBld 24 [vD (.int .i64 0), vD (.int .i64 0), vD (.int .i64 0), vD (.int .i64 0), vD (.bool false), vD (.int .i64 0), vD (.slice none 0 0)] [(0, 1)] [(.const (.int .i64 2))]⟩,
    ⟨some 25, none, iRow 25 27 7 [(.tmp 22), (.tmp 23), (.tmp 24)]⟩,
    ⟨some 7, none, iMov 7 (.tmp 25) true⟩] [4, 6, 7] []
def w10_alive_r5_0 : IC := cReg Try.prog [
    ⟨some 26, none, iMov 26 (.tmp 4) false⟩,
    ⟨some 27, none, iMov 27 (.tmp 26) false⟩,
    ⟨some 28, some (27, true), iMov 28 (.tmp 6) false⟩,
    ⟨some 29, some (27, true), iNot 29 (.tmp 28)⟩,
    ⟨some 30, none, iPick 30 (.tmp 27) (.tmp 29) (.const (.bool false))⟩,
    ⟨some 31, none, iMov 31 (.tmp 30) false⟩,
    ⟨some 32, some (31, true), iMov 32 (.tmp 7) false⟩,
    ⟨some 33, some (31, true), iCall 33 14 [(.tmp 32), (.const (.int .i64 1))]⟩,
    ⟨some 34, some (31, true), iLen 34 false (.tmp 33)⟩,
    ⟨some 35, some (31, true), iBin 35 .eql (.tmp 34) (.const (.int .i64 2))⟩] [7, 31, 35] []
def w10_alive_r5_1 : IC := cReg Try.prog [
    ⟨some 36, none, iPick 36 (.tmp 31) (.tmp 35) (.const (.bool false))⟩,
    ⟨some 37, none, iMov 37 (.tmp 36) false⟩,
    ⟨some 38, some (37, true), iMov 38 (.tmp 7) false⟩,
    ⟨some 39, some (37, true), iRow 39 35 1 [(.const (.int .i64 0)), (.const (.int .i64 0)), (.const (.int .i64 9))]⟩,
    ⟨some 40, some (37, true), iCall 40 17 [(.tmp 38), (.tmp 39), (.const (.int .i64 1))]⟩,
    ⟨some 41, some (37, true), iLen 41 false (.tmp 40)⟩,
    ⟨some 42, some (37, true), iBin 42 .eql (.tmp 41) (.const (.int .i64 1))⟩,
    ⟨some 43, none, iPick 43 (.tmp 37) (.tmp 42) (.const (.bool false))⟩,
    ⟨some 0, none, iMov 0 (.tmp 43) true⟩] [0] []
def w10_alive_r5 : IC := (cSeq w10_alive_r5_0 w10_alive_r5_1)
def w10_alive : IC := (cSeq w10_alive_r0 (cSeq w10_alive_r1 (cSeq w10_alive_r2 (cSeq w10_alive_r3 (cSeq w10_alive_r4 (cSeq w10_alive_r5 cRet))))))
theorem told_w10_alive {args r : List D} (hl : args.length = 0) (h : w10_alive (start args) (fin [(0, none)] r)) : Told Try.prog 19 args r :=
  told_of follows Try.func19 rfl (an := [([], [], [], []), ([], [1], [1], []), ([], [1, 4], [1], []), ([], [4, 6], [], []), ([], [4, 6, 7], [], []), ([(10, [7, 31, 35], [])], [0], [], [])]) (by kernel_rfl) (by kernel_rfl) (by rw [hl]; decide +kernel) h

def w10_ViewAlone_r0 : IC := cReg Try.prog [
    ⟨some 6, none, iMov 6 (.const (.bool false)) true⟩] [0, 1, 2] []
def w10_ViewAlone_r1 : IC := cReg Try.prog [
    ⟨some 15, none, iCall 15 19 []⟩,
    ⟨some 16, none, iNot 16 (.tmp 15)⟩] [0, 1, 2, 16] []
def w10_ViewAlone_r2 : IC := cReg Try.prog [
    ⟨some 6, none, iMov 6 (.const (.bool false)) true⟩] [6] []
def w10_ViewAlone_c1a : IC := (cSeq w10_ViewAlone_r2 cRet)
def w10_ViewAlone_c1 : IC := cCond (.tmp 16) w10_ViewAlone_c1a cSkip
def w10_ViewAlone_r3_0 : IC := cReg Try.prog [
    ⟨some 17, none, iMov 17 (.tmp 0) false⟩,
    ⟨some 18, none, iBin 18 .lss (.tmp 17) (.const (.int .i64 1))⟩,
    ⟨some 19, none, iMov 19 (.tmp 18) false⟩,
    ⟨some 20, some (19, false), iMov 20 (.tmp 0) false⟩,
    ⟨some 21, some (19, false), iBin 21 .gtr (.tmp 20) (.const (.int .i64 3))⟩,
    ⟨some 22, none, iPick 22 (.tmp 19) (.const (.bool true)) (.tmp 21)⟩,
    ⟨some 23, none, iMov 23 (.tmp 22) false⟩,
    ⟨some 24, some (23, false), iMov 24 (.tmp 2) false⟩,
    ⟨some 25, some (23, false), iBin 25 .lss (.tmp 24) (.const (.int .i64 0))⟩,
    ⟨some 26, none, iPick 26 (.tmp 23) (.const (.bool true)) (.tmp 25)⟩] [0, 1, 2, 26] []
def w10_ViewAlone_r3_1 : IC := cReg Try.prog [
    ⟨some 27, none, iMov 27 (.tmp 26) false⟩,
    ⟨some 28, some (27, false), iMov 28 (.tmp 2) false⟩,
    ⟨some 29, some (27, false), iMov 29 (.tmp 0) false⟩,
    ⟨some 30, some (27, false), iBin 30 .geq (.tmp 28) (.tmp 29)⟩,
    ⟨some 31, none, iPick 31 (.tmp 27) (.const (.bool true)) (.tmp 30)⟩,
    ⟨some 32, none, iMov 32 (.tmp 31) false⟩,
    ⟨some 33, some (32, false), iMov 33 (.tmp 1) false⟩,
    ⟨some 34, some (32, false), iLen 34 false (.tmp 33)⟩,
    ⟨some 35, some (32, false), iBin 35 .gtr (.tmp 34) (.const (.int .i64 160))⟩,
    ⟨some 36, none, iPick 36 (.tmp 32) (.const (.bool true)) (.tmp 35)⟩] [0, 1, 2, 36] []
def w10_ViewAlone_r3 : IC := (cSeq w10_ViewAlone_r3_0 w10_ViewAlone_r3_1)
def w10_ViewAlone_r4 : IC := cReg Try.prog [
    ⟨some 6, none, iMov 6 (.const (.bool true)) true⟩] [6] []
def w10_ViewAlone_c2a : IC := (cSeq w10_ViewAlone_r4 cRet)
def w10_ViewAlone_c2 : IC := cCond (.tmp 36) w10_ViewAlone_c2a cSkip
def w10_ViewAlone_r5 : IC := cReg Try.prog [
    ⟨some 38, none, iMov 38 (.tmp 0) false⟩,
    ⟨some 39, none, iMov 39 (.tmp 1) false⟩,
    ⟨some 40, none, iCall 40 9 [(.tmp 38), (.tmp 39)]⟩,
    ⟨some 37, none, iMov 37 (.tmp 40) false⟩,
    ⟨some 41, none, iExt 41 (.tmp 37) 0⟩,
    ⟨some 42, none, iExt 42 (.tmp 37) 1⟩,
    ⟨some 7, none, iAlo 7 [vD (.slice none 0 0), vD (.int .i64 0)]⟩,
    ⟨none, none, iStor 2 (.tmp 7) (.tmp 41)⟩,
    ⟨some 8, none, iMov 8 (.tmp 42) true⟩] [0, 1, 2, 7] [7]
def w10_ViewAlone_r6 : IC := cReg Try.prog [
    ⟨some 44, none, iMov 44 (.tmp 0) false⟩,
    ⟨some 45, none, iMov 45 (.tmp 1) false⟩,
    ⟨some 46, none, iMov 46 (.tmp 2) false⟩,
    ⟨some 47, none, iCall 47 14 [(.tmp 45), (.tmp 46)]⟩,
    ⟨some 48, none, iCall 48 9 [(.tmp 44), (.tmp 47)]⟩,
    ⟨some 43, none, iMov 43 (.tmp 48) false⟩,
    ⟨some 49, none, iExt 49 (.tmp 43) 0⟩,
    ⟨some 50, none, iExt 50 (.tmp 43) 1⟩,
    ⟨some 9, none, iAlo 9 [vD (.slice none 0 0), vD (.int .i64 0)]⟩,
    ⟨none, none, iStor 2 (.tmp 9) (.tmp 49)⟩,
    ⟨some 10, none, iMov 10 (.tmp 50) true⟩] [2, 7, 9] [7, 9]
def w10_ViewAlone_r7 : IC := cReg Try.prog [
    ⟨some 52, none, iLoad 52 2 true (.tmp 7) false⟩,
    ⟨some 53, none, iMov 53 (.tmp 2) false⟩,
    ⟨some 54, none, iCall 54 13 [(.tmp 52), (.tmp 53)]⟩,
    ⟨some 51, none, iMov 51 (.tmp 54) false⟩,
    ⟨some 55, none, iExt 55 (.tmp 51) 0⟩,
    ⟨some 56, none, iExt 56 (.tmp 51) 1⟩,
    ⟨some 11, none, iAlo 11 [vD (.slice none 0 0), vD (.int .i64 0), vD (.int .i64 0), vD (.int .i64 0), vD (.int .i64 0), vD (.slice none 0 0), vD (.int .i64 0), vD (.int .i64 0), vD (.slice none 0 0), vD (.int .i64 0), vD (.int .i64 0), vD (.int .i64 0), vD (.slice none 0 0), vD (.slice none 0 0), vD (.bool false), vD (.slice none 0 0), vD (.slice none 0 0)]⟩,
    ⟨none, none, iStor 17 (.tmp 11) (.tmp 55)⟩,
    ⟨some 12, none, iMov 12 (.tmp 56) true⟩] [2, 7, 9, 11, 12] [7, 9, 11]
def w10_ViewAlone_r8 : IC := cReg Try.prog [
    ⟨some 58, none, iLoad 58 2 true (.tmp 9) false⟩,
    ⟨some 59, none, iMov 59 (.tmp 2) false⟩,
    ⟨some 60, none, iCall 60 13 [(.tmp 58), (.tmp 59)]⟩,
    ⟨some 57, none, iMov 57 (.tmp 60) false⟩,
    ⟨some 61, none, iExt 61 (.tmp 57) 0⟩,
    ⟨some 62, none, iExt 62 (.tmp 57) 1⟩,
    ⟨some 13, none, iAlo 13 [vD (.slice none 0 0), vD (.int .i64 0), vD (.int .i64 0), vD (.int .i64 0), vD (.int .i64 0), vD (.slice none 0 0), vD (.int .i64 0), vD (.int .i64 0), vD (.slice none 0 0), vD (.int .i64 0), vD (.int .i64 0), vD (.int .i64 0), vD (.slice none 0 0), vD (.slice none 0 0), vD (.bool false), vD (.slice none 0 0), vD (.slice none 0 0)]⟩,
    ⟨none, none, iStor 17 (.tmp 13) (.tmp 61)⟩,
    ⟨some 14, none, iMov 14 (.tmp 62) true⟩] [7, 9, 11, 12, 13, 14] [7, 9, 11, 13]
def w10_ViewAlone_r9_0 : IC := cReg Try.prog [
    ⟨some 63, none, iMov 63 (.tmp 12) false⟩,
    ⟨some 64, none, iMov 64 (.tmp 63) false⟩,
    ⟨some 65, some (64, true), iMov 65 (.tmp 14) false⟩,
    ⟨some 66, none, iPick 66 (.tmp 64) (.tmp 65) (.const (.bool false))⟩,
    ⟨some 67, none, iMov 67 (.tmp 66) false⟩,
    ⟨some 68, some (67, true), iLoad 68 17 true (.tmp 11) false⟩,
    ⟨some 69, some (67, true), iLoad 69 17 true (.tmp 13) false⟩,
    ⟨some 70, some (67, true), iCall 70 12 [(.tmp 68), (.tmp 69)]⟩,
    ⟨some 71, none, iPick 71 (.tmp 67) (.tmp 70) (.const (.bool false))⟩,
    ⟨some 72, none, iMov 72 (.tmp 71) false⟩] [7, 9, 72] [7, 9]
def w10_ViewAlone_r9_1 : IC := cReg Try.prog [
    ⟨some 73, some (72, true), iFad 73 1 (.tmp 7)⟩,
    ⟨some 74, some (72, true), iLoad 74 1 false (.tmp 73) false⟩,
    ⟨some 75, some (72, true), iFad 75 1 (.tmp 9)⟩,
    ⟨some 76, some (72, true), iLoad 76 1 false (.tmp 75) false⟩,
    ⟨some 77, some (72, true), iBin 77 .eql (.tmp 74) (.tmp 76)⟩,
    ⟨some 78, none, iPick 78 (.tmp 72) (.tmp 77) (.const (.bool false))⟩,
    ⟨some 6, none, iMov 6 (.tmp 78) true⟩] [6] []
def w10_ViewAlone_r9 : IC := (cSeq w10_ViewAlone_r9_0 w10_ViewAlone_r9_1)
def w10_ViewAlone : IC := (cSeq w10_ViewAlone_r0 (cSeq (cSeq w10_ViewAlone_r1 w10_ViewAlone_c1) (cSeq (cSeq w10_ViewAlone_r3 w10_ViewAlone_c2) (cSeq w10_ViewAlone_r5 (cSeq w10_ViewAlone_r6 (cSeq w10_ViewAlone_r7 (cSeq w10_ViewAlone_r8 (cSeq w10_ViewAlone_r9 cRet))))))))
theorem told_w10_ViewAlone {args r : List D} (hl : args.length = 3) (h : w10_ViewAlone (start args) (fin [(6, none)] r)) : Told Try.prog 6 args r :=
  told_of follows Try.func6 rfl (an := [([], [0, 1, 2], [], []), ([], [0, 1, 2, 16], [], []), ([], [6], [], []), ([(10, [0, 1, 2, 26], [])], [0, 1, 2, 36], [], []), ([], [6], [], []), ([], [0, 1, 2, 7], [7], []), ([], [2, 7, 9], [7, 9], []), ([], [2, 7, 9, 11, 12], [7, 9, 11], []), ([], [7, 9, 11, 12, 13, 14], [7, 9, 11, 13], []), ([(10, [7, 9, 72], [7, 9])], [6], [], [])]) (by kernel_rfl) (by kernel_rfl) (by rw [hl]; decide +kernel) h

end Go.Proofs.Ytngfedhffehkaac.ab
