/-
  Several texts in one.
-/
import Derived.Test.YtngfedhffehkaacM41
import Derived.Test.YtngfedhffehkaacM42
import Derived.Test.YtngfedhffehkaacPLane3
import Derived.Test.YtngfedhffehkaacM23
import Derived.Test.YtngfedhffehkaacProg

/-
  What the functions of package view are held to.
-/
namespace Go.Proofs.Ytngfedhffehkaac.ab
set_option linter.unusedVariables false
set_option linter.unusedSimpArgs false
open Go Go.RowKit
open mth

def CVOf (f : Nat) : Prop := ∀ (w : Wd) (t : Int), GoodW w → Told Try.prog f [aD (encWd w), vI t] [aD (encLn (ofW w t).1), vB (ofW w t).2]
/-- Messages of steps, no longer than a copy may be. -/
def SmallD (l : List Sp) : Prop := ∀ s ∈ l, s.msg.data.length ≤ 1048576
def CVOnly (f : Nat) : Prop := ∀ (l : List Sp) (t : Int), l.length ≤ 1048576 → SmallD l → Told Try.prog f [sD 7 (encSl l), vI t] [sD 7 (encSl (onlyW l t))]
def CVPuts (f : Nat) : Prop := ∀ (l : List Sp) (es : List Int) (t : Int), l.length ≤ 1048576 → SmallD l → es.length ≤ 9223372036854775807 → Told Try.prog f [sD 7 (encSl l), sD 1 (es.map vI), vI t] [sD 2 (encMl (putsW l es t))]
theorem of_in {w : Wd} {t : Nat} (h : t < w.lanes.length) : ofW w t = (w.lanes.getD t zeroL, true) := by
  unfold ofW
  rw [if_neg (by omega)]
  rfl
theorem of_out {w : Wd} {t : Int} (h : t < 0 ∨ (w.lanes.length : Int) ≤ t) : ofW w t = (zeroL, false) := by
  unfold ofW
  rw [if_pos h]
theorem sim_of {t : Nat} {w x : Wd} (h : Sim t w x) : ofW w t = ofW x t := by
  have e : w.lanes.getD t zeroL = x.lanes.getD t zeroL := by rw [List.getD_eq_getElem?_getD, List.getD_eq_getElem?_getD, h.l]
  unfold ofW
  rw [h.n, Int.toNat_natCast, e]
theorem sl_snoc (l : List Sp) (s : Sp) : encSl (l ++ [s]) = encSl l ++ [aD (encSp s)] := by simp [encSl]
theorem only_snoc (l : List Sp) (s : Sp) (t : Int) : onlyW (l ++ [s]) t = onlyW l t ++ (if mineB t s = true then [s] else []) := by
  unfold onlyW
  rw [List.filter_append]
  congr 1
  cases h : mineB t s with
  | true => rw [List.filter_cons_of_pos h]; rfl
  | false => rw [List.filter_cons_of_neg (by rw [h]; simp)]; rfl
end Go.Proofs.Ytngfedhffehkaac.ab

/-
  Functions as plain code (written by wip/abs/ir.py): lklaw10.alive, lklaw10.ViewAlone, lklaw10.ViewSwap.
-/
namespace Go.Proofs.Ytngfedhffehkaac.ab
set_option linter.unusedSimpArgs false
set_option linter.unusedVariables false
set_option maxRecDepth 100000
open Go Go.RowKit

def w10_alive_r0 : IC := cReg Try.prog [
    ⟨some 0, none, iMov 0 (.const (.bool false)) true⟩] [] []
def w10_alive_r1 : IC := cReg Try.prog [
    ⟨some 9, none, iCall 9 22 [(.const (.int .i64 2))]⟩,
    ⟨some 8, none, iMov 8 (.tmp 9) false⟩,
    ⟨some 10, none, iExt 10 (.tmp 8) 0⟩,
    ⟨some 11, none, iExt 11 (.tmp 8) 1⟩,
    ⟨some 1, none, iAlo 1 [vD (.slice none 0 0), vD (.int .i64 0)]⟩,
    ⟨none, none, iStor 2 (.tmp 1) (.tmp 10)⟩,
    ⟨some 2, none, iMov 2 (.tmp 11) true⟩] [1] [1]
def w10_alive_r2 : IC := cReg Try.prog [
    ⟨some 13, none, iLoad 13 2 true (.tmp 1) false⟩,
    ⟨some 14, none, iCall 14 13 [(.tmp 13), (.const (.int .i64 1))]⟩,
    ⟨some 12, none, iMov 12 (.tmp 14) false⟩,
    ⟨some 15, none, iExt 15 (.tmp 12) 0⟩,
    ⟨some 16, none, iExt 16 (.tmp 12) 1⟩,
    ⟨some 3, none, iAlo 3 [vD (.slice none 0 0), vD (.int .i64 0), vD (.int .i64 0), vD (.int .i64 0), vD (.int .i64 0), vD (.slice none 0 0), vD (.int .i64 0), vD (.int .i64 0), vD (.slice none 0 0), vD (.int .i64 0), vD (.int .i64 0), vD (.int .i64 0), vD (.slice none 0 0), vD (.slice none 0 0), vD (.bool false), vD (.slice none 0 0), vD (.slice none 0 0)]⟩,
    ⟨none, none, iStor 17 (.tmp 3) (.tmp 15)⟩,
    ⟨some 4, none, iMov 4 (.tmp 16) true⟩] [1, 4] [1]
def w10_alive_r3 : IC := cReg Try.prog [
    ⟨some 18, none, iLoad 18 2 true (.tmp 1) false⟩,
    ⟨some 19, none, iCall 19 13 [(.tmp 18), (.const (.int .i64 2))]⟩,
    ⟨some 17, none, iMov 17 (.tmp 19) false⟩,
    ⟨some 20, none, iExt 20 (.tmp 17) 0⟩,
    ⟨some 21, none, iExt 21 (.tmp 17) 1⟩,
    ⟨some 5, none, iAlo 5 [vD (.slice none 0 0), vD (.int .i64 0), vD (.int .i64 0), vD (.int .i64 0), vD (.int .i64 0), vD (.slice none 0 0), vD (.int .i64 0), vD (.int .i64 0), vD (.slice none 0 0), vD (.int .i64 0), vD (.int .i64 0), vD (.int .i64 0), vD (.slice none 0 0), vD (.slice none 0 0), vD (.bool false), vD (.slice none 0 0), vD (.slice none 0 0)]⟩,
    ⟨none, none, iStor 17 (.tmp 5) (.tmp 20)⟩,
    ⟨some 6, none, iMov 6 (.tmp 21) true⟩] [4, 6] []
def w10_alive_r4 : IC := cReg Try.prog [
    ⟨some 22, none, iBld 22 [vD (.int .i64 0), vD (.int .i64 0), vD (.int .i64 0), vD (.int .i64 0), vD (.bool false), vD (.int .i64 0), vD (.slice none 0 0)] [(0, 1)] [(.const (.int .i64 1))]⟩,
    ⟨some 23, none, iBld 23 [vD (.int .i64 0), vD (.int .i64 0), vD (.int .i64 0), vD (.int .i64 0), vD (.bool false), vD (.int .i64 0), vD (.slice none 0 0)] [(0, 1), (1, 1)] [(.const (.int .i64 2)), (.const (.int .i64 1))]⟩,
    ⟨some 24, none, iBld 24 [vD (.int .i64 0), vD (.int .i64 0), vD (.int .i64 0), vD (.int .i64 0), vD (.bool false), vD (.int .i64 0), vD (.slice none 0 0)] [(0, 1)] [(.const (.int .i64 2))]⟩,
    ⟨some 25, none, iRow 25 27 7 [(.tmp 22), (.tmp 23), (.tmp 24)]⟩,
    ⟨some 7, none, iMov 7 (.tmp 25) true⟩] [4, 6, 7] []
def w10_alive_r5_0 : IC := cReg Try.prog [
    ⟨some 26, none, iMov 26 (.tmp 4) false⟩,
    ⟨some 27, none, iMov 27 (.tmp 26) false⟩,
    ⟨some 28, some (27, true), iMov 28 (.tmp 6) false⟩,
    ⟨some 29, some (27, true), iNot 29 (.tmp 28)⟩,
    ⟨some 30, none, iPick 30 (.tmp 27) (.tmp 29) (.const (.bool false))⟩,
    ⟨some 31, none, iMov 31 (.tmp 30) false⟩,
    ⟨some 32, some (31, true), iMov 32 (.tmp 7) false⟩,
    ⟨some 33, some (31, true), iCall 33 14 [(.tmp 32), (.const (.int .i64 1))]⟩,
    ⟨some 34, some (31, true), iLen 34 false (.tmp 33)⟩,
    ⟨some 35, some (31, true), iBin 35 .eql (.tmp 34) (.const (.int .i64 2))⟩] [7, 31, 35] []
def w10_alive_r5_1 : IC := cReg Try.prog [
    ⟨some 36, none, iPick 36 (.tmp 31) (.tmp 35) (.const (.bool false))⟩,
    ⟨some 37, none, iMov 37 (.tmp 36) false⟩,
    ⟨some 38, some (37, true), iMov 38 (.tmp 7) false⟩,
    ⟨some 39, some (37, true), iRow 39 35 1 [(.const (.int .i64 0)), (.const (.int .i64 0)), (.const (.int .i64 9))]⟩,
    ⟨some 40, some (37, true), iCall 40 17 [(.tmp 38), (.tmp 39), (.const (.int .i64 1))]⟩,
    ⟨some 41, some (37, true), iLen 41 false (.tmp 40)⟩,
    ⟨some 42, some (37, true), iBin 42 .eql (.tmp 41) (.const (.int .i64 1))⟩,
    ⟨some 43, none, iPick 43 (.tmp 37) (.tmp 42) (.const (.bool false))⟩,
    ⟨some 0, none, iMov 0 (.tmp 43) true⟩] [0] []
def w10_alive_r5 : IC := (cSeq w10_alive_r5_0 w10_alive_r5_1)
def w10_alive : IC := (cSeq w10_alive_r0 (cSeq w10_alive_r1 (cSeq w10_alive_r2 (cSeq w10_alive_r3 (cSeq w10_alive_r4 (cSeq w10_alive_r5 cRet))))))
theorem told_w10_alive {args r : List D} (hl : args.length = 0) (h : w10_alive (start args) (fin [(0, none)] r)) : Told Try.prog 19 args r :=
  told_of follows Try.func19 rfl (an := [([], [], [], []), ([], [1], [1], []), ([], [1, 4], [1], []), ([], [4, 6], [], []), ([], [4, 6, 7], [], []), ([(10, [7, 31, 35], [])], [0], [], [])]) (by kernel_rfl) (by kernel_rfl) (by rw [hl]; decide +kernel) h

def w10_ViewSwap_r0 : IC := cReg Try.prog [
    ⟨some 10, none, iMov 10 (.const (.bool false)) true⟩] [0, 1, 2, 3, 4] []
def w10_ViewSwap_r1 : IC := cReg Try.prog [
    ⟨some 25, none, iCall 25 19 []⟩,
    ⟨some 26, none, iNot 26 (.tmp 25)⟩] [0, 1, 2, 3, 4, 26] []
def w10_ViewSwap_r2 : IC := cReg Try.prog [
    ⟨some 10, none, iMov 10 (.const (.bool false)) true⟩] [10] []
def w10_ViewSwap_c1a : IC := (cSeq w10_ViewSwap_r2 cRet)
def w10_ViewSwap_c1 : IC := cCond (.tmp 26) w10_ViewSwap_c1a cSkip
def w10_ViewSwap_r3_0 : IC := cReg Try.prog [
    ⟨some 27, none, iMov 27 (.tmp 0) false⟩,
    ⟨some 28, none, iBin 28 .lss (.tmp 27) (.const (.int .i64 1))⟩,
    ⟨some 29, none, iMov 29 (.tmp 28) false⟩,
    ⟨some 30, some (29, false), iMov 30 (.tmp 0) false⟩,
    ⟨some 31, some (29, false), iBin 31 .gtr (.tmp 30) (.const (.int .i64 3))⟩,
    ⟨some 32, none, iPick 32 (.tmp 29) (.const (.bool true)) (.tmp 31)⟩,
    ⟨some 33, none, iMov 33 (.tmp 32) false⟩,
    ⟨some 34, some (33, false), iMov 34 (.tmp 4) false⟩,
    ⟨some 35, some (33, false), iBin 35 .lss (.tmp 34) (.const (.int .i64 0))⟩,
    ⟨some 36, none, iPick 36 (.tmp 33) (.const (.bool true)) (.tmp 35)⟩] [0, 1, 2, 3, 4, 36] []
def w10_ViewSwap_r3_1 : IC := cReg Try.prog [
    ⟨some 37, none, iMov 37 (.tmp 36) false⟩,
    ⟨some 38, some (37, false), iMov 38 (.tmp 4) false⟩,
    ⟨some 39, some (37, false), iMov 39 (.tmp 0) false⟩,
    ⟨some 40, some (37, false), iBin 40 .geq (.tmp 38) (.tmp 39)⟩,
    ⟨some 41, none, iPick 41 (.tmp 37) (.const (.bool true)) (.tmp 40)⟩,
    ⟨some 42, none, iMov 42 (.tmp 41) false⟩,
    ⟨some 43, some (42, false), iMov 43 (.tmp 1) false⟩,
    ⟨some 44, some (42, false), iLen 44 false (.tmp 43)⟩,
    ⟨some 45, some (42, false), iMov 45 (.tmp 2) false⟩,
    ⟨some 46, some (42, false), iLen 46 false (.tmp 45)⟩,
    ⟨some 47, some (42, false), iBin 47 .add (.tmp 44) (.tmp 46)⟩,
    ⟨some 48, some (42, false), iBin 48 .gtr (.tmp 47) (.const (.int .i64 160))⟩,
    ⟨some 49, none, iPick 49 (.tmp 42) (.const (.bool true)) (.tmp 48)⟩] [0, 1, 2, 3, 4, 49] []
def w10_ViewSwap_r3 : IC := (cSeq w10_ViewSwap_r3_0 w10_ViewSwap_r3_1)
def w10_ViewSwap_r4 : IC := cReg Try.prog [
    ⟨some 10, none, iMov 10 (.const (.bool true)) true⟩] [10] []
def w10_ViewSwap_c2a : IC := (cSeq w10_ViewSwap_r4 cRet)
def w10_ViewSwap_c2 : IC := cCond (.tmp 49) w10_ViewSwap_c2a cSkip
def w10_ViewSwap_r5 : IC := cReg Try.prog [
    ⟨some 50, none, iMov 50 (.tmp 2) false⟩,
    ⟨some 51, none, iLen 51 false (.tmp 50)⟩,
    ⟨some 52, none, iMov 52 (.const (.int .i64 0)) false⟩] [0, 1, 2, 3, 4, 50, 51, 52] []
def w10_ViewSwap_r6 : IC := cReg Try.prog [
    ⟨some 53, none, iBin 53 .lss (.tmp 52) (.tmp 51)⟩] [0, 1, 2, 3, 4, 50, 51, 52, 53] []
def w10_ViewSwap_c5 : IC := cCond (.tmp 53) cSkip (cExit 0)
def w10_ViewSwap_r7 : IC := cReg Try.prog [
    ⟨some 54, none, iIaS 54 7 (.tmp 50) (.tmp 52)⟩,
    ⟨some 55, none, iLoad 55 7 true (.tmp 54) false⟩,
    ⟨some 12, none, iAlo 12 [vD (.int .i64 0), vD (.int .i64 0), vD (.int .i64 0), vD (.int .i64 0), vD (.bool false), vD (.int .i64 0), vD (.slice none 0 0)]⟩,
    ⟨none, none, iStor 7 (.tmp 12) (.tmp 55)⟩] [0, 1, 2, 3, 4, 12, 50, 51, 52] [12]
def w10_ViewSwap_r8 : IC := cReg Try.prog [
    ⟨some 56, none, iFad 56 1 (.tmp 12)⟩,
    ⟨some 57, none, iLoad 57 1 false (.tmp 56) false⟩,
    ⟨some 58, none, iMov 58 (.tmp 4) false⟩,
    ⟨some 59, none, iBin 59 .eql (.tmp 57) (.tmp 58)⟩,
    ⟨some 60, none, iMov 60 (.tmp 59) false⟩,
    ⟨some 61, some (60, false), iFad 61 0 (.tmp 12)⟩,
    ⟨some 62, some (60, false), iLoad 62 1 false (.tmp 61) false⟩,
    ⟨some 63, some (60, false), iBin 63 .eql (.tmp 62) (.const (.int .i64 1))⟩,
    ⟨some 64, none, iPick 64 (.tmp 60) (.const (.bool true)) (.tmp 63)⟩] [0, 1, 2, 3, 4, 50, 51, 52, 64] []
def w10_ViewSwap_r9 : IC := cReg Try.prog [
    ⟨some 10, none, iMov 10 (.const (.bool true)) true⟩] [10] []
def w10_ViewSwap_c7a : IC := (cSeq w10_ViewSwap_r9 cRet)
def w10_ViewSwap_c7 : IC := cCond (.tmp 64) w10_ViewSwap_c7a cSkip
def w10_ViewSwap_b6 : IC := cBlock 1 (cSeq w10_ViewSwap_r7 (cSeq w10_ViewSwap_r8 w10_ViewSwap_c7))
def w10_ViewSwap_r10 : IC := cReg Try.prog [
    ⟨some 65, none, iBin 65 .add (.tmp 52) (.const (.int .i64 1))⟩,
    ⟨some 52, none, iMov 52 (.tmp 65) false⟩] [0, 1, 2, 3, 4, 50, 51, 52] []
def w10_ViewSwap_l4a : IC := (cSeq w10_ViewSwap_r6 (cSeq w10_ViewSwap_c5 (cSeq w10_ViewSwap_b6 w10_ViewSwap_r10)))
def w10_ViewSwap_l4 : IC := cLoop w10_ViewSwap_l4a
def w10_ViewSwap_b3 : IC := cBlock 0 w10_ViewSwap_l4
def w10_ViewSwap_r11 : IC := cReg Try.prog [
    ⟨some 13, none, iMov 13 (.const (.slice none 0 0)) true⟩] [0, 1, 2, 3, 4, 13] []
def w10_ViewSwap_r12 : IC := cReg Try.prog [
    ⟨some 14, none, iMov 14 (.const (.int .i64 0)) true⟩] [0, 1, 2, 3, 4, 13, 14] []
def w10_ViewSwap_r13 : IC := cReg Try.prog [
    ⟨some 66, none, iMov 66 (.tmp 1) false⟩,
    ⟨some 67, none, iLen 67 false (.tmp 66)⟩,
    ⟨some 68, none, iMov 68 (.const (.int .i64 0)) false⟩] [0, 1, 2, 3, 4, 13, 14, 66, 67, 68] []
def w10_ViewSwap_r14 : IC := cReg Try.prog [
    ⟨some 69, none, iBin 69 .lss (.tmp 68) (.tmp 67)⟩] [0, 1, 2, 3, 4, 13, 14, 66, 67, 68, 69] []
def w10_ViewSwap_c10 : IC := cCond (.tmp 69) cSkip (cExit 2)
def w10_ViewSwap_r15 : IC := cReg Try.prog [
    ⟨some 70, none, iMov 70 (.tmp 68) false⟩,
    ⟨some 71, none, iIaS 71 7 (.tmp 66) (.tmp 68)⟩,
    ⟨some 72, none, iLoad 72 7 true (.tmp 71) false⟩,
    ⟨some 16, none, iAlo 16 [vD (.int .i64 0), vD (.int .i64 0), vD (.int .i64 0), vD (.int .i64 0), vD (.bool false), vD (.int .i64 0), vD (.slice none 0 0)]⟩,
    ⟨some 15, none, iMov 15 (.tmp 70) true⟩,
    ⟨none, none, iStor 7 (.tmp 16) (.tmp 72)⟩] [0, 1, 2, 3, 4, 13, 14, 15, 16, 66, 67, 68] [16]
def w10_ViewSwap_r16_0 : IC := cReg Try.prog [
    ⟨some 73, none, iMov 73 (.tmp 15) false⟩,
    ⟨some 74, none, iMov 74 (.tmp 3) false⟩,
    ⟨some 75, none, iLen 75 false (.tmp 74)⟩,
    ⟨some 76, none, iBin 76 .lss (.tmp 73) (.tmp 75)⟩,
    ⟨some 77, none, iMov 77 (.tmp 76) false⟩,
    ⟨some 78, some (77, true), iMov 78 (.tmp 3) false⟩,
    ⟨some 79, some (77, true), iMov 79 (.tmp 15) false⟩,
    ⟨some 80, some (77, true), iIaS 80 1 (.tmp 78) (.tmp 79)⟩,
    ⟨some 81, some (77, true), iLoad 81 1 false (.tmp 80) false⟩,
    ⟨some 82, some (77, true), iBin 82 .gtr (.tmp 81) (.const (.int .i64 0))⟩] [0, 1, 2, 3, 4, 13, 14, 15, 16, 66, 67, 68, 77, 82] [16]
def w10_ViewSwap_r16_1 : IC := cReg Try.prog [
    ⟨some 83, none, iPick 83 (.tmp 77) (.tmp 82) (.const (.bool false))⟩,
    ⟨some 84, none, iMov 84 (.tmp 83) false⟩,
    ⟨some 85, some (84, true), iMov 85 (.tmp 14) false⟩,
    ⟨some 86, some (84, true), iMov 86 (.tmp 2) false⟩,
    ⟨some 87, some (84, true), iLen 87 false (.tmp 86)⟩,
    ⟨some 88, some (84, true), iBin 88 .lss (.tmp 85) (.tmp 87)⟩,
    ⟨some 89, none, iPick 89 (.tmp 84) (.tmp 88) (.const (.bool false))⟩] [0, 1, 2, 3, 4, 13, 14, 15, 16, 66, 67, 68, 89] [16]
def w10_ViewSwap_r16 : IC := (cSeq w10_ViewSwap_r16_0 w10_ViewSwap_r16_1)
def w10_ViewSwap_c14 : IC := cCond (.tmp 89) cSkip (cExit 4)
def w10_ViewSwap_r17 : IC := cReg Try.prog [
    ⟨some 90, none, iMov 90 (.tmp 13) true⟩,
    ⟨some 91, none, iMov 91 (.tmp 2) false⟩,
    ⟨some 92, none, iMov 92 (.tmp 14) false⟩,
    ⟨some 93, none, iIaS 93 7 (.tmp 91) (.tmp 92)⟩,
    ⟨some 94, none, iLoad 94 7 true (.tmp 93) false⟩,
    ⟨some 95, none, iRow 95 27 7 [(.tmp 94)]⟩,
    ⟨some 96, none, iApp 96 27 7 72 (.tmp 90) (.tmp 95)⟩,
    ⟨some 13, none, iMov 13 (.tmp 96) true⟩] [0, 1, 2, 3, 4, 13, 14, 15, 16, 66, 67, 68] [16]
def w10_ViewSwap_r18 : IC := cReg Try.prog [
    ⟨some 97, none, iMov 97 (.tmp 14) false⟩,
    ⟨some 98, none, iBin 98 .add (.tmp 97) (.const (.int .i64 1))⟩,
    ⟨some 14, none, iMov 14 (.tmp 98) true⟩] [0, 1, 2, 3, 4, 13, 14, 15, 16, 66, 67, 68] [16]
def w10_ViewSwap_r19 : IC := cReg Try.prog [
    ⟨some 99, none, iMov 99 (.tmp 14) false⟩,
    ⟨some 100, none, iBin 100 .rem (.tmp 99) (.const (.int .i64 3))⟩,
    ⟨some 101, none, iMov 101 (.tmp 3) false⟩,
    ⟨some 102, none, iMov 102 (.tmp 15) false⟩,
    ⟨some 103, none, iIaS 103 1 (.tmp 101) (.tmp 102)⟩,
    ⟨some 104, none, iLoad 104 1 false (.tmp 103) false⟩,
    ⟨some 105, none, iBin 105 .rem (.tmp 104) (.const (.int .i64 3))⟩,
    ⟨some 106, none, iBin 106 .eql (.tmp 100) (.tmp 105)⟩] [0, 1, 2, 3, 4, 13, 14, 15, 16, 66, 67, 68, 106] [16]
def w10_ViewSwap_c16 : IC := cCond (.tmp 106) (cExit 4) cSkip
def w10_ViewSwap_b15 : IC := cBlock 5 (cSeq w10_ViewSwap_r17 (cSeq w10_ViewSwap_r18 (cSeq w10_ViewSwap_r19 w10_ViewSwap_c16)))
def w10_ViewSwap_l13a : IC := (cSeq (cSeq w10_ViewSwap_r16 w10_ViewSwap_c14) w10_ViewSwap_b15)
def w10_ViewSwap_l13 : IC := cLoop w10_ViewSwap_l13a
def w10_ViewSwap_b12 : IC := cBlock 4 w10_ViewSwap_l13
def w10_ViewSwap_r20 : IC := cReg Try.prog [
    ⟨some 107, none, iMov 107 (.tmp 13) true⟩,
    ⟨some 108, none, iLoad 108 7 true (.tmp 16) false⟩,
    ⟨some 109, none, iRow 109 27 7 [(.tmp 108)]⟩,
    ⟨some 110, none, iApp 110 27 7 72 (.tmp 107) (.tmp 109)⟩,
    ⟨some 13, none, iMov 13 (.tmp 110) true⟩] [0, 1, 2, 3, 4, 13, 14, 66, 67, 68] []
def w10_ViewSwap_b11 : IC := cBlock 3 (cSeq w10_ViewSwap_r15 (cSeq w10_ViewSwap_b12 w10_ViewSwap_r20))
def w10_ViewSwap_r21 : IC := cReg Try.prog [
    ⟨some 111, none, iBin 111 .add (.tmp 68) (.const (.int .i64 1))⟩,
    ⟨some 68, none, iMov 68 (.tmp 111) false⟩] [0, 1, 2, 3, 4, 13, 14, 66, 67, 68] []
def w10_ViewSwap_l9a : IC := (cSeq w10_ViewSwap_r14 (cSeq w10_ViewSwap_c10 (cSeq w10_ViewSwap_b11 w10_ViewSwap_r21)))
def w10_ViewSwap_l9 : IC := cLoop w10_ViewSwap_l9a
def w10_ViewSwap_b8 : IC := cBlock 2 w10_ViewSwap_l9
def w10_ViewSwap_r22 : IC := cReg Try.prog [
    ⟨some 113, none, iMov 113 (.tmp 0) false⟩,
    ⟨some 114, none, iMov 114 (.tmp 13) false⟩,
    ⟨some 115, none, iCall 115 9 [(.tmp 113), (.tmp 114)]⟩,
    ⟨some 112, none, iMov 112 (.tmp 115) false⟩,
    ⟨some 116, none, iExt 116 (.tmp 112) 0⟩,
    ⟨some 117, none, iExt 117 (.tmp 112) 1⟩,
    ⟨some 17, none, iAlo 17 [vD (.slice none 0 0), vD (.int .i64 0)]⟩,
    ⟨none, none, iStor 2 (.tmp 17) (.tmp 116)⟩,
    ⟨some 18, none, iMov 18 (.tmp 117) true⟩] [0, 1, 4, 17] [17]
def w10_ViewSwap_r23 : IC := cReg Try.prog [
    ⟨some 119, none, iMov 119 (.tmp 0) false⟩,
    ⟨some 120, none, iMov 120 (.tmp 1) false⟩,
    ⟨some 121, none, iCall 121 9 [(.tmp 119), (.tmp 120)]⟩,
    ⟨some 118, none, iMov 118 (.tmp 121) false⟩,
    ⟨some 122, none, iExt 122 (.tmp 118) 0⟩,
    ⟨some 123, none, iExt 123 (.tmp 118) 1⟩,
    ⟨some 19, none, iAlo 19 [vD (.slice none 0 0), vD (.int .i64 0)]⟩,
    ⟨none, none, iStor 2 (.tmp 19) (.tmp 122)⟩,
    ⟨some 20, none, iMov 20 (.tmp 123) true⟩] [4, 17, 19] [17, 19]
def w10_ViewSwap_r24 : IC := cReg Try.prog [
    ⟨some 125, none, iLoad 125 2 true (.tmp 17) false⟩,
    ⟨some 126, none, iMov 126 (.tmp 4) false⟩,
    ⟨some 127, none, iCall 127 13 [(.tmp 125), (.tmp 126)]⟩,
    ⟨some 124, none, iMov 124 (.tmp 127) false⟩,
    ⟨some 128, none, iExt 128 (.tmp 124) 0⟩,
    ⟨some 129, none, iExt 129 (.tmp 124) 1⟩,
    ⟨some 21, none, iAlo 21 [vD (.slice none 0 0), vD (.int .i64 0), vD (.int .i64 0), vD (.int .i64 0), vD (.int .i64 0), vD (.slice none 0 0), vD (.int .i64 0), vD (.int .i64 0), vD (.slice none 0 0), vD (.int .i64 0), vD (.int .i64 0), vD (.int .i64 0), vD (.slice none 0 0), vD (.slice none 0 0), vD (.bool false), vD (.slice none 0 0), vD (.slice none 0 0)]⟩,
    ⟨none, none, iStor 17 (.tmp 21) (.tmp 128)⟩,
    ⟨some 22, none, iMov 22 (.tmp 129) true⟩] [4, 19, 21, 22] [19, 21]
def w10_ViewSwap_r25 : IC := cReg Try.prog [
    ⟨some 131, none, iLoad 131 2 true (.tmp 19) false⟩,
    ⟨some 132, none, iMov 132 (.tmp 4) false⟩,
    ⟨some 133, none, iCall 133 13 [(.tmp 131), (.tmp 132)]⟩,
    ⟨some 130, none, iMov 130 (.tmp 133) false⟩,
    ⟨some 134, none, iExt 134 (.tmp 130) 0⟩,
    ⟨some 135, none, iExt 135 (.tmp 130) 1⟩,
    ⟨some 23, none, iAlo 23 [vD (.slice none 0 0), vD (.int .i64 0), vD (.int .i64 0), vD (.int .i64 0), vD (.int .i64 0), vD (.slice none 0 0), vD (.int .i64 0), vD (.int .i64 0), vD (.slice none 0 0), vD (.int .i64 0), vD (.int .i64 0), vD (.int .i64 0), vD (.slice none 0 0), vD (.slice none 0 0), vD (.bool false), vD (.slice none 0 0), vD (.slice none 0 0)]⟩,
    ⟨none, none, iStor 17 (.tmp 23) (.tmp 134)⟩,
    ⟨some 24, none, iMov 24 (.tmp 135) true⟩] [21, 22, 23, 24] [21, 23]
def w10_ViewSwap_r26 : IC := cReg Try.prog [
    ⟨some 136, none, iMov 136 (.tmp 22) false⟩,
    ⟨some 137, none, iMov 137 (.tmp 136) false⟩,
    ⟨some 138, some (137, true), iMov 138 (.tmp 24) false⟩,
    ⟨some 139, none, iPick 139 (.tmp 137) (.tmp 138) (.const (.bool false))⟩,
    ⟨some 140, none, iMov 140 (.tmp 139) false⟩,
    ⟨some 141, some (140, true), iLoad 141 17 true (.tmp 21) false⟩,
    ⟨some 142, some (140, true), iLoad 142 17 true (.tmp 23) false⟩,
    ⟨some 143, some (140, true), iCall 143 12 [(.tmp 141), (.tmp 142)]⟩,
    ⟨some 144, none, iPick 144 (.tmp 140) (.tmp 143) (.const (.bool false))⟩,
    ⟨some 10, none, iMov 10 (.tmp 144) true⟩] [10] []
def w10_ViewSwap : IC := (cSeq w10_ViewSwap_r0 (cSeq (cSeq w10_ViewSwap_r1 w10_ViewSwap_c1) (cSeq (cSeq w10_ViewSwap_r3 w10_ViewSwap_c2) (cSeq (cSeq w10_ViewSwap_r5 w10_ViewSwap_b3) (cSeq w10_ViewSwap_r11 (cSeq w10_ViewSwap_r12 (cSeq (cSeq w10_ViewSwap_r13 w10_ViewSwap_b8) (cSeq w10_ViewSwap_r22 (cSeq w10_ViewSwap_r23 (cSeq w10_ViewSwap_r24 (cSeq w10_ViewSwap_r25 (cSeq w10_ViewSwap_r26 cRet))))))))))))
theorem told_w10_ViewSwap {args r : List D} (hl : args.length = 5) (h : w10_ViewSwap (start args) (fin [(10, none)] r)) : Told Try.prog 7 args r :=
  told_of follows Try.func7 rfl (an := [([], [0, 1, 2, 3, 4], [], []), ([], [0, 1, 2, 3, 4, 26], [], []), ([], [10], [], []), ([(10, [0, 1, 2, 3, 4, 36], [])], [0, 1, 2, 3, 4, 49], [], []), ([], [10], [], []), ([], [0, 1, 2, 3, 4, 50, 51, 52], [], []), ([], [0, 1, 2, 3, 4, 50, 51, 52, 53], [], []), ([], [0, 1, 2, 3, 4, 12, 50, 51, 52], [12], []), ([], [0, 1, 2, 3, 4, 50, 51, 52, 64], [], []), ([], [10], [], []), ([], [0, 1, 2, 3, 4, 50, 51, 52], [], []), ([], [0, 1, 2, 3, 4, 13], [], []), ([], [0, 1, 2, 3, 4, 13, 14], [], []), ([], [0, 1, 2, 3, 4, 13, 14, 66, 67, 68], [], []), ([], [0, 1, 2, 3, 4, 13, 14, 66, 67, 68, 69], [], []), ([], [0, 1, 2, 3, 4, 13, 14, 15, 16, 66, 67, 68], [16], []), ([(10, [0, 1, 2, 3, 4, 13, 14, 15, 16, 66, 67, 68, 77, 82], [16])], [0, 1, 2, 3, 4, 13, 14, 15, 16, 66, 67, 68, 89], [16], []), ([], [0, 1, 2, 3, 4, 13, 14, 15, 16, 66, 67, 68], [16], []), ([], [0, 1, 2, 3, 4, 13, 14, 15, 16, 66, 67, 68], [16], []), ([], [0, 1, 2, 3, 4, 13, 14, 15, 16, 66, 67, 68, 106], [16], []), ([], [0, 1, 2, 3, 4, 13, 14, 66, 67, 68], [], []), ([], [0, 1, 2, 3, 4, 13, 14, 66, 67, 68], [], []), ([], [0, 1, 4, 17], [17], []), ([], [4, 17, 19], [17, 19], []), ([], [4, 19, 21, 22], [19, 21], []), ([], [21, 22, 23, 24], [21, 23], []), ([], [10], [], [])]) (by kernel_rfl) (by kernel_rfl) (by rw [hl]; decide +kernel) h

end Go.Proofs.Ytngfedhffehkaac.ab
