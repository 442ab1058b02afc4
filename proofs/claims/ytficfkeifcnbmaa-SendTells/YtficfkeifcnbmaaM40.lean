/-
  Several texts in one.
-/
import Derived.Test.YtficfkeifcnbmaaM39
import Derived.Test.YtficfkeifcnbmaaM27
import Derived.Test.YtficfkeifcnbmaaProg

/-
  What the functions of package send are held to.
-/
namespace Go.Proofs.Ytficfkeifcnbmaa.ab
set_option linter.unusedVariables false
open Go Go.RowKit
open mth

/- What the functions of package send are held to: number f of the program. -/
def COwnS (f : Nat) : Prop := ∀ s, GoodS s → Told Try.prog f [aD (encSd s)] [aD (encSd s)]
def CPutS (f : Nat) : Prop := ∀ s m, GoodS s → Told Try.prog f [aD (encSd s), aD (encMs m)] [aD (encSd (putS s m)), vI (putE s m)]
def CSayS (f : Nat) : Prop := ∀ s, GoodS s → Told Try.prog f [aD (encSd s)] [aD (encSd (sayL s).1), aD (encCh (sayL s).2.1), vB (sayL s).2.2]
def CHearS (f : Nat) : Prop := ∀ s c, GoodS s → wrongL c = 0 → Told Try.prog f [aD (encSd s), aD (encCh c)] [aD (encSd (hearS s c))]
theorem early_right {c : Ch} (h : wrongL c = 0) : c.early.length ≤ 3 := by
  unfold wrongL at h
  split at h
  · cases h
  · split at h
    · cases h
    · split at h
      · split at h
        · cases h
        · split at h
          · cases h
          · rename_i he; omega
      · split at h
        · cases h
        · split at h
          · cases h
          · rename_i he; omega
theorem say_early {s : Sd} (h : GoodS s) : (sayL s).2.1.early.length ≤ 3 := by
  unfold sayL
  split
  · split
    · simp [zeroC]
    · rename_i hf
      have hk := againK_lt h (by omega)
      have hlt : (againK s).toNat < s.flight.length := by omega
      simp only [List.getD_eq_getElem?_getD, List.getElem?_eq_getElem hlt, Option.getD_some]
      rw [h.early _ (List.getElem_mem hlt)]
      simp
  · split
    · rename_i hf
      have hk := againK_lt h (by omega)
      have hlt : (againK s).toNat < s.flight.length := by omega
      simp only [List.getD_eq_getElem?_getD, List.getElem?_eq_getElem hlt, Option.getD_some]
      rw [h.early _ (List.getElem_mem hlt)]
      simp
    · simp [newC]
end Go.Proofs.Ytficfkeifcnbmaa.ab

/-
  Functions as plain code (written by wip/abs/ir.py): lklaw5.SendTells.
-/
namespace Go.Proofs.Ytficfkeifcnbmaa.ab
set_option linter.unusedVariables false
set_option maxRecDepth 100000
open Go Go.RowKit

def w5_SendTells_r0 : IC := cReg Try.prog [
    ⟨some 6, none, iBox 6 (.tmp 2)⟩,
    ⟨some 7, none, iBox 7 (.tmp 3)⟩,
    ⟨some 8, none, iMov 8 (.const (.bool false)) true⟩] [0, 1, 6, 7] [6, 7]
def w5_SendTells_r1 : IC := cReg Try.prog [
    ⟨some 18, none, iMov 18 (.tmp 0) false⟩,
    ⟨some 19, none, iLen 19 false (.tmp 18)⟩,
    ⟨some 20, none, iBin 20 .gtr (.tmp 19) (.const (.int .i64 100))⟩] [0, 1, 6, 7, 20] [6, 7]
def w5_SendTells_r2 : IC := cReg Try.prog [
    ⟨some 8, none, iMov 8 (.const (.bool true)) true⟩] [8] []
def w5_SendTells_c1a : IC := (cSeq w5_SendTells_r2 cRet)
def w5_SendTells_c1 : IC := cCond (.tmp 20) w5_SendTells_c1a cSkip
def w5_SendTells_r3 : IC := cReg Try.prog [
    ⟨some 21, none, iMov 21 (.tmp 0) false⟩,
    ⟨some 22, none, iMov 22 (.tmp 1) false⟩,
    ⟨some 23, none, iCall 23 40 [(.tmp 21), (.tmp 22)]⟩,
    ⟨some 9, none, iAlo 9 [vD (.slice none 0 0), vD (.int .i64 0), vD (.int .i64 0), vD (.int .i64 0), vD (.int .i64 0), vD (.slice none 0 0), vD (.int .i64 0)]⟩,
    ⟨none, none, iStor 7 (.tmp 9) (.tmp 23)⟩] [6, 7, 9] [6, 7, 9]
def w5_SendTells_r4 : IC := cReg Try.prog [
    ⟨some 25, none, iLoad 25 7 true (.tmp 9) false⟩,
    ⟨some 26, none, iLoad 26 2 true (.tmp 6) false⟩,
    ⟨some 27, none, iCall 27 41 [(.tmp 25), (.tmp 26)]⟩,
    ⟨some 24, none, iMov 24 (.tmp 27) false⟩,
    ⟨some 28, none, iExt 28 (.tmp 24) 0⟩,
    ⟨some 29, none, iExt 29 (.tmp 24) 1⟩,
    ⟨some 10, none, iAlo 10 [vD (.slice none 0 0), vD (.int .i64 0), vD (.int .i64 0), vD (.int .i64 0), vD (.int .i64 0), vD (.slice none 0 0), vD (.int .i64 0)]⟩,
    ⟨none, none, iStor 7 (.tmp 10) (.tmp 28)⟩,
    ⟨some 11, none, iMov 11 (.tmp 29) true⟩] [6, 7, 9, 10, 11] [6, 7, 9, 10]
def w5_SendTells_r5 : IC := cReg Try.prog [
    ⟨some 31, none, iLoad 31 7 true (.tmp 9) false⟩,
    ⟨some 32, none, iLoad 32 2 true (.tmp 6) false⟩,
    ⟨some 33, none, iCall 33 42 [(.tmp 31), (.tmp 32)]⟩,
    ⟨some 30, none, iMov 30 (.tmp 33) false⟩,
    ⟨some 34, none, iExt 34 (.tmp 30) 0⟩,
    ⟨some 35, none, iExt 35 (.tmp 30) 1⟩,
    ⟨some 12, none, iAlo 12 [vD (.slice none 0 0), vD (.int .i64 0), vD (.int .i64 0), vD (.int .i64 0), vD (.int .i64 0), vD (.slice none 0 0), vD (.int .i64 0)]⟩,
    ⟨none, none, iStor 7 (.tmp 12) (.tmp 34)⟩,
    ⟨some 13, none, iMov 13 (.tmp 35) true⟩] [7, 9, 10, 11, 12, 13] [7, 9, 10, 12]
def w5_SendTells_r6 : IC := cRegD Try.prog [
    ⟨some 36, none, iMov 36 (.tmp 11) false⟩,
    ⟨some 37, none, iMov 37 (.tmp 13) false⟩,
    ⟨some 38, none, iBin 38 .neq (.tmp 36) (.tmp 37)⟩,
    ⟨some 39, none, iMov 39 (.tmp 38) false⟩,
    ⟨some 40, some (39, false), iLoad 40 7 true (.tmp 10) false⟩,
    ⟨some 41, some (39, false), iLoad 41 7 true (.tmp 12) false⟩,
    ⟨some 42, some (39, false), iCall 42 43 [(.tmp 40), (.tmp 41)]⟩,
    ⟨some 43, some (39, false), iNot 43 (.tmp 42)⟩,
    ⟨some 44, none, iPick 44 (.tmp 39) (.const (.bool true)) (.tmp 43)⟩,
    ⟨some 45, none, iMov 45 (.tmp 44) false⟩,
    ⟨some 46, some (45, false), iLoad 46 7 true (.tmp 9) false⟩,
    ⟨some 47, some (45, false), iCall 47 44 [(.tmp 46)]⟩,
    ⟨some 48, some (45, false), iLoad 48 7 true (.tmp 9) false⟩,
    ⟨some 49, some (45, false), iCall 49 43 [(.tmp 47), (.tmp 48)]⟩,
    ⟨some 50, some (45, false), iNot 50 (.tmp 49)⟩,
    ⟨some 51, none, iPick 51 (.tmp 45) (.const (.bool true)) (.tmp 50)⟩] [[], [], [0, 1], [2, 0, 1], [3, 2, 0, 1], [3, 2, 0, 1], [4, 5, 3, 2, 0, 1], [6, 3, 4, 5, 2, 0, 1], [3, 7, 2, 0, 1, 6, 4, 5], [8, 6, 3, 7, 2, 0, 1, 4, 5], [9, 8, 6, 3, 7, 2, 0, 1, 4, 5], [10, 9, 8, 6, 3, 7, 2, 0, 1, 4, 5], [9, 8, 6, 3, 7, 2, 0, 1, 4, 5], [11, 12, 9, 10, 8, 6, 3, 7, 2, 0, 1, 4, 5], [13, 9, 11, 12, 10, 8, 6, 3, 7, 2, 0, 1, 4, 5], [9, 14, 8, 6, 3, 7, 2, 0, 1, 4, 5, 13, 11, 12, 10]] [7, 9, 10, 12, 51] [7, 9, 10, 12]
def w5_SendTells_r7 : IC := cReg Try.prog [
    ⟨some 8, none, iMov 8 (.const (.bool false)) true⟩] [8] []
def w5_SendTells_c2a : IC := (cSeq w5_SendTells_r7 cRet)
def w5_SendTells_c2 : IC := cCond (.tmp 51) w5_SendTells_c2a cSkip
def w5_SendTells_r8 : IC := cReg Try.prog [
    ⟨some 53, none, iLoad 53 7 true (.tmp 9) false⟩,
    ⟨some 54, none, iCall 54 45 [(.tmp 53)]⟩,
    ⟨some 52, none, iMov 52 (.tmp 54) false⟩,
    ⟨some 55, none, iExt 55 (.tmp 52) 0⟩,
    ⟨some 56, none, iExt 56 (.tmp 52) 1⟩,
    ⟨some 57, none, iExt 57 (.tmp 52) 2⟩,
    ⟨some 14, none, iAlo 14 [vD (.int .i64 0), vD (.int .i64 0), vD (.int .i64 0), vD (.int .i64 0), vD (.slice none 0 0), vD (.slice none 0 0)]⟩,
    ⟨none, none, iStor 7 (.tmp 10) (.tmp 55)⟩,
    ⟨none, none, iStor 6 (.tmp 14) (.tmp 56)⟩,
    ⟨some 15, none, iMov 15 (.tmp 57) true⟩] [7, 9, 10, 12, 14, 15] [7, 9, 10, 12, 14]
def w5_SendTells_r9 : IC := cReg Try.prog [
    ⟨some 59, none, iLoad 59 7 true (.tmp 9) false⟩,
    ⟨some 60, none, iCall 60 46 [(.tmp 59)]⟩,
    ⟨some 58, none, iMov 58 (.tmp 60) false⟩,
    ⟨some 61, none, iExt 61 (.tmp 58) 0⟩,
    ⟨some 62, none, iExt 62 (.tmp 58) 1⟩,
    ⟨some 63, none, iExt 63 (.tmp 58) 2⟩,
    ⟨some 16, none, iAlo 16 [vD (.int .i64 0), vD (.int .i64 0), vD (.int .i64 0), vD (.int .i64 0), vD (.slice none 0 0), vD (.slice none 0 0)]⟩,
    ⟨none, none, iStor 7 (.tmp 12) (.tmp 61)⟩,
    ⟨none, none, iStor 6 (.tmp 16) (.tmp 62)⟩,
    ⟨some 17, none, iMov 17 (.tmp 63) true⟩] [7, 9, 10, 12, 14, 15, 16, 17] [7, 9, 10, 12, 14, 16]
def w5_SendTells_r10_0 : IC := cReg Try.prog [
    ⟨some 64, none, iMov 64 (.tmp 15) false⟩,
    ⟨some 65, none, iMov 65 (.tmp 17) false⟩,
    ⟨some 66, none, iBinB 66 false (.tmp 64) (.tmp 65)⟩,
    ⟨some 67, none, iMov 67 (.tmp 66) false⟩,
    ⟨some 68, some (67, false), iLoad 68 6 true (.tmp 14) false⟩,
    ⟨some 69, some (67, false), iLoad 69 6 true (.tmp 16) false⟩,
    ⟨some 70, some (67, false), iCall 70 24 [(.tmp 68), (.tmp 69)]⟩,
    ⟨some 71, some (67, false), iNot 71 (.tmp 70)⟩,
    ⟨some 72, none, iPick 72 (.tmp 67) (.const (.bool true)) (.tmp 71)⟩,
    ⟨some 73, none, iMov 73 (.tmp 72) false⟩] [7, 9, 10, 12, 73] [7, 9, 10, 12]
def w5_SendTells_r10_1 : IC := cReg Try.prog [
    ⟨some 74, some (73, false), iLoad 74 7 true (.tmp 10) false⟩,
    ⟨some 75, some (73, false), iLoad 75 7 true (.tmp 12) false⟩,
    ⟨some 76, some (73, false), iCall 76 43 [(.tmp 74), (.tmp 75)]⟩,
    ⟨some 77, some (73, false), iNot 77 (.tmp 76)⟩,
    ⟨some 78, none, iPick 78 (.tmp 73) (.const (.bool true)) (.tmp 77)⟩] [7, 9, 78] [7, 9]
def w5_SendTells_r10 : IC := (cSeq w5_SendTells_r10_0 w5_SendTells_r10_1)
def w5_SendTells_r11 : IC := cReg Try.prog [
    ⟨some 8, none, iMov 8 (.const (.bool false)) true⟩] [8] []
def w5_SendTells_c3a : IC := (cSeq w5_SendTells_r11 cRet)
def w5_SendTells_c3 : IC := cCond (.tmp 78) w5_SendTells_c3a cSkip
def w5_SendTells_r12 : IC := cRegD Try.prog [
    ⟨some 79, none, iLoad 79 6 true (.tmp 7) false⟩,
    ⟨some 80, none, iCall 80 21 [(.tmp 79)]⟩,
    ⟨some 81, none, iBin 81 .neq (.tmp 80) (.const (.int .i64 0))⟩,
    ⟨some 82, none, iMov 82 (.tmp 81) false⟩,
    ⟨some 83, some (82, false), iLoad 83 7 true (.tmp 9) false⟩,
    ⟨some 84, some (82, false), iLoad 84 6 true (.tmp 7) false⟩,
    ⟨some 85, some (82, false), iCall 85 47 [(.tmp 83), (.tmp 84)]⟩,
    ⟨some 86, some (82, false), iLoad 86 7 true (.tmp 9) false⟩,
    ⟨some 87, some (82, false), iLoad 87 6 true (.tmp 7) false⟩,
    ⟨some 88, some (82, false), iCall 88 48 [(.tmp 86), (.tmp 87)]⟩,
    ⟨some 89, some (82, false), iCall 89 43 [(.tmp 85), (.tmp 88)]⟩,
    ⟨some 90, none, iPick 90 (.tmp 82) (.const (.bool true)) (.tmp 89)⟩,
    ⟨some 8, none, iMov 8 (.tmp 90) true⟩] [[], [0], [1, 0], [2, 1, 0], [3, 2, 1, 0], [3, 2, 1, 0], [4, 5, 3, 2, 1, 0], [3, 2, 1, 0], [3, 2, 1, 0], [7, 8, 6, 3, 2, 1, 0, 4, 5], [6, 9, 3, 4, 5, 2, 1, 0, 7, 8], [3, 10, 2, 1, 0, 6, 9, 4, 5, 7, 8], [11, 10, 0, 1, 2, 3, 4, 5, 6, 7, 8, 9]] [8] []
def w5_SendTells : IC := (cSeq w5_SendTells_r0 (cSeq (cSeq w5_SendTells_r1 w5_SendTells_c1) (cSeq w5_SendTells_r3 (cSeq w5_SendTells_r4 (cSeq w5_SendTells_r5 (cSeq (cSeq w5_SendTells_r6 w5_SendTells_c2) (cSeq w5_SendTells_r8 (cSeq w5_SendTells_r9 (cSeq (cSeq w5_SendTells_r10 w5_SendTells_c3) (cSeq w5_SendTells_r12 cRet))))))))))
theorem told_w5_SendTells {args r : List D} (hl : args.length = 4) (h : w5_SendTells (start args) (fin [(8, none)] r)) : Told Try.prog 11 args r :=
  told_of follows Try.func11 rfl (an := [([], [0, 1, 6, 7], [6, 7], []), ([], [0, 1, 6, 7, 20], [6, 7], []), ([], [8], [], []), ([], [6, 7, 9], [6, 7, 9], []), ([], [6, 7, 9, 10, 11], [6, 7, 9, 10], []), ([], [7, 9, 10, 11, 12, 13], [7, 9, 10, 12], []), ([], [7, 9, 10, 12, 51], [7, 9, 10, 12], []), ([], [8], [], []), ([], [7, 9, 10, 12, 14, 15], [7, 9, 10, 12, 14], []), ([], [7, 9, 10, 12, 14, 15, 16, 17], [7, 9, 10, 12, 14, 16], []), ([(10, [7, 9, 10, 12, 73], [7, 9, 10, 12])], [7, 9, 78], [7, 9], []), ([], [8], [], []), ([], [8], [], [])]) (by kernel_rfl) (by kernel_rfl) (by rw [hl]; decide +kernel) h

end Go.Proofs.Ytficfkeifcnbmaa.ab
