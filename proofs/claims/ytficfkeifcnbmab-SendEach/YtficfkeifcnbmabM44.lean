/-
  Several texts in one.
-/
import Derived.Test.YtficfkeifcnbmabM27
import Derived.Test.YtficfkeifcnbmabProg

/-
  Functions as plain code (written by wip/abs/ir.py): chunk.WrongMsg.
-/
namespace Go.Proofs.Ytficfkeifcnbmab.ab
set_option linter.unusedVariables false
set_option maxRecDepth 100000
open Go Go.RowKit

def chunk_WrongMsg_r0 : IC := cReg Try.prog [
    ⟨some 1, none, iBox 1 (.tmp 0)⟩,
    ⟨some 2, none, iMov 2 (.const (.int .i64 0)) true⟩] [1] [1]
def chunk_WrongMsg_r1 : IC := cReg Try.prog [
    ⟨some 4, none, iFad 4 0 (.tmp 1)⟩,
    ⟨some 5, none, iLoad 5 1 false (.tmp 4) false⟩,
    ⟨some 6, none, iBin 6 .lss (.tmp 5) (.const (.int .i64 0))⟩,
    ⟨some 7, none, iMov 7 (.tmp 6) false⟩,
    ⟨some 8, some (7, false), iFad 8 0 (.tmp 1)⟩,
    ⟨some 9, some (7, false), iLoad 9 1 false (.tmp 8) false⟩,
    ⟨some 10, some (7, false), iBin 10 .geq (.tmp 9) (.const (.int .i64 3))⟩,
    ⟨some 11, none, iPick 11 (.tmp 7) (.const (.bool true)) (.tmp 10)⟩,
    ⟨some 3, none, iMov 3 (.tmp 11) true⟩] [1, 3] [1]
def chunk_WrongMsg_r2 : IC := cReg Try.prog [
    ⟨some 2, none, iMov 2 (.const (.int .i64 3)) true⟩] [2] []
def chunk_WrongMsg_r3 : IC := cReg Try.prog [
    ⟨some 13, none, iFad 13 1 (.tmp 1)⟩,
    ⟨some 14, none, iLoad 14 1 false (.tmp 13) false⟩,
    ⟨some 15, none, iLen 15 false (.tmp 14)⟩,
    ⟨some 16, none, iBin 16 .gtr (.tmp 15) (.const (.int .i64 6))⟩,
    ⟨some 12, none, iMov 12 (.tmp 16) true⟩] [12] []
def chunk_WrongMsg_r4 : IC := cReg Try.prog [
    ⟨some 2, none, iMov 2 (.const (.int .i64 4)) true⟩] [2] []
def chunk_WrongMsg_c3a : IC := (cSeq chunk_WrongMsg_r4 cRet)
def chunk_WrongMsg_c3 : IC := cCond (.tmp 12) chunk_WrongMsg_c3a cSkip
def chunk_WrongMsg_c2a : IC := (cSeq chunk_WrongMsg_r2 cRet)
def chunk_WrongMsg_c2b : IC := (cSeq chunk_WrongMsg_r3 chunk_WrongMsg_c3)
def chunk_WrongMsg_c2 : IC := cCond (.tmp 3) chunk_WrongMsg_c2a chunk_WrongMsg_c2b
def chunk_WrongMsg_b1 : IC := cBlock 0 (cSeq chunk_WrongMsg_r1 chunk_WrongMsg_c2)
def chunk_WrongMsg_r5 : IC := cReg Try.prog [
    ⟨some 2, none, iMov 2 (.const (.int .i64 0)) true⟩] [2] []
def chunk_WrongMsg : IC := (cSeq chunk_WrongMsg_r0 (cSeq chunk_WrongMsg_b1 (cSeq chunk_WrongMsg_r5 cRet)))
theorem told_chunk_WrongMsg {args r : List D} (hl : args.length = 1) (h : chunk_WrongMsg (start args) (fin [(2, none)] r)) : Told Try.prog 30 args r :=
  told_of follows Try.func30 rfl (an := [([], [1], [1], []), ([], [1, 3], [1], []), ([], [2], [], []), ([], [12], [], []), ([], [2], [], []), ([], [2], [], [])]) (by kernel_rfl) (by kernel_rfl) (by rw [hl]; decide +kernel) h

end Go.Proofs.Ytficfkeifcnbmab.ab

/-
  Functions as plain code (written by wip/abs/ir.py): chunk.OwnMsg, chunk.Own, list.Own[lanekeeper/api.Msg]=list_OwnM;O, list.Own[lanekeeper/api.Chunk]=list_OwnC;O, send.Own, send.Own=send_OwnO;C.
-/
namespace Go.Proofs.Ytficfkeifcnbmab.ab
set_option linter.unusedVariables false
set_option maxRecDepth 100000
open Go Go.RowKit

def chunk_OwnMsg_r0 : IC := cReg Try.prog [
    ⟨some 1, none, iBox 1 (.tmp 0)⟩,
    ⟨some 2, none, iAlo 2 [vD (.int .i64 0), vD (.slice none 0 0)]⟩] [1, 2] [1, 2]
def chunk_OwnMsg_r1 : IC := cReg Try.prog [
    ⟨some 3, none, iFad 3 1 (.tmp 1)⟩,
    ⟨some 4, none, iLoad 4 1 false (.tmp 3) false⟩,
    ⟨some 5, none, iApp 5 5 1 1 (.const (.slice none 0 0)) (.tmp 4)⟩,
    ⟨some 6, none, iFad 6 1 (.tmp 1)⟩,
    ⟨none, none, iStor 1 (.tmp 6) (.tmp 5)⟩] [1, 2] [1, 2]
def chunk_OwnMsg_r2 : IC := cReg Try.prog [
    ⟨some 7, none, iLoad 7 2 true (.tmp 1) false⟩,
    ⟨none, none, iStor 2 (.tmp 2) (.tmp 7)⟩] [2] [2]
def chunk_OwnMsg : IC := (cSeq chunk_OwnMsg_r0 (cSeq chunk_OwnMsg_r1 (cSeq chunk_OwnMsg_r2 cRet)))
theorem told_chunk_OwnMsg {args r : List D} (hl : args.length = 1) (h : chunk_OwnMsg (start args) (fin [(2, some (2, true))] r)) : Told Try.prog 24 args r :=
  told_of follows Try.func24 rfl (an := [([], [1, 2], [1, 2], []), ([], [1, 2], [1, 2], []), ([], [2], [2], [])]) (by kernel_rfl) (by kernel_rfl) (by rw [hl]; decide +kernel) h

def chunk_Own_r0 : IC := cReg Try.prog [
    ⟨some 1, none, iBox 1 (.tmp 0)⟩,
    ⟨some 2, none, iAlo 2 [vD (.int .i64 0), vD (.int .i64 0), vD (.int .i64 0), vD (.int .i64 0), vD (.slice none 0 0), vD (.slice none 0 0)]⟩] [1, 2] [1, 2]
def chunk_Own_r1 : IC := cReg Try.prog [
    ⟨some 3, none, iFad 3 4 (.tmp 1)⟩,
    ⟨some 4, none, iLoad 4 1 false (.tmp 3) false⟩,
    ⟨some 5, none, iApp 5 5 1 1 (.const (.slice none 0 0)) (.tmp 4)⟩,
    ⟨some 6, none, iFad 6 4 (.tmp 1)⟩,
    ⟨none, none, iStor 1 (.tmp 6) (.tmp 5)⟩] [1, 2] [1, 2]
def chunk_Own_r2 : IC := cReg Try.prog [
    ⟨some 7, none, iFad 7 5 (.tmp 1)⟩,
    ⟨some 8, none, iLoad 8 1 false (.tmp 7) false⟩,
    ⟨some 9, none, iApp 9 3 1 8 (.const (.slice none 0 0)) (.tmp 8)⟩,
    ⟨some 10, none, iFad 10 5 (.tmp 1)⟩,
    ⟨none, none, iStor 1 (.tmp 10) (.tmp 9)⟩] [1, 2] [1, 2]
def chunk_Own_r3 : IC := cReg Try.prog [
    ⟨some 11, none, iLoad 11 6 true (.tmp 1) false⟩,
    ⟨none, none, iStor 6 (.tmp 2) (.tmp 11)⟩] [2] [2]
def chunk_Own : IC := (cSeq chunk_Own_r0 (cSeq chunk_Own_r1 (cSeq chunk_Own_r2 (cSeq chunk_Own_r3 cRet))))
theorem told_chunk_Own {args r : List D} (hl : args.length = 1) (h : chunk_Own (start args) (fin [(2, some (6, true))] r)) : Told Try.prog 18 args r :=
  told_of follows Try.func18 rfl (an := [([], [1, 2], [1, 2], []), ([], [1, 2], [1, 2], []), ([], [1, 2], [1, 2], []), ([], [2], [2], [])]) (by kernel_rfl) (by kernel_rfl) (by rw [hl]; decide +kernel) h

def list_OwnM_r0 : IC := cReg Try.prog [
    ⟨some 4, none, iMov 4 (.const (.slice none 0 0)) true⟩] [0, 1] []
def list_OwnM_r1 : IC := cReg Try.prog [
    ⟨some 5, none, iMov 5 (.const (.slice none 0 0)) true⟩] [0, 1, 5] []
def list_OwnM_r2 : IC := cReg Try.prog [
    ⟨some 8, none, iMov 8 (.tmp 0) false⟩,
    ⟨some 9, none, iLen 9 false (.tmp 8)⟩,
    ⟨some 10, none, iMov 10 (.const (.int .i64 0)) false⟩] [1, 5, 8, 9, 10] []
def list_OwnM_r3 : IC := cReg Try.prog [
    ⟨some 11, none, iBin 11 .lss (.tmp 10) (.tmp 9)⟩] [1, 5, 8, 9, 10, 11] []
def list_OwnM_c3 : IC := cCond (.tmp 11) cSkip (cExit 0)
def list_OwnM_r4 : IC := cReg Try.prog [
    ⟨some 12, none, iIaS 12 2 (.tmp 8) (.tmp 10)⟩,
    ⟨some 13, none, iLoad 13 2 true (.tmp 12) false⟩,
    ⟨some 7, none, iAlo 7 [vD (.int .i64 0), vD (.slice none 0 0)]⟩,
    ⟨none, none, iStor 2 (.tmp 7) (.tmp 13)⟩] [1, 5, 7, 8, 9, 10] [7]
def list_OwnM_r5 : IC := cReg Try.prog [
    ⟨some 14, none, iMov 14 (.tmp 5) true⟩,
    ⟨some 15, none, iMov 15 (.tmp 1) false⟩,
    ⟨some 16, none, iLoad 16 2 true (.tmp 7) false⟩,
    ⟨some 17, none, iCallV 17 Try.prog 15 [(.tmp 16)]⟩,
    ⟨some 18, none, iRow 18 43 2 [(.tmp 17)]⟩,
    ⟨some 19, none, iApp 19 43 2 32 (.tmp 14) (.tmp 18)⟩,
    ⟨some 5, none, iMov 5 (.tmp 19) true⟩] [1, 5, 8, 9, 10] []
def list_OwnM_b4 : IC := cBlock 1 (cSeq list_OwnM_r4 list_OwnM_r5)
def list_OwnM_r6 : IC := cReg Try.prog [
    ⟨some 20, none, iBin 20 .add (.tmp 10) (.const (.int .i64 1))⟩,
    ⟨some 10, none, iMov 10 (.tmp 20) false⟩] [1, 5, 8, 9, 10] []
def list_OwnM_l2a : IC := (cSeq list_OwnM_r3 (cSeq list_OwnM_c3 (cSeq list_OwnM_b4 list_OwnM_r6)))
def list_OwnM_l2 : IC := cLoop list_OwnM_l2a
def list_OwnM_b1 : IC := cBlock 0 list_OwnM_l2
def list_OwnM_r7 : IC := cReg Try.prog [
    ⟨some 21, none, iMov 21 (.tmp 5) true⟩,
    ⟨some 4, none, iMov 4 (.tmp 21) true⟩] [4] []
def list_OwnM : IC := (cSeq list_OwnM_r0 (cSeq list_OwnM_r1 (cSeq (cSeq list_OwnM_r2 list_OwnM_b1) (cSeq list_OwnM_r7 cRet))))
theorem toldO_list_OwnM {args : List D} {r : D} {e : Nat} {z : Pay} (hl : args.length = 2) (h : list_OwnM (start args) (fin1 fun st => ∃ r', look st.tm 4 = some r' ∧ isC r' = true ∧ CVLe r' r ∧ lookF st.fl (4, none) = some (e, z))) : ToldO Try.prog 27 args [r] none e z :=
  toldO_slot follows Try.func27 rfl (an := [([], [0, 1], [], []), ([], [0, 1, 5], [], []), ([], [1, 5, 8, 9, 10], [], []), ([], [1, 5, 8, 9, 10, 11], [], []), ([], [1, 5, 7, 8, 9, 10], [7], []), ([], [1, 5, 8, 9, 10], [], []), ([], [1, 5, 8, 9, 10], [], []), ([], [4], [], [21])]) (by kernel_rfl) rfl (by rw [hl]; decide +kernel) h
theorem told_list_OwnM {args r : List D} (hl : args.length = 2) (h : list_OwnM (start args) (fin [(4, none)] r)) : Told Try.prog 27 args r :=
  told_of follows Try.func27 rfl (an := [([], [0, 1], [], []), ([], [0, 1, 5], [], []), ([], [1, 5, 8, 9, 10], [], []), ([], [1, 5, 8, 9, 10, 11], [], []), ([], [1, 5, 7, 8, 9, 10], [7], []), ([], [1, 5, 8, 9, 10], [], []), ([], [1, 5, 8, 9, 10], [], []), ([], [4], [], [21])]) (by kernel_rfl) (by kernel_rfl) (by rw [hl]; decide +kernel) h

def list_OwnC_r0 : IC := cReg Try.prog [
    ⟨some 4, none, iMov 4 (.const (.slice none 0 0)) true⟩] [0, 1] []
def list_OwnC_r1 : IC := cReg Try.prog [
    ⟨some 5, none, iMov 5 (.const (.slice none 0 0)) true⟩] [0, 1, 5] []
def list_OwnC_r2 : IC := cReg Try.prog [
    ⟨some 8, none, iMov 8 (.tmp 0) false⟩,
    ⟨some 9, none, iLen 9 false (.tmp 8)⟩,
    ⟨some 10, none, iMov 10 (.const (.int .i64 0)) false⟩] [1, 5, 8, 9, 10] []
def list_OwnC_r3 : IC := cReg Try.prog [
    ⟨some 11, none, iBin 11 .lss (.tmp 10) (.tmp 9)⟩] [1, 5, 8, 9, 10, 11] []
def list_OwnC_c3 : IC := cCond (.tmp 11) cSkip (cExit 0)
def list_OwnC_r4 : IC := cReg Try.prog [
    ⟨some 12, none, iIaS 12 6 (.tmp 8) (.tmp 10)⟩,
    ⟨some 13, none, iLoad 13 6 true (.tmp 12) false⟩,
    ⟨some 7, none, iAlo 7 [vD (.int .i64 0), vD (.int .i64 0), vD (.int .i64 0), vD (.int .i64 0), vD (.slice none 0 0), vD (.slice none 0 0)]⟩,
    ⟨none, none, iStor 6 (.tmp 7) (.tmp 13)⟩] [1, 5, 7, 8, 9, 10] [7]
def list_OwnC_r5 : IC := cReg Try.prog [
    ⟨some 14, none, iMov 14 (.tmp 5) true⟩,
    ⟨some 15, none, iMov 15 (.tmp 1) false⟩,
    ⟨some 16, none, iLoad 16 6 true (.tmp 7) false⟩,
    ⟨some 17, none, iCallV 17 Try.prog 15 [(.tmp 16)]⟩,
    ⟨some 18, none, iRow 18 32 6 [(.tmp 17)]⟩,
    ⟨some 19, none, iApp 19 32 6 80 (.tmp 14) (.tmp 18)⟩,
    ⟨some 5, none, iMov 5 (.tmp 19) true⟩] [1, 5, 8, 9, 10] []
def list_OwnC_b4 : IC := cBlock 1 (cSeq list_OwnC_r4 list_OwnC_r5)
def list_OwnC_r6 : IC := cReg Try.prog [
    ⟨some 20, none, iBin 20 .add (.tmp 10) (.const (.int .i64 1))⟩,
    ⟨some 10, none, iMov 10 (.tmp 20) false⟩] [1, 5, 8, 9, 10] []
def list_OwnC_l2a : IC := (cSeq list_OwnC_r3 (cSeq list_OwnC_c3 (cSeq list_OwnC_b4 list_OwnC_r6)))
def list_OwnC_l2 : IC := cLoop list_OwnC_l2a
def list_OwnC_b1 : IC := cBlock 0 list_OwnC_l2
def list_OwnC_r7 : IC := cReg Try.prog [
    ⟨some 21, none, iMov 21 (.tmp 5) true⟩,
    ⟨some 4, none, iMov 4 (.tmp 21) true⟩] [4] []
def list_OwnC : IC := (cSeq list_OwnC_r0 (cSeq list_OwnC_r1 (cSeq (cSeq list_OwnC_r2 list_OwnC_b1) (cSeq list_OwnC_r7 cRet))))
theorem toldO_list_OwnC {args : List D} {r : D} {e : Nat} {z : Pay} (hl : args.length = 2) (h : list_OwnC (start args) (fin1 fun st => ∃ r', look st.tm 4 = some r' ∧ isC r' = true ∧ CVLe r' r ∧ lookF st.fl (4, none) = some (e, z))) : ToldO Try.prog 28 args [r] none e z :=
  toldO_slot follows Try.func28 rfl (an := [([], [0, 1], [], []), ([], [0, 1, 5], [], []), ([], [1, 5, 8, 9, 10], [], []), ([], [1, 5, 8, 9, 10, 11], [], []), ([], [1, 5, 7, 8, 9, 10], [7], []), ([], [1, 5, 8, 9, 10], [], []), ([], [1, 5, 8, 9, 10], [], []), ([], [4], [], [21])]) (by kernel_rfl) rfl (by rw [hl]; decide +kernel) h
theorem told_list_OwnC {args r : List D} (hl : args.length = 2) (h : list_OwnC (start args) (fin [(4, none)] r)) : Told Try.prog 28 args r :=
  told_of follows Try.func28 rfl (an := [([], [0, 1], [], []), ([], [0, 1, 5], [], []), ([], [1, 5, 8, 9, 10], [], []), ([], [1, 5, 8, 9, 10, 11], [], []), ([], [1, 5, 7, 8, 9, 10], [7], []), ([], [1, 5, 8, 9, 10], [], []), ([], [1, 5, 8, 9, 10], [], []), ([], [4], [], [21])]) (by kernel_rfl) (by kernel_rfl) (by rw [hl]; decide +kernel) h

def send_Own_r0 : IC := cReg Try.prog [
    ⟨some 1, none, iBox 1 (.tmp 0)⟩,
    ⟨some 2, none, iAlo 2 [vD (.slice none 0 0), vD (.int .i64 0), vD (.int .i64 0), vD (.int .i64 0), vD (.int .i64 0), vD (.slice none 0 0), vD (.int .i64 0)]⟩] [1, 2] [1, 2]
def send_Own_r1 : IC := cReg Try.prog [
    ⟨some 3, none, iFad 3 0 (.tmp 1)⟩,
    ⟨some 4, none, iLoad 4 1 false (.tmp 3) false⟩,
    ⟨some 5, none, iCall 5 27 [(.tmp 4), (.func 24)]⟩,
    ⟨some 6, none, iFad 6 0 (.tmp 1)⟩,
    ⟨none, none, iStor 1 (.tmp 6) (.tmp 5)⟩] [1, 2] [1, 2]
def send_Own_r2 : IC := cReg Try.prog [
    ⟨some 7, none, iFad 7 5 (.tmp 1)⟩,
    ⟨some 8, none, iLoad 8 1 false (.tmp 7) false⟩,
    ⟨some 9, none, iCall 9 28 [(.tmp 8), (.func 18)]⟩,
    ⟨some 10, none, iFad 10 5 (.tmp 1)⟩,
    ⟨none, none, iStor 1 (.tmp 10) (.tmp 9)⟩] [1, 2] [1, 2]
def send_Own_r3 : IC := cReg Try.prog [
    ⟨some 11, none, iLoad 11 7 true (.tmp 1) false⟩,
    ⟨none, none, iStor 7 (.tmp 2) (.tmp 11)⟩] [2] [2]
def send_Own : IC := (cSeq send_Own_r0 (cSeq send_Own_r1 (cSeq send_Own_r2 (cSeq send_Own_r3 cRet))))
theorem told_send_Own {args r : List D} (hl : args.length = 1) (h : send_Own (start args) (fin [(2, some (7, true))] r)) : Told Try.prog 12 args r :=
  told_of follows Try.func12 rfl (an := [([], [1, 2], [1, 2], []), ([], [1, 2], [1, 2], []), ([], [1, 2], [1, 2], []), ([], [2], [2], [])]) (by kernel_rfl) (by kernel_rfl) (by rw [hl]; decide +kernel) h

def send_OwnO_r0 : IC := cReg Try.prog [
    ⟨some 1, none, iBox 1 (.tmp 0)⟩,
    ⟨some 2, none, iAlo 2 [vD (.slice none 0 0), vD (.int .i64 0), vD (.int .i64 0), vD (.int .i64 0), vD (.int .i64 0), vD (.slice none 0 0), vD (.int .i64 0)]⟩] [1, 2] [1, 2]
def send_OwnO_r1 : IC := cReg Try.prog [
    ⟨some 3, none, iFad 3 0 (.tmp 1)⟩,
    ⟨some 4, none, iLoad 4 1 false (.tmp 3) false⟩,
    ⟨some 5, none, iCall 5 27 [(.tmp 4), (.func 24)]⟩,
    ⟨some 6, none, iFad 6 0 (.tmp 1)⟩,
    ⟨none, none, iStor 1 (.tmp 6) (.tmp 5)⟩] [1, 2] [1, 2]
def send_OwnO_r2 : IC := cReg Try.prog [
    ⟨some 7, none, iFad 7 5 (.tmp 1)⟩,
    ⟨some 8, none, iLoad 8 1 false (.tmp 7) false⟩,
    ⟨some 9, none, iCall 9 28 [(.tmp 8), (.func 18)]⟩,
    ⟨some 10, none, iFad 10 5 (.tmp 1)⟩,
    ⟨none, none, iStor 1 (.tmp 10) (.tmp 9)⟩] [1, 2] [1, 2]
def send_OwnO_r3_0 : IC := cCpy 1 2 11 7
def send_OwnO_r3_1 : IC := cReg Try.prog [] [2] [2]
def send_OwnO_r3 : IC := (cSeq send_OwnO_r3_0 send_OwnO_r3_1)
def send_OwnO : IC := (cSeq send_OwnO_r0 (cSeq send_OwnO_r1 (cSeq send_OwnO_r2 (cSeq send_OwnO_r3 cRet))))
theorem toldO_send_OwnO {args rs : List D} {off e : Nat} {z : Pay} (hl : args.length = 1) (h : send_OwnO (start args) (fin1 fun st => ∃ b cs, look st.tm 2 = some (pD b 0) ∧ look st.bx b = some cs ∧ cs.length = 7 ∧ cs.all isL = true ∧ RowLe cs rs ∧ off < 7 ∧ lookF st.fl (b, some off) = some (e, z))) : ToldO Try.prog 12 args [aD rs] (some off) e z :=
  toldO_cell follows Try.func12 rfl (an := [([], [1, 2], [1, 2], []), ([], [1, 2], [1, 2], []), ([], [1, 2], [1, 2], []), ([(2002, [], [])], [2], [2], [])]) (by kernel_rfl) rfl (by kernel_rfl) (by kernel_rfl) (by rw [hl]; decide +kernel) h

end Go.Proofs.Ytficfkeifcnbmab.ab
