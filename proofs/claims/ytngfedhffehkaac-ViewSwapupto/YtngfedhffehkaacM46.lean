/-
  Several texts in one.
-/
import Derived.Test.YtngfedhffehkaacM23
import Derived.Test.YtngfedhffehkaacProg
import Derived.Test.YtngfedhffehkaacM41
import Derived.Test.YtngfedhffehkaacPLane3

/-
  Functions as plain code (written by wip/abs/ir.py): lkref6.Puts.
-/
namespace Go.Proofs.Ytngfedhffehkaac.ab
set_option linter.unusedSimpArgs false
set_option linter.unusedVariables false
set_option maxRecDepth 100000
open Go Go.RowKit

end Go.Proofs.Ytngfedhffehkaac.ab

/-
  What the answer's Puts tells.
-/
namespace Go.Proofs.Ytngfedhffehkaac.ab
set_option linter.unusedVariables false
set_option linter.unusedSimpArgs false
open Go Go.RowKit
open mth

/-- What was put, as far as one has come. -/
def putsK (l : List Sp) (es : List Int) (t : Int) (k : Nat) : List Ms := (((l.zip es).take k).filter (fun x => x.2 == 0 && (x.1.kind == 2 && x.1.tenant == t))).map (fun x => x.1.msg)
theorem putsK_all (l : List Sp) (es : List Int) (t : Int) : putsK l es t l.length = putsW l es t := by
  unfold putsK putsW
  rw [List.take_of_length_le (by rw [List.length_zip]; omega)]
theorem putsK_at {l : List Sp} {es : List Int} (t : Int) {k : Nat} {s : Sp} {e : Int} (hs : l[k]? = some s) (he : es[k]? = some e) : putsK l es t (k + 1) = putsK l es t k ++ (if e = 0 ∧ s.kind = 2 ∧ s.tenant = t then [s.msg] else []) := by
  have hz : (l.zip es)[k]? = some (s, e) := List.getElem?_zip_eq_some.2 ⟨hs, he⟩
  unfold putsK
  rw [List.take_add_one, hz, Option.toList_some, List.filter_append, List.map_append]
  congr 1
  by_cases h1 : e = 0 ∧ s.kind = 2 ∧ s.tenant = t
  · rw [if_pos h1]; simp [h1]
  · rw [if_neg h1, List.filter_cons_of_neg]
    · rfl
    · simp only [Bool.and_eq_true, beq_iff_eq]; exact h1
theorem at_es {es : List Int} {i : Nat} {x : Int} (h : es[i]? = some x) : (es.map vI)[i]? = some (vI x) := by simp [h]
end Go.Proofs.Ytngfedhffehkaac.ab

/-
  Functions as plain code (written by wip/abs/ir.py): chunk.OwnMsg, chunk.Own, list.Own[lanekeeper/api.Msg]=list_OwnM;O, list.Own[lanekeeper/api.Chunk]=list_OwnC;O, send.Own, send.Own=send_OwnO;C.
-/
namespace Go.Proofs.Ytngfedhffehkaac.ab
set_option linter.unusedSimpArgs false
set_option linter.unusedVariables false
set_option maxRecDepth 100000
open Go Go.RowKit

def chunk_OwnMsg_r0 : IC := cReg Try.prog [
    ⟨some 1, none, iBox 1 (.tmp 0)⟩,
    ⟨some 2, none, iAlo 2 [vD (.int .i64 0), vD (.slice none 0 0)]⟩] [1, 2] [1, 2]
def chunk_OwnMsg_r1 : IC := cReg Try.prog [
    ⟨some 3, none, iFad 3 1 (.tmp 1)⟩,
    ⟨some 4, none, iLoad 4 1 false (.tmp 3) false⟩,
    ⟨some 5, none, iApp 5 5 1 1 (.const (.slice none 0 0)) (.tmp 4)⟩,
    ⟨some 6, none, iFad 6 1 (.tmp 1)⟩,
    ⟨none, none, iStor 1 (.tmp 6) (.tmp 5)⟩] [1, 2] [1, 2]
def chunk_OwnMsg_r2 : IC := cReg Try.prog [
    ⟨some 7, none, iLoad 7 2 true (.tmp 1) false⟩,
    ⟨none, none, iStor 2 (.tmp 2) (.tmp 7)⟩] [2] [2]
def chunk_OwnMsg : IC := (cSeq chunk_OwnMsg_r0 (cSeq chunk_OwnMsg_r1 (cSeq chunk_OwnMsg_r2 cRet)))
theorem told_chunk_OwnMsg {args r : List D} (hl : args.length = 1) (h : chunk_OwnMsg (start args) (fin [(2, some (2, true))] r)) : Told Try.prog 30 args r :=
  told_of follows Try.func30 rfl (an := [([], [1, 2], [1, 2], []), ([], [1, 2], [1, 2], []), ([], [2], [2], [])]) (by kernel_rfl) (by kernel_rfl) (by rw [hl]; decide +kernel) h

def chunk_Own_r0 : IC := cReg Try.prog [
    ⟨some 1, none, iBox 1 (.tmp 0)⟩,
    ⟨some 2, none, iAlo 2 [vD (.int .i64 0), vD (.int .i64 0), vD (.int .i64 0), vD (.int .i64 0), vD (.slice none 0 0), vD (.slice none 0 0)]⟩] [1, 2] [1, 2]
def chunk_Own_r1 : IC := cReg Try.prog [
    ⟨some 3, none, iFad 3 4 (.tmp 1)⟩,
    ⟨some 4, none, iLoad 4 1 false (.tmp 3) false⟩,
    ⟨some 5, none, iApp 5 5 1 1 (.const (.slice none 0 0)) (.tmp 4)⟩,
    ⟨some 6, none, iFad 6 4 (.tmp 1)⟩,
    ⟨none, none, iStor 1 (.tmp 6) (.tmp 5)⟩] [1, 2] [1, 2]
def chunk_Own_r2 : IC := cReg Try.prog [
    ⟨some 7, none, iFad 7 5 (.tmp 1)⟩,
    ⟨some 8, none, iLoad 8 1 false (.tmp 7) false⟩,
    ⟨some 9, none, iApp 9 3 1 8 (.const (.slice none 0 0)) (.tmp 8)⟩,
    ⟨some 10, none, iFad 10 5 (.tmp 1)⟩,
    ⟨none, none, iStor 1 (.tmp 10) (.tmp 9)⟩] [1, 2] [1, 2]
def chunk_Own_r3 : IC := cReg Try.prog [
    ⟨some 11, none, iLoad 11 6 true (.tmp 1) false⟩,
    ⟨none, none, iStor 6 (.tmp 2) (.tmp 11)⟩] [2] [2]
def chunk_Own : IC := (cSeq chunk_Own_r0 (cSeq chunk_Own_r1 (cSeq chunk_Own_r2 (cSeq chunk_Own_r3 cRet))))
theorem told_chunk_Own {args r : List D} (hl : args.length = 1) (h : chunk_Own (start args) (fin [(2, some (6, true))] r)) : Told Try.prog 74 args r :=
  told_of follows Try.func74 rfl (an := [([], [1, 2], [1, 2], []), ([], [1, 2], [1, 2], []), ([], [1, 2], [1, 2], []), ([], [2], [2], [])]) (by kernel_rfl) (by kernel_rfl) (by rw [hl]; decide +kernel) h

def list_OwnM_r0 : IC := cReg Try.prog [
    ⟨some 4, none, iMov 4 (.const (.slice none 0 0)) true⟩] [0, 1] []
def list_OwnM_r1 : IC := cReg Try.prog [
    ⟨some 5, none, iMov 5 (.const (.slice none 0 0)) true⟩] [0, 1, 5] []
def list_OwnM_r2 : IC := cReg Try.prog [
    ⟨some 8, none, iMov 8 (.tmp 0) false⟩,
    ⟨some 9, none, iLen 9 false (.tmp 8)⟩,
    ⟨some 10, none, iMov 10 (.const (.int .i64 0)) false⟩] [1, 5, 8, 9, 10] []
def list_OwnM_r3 : IC := cReg Try.prog [
    ⟨some 11, none, iBin 11 .lss (.tmp 10) (.tmp 9)⟩] [1, 5, 8, 9, 10, 11] []
def list_OwnM_c3 : IC := cCond (.tmp 11) cSkip (cExit 0)
def list_OwnM_r4 : IC := cReg Try.prog [
    ⟨some 12, none, iIaS 12 2 (.tmp 8) (.tmp 10)⟩,
    ⟨some 13, none, iLoad 13 2 true (.tmp 12) false⟩,
    ⟨some 7, none, iAlo 7 [vD (.int .i64 0), vD (.slice none 0 0)]⟩,
    ⟨none, none, iStor 2 (.tmp 7) (.tmp 13)⟩] [1, 5, 7, 8, 9, 10] [7]
def list_OwnM_r5 : IC := cReg Try.prog [
    ⟨some 14, none, iMov 14 (.tmp 5) true⟩,
    ⟨some 15, none, iMov 15 (.tmp 1) false⟩,
    ⟨some 16, none, iLoad 16 2 true (.tmp 7) false⟩,
    ⟨some 17, none, iCallV 17 Try.prog 15 [(.tmp 16)]⟩,
    ⟨some 18, none, iRow 18 25 2 [(.tmp 17)]⟩,
    ⟨some 19, none, iApp 19 25 2 32 (.tmp 14) (.tmp 18)⟩,
    ⟨some 5, none, iMov 5 (.tmp 19) true⟩] [1, 5, 8, 9, 10] []
def list_OwnM_b4 : IC := cBlock 1 (cSeq list_OwnM_r4 list_OwnM_r5)
def list_OwnM_r6 : IC := cReg Try.prog [
    ⟨some 20, none, iBin 20 .add (.tmp 10) (.const (.int .i64 1))⟩,
    ⟨some 10, none, iMov 10 (.tmp 20) false⟩] [1, 5, 8, 9, 10] []
def list_OwnM_l2a : IC := (cSeq list_OwnM_r3 (cSeq list_OwnM_c3 (cSeq list_OwnM_b4 list_OwnM_r6)))
def list_OwnM_l2 : IC := cLoop list_OwnM_l2a
def list_OwnM_b1 : IC := cBlock 0 list_OwnM_l2
def list_OwnM_r7 : IC := cReg Try.prog [
    ⟨some 21, none, iMov 21 (.tmp 5) true⟩,
    ⟨some 4, none, iMov 4 (.tmp 21) true⟩] [4] []
def list_OwnM : IC := (cSeq list_OwnM_r0 (cSeq list_OwnM_r1 (cSeq (cSeq list_OwnM_r2 list_OwnM_b1) (cSeq list_OwnM_r7 cRet))))
theorem told_list_OwnM {args r : List D} (hl : args.length = 2) (h : list_OwnM (start args) (fin [(4, none)] r)) : Told Try.prog 72 args r :=
  told_of follows Try.func72 rfl (an := [([], [0, 1], [], []), ([], [0, 1, 5], [], []), ([], [1, 5, 8, 9, 10], [], []), ([], [1, 5, 8, 9, 10, 11], [], []), ([], [1, 5, 7, 8, 9, 10], [7], []), ([], [1, 5, 8, 9, 10], [], []), ([], [1, 5, 8, 9, 10], [], []), ([], [4], [], [21])]) (by kernel_rfl) (by kernel_rfl) (by rw [hl]; decide +kernel) h

def list_OwnC_r0 : IC := cReg Try.prog [
    ⟨some 4, none, iMov 4 (.const (.slice none 0 0)) true⟩] [0, 1] []
def list_OwnC_r1 : IC := cReg Try.prog [
    ⟨some 5, none, iMov 5 (.const (.slice none 0 0)) true⟩] [0, 1, 5] []
def list_OwnC_r2 : IC := cReg Try.prog [
    ⟨some 8, none, iMov 8 (.tmp 0) false⟩,
    ⟨some 9, none, iLen 9 false (.tmp 8)⟩,
    ⟨some 10, none, iMov 10 (.const (.int .i64 0)) false⟩] [1, 5, 8, 9, 10] []
def list_OwnC_r3 : IC := cReg Try.prog [
    ⟨some 11, none, iBin 11 .lss (.tmp 10) (.tmp 9)⟩] [1, 5, 8, 9, 10, 11] []
def list_OwnC_c3 : IC := cCond (.tmp 11) cSkip (cExit 0)
def list_OwnC_r4 : IC := cReg Try.prog [
    ⟨some 12, none, iIaS 12 6 (.tmp 8) (.tmp 10)⟩,
    ⟨some 13, none, iLoad 13 6 true (.tmp 12) false⟩,
    ⟨some 7, none, iAlo 7 [vD (.int .i64 0), vD (.int .i64 0), vD (.int .i64 0), vD (.int .i64 0), vD (.slice none 0 0), vD (.slice none 0 0)]⟩,
    ⟨none, none, iStor 6 (.tmp 7) (.tmp 13)⟩] [1, 5, 7, 8, 9, 10] [7]
def list_OwnC_r5 : IC := cReg Try.prog [
    ⟨some 14, none, iMov 14 (.tmp 5) true⟩,
    ⟨some 15, none, iMov 15 (.tmp 1) false⟩,
    ⟨some 16, none, iLoad 16 6 true (.tmp 7) false⟩,
    ⟨some 17, none, iCallV 17 Try.prog 15 [(.tmp 16)]⟩,
    ⟨some 18, none, iRow 18 86 6 [(.tmp 17)]⟩,
    ⟨some 19, none, iApp 19 86 6 80 (.tmp 14) (.tmp 18)⟩,
    ⟨some 5, none, iMov 5 (.tmp 19) true⟩] [1, 5, 8, 9, 10] []
def list_OwnC_b4 : IC := cBlock 1 (cSeq list_OwnC_r4 list_OwnC_r5)
def list_OwnC_r6 : IC := cReg Try.prog [
    ⟨some 20, none, iBin 20 .add (.tmp 10) (.const (.int .i64 1))⟩,
    ⟨some 10, none, iMov 10 (.tmp 20) false⟩] [1, 5, 8, 9, 10] []
def list_OwnC_l2a : IC := (cSeq list_OwnC_r3 (cSeq list_OwnC_c3 (cSeq list_OwnC_b4 list_OwnC_r6)))
def list_OwnC_l2 : IC := cLoop list_OwnC_l2a
def list_OwnC_b1 : IC := cBlock 0 list_OwnC_l2
def list_OwnC_r7 : IC := cReg Try.prog [
    ⟨some 21, none, iMov 21 (.tmp 5) true⟩,
    ⟨some 4, none, iMov 4 (.tmp 21) true⟩] [4] []
def list_OwnC : IC := (cSeq list_OwnC_r0 (cSeq list_OwnC_r1 (cSeq (cSeq list_OwnC_r2 list_OwnC_b1) (cSeq list_OwnC_r7 cRet))))
theorem told_list_OwnC {args r : List D} (hl : args.length = 2) (h : list_OwnC (start args) (fin [(4, none)] r)) : Told Try.prog 73 args r :=
  told_of follows Try.func73 rfl (an := [([], [0, 1], [], []), ([], [0, 1, 5], [], []), ([], [1, 5, 8, 9, 10], [], []), ([], [1, 5, 8, 9, 10, 11], [], []), ([], [1, 5, 7, 8, 9, 10], [7], []), ([], [1, 5, 8, 9, 10], [], []), ([], [1, 5, 8, 9, 10], [], []), ([], [4], [], [21])]) (by kernel_rfl) (by kernel_rfl) (by rw [hl]; decide +kernel) h

def send_Own_r0 : IC := cReg Try.prog [
    ⟨some 1, none, iBox 1 (.tmp 0)⟩,
    ⟨some 2, none, iAlo 2 [vD (.slice none 0 0), vD (.int .i64 0), vD (.int .i64 0), vD (.int .i64 0), vD (.int .i64 0), vD (.slice none 0 0), vD (.int .i64 0)]⟩] [1, 2] [1, 2]
def send_Own_r1 : IC := cReg Try.prog [
    ⟨some 3, none, iFad 3 0 (.tmp 1)⟩,
    ⟨some 4, none, iLoad 4 1 false (.tmp 3) false⟩,
    ⟨some 5, none, iCall 5 72 [(.tmp 4), (.func 30)]⟩,
    ⟨some 6, none, iFad 6 0 (.tmp 1)⟩,
    ⟨none, none, iStor 1 (.tmp 6) (.tmp 5)⟩] [1, 2] [1, 2]
def send_Own_r2 : IC := cReg Try.prog [
    ⟨some 7, none, iFad 7 5 (.tmp 1)⟩,
    ⟨some 8, none, iLoad 8 1 false (.tmp 7) false⟩,
    ⟨some 9, none, iCall 9 73 [(.tmp 8), (.func 74)]⟩,
    ⟨some 10, none, iFad 10 5 (.tmp 1)⟩,
    ⟨none, none, iStor 1 (.tmp 10) (.tmp 9)⟩] [1, 2] [1, 2]
def send_Own_r3 : IC := cReg Try.prog [
    ⟨some 11, none, iLoad 11 7 true (.tmp 1) false⟩,
    ⟨none, none, iStor 7 (.tmp 2) (.tmp 11)⟩] [2] [2]
def send_Own : IC := (cSeq send_Own_r0 (cSeq send_Own_r1 (cSeq send_Own_r2 (cSeq send_Own_r3 cRet))))
theorem told_send_Own {args r : List D} (hl : args.length = 1) (h : send_Own (start args) (fin [(2, some (7, true))] r)) : Told Try.prog 44 args r :=
  told_of follows Try.func44 rfl (an := [([], [1, 2], [1, 2], []), ([], [1, 2], [1, 2], []), ([], [1, 2], [1, 2], []), ([], [2], [2], [])]) (by kernel_rfl) (by kernel_rfl) (by rw [hl]; decide +kernel) h

end Go.Proofs.Ytngfedhffehkaac.ab
