/-
  Several texts in one.
-/
import Derived.Test.YtngfedhffehkaacM23
import Derived.Test.YtngfedhffehkaacM41
import Derived.Test.YtngfedhffehkaacAVTells
import Derived.ChangeOld
import Derived.SizedLaws
import Derived.Test.YtngfedhffehkaacProg
import Derived.Test.YtngfedhffehkaacM34
import Derived.Test.YtngfedhffehkaacM32

/-
  The row of ViewTells out of what the functions are held to.
-/
namespace Go.Proofs.Ytngfedhffehkaac.viewTells
set_option linter.unusedSimpArgs false
open Go Go.ChangeShapes Go.WideShapes Go.RowKit
set_option linter.unusedVariables false
open ab mth

set_option maxRecDepth 100000 in
theorem lifted (hS : CSpoilR 34) (hO : CVOf 13) (hL : CVOnly 14) (hP : CVPuts 17) (os : Os) (started : os.Started) (H : Type) (enc : TypeId × Value → H) (F : Stop.Interp) :
    ReturnsInHanded {} Try.checked os 5 .any ((Rows.OpenSpec.upto Rows.viewTellsSpec).pre6 enc Try.prog Try.f5 Rows.viewTellsUptoRow.domain false) (((Rows.OpenSpec.upto Rows.viewTellsSpec).at F).post enc Try.prog Try.f5 false true false false) := by
  refine returnsInHanded_of_cond (C := Try.checked) (s := Rows.OpenSpec.upto Rows.viewTellsSpec) (k := Rows.uptoSmall) rfl own started (by kernel_rfl) Try.func5
    (OpenSpec.witness (enc := enc) (C := Try.checked) (s := Rows.OpenSpec.upto Rows.viewTellsSpec) (k := Rows.uptoSmall) rfl false ⟨#[], #[.int .i64 0, .slice none 0 0, .int .i64 0], []⟩ 8 (by kernel_rfl) (by kernel_rfl) (by kernel_rfl)
      (x := ([.lit (.int .i64 0), .nil, .lit (.int .i64 0)], [], [])) (by kernel_rfl) rfl (by kernel_rfl)) ?_
  intro W base args ds gs before hval0 hW0 _ hk _
  have hval : ∀ (j : Nat) t v, Try.f5.params[j]? = some t → args[j]? = some v → Value.okWide Try.prog W .any base t v := hval0
  have hW' := hW0
  obtain ⟨p, q, hA0, hV, rfl, hfz, hnd⟩ := hW0
  have hA : DataW.TrodAll enc Try.prog W 0 (fun _ => true) true Try.f5.params.toList args.toList ds p := hA0
  rw [Try.params5] at hA hval
  obtain ⟨v0, vs0, d0, ds0, p0, q0, hargs, rfl, rfl, h0, r0⟩ := trodAll_cons hA
  obtain ⟨v1, vs1, d1, ds1, p1, q1, rfl, rfl, rfl, h1, r1⟩ := trodAll_cons r0
  obtain ⟨v2, vs2, d2, ds2, p2, q2, rfl, rfl, rfl, h2, r2⟩ := trodAll_cons r1
  obtain ⟨rfl, rfl, rfl⟩ := trodAll_nil r2
  obtain rfl : args = #[v0, v1, v2] := by cases args; simp_all
  obtain ⟨rfl, rfl⟩ := trodVars_none hV
  have lt0 : ∀ x ∈ p0, x.block < W.heap.size := by obtain ⟨m, hm⟩ := h0; exact DataW.trod_lt m _ _ _ hm
  have lt1 : ∀ x ∈ p1, x.block < W.heap.size := by obtain ⟨m, hm⟩ := h1; exact DataW.trod_lt m _ _ _ hm
  have lt2 : ∀ x ∈ p2, x.block < W.heap.size := by obtain ⟨m, hm⟩ := h2; exact DataW.trod_lt m _ _ _ hm
  obtain ⟨n0, rfl⟩ := okWide_int Try.underlying3 (hval 0 3 v0 rfl rfl)
  obtain ⟨a1, len1, cap1, rfl⟩ := okWide_slice Try.underlying22 (hval 1 22 v1 rfl rfl)
  obtain ⟨x1, hM1, hu1, hd1⟩ := (by obtain ⟨fuel, hf⟩ := h1; exact in_stepsB hf : ∃ cs : List Sp, CRep (AllOf W) W (sD 7 (encSl cs)) (.slice a1 len1 cap1) ∧ cs.length ≤ Rows.uptoBulk d1 ∧ ∀ c ∈ cs, c.msg.data.length ≤ Rows.uptoBulk d1)
  have hl1 := hM1.len
  rw [len_sl] at hl1
  obtain ⟨n2, rfl⟩ := okWide_int Try.underlying3 (hval 2 3 v2 rfl rfl)
  have hbd : Rows.uptoBulkAll ([d0, d1, d2] ++ []) ≤ 1048576 := of_decide_eq_true hk
  simp only [List.append_nil, Rows.uptoBulkAll] at hbd
  clear hA0 hval0
  refine ((viewTells_told hS hO hL hP n0 x1 (by omega) (fun c hc => by have := hd1 c hc; omega) n2).yes (W := W) (vs := [.int .i64 n0, .slice a1 len1 cap1, .int .i64 n2]) (Vals.cons (.inl (CRep.v rfl)) (Vals.cons (.inl hM1) (Vals.cons (.inl (CRep.v rfl)) Vals.nil)))).mono fun e W' ⟨he, bel⟩ => ?_
  subst he
  exact ⟨_, rfl, _, _, _, [], _, [], hW', trodAll_mk1 (shut_bool Try.underlying4 _), (trodAll_cons_mk (Below.trod laidOut (by kernel_rfl) (of_decide_eq_true (by kernel_rfl)) h0 bel lt0) (trodAll_cons_mk (Below.trod laidOut (by kernel_rfl) (of_decide_eq_true (by kernel_rfl)) h1 bel lt1) (trodAll_cons_mk (Below.trod laidOut (by kernel_rfl) (of_decide_eq_true (by kernel_rfl)) h2 bel lt2) trodAll_mk0))), rfl, bel.frame _, fun h => by cases h⟩

theorem over (hS : CSpoilR 34) (hO : CVOf 13) (hL : CVOnly 14) (hP : CVPuts 17) : Rows.viewTellsUptoRow.holds Try.pinned (Rows.OpenSpec.upto Rows.viewTellsSpec) :=
  OpenClaim.holds_of_cond 5 Try.f5 rfl rfl rfl rfl rfl rfl rfl ⟨rfl, rfl, rfl, rfl, rfl⟩ rfl rfl rfl rfl rfl (by kernel_rfl) Try.func5 (by kernel_rfl)
    (of_decide_eq_true (by kernel_rfl)) (by unfold Func.isWrapper; first | (rw [if_pos (by decide +kernel)]; kernel_rfl) | (rw [if_neg (by decide +kernel)]; exact ⟨rfl, rfl⟩))
    (fun os started H enc _ F => lifted hS hO hL hP os started H enc F)
end Go.Proofs.Ytngfedhffehkaac.viewTells

/-
  Functions as plain code (written by wip/abs/ir.py): view.Of, view.Only, view.Puts.
-/
namespace Go.Proofs.Ytngfedhffehkaac.ab
set_option linter.unusedSimpArgs false
set_option linter.unusedVariables false
set_option maxRecDepth 100000
open Go Go.RowKit

def view_Of_r0 : IC := cReg Try.prog [
    ⟨some 2, none, iBox 2 (.tmp 0)⟩,
    ⟨some 4, none, iAlo 4 [vD (.slice none 0 0), vD (.int .i64 0), vD (.int .i64 0), vD (.int .i64 0), vD (.int .i64 0), vD (.slice none 0 0), vD (.int .i64 0), vD (.int .i64 0), vD (.slice none 0 0), vD (.int .i64 0), vD (.int .i64 0), vD (.int .i64 0), vD (.slice none 0 0), vD (.slice none 0 0), vD (.bool false), vD (.slice none 0 0), vD (.slice none 0 0)]⟩,
    ⟨some 5, none, iMov 5 (.const (.bool false)) true⟩] [1, 2, 4] [2, 4]
def view_Of_r1 : IC := cReg Try.prog [
    ⟨some 6, none, iMov 6 (.tmp 1) false⟩,
    ⟨some 7, none, iBin 7 .lss (.tmp 6) (.const (.int .i64 0))⟩,
    ⟨some 8, none, iMov 8 (.tmp 7) false⟩,
    ⟨some 9, some (8, false), iMov 9 (.tmp 1) false⟩,
    ⟨some 10, some (8, false), iFad 10 0 (.tmp 2)⟩,
    ⟨some 11, some (8, false), iLoad 11 1 false (.tmp 10) false⟩,
    ⟨some 12, some (8, false), iLen 12 false (.tmp 11)⟩,
    ⟨some 13, some (8, false), iBin 13 .geq (.tmp 9) (.tmp 12)⟩,
    ⟨some 14, none, iPick 14 (.tmp 8) (.const (.bool true)) (.tmp 13)⟩] [1, 2, 4, 14] [2, 4]
def view_Of_r2 : IC := cReg Try.prog [
    ⟨some 15, none, iBld 15 [vD (.slice none 0 0), vD (.int .i64 0), vD (.int .i64 0), vD (.int .i64 0), vD (.int .i64 0), vD (.slice none 0 0), vD (.int .i64 0), vD (.int .i64 0), vD (.slice none 0 0), vD (.int .i64 0), vD (.int .i64 0), vD (.int .i64 0), vD (.slice none 0 0), vD (.slice none 0 0), vD (.bool false), vD (.slice none 0 0), vD (.slice none 0 0)] [] []⟩,
    ⟨none, none, iStor 17 (.tmp 4) (.tmp 15)⟩,
    ⟨some 5, none, iMov 5 (.const (.bool false)) true⟩] [4, 5] [4]
def view_Of_c1a : IC := (cSeq view_Of_r2 cRet)
def view_Of_c1 : IC := cCond (.tmp 14) view_Of_c1a cSkip
def view_Of_r3 : IC := cReg Try.prog [
    ⟨some 16, none, iFad 16 0 (.tmp 2)⟩,
    ⟨some 17, none, iLoad 17 1 false (.tmp 16) false⟩,
    ⟨some 18, none, iMov 18 (.tmp 1) false⟩,
    ⟨some 19, none, iIaS 19 17 (.tmp 17) (.tmp 18)⟩,
    ⟨some 20, none, iLoad 20 17 true (.tmp 19) false⟩,
    ⟨some 21, none, iCall 21 29 [(.tmp 20)]⟩,
    ⟨none, none, iStor 17 (.tmp 4) (.tmp 21)⟩,
    ⟨some 5, none, iMov 5 (.const (.bool true)) true⟩] [4, 5] [4]
def view_Of : IC := (cSeq view_Of_r0 (cSeq (cSeq view_Of_r1 view_Of_c1) (cSeq view_Of_r3 cRet)))
theorem told_view_Of {args r : List D} (hl : args.length = 2) (h : view_Of (start args) (fin [(4, some (17, true)), (5, none)] r)) : Told Try.prog 13 args r :=
  told_of follows Try.func13 rfl (an := [([], [1, 2, 4], [2, 4], []), ([], [1, 2, 4, 14], [2, 4], []), ([], [4, 5], [4], []), ([], [4, 5], [4], [])]) (by kernel_rfl) (by kernel_rfl) (by rw [hl]; decide +kernel) h

def view_Only_r0 : IC := cReg Try.prog [
    ⟨some 4, none, iMov 4 (.const (.slice none 0 0)) true⟩] [0, 1] []
def view_Only_r1 : IC := cReg Try.prog [
    ⟨some 5, none, iMov 5 (.const (.slice none 0 0)) true⟩] [0, 1, 5] []
def view_Only_r2 : IC := cReg Try.prog [
    ⟨some 8, none, iMov 8 (.tmp 0) false⟩,
    ⟨some 9, none, iLen 9 false (.tmp 8)⟩,
    ⟨some 10, none, iMov 10 (.const (.int .i64 0)) false⟩] [1, 5, 8, 9, 10] []
def view_Only_r3 : IC := cReg Try.prog [
    ⟨some 11, none, iBin 11 .lss (.tmp 10) (.tmp 9)⟩] [1, 5, 8, 9, 10, 11] []
def view_Only_c3 : IC := cCond (.tmp 11) cSkip (cExit 0)
def view_Only_r4 : IC := cReg Try.prog [
    ⟨some 12, none, iIaS 12 7 (.tmp 8) (.tmp 10)⟩,
    ⟨some 13, none, iLoad 13 7 true (.tmp 12) false⟩,
    ⟨some 7, none, iAlo 7 [vD (.int .i64 0), vD (.int .i64 0), vD (.int .i64 0), vD (.int .i64 0), vD (.bool false), vD (.int .i64 0), vD (.slice none 0 0)]⟩,
    ⟨none, none, iStor 7 (.tmp 7) (.tmp 13)⟩] [1, 5, 7, 8, 9, 10] [7]
def view_Only_r5 : IC := cReg Try.prog [
    ⟨some 14, none, iFad 14 0 (.tmp 7)⟩,
    ⟨some 15, none, iLoad 15 1 false (.tmp 14) false⟩,
    ⟨some 16, none, iBin 16 .eql (.tmp 15) (.const (.int .i64 1))⟩,
    ⟨some 17, none, iMov 17 (.tmp 16) false⟩,
    ⟨some 18, some (17, false), iFad 18 1 (.tmp 7)⟩,
    ⟨some 19, some (17, false), iLoad 19 1 false (.tmp 18) false⟩,
    ⟨some 20, some (17, false), iMov 20 (.tmp 1) false⟩,
    ⟨some 21, some (17, false), iBin 21 .eql (.tmp 19) (.tmp 20)⟩,
    ⟨some 22, none, iPick 22 (.tmp 17) (.const (.bool true)) (.tmp 21)⟩] [1, 5, 7, 8, 9, 10, 22] [7]
def view_Only_r6 : IC := cReg Try.prog [
    ⟨some 23, none, iFad 23 5 (.tmp 7)⟩,
    ⟨some 24, none, iLoad 24 2 true (.tmp 23) false⟩,
    ⟨some 25, none, iCall 25 30 [(.tmp 24)]⟩,
    ⟨some 26, none, iFad 26 5 (.tmp 7)⟩,
    ⟨none, none, iStor 2 (.tmp 26) (.tmp 25)⟩] [1, 5, 7, 8, 9, 10] [7]
def view_Only_r7 : IC := cReg Try.prog [
    ⟨some 27, none, iMov 27 (.tmp 5) true⟩,
    ⟨some 28, none, iLoad 28 7 true (.tmp 7) false⟩,
    ⟨some 29, none, iRow 29 27 7 [(.tmp 28)]⟩,
    ⟨some 30, none, iApp 30 27 7 72 (.tmp 27) (.tmp 29)⟩,
    ⟨some 5, none, iMov 5 (.tmp 30) true⟩] [1, 5, 8, 9, 10] []
def view_Only_c5a : IC := (cSeq view_Only_r6 view_Only_r7)
def view_Only_c5 : IC := cCond (.tmp 22) view_Only_c5a cSkip
def view_Only_b4 : IC := cBlock 1 (cSeq view_Only_r4 (cSeq view_Only_r5 view_Only_c5))
def view_Only_r8 : IC := cReg Try.prog [
    ⟨some 31, none, iBin 31 .add (.tmp 10) (.const (.int .i64 1))⟩,
    ⟨some 10, none, iMov 10 (.tmp 31) false⟩] [1, 5, 8, 9, 10] []
def view_Only_l2a : IC := (cSeq view_Only_r3 (cSeq view_Only_c3 (cSeq view_Only_b4 view_Only_r8)))
def view_Only_l2 : IC := cLoop view_Only_l2a
def view_Only_b1 : IC := cBlock 0 view_Only_l2
def view_Only_r9 : IC := cReg Try.prog [
    ⟨some 32, none, iMov 32 (.tmp 5) false⟩,
    ⟨some 4, none, iMov 4 (.tmp 32) true⟩] [4] []
def view_Only : IC := (cSeq view_Only_r0 (cSeq view_Only_r1 (cSeq (cSeq view_Only_r2 view_Only_b1) (cSeq view_Only_r9 cRet))))
theorem told_view_Only {args r : List D} (hl : args.length = 2) (h : view_Only (start args) (fin [(4, none)] r)) : Told Try.prog 14 args r :=
  told_of follows Try.func14 rfl (an := [([], [0, 1], [], []), ([], [0, 1, 5], [], []), ([], [1, 5, 8, 9, 10], [], []), ([], [1, 5, 8, 9, 10, 11], [], []), ([], [1, 5, 7, 8, 9, 10], [7], []), ([], [1, 5, 7, 8, 9, 10, 22], [7], []), ([], [1, 5, 7, 8, 9, 10], [7], []), ([], [1, 5, 8, 9, 10], [], []), ([], [1, 5, 8, 9, 10], [], []), ([], [4], [], [])]) (by kernel_rfl) (by kernel_rfl) (by rw [hl]; decide +kernel) h

def view_Puts_r0 : IC := cReg Try.prog [
    ⟨some 6, none, iMov 6 (.const (.slice none 0 0)) true⟩] [0, 1, 2] []
def view_Puts_r1 : IC := cReg Try.prog [
    ⟨some 7, none, iMov 7 (.const (.slice none 0 0)) true⟩] [0, 1, 2, 7] []
def view_Puts_r2 : IC := cReg Try.prog [
    ⟨some 10, none, iMov 10 (.tmp 0) false⟩,
    ⟨some 11, none, iMov 11 (.tmp 0) false⟩,
    ⟨some 12, none, iLen 12 false (.tmp 11)⟩,
    ⟨some 13, none, iMov 13 (.tmp 1) false⟩,
    ⟨some 14, none, iLen 14 false (.tmp 13)⟩,
    ⟨some 15, none, iMm 15 false (.tmp 12) (.tmp 14)⟩,
    ⟨some 16, none, iSlc 16 7 (.tmp 10) none (some (.tmp 15))⟩,
    ⟨some 17, none, iLen 17 false (.tmp 16)⟩,
    ⟨some 18, none, iMov 18 (.const (.int .i64 0)) false⟩] [1, 2, 7, 16, 17, 18] []
def view_Puts_r3 : IC := cReg Try.prog [
    ⟨some 19, none, iBin 19 .lss (.tmp 18) (.tmp 17)⟩] [1, 2, 7, 16, 17, 18, 19] []
def view_Puts_c3 : IC := cCond (.tmp 19) cSkip (cExit 0)
def view_Puts_r4 : IC := cReg Try.prog [
    ⟨some 20, none, iMov 20 (.tmp 18) false⟩,
    ⟨some 21, none, iIaS 21 7 (.tmp 16) (.tmp 18)⟩,
    ⟨some 22, none, iLoad 22 7 true (.tmp 21) false⟩,
    ⟨some 9, none, iAlo 9 [vD (.int .i64 0), vD (.int .i64 0), vD (.int .i64 0), vD (.int .i64 0), vD (.bool false), vD (.int .i64 0), vD (.slice none 0 0)]⟩,
    ⟨some 8, none, iMov 8 (.tmp 20) true⟩,
    ⟨none, none, iStor 7 (.tmp 9) (.tmp 22)⟩] [1, 2, 7, 8, 9, 16, 17, 18] [9]
def view_Puts_r5_0 : IC := cReg Try.prog [
    ⟨some 23, none, iFad 23 0 (.tmp 9)⟩,
    ⟨some 24, none, iLoad 24 1 false (.tmp 23) false⟩,
    ⟨some 25, none, iBin 25 .eql (.tmp 24) (.const (.int .i64 2))⟩,
    ⟨some 26, none, iMov 26 (.tmp 25) false⟩,
    ⟨some 27, some (26, true), iFad 27 1 (.tmp 9)⟩,
    ⟨some 28, some (26, true), iLoad 28 1 false (.tmp 27) false⟩,
    ⟨some 29, some (26, true), iMov 29 (.tmp 2) false⟩,
    ⟨some 30, some (26, true), iBin 30 .eql (.tmp 28) (.tmp 29)⟩,
    ⟨some 31, none, iPick 31 (.tmp 26) (.tmp 30) (.const (.bool false))⟩,
    ⟨some 32, none, iMov 32 (.tmp 31) false⟩] [1, 2, 7, 8, 9, 16, 17, 18, 32] [9]
def view_Puts_r5_1 : IC := cReg Try.prog [
    ⟨some 33, some (32, true), iMov 33 (.tmp 1) false⟩,
    ⟨some 34, some (32, true), iMov 34 (.tmp 8) false⟩,
    ⟨some 35, some (32, true), iIaS 35 1 (.tmp 33) (.tmp 34)⟩,
    ⟨some 36, some (32, true), iLoad 36 1 false (.tmp 35) false⟩,
    ⟨some 37, some (32, true), iBin 37 .eql (.tmp 36) (.const (.int .i64 0))⟩,
    ⟨some 38, none, iPick 38 (.tmp 32) (.tmp 37) (.const (.bool false))⟩] [1, 2, 7, 9, 16, 17, 18, 38] [9]
def view_Puts_r5 : IC := (cSeq view_Puts_r5_0 view_Puts_r5_1)
def view_Puts_r6 : IC := cReg Try.prog [
    ⟨some 39, none, iMov 39 (.tmp 7) true⟩,
    ⟨some 40, none, iFad 40 5 (.tmp 9)⟩,
    ⟨some 41, none, iLoad 41 2 true (.tmp 40) false⟩,
    ⟨some 42, none, iCall 42 30 [(.tmp 41)]⟩,
    ⟨some 43, none, iRow 43 25 2 [(.tmp 42)]⟩,
    ⟨some 44, none, iApp 44 25 2 32 (.tmp 39) (.tmp 43)⟩,
    ⟨some 7, none, iMov 7 (.tmp 44) true⟩] [1, 2, 7, 16, 17, 18] []
def view_Puts_c5 : IC := cCond (.tmp 38) view_Puts_r6 cSkip
def view_Puts_b4 : IC := cBlock 1 (cSeq view_Puts_r4 (cSeq view_Puts_r5 view_Puts_c5))
def view_Puts_r7 : IC := cReg Try.prog [
    ⟨some 45, none, iBin 45 .add (.tmp 18) (.const (.int .i64 1))⟩,
    ⟨some 18, none, iMov 18 (.tmp 45) false⟩] [1, 2, 7, 16, 17, 18] []
def view_Puts_l2a : IC := (cSeq view_Puts_r3 (cSeq view_Puts_c3 (cSeq view_Puts_b4 view_Puts_r7)))
def view_Puts_l2 : IC := cLoop view_Puts_l2a
def view_Puts_b1 : IC := cBlock 0 view_Puts_l2
def view_Puts_r8 : IC := cReg Try.prog [
    ⟨some 46, none, iMov 46 (.tmp 7) false⟩,
    ⟨some 6, none, iMov 6 (.tmp 46) true⟩] [6] []
def view_Puts : IC := (cSeq view_Puts_r0 (cSeq view_Puts_r1 (cSeq (cSeq view_Puts_r2 view_Puts_b1) (cSeq view_Puts_r8 cRet))))
theorem told_view_Puts {args r : List D} (hl : args.length = 3) (h : view_Puts (start args) (fin [(6, none)] r)) : Told Try.prog 17 args r :=
  told_of follows Try.func17 rfl (an := [([], [0, 1, 2], [], []), ([], [0, 1, 2, 7], [], []), ([], [1, 2, 7, 16, 17, 18], [], []), ([], [1, 2, 7, 16, 17, 18, 19], [], []), ([], [1, 2, 7, 8, 9, 16, 17, 18], [9], []), ([(10, [1, 2, 7, 8, 9, 16, 17, 18, 32], [9])], [1, 2, 7, 9, 16, 17, 18, 38], [9], []), ([], [1, 2, 7, 16, 17, 18], [], []), ([], [1, 2, 7, 16, 17, 18], [], []), ([], [6], [], [])]) (by kernel_rfl) (by kernel_rfl) (by rw [hl]; decide +kernel) h

end Go.Proofs.Ytngfedhffehkaac.ab

/-
  Functions as plain code (written by wip/abs/ir.py): chunk.OwnMsg, chunk.Own, list.Own[lanekeeper/api.Msg]=list_OwnM;O, list.Own[lanekeeper/api.Chunk]=list_OwnC;O, send.Own, send.Own=send_OwnO;C.
-/
namespace Go.Proofs.Ytngfedhffehkaac.ab
set_option linter.unusedSimpArgs false
set_option linter.unusedVariables false
set_option maxRecDepth 100000
open Go Go.RowKit

def chunk_OwnMsg_r0 : IC := cReg Try.prog [
    ⟨some 1, none, iBox 1 (.tmp 0)⟩,
    ⟨some 2, none, iAlo 2 [vD (.int .i64 0), vD (.slice none 0 0)]⟩] [1, 2] [1, 2]
def chunk_OwnMsg_r1 : IC := cReg Try.prog [
    ⟨some 3, none, iFad 3 1 (.tmp 1)⟩,
    ⟨some 4, none, iLoad 4 1 false (.tmp 3) false⟩,
    ⟨some 5, none, iApp 5 5 1 1 (.const (.slice none 0 0)) (.tmp 4)⟩,
    ⟨some 6, none, iFad 6 1 (.tmp 1)⟩,
    ⟨none, none, iStor 1 (.tmp 6) (.tmp 5)⟩] [1, 2] [1, 2]
def chunk_OwnMsg_r2 : IC := cReg Try.prog [
    ⟨some 7, none, iLoad 7 2 true (.tmp 1) false⟩,
    ⟨none, none, iStor 2 (.tmp 2) (.tmp 7)⟩] [2] [2]
def chunk_OwnMsg : IC := (cSeq chunk_OwnMsg_r0 (cSeq chunk_OwnMsg_r1 (cSeq chunk_OwnMsg_r2 cRet)))
theorem told_chunk_OwnMsg {args r : List D} (hl : args.length = 1) (h : chunk_OwnMsg (start args) (fin [(2, some (2, true))] r)) : Told Try.prog 30 args r :=
  told_of follows Try.func30 rfl (an := [([], [1, 2], [1, 2], []), ([], [1, 2], [1, 2], []), ([], [2], [2], [])]) (by kernel_rfl) (by kernel_rfl) (by rw [hl]; decide +kernel) h

def chunk_Own_r0 : IC := cReg Try.prog [
    ⟨some 1, none, iBox 1 (.tmp 0)⟩,
    ⟨some 2, none, iAlo 2 [vD (.int .i64 0), vD (.int .i64 0), vD (.int .i64 0), vD (.int .i64 0), vD (.slice none 0 0), vD (.slice none 0 0)]⟩] [1, 2] [1, 2]
def chunk_Own_r1 : IC := cReg Try.prog [
    ⟨some 3, none, iFad 3 4 (.tmp 1)⟩,
    ⟨some 4, none, iLoad 4 1 false (.tmp 3) false⟩,
    ⟨some 5, none, iApp 5 5 1 1 (.const (.slice none 0 0)) (.tmp 4)⟩,
    ⟨some 6, none, iFad 6 4 (.tmp 1)⟩,
    ⟨none, none, iStor 1 (.tmp 6) (.tmp 5)⟩] [1, 2] [1, 2]
def chunk_Own_r2 : IC := cReg Try.prog [
    ⟨some 7, none, iFad 7 5 (.tmp 1)⟩,
    ⟨some 8, none, iLoad 8 1 false (.tmp 7) false⟩,
    ⟨some 9, none, iApp 9 3 1 8 (.const (.slice none 0 0)) (.tmp 8)⟩,
    ⟨some 10, none, iFad 10 5 (.tmp 1)⟩,
    ⟨none, none, iStor 1 (.tmp 10) (.tmp 9)⟩] [1, 2] [1, 2]
def chunk_Own_r3 : IC := cReg Try.prog [
    ⟨some 11, none, iLoad 11 6 true (.tmp 1) false⟩,
    ⟨none, none, iStor 6 (.tmp 2) (.tmp 11)⟩] [2] [2]
def chunk_Own : IC := (cSeq chunk_Own_r0 (cSeq chunk_Own_r1 (cSeq chunk_Own_r2 (cSeq chunk_Own_r3 cRet))))
theorem told_chunk_Own {args r : List D} (hl : args.length = 1) (h : chunk_Own (start args) (fin [(2, some (6, true))] r)) : Told Try.prog 74 args r :=
  told_of follows Try.func74 rfl (an := [([], [1, 2], [1, 2], []), ([], [1, 2], [1, 2], []), ([], [1, 2], [1, 2], []), ([], [2], [2], [])]) (by kernel_rfl) (by kernel_rfl) (by rw [hl]; decide +kernel) h

def list_OwnM_r0 : IC := cReg Try.prog [
    ⟨some 4, none, iMov 4 (.const (.slice none 0 0)) true⟩] [0, 1] []
def list_OwnM_r1 : IC := cReg Try.prog [
    ⟨some 5, none, iMov 5 (.const (.slice none 0 0)) true⟩] [0, 1, 5] []
def list_OwnM_r2 : IC := cReg Try.prog [
    ⟨some 8, none, iMov 8 (.tmp 0) false⟩,
    ⟨some 9, none, iLen 9 false (.tmp 8)⟩,
    ⟨some 10, none, iMov 10 (.const (.int .i64 0)) false⟩] [1, 5, 8, 9, 10] []
def list_OwnM_r3 : IC := cReg Try.prog [
    ⟨some 11, none, iBin 11 .lss (.tmp 10) (.tmp 9)⟩] [1, 5, 8, 9, 10, 11] []
def list_OwnM_c3 : IC := cCond (.tmp 11) cSkip (cExit 0)
def list_OwnM_r4 : IC := cReg Try.prog [
    ⟨some 12, none, iIaS 12 2 (.tmp 8) (.tmp 10)⟩,
    ⟨some 13, none, iLoad 13 2 true (.tmp 12) false⟩,
    ⟨some 7, none, iAlo 7 [vD (.int .i64 0), vD (.slice none 0 0)]⟩,
    ⟨none, none, iStor 2 (.tmp 7) (.tmp 13)⟩] [1, 5, 7, 8, 9, 10] [7]
def list_OwnM_r5 : IC := cReg Try.prog [
    ⟨some 14, none, iMov 14 (.tmp 5) true⟩,
    ⟨some 15, none, iMov 15 (.tmp 1) false⟩,
    ⟨some 16, none, iLoad 16 2 true (.tmp 7) false⟩,
    ⟨some 17, none, iCallV 17 Try.prog 15 [(.tmp 16)]⟩,
    ⟨some 18, none, iRow 18 25 2 [(.tmp 17)]⟩,
    ⟨some 19, none, iApp 19 25 2 32 (.tmp 14) (.tmp 18)⟩,
    ⟨some 5, none, iMov 5 (.tmp 19) true⟩] [1, 5, 8, 9, 10] []
def list_OwnM_b4 : IC := cBlock 1 (cSeq list_OwnM_r4 list_OwnM_r5)
def list_OwnM_r6 : IC := cReg Try.prog [
    ⟨some 20, none, iBin 20 .add (.tmp 10) (.const (.int .i64 1))⟩,
    ⟨some 10, none, iMov 10 (.tmp 20) false⟩] [1, 5, 8, 9, 10] []
def list_OwnM_l2a : IC := (cSeq list_OwnM_r3 (cSeq list_OwnM_c3 (cSeq list_OwnM_b4 list_OwnM_r6)))
def list_OwnM_l2 : IC := cLoop list_OwnM_l2a
def list_OwnM_b1 : IC := cBlock 0 list_OwnM_l2
def list_OwnM_r7 : IC := cReg Try.prog [
    ⟨some 21, none, iMov 21 (.tmp 5) true⟩,
    ⟨some 4, none, iMov 4 (.tmp 21) true⟩] [4] []
def list_OwnM : IC := (cSeq list_OwnM_r0 (cSeq list_OwnM_r1 (cSeq (cSeq list_OwnM_r2 list_OwnM_b1) (cSeq list_OwnM_r7 cRet))))
theorem told_list_OwnM {args r : List D} (hl : args.length = 2) (h : list_OwnM (start args) (fin [(4, none)] r)) : Told Try.prog 72 args r :=
  told_of follows Try.func72 rfl (an := [([], [0, 1], [], []), ([], [0, 1, 5], [], []), ([], [1, 5, 8, 9, 10], [], []), ([], [1, 5, 8, 9, 10, 11], [], []), ([], [1, 5, 7, 8, 9, 10], [7], []), ([], [1, 5, 8, 9, 10], [], []), ([], [1, 5, 8, 9, 10], [], []), ([], [4], [], [21])]) (by kernel_rfl) (by kernel_rfl) (by rw [hl]; decide +kernel) h

def list_OwnC_r0 : IC := cReg Try.prog [
    ⟨some 4, none, iMov 4 (.const (.slice none 0 0)) true⟩] [0, 1] []
def list_OwnC_r1 : IC := cReg Try.prog [
    ⟨some 5, none, iMov 5 (.const (.slice none 0 0)) true⟩] [0, 1, 5] []
def list_OwnC_r2 : IC := cReg Try.prog [
    ⟨some 8, none, iMov 8 (.tmp 0) false⟩,
    ⟨some 9, none, iLen 9 false (.tmp 8)⟩,
    ⟨some 10, none, iMov 10 (.const (.int .i64 0)) false⟩] [1, 5, 8, 9, 10] []
def list_OwnC_r3 : IC := cReg Try.prog [
    ⟨some 11, none, iBin 11 .lss (.tmp 10) (.tmp 9)⟩] [1, 5, 8, 9, 10, 11] []
def list_OwnC_c3 : IC := cCond (.tmp 11) cSkip (cExit 0)
def list_OwnC_r4 : IC := cReg Try.prog [
    ⟨some 12, none, iIaS 12 6 (.tmp 8) (.tmp 10)⟩,
    ⟨some 13, none, iLoad 13 6 true (.tmp 12) false⟩,
    ⟨some 7, none, iAlo 7 [vD (.int .i64 0), vD (.int .i64 0), vD (.int .i64 0), vD (.int .i64 0), vD (.slice none 0 0), vD (.slice none 0 0)]⟩,
    ⟨none, none, iStor 6 (.tmp 7) (.tmp 13)⟩] [1, 5, 7, 8, 9, 10] [7]
def list_OwnC_r5 : IC := cReg Try.prog [
    ⟨some 14, none, iMov 14 (.tmp 5) true⟩,
    ⟨some 15, none, iMov 15 (.tmp 1) false⟩,
    ⟨some 16, none, iLoad 16 6 true (.tmp 7) false⟩,
    ⟨some 17, none, iCallV 17 Try.prog 15 [(.tmp 16)]⟩,
    ⟨some 18, none, iRow 18 86 6 [(.tmp 17)]⟩,
    ⟨some 19, none, iApp 19 86 6 80 (.tmp 14) (.tmp 18)⟩,
    ⟨some 5, none, iMov 5 (.tmp 19) true⟩] [1, 5, 8, 9, 10] []
def list_OwnC_b4 : IC := cBlock 1 (cSeq list_OwnC_r4 list_OwnC_r5)
def list_OwnC_r6 : IC := cReg Try.prog [
    ⟨some 20, none, iBin 20 .add (.tmp 10) (.const (.int .i64 1))⟩,
    ⟨some 10, none, iMov 10 (.tmp 20) false⟩] [1, 5, 8, 9, 10] []
def list_OwnC_l2a : IC := (cSeq list_OwnC_r3 (cSeq list_OwnC_c3 (cSeq list_OwnC_b4 list_OwnC_r6)))
def list_OwnC_l2 : IC := cLoop list_OwnC_l2a
def list_OwnC_b1 : IC := cBlock 0 list_OwnC_l2
def list_OwnC_r7 : IC := cReg Try.prog [
    ⟨some 21, none, iMov 21 (.tmp 5) true⟩,
    ⟨some 4, none, iMov 4 (.tmp 21) true⟩] [4] []
def list_OwnC : IC := (cSeq list_OwnC_r0 (cSeq list_OwnC_r1 (cSeq (cSeq list_OwnC_r2 list_OwnC_b1) (cSeq list_OwnC_r7 cRet))))
theorem told_list_OwnC {args r : List D} (hl : args.length = 2) (h : list_OwnC (start args) (fin [(4, none)] r)) : Told Try.prog 73 args r :=
  told_of follows Try.func73 rfl (an := [([], [0, 1], [], []), ([], [0, 1, 5], [], []), ([], [1, 5, 8, 9, 10], [], []), ([], [1, 5, 8, 9, 10, 11], [], []), ([], [1, 5, 7, 8, 9, 10], [7], []), ([], [1, 5, 8, 9, 10], [], []), ([], [1, 5, 8, 9, 10], [], []), ([], [4], [], [21])]) (by kernel_rfl) (by kernel_rfl) (by rw [hl]; decide +kernel) h

def send_Own_r0 : IC := cReg Try.prog [
    ⟨some 1, none, iBox 1 (.tmp 0)⟩,
    ⟨some 2, none, iAlo 2 [vD (.slice none 0 0), vD (.int .i64 0), vD (.int .i64 0), vD (.int .i64 0), vD (.int .i64 0), vD (.slice none 0 0), vD (.int .i64 0)]⟩] [1, 2] [1, 2]
def send_Own_r1 : IC := cReg Try.prog [
    ⟨some 3, none, iFad 3 0 (.tmp 1)⟩,
    ⟨some 4, none, iLoad 4 1 false (.tmp 3) false⟩,
    ⟨some 5, none, iCall 5 72 [(.tmp 4), (.func 30)]⟩,
    ⟨some 6, none, iFad 6 0 (.tmp 1)⟩,
    ⟨none, none, iStor 1 (.tmp 6) (.tmp 5)⟩] [1, 2] [1, 2]
def send_Own_r2 : IC := cReg Try.prog [
    ⟨some 7, none, iFad 7 5 (.tmp 1)⟩,
    ⟨some 8, none, iLoad 8 1 false (.tmp 7) false⟩,
    ⟨some 9, none, iCall 9 73 [(.tmp 8), (.func 74)]⟩,
    ⟨some 10, none, iFad 10 5 (.tmp 1)⟩,
    ⟨none, none, iStor 1 (.tmp 10) (.tmp 9)⟩] [1, 2] [1, 2]
def send_Own_r3 : IC := cReg Try.prog [
    ⟨some 11, none, iLoad 11 7 true (.tmp 1) false⟩,
    ⟨none, none, iStor 7 (.tmp 2) (.tmp 11)⟩] [2] [2]
def send_Own : IC := (cSeq send_Own_r0 (cSeq send_Own_r1 (cSeq send_Own_r2 (cSeq send_Own_r3 cRet))))
theorem told_send_Own {args r : List D} (hl : args.length = 1) (h : send_Own (start args) (fin [(2, some (7, true))] r)) : Told Try.prog 44 args r :=
  told_of follows Try.func44 rfl (an := [([], [1, 2], [1, 2], []), ([], [1, 2], [1, 2], []), ([], [1, 2], [1, 2], []), ([], [2], [2], [])]) (by kernel_rfl) (by kernel_rfl) (by rw [hl]; decide +kernel) h

end Go.Proofs.Ytngfedhffehkaac.ab

/-
  What the landed functions that copy tell: messages, chunks, lists of them, senders.
-/
namespace Go.Proofs.Ytngfedhffehkaac.ab
set_option linter.unusedVariables false
set_option linter.unusedSimpArgs false
open Go Go.RowKit
open mth

theorem ownMsg_told (m : Ms) (h : m.data.length ≤ 1048576) : Told Try.prog 30 [aD (encMs m)] [aD (encMs m)] := by
  refine told_chunk_OwnMsg rfl ?_
  simp only [encMs]
  have h1 : m.data.length * 1 ≤ 140737488355328 := by omega
  refine wk (an2 @h1 @zmap) ?_
  exact ValsLe.refl _
theorem ownCh_told (c : Ch) (h : c.data.length ≤ 1048576) (h' : c.early.length ≤ 1048576) : Told Try.prog 74 [aD (encCh c)] [aD (encCh c)] := by
  refine told_chunk_Own rfl ?_
  simp only [encCh]
  have h1 : c.data.length * 1 ≤ 140737488355328 := by omega
  have h2 : c.early.length * 8 ≤ 140737488355328 := by omega
  refine wk (an3 @h1 @h2 @zmap) ?_
  exact ValsLe.refl _
theorem callM : callableB Try.prog 30 = true := by kernel_rfl
theorem callC : callableB Try.prog 74 = true := by kernel_rfl

/-- At the head of the loop: what was made so far; frozen. -/
def omSt (l : List Ms) (k : Nat) : St := ⟨[(1, vD (.func (.func 30) #[] #[])), (5, sD 2 (encMl (l.take k))), (8, sD 2 (encMl l)), (9, vI l.length), (10, vI k)], [], [((5, none), (25, 2, none))]⟩
theorem ml_snoc (l : List Ms) (m : Ms) : encMl (l ++ [m]) = encMl l ++ [aD [vI m.stream, sD 1 (m.data.map encB)]] := by simp [encMl, encMs]
set_option maxHeartbeats 4000000 in
theorem ownM_core (l : List Ms) (hl : l.length ≤ 1048576) (hm : ∀ m ∈ l, m.data.length ≤ 1048576) (Q : AX → St → Prop) (hQ : Q (some none) ⟨[(4, sD 2 (encMl l))], [], [((4, none), (25, 2, none))]⟩) : list_OwnM (start [sD 2 (encMl l), vD (.func (.func 30) #[] #[])]) Q := by
  refine wk @len_ml ?_
  refine aw_loop (fun n st => ∃ k, k ≤ l.length ∧ n = l.length - k ∧ st = omSt l k) l.length (omSt l 0) ((Le.nilS 5 25 2 rfl).trans (Le.keep (lv := [1, 5, 8, 9, 10]) (lb := []) (by simp only [ev0, ev1, ev2, look, lookF, cellsFrom, offT, offP, List.tail_nil, List.length_nil, Int.cast_ofNat_Int, Nat.reduceEqDiff, Nat.reduceAdd, Nat.reduceMul, Nat.reduceLeDiff, Nat.reduceLT, ↓reduceIte, reduceCtorEq, Int.reduceBEq, Int.reduceBNe, Int.reduceLT, Int.reduceLE, Int.reduceToNat]; rfl))) ⟨0, by omega, by omega, rfl⟩ ?_
  rintro n st ⟨k, hk', hn, rfl⟩
  by_cases hlt : k < l.length
  · obtain ⟨x, hx⟩ : ∃ m, l[k]? = some m := ⟨l[k], List.getElem?_eq_getElem hlt⟩
    have g1 : (k : Int) < (l.length : Int) := by omega
    have g2 : (0 : Int) ≤ (k : Int) := by omega
    have g3 := at_ml hx
    have g4 : inR .i64 ((k : Int) + 1) = true := inR_of (by omega)
    have hlen : (l.take k).length = k := by rw [List.length_take]; omega
    have hb1 : ((l.take k).length + 1) * 32 ≤ 140737488355328 := by omega
    have hnx : Next (fun n st => ∃ k, k ≤ l.length ∧ n = l.length - k ∧ st = omSt l k) n
        ⟨[(1, vD (.func (.func 30) #[] #[])), (5, sD 2 (encMl (l.take k) ++ [aD [vI x.stream, sD 1 (x.data.map encB)]])), (8, sD 2 (encMl l)), (9, vI l.length), (10, vI ((k : Int) + 1))], [], [((5, none), (25, 2, none))]⟩ := by
      rw [← ml_snoc, show l.take k ++ [x] = l.take (k + 1) by rw [List.take_add_one, hx]; rfl]
      exact ⟨l.length - (k + 1), _, by omega, Le.refl _, k + 1, by omega, rfl, by simp only [omSt, Int.natCast_add, Int.cast_ofNat_Int]⟩
    generalize (fun n st => ∃ k, k ≤ l.length ∧ n = l.length - k ∧ st = omSt l k) = J at *
    simp only [omSt]
    generalize l.take k = G at *
    refine wk (an6 @g1 @g2 @g3 @callM @hb1 @len_ml) ?_
    refine cg [[aD [vI x.stream, sD 1 (x.data.map encB)]]] (an3 @callM @hb1 @len_ml) ?_ ?_
    · exact obl_cons (ownMsg_told x (hm x (List.mem_of_getElem? hx))) obl_nil
    refine wk @g4 ?_
    exact hnx
  · have hk'' : k = l.length := by omega
    subst hk''
    have g1 : ¬ (l.length : Int) < (l.length : Int) := by omega
    simp only [omSt, List.take_length]
    refine wk @g1 ?_
    exact hQ
theorem ownM_told (l : List Ms) (hl : l.length ≤ 1048576) (hm : ∀ m ∈ l, m.data.length ≤ 1048576) : Told Try.prog 72 [sD 2 (encMl l), vD (.func (.func 30) #[] #[])] [sD 2 (encMl l)] :=
  told_list_OwnM rfl (ownM_core l hl hm _ ⟨[sD 2 (encMl l)], rfl, ValsLe.refl _⟩)
theorem cl_snoc' (l : List Ch) (c : Ch) : encCl (l ++ [c]) = encCl l ++ [aD [vI c.kind, vI c.number, vI c.stream, vI c.place, sD 1 (c.data.map encB), sD 1 (c.early.map vI)]] := by simp [encCl, encCh]
/-- At the head of the loop: what was made so far; frozen. -/
def ocSt (l : List Ch) (k : Nat) : St := ⟨[(1, vD (.func (.func 74) #[] #[])), (5, sD 6 (encCl (l.take k))), (8, sD 6 (encCl l)), (9, vI l.length), (10, vI k)], [], [((5, none), (86, 6, none))]⟩
set_option maxHeartbeats 4000000 in
theorem ownC_core (l : List Ch) (hl : l.length ≤ 1048576) (hm : ∀ m ∈ l, m.data.length ≤ 1048576 ∧ m.early.length ≤ 1048576) (Q : AX → St → Prop) (hQ : Q (some none) ⟨[(4, sD 6 (encCl l))], [], [((4, none), (86, 6, none))]⟩) : list_OwnC (start [sD 6 (encCl l), vD (.func (.func 74) #[] #[])]) Q := by
  refine wk @len_cl ?_
  refine aw_loop (fun n st => ∃ k, k ≤ l.length ∧ n = l.length - k ∧ st = ocSt l k) l.length (ocSt l 0) ((Le.nilS 5 86 6 rfl).trans (Le.keep (lv := [1, 5, 8, 9, 10]) (lb := []) (by simp only [ev0, ev1, ev2, look, lookF, cellsFrom, offT, offP, List.tail_nil, List.length_nil, Int.cast_ofNat_Int, Nat.reduceEqDiff, Nat.reduceAdd, Nat.reduceMul, Nat.reduceLeDiff, Nat.reduceLT, ↓reduceIte, reduceCtorEq, Int.reduceBEq, Int.reduceBNe, Int.reduceLT, Int.reduceLE, Int.reduceToNat]; rfl))) ⟨0, by omega, by omega, rfl⟩ ?_
  rintro n st ⟨k, hk', hn, rfl⟩
  by_cases hlt : k < l.length
  · obtain ⟨x, hx⟩ : ∃ m, l[k]? = some m := ⟨l[k], List.getElem?_eq_getElem hlt⟩
    have g1 : (k : Int) < (l.length : Int) := by omega
    have g2 : (0 : Int) ≤ (k : Int) := by omega
    have g3 := at_cl hx
    have g4 : inR .i64 ((k : Int) + 1) = true := inR_of (by omega)
    have hlen : (l.take k).length = k := by rw [List.length_take]; omega
    have hb1 : ((l.take k).length + 1) * 80 ≤ 140737488355328 := by omega
    have hnx : Next (fun n st => ∃ k, k ≤ l.length ∧ n = l.length - k ∧ st = ocSt l k) n
        ⟨[(1, vD (.func (.func 74) #[] #[])), (5, sD 6 (encCl (l.take k) ++ [aD [vI x.kind, vI x.number, vI x.stream, vI x.place, sD 1 (x.data.map encB), sD 1 (x.early.map vI)]])), (8, sD 6 (encCl l)), (9, vI l.length), (10, vI ((k : Int) + 1))], [], [((5, none), (86, 6, none))]⟩ := by
      rw [← cl_snoc', show l.take k ++ [x] = l.take (k + 1) by rw [List.take_add_one, hx]; rfl]
      exact ⟨l.length - (k + 1), _, by omega, Le.refl _, k + 1, by omega, rfl, by simp only [ocSt, Int.natCast_add, Int.cast_ofNat_Int]⟩
    generalize (fun n st => ∃ k, k ≤ l.length ∧ n = l.length - k ∧ st = ocSt l k) = J at *
    simp only [ocSt]
    generalize l.take k = G at *
    refine wk (an6 @g1 @g2 @g3 @callC @hb1 @len_cl) ?_
    refine cg [[aD [vI x.kind, vI x.number, vI x.stream, vI x.place, sD 1 (x.data.map encB), sD 1 (x.early.map vI)]]] (an3 @callC @hb1 @len_cl) ?_ ?_
    · exact obl_cons (ownCh_told x (hm x (List.mem_of_getElem? hx)).1 (hm x (List.mem_of_getElem? hx)).2) obl_nil
    refine wk @g4 ?_
    exact hnx
  · have hk'' : k = l.length := by omega
    subst hk''
    have g1 : ¬ (l.length : Int) < (l.length : Int) := by omega
    simp only [ocSt, List.take_length]
    refine wk @g1 ?_
    exact hQ
theorem ownC_told (l : List Ch) (hl : l.length ≤ 1048576) (hm : ∀ m ∈ l, m.data.length ≤ 1048576 ∧ m.early.length ≤ 1048576) : Told Try.prog 73 [sD 6 (encCl l), vD (.func (.func 74) #[] #[])] [sD 6 (encCl l)] :=
  told_list_OwnC rfl (ownC_core l hl hm _ ⟨[sD 6 (encCl l)], rfl, ValsLe.refl _⟩)
/-- No list of it is too long to be copied. -/
structure SmallS (s : Sd) : Prop where
  q : s.queue.length ≤ 1048576
  m : ∀ m ∈ s.queue, m.data.length ≤ 1048576
  f : s.flight.length ≤ 1048576
  c : ∀ c ∈ s.flight, c.data.length ≤ 1048576 ∧ c.early.length ≤ 1048576
set_option maxHeartbeats 4000000 in
theorem ownS_told (s : Sd) (h : SmallS s) : Told Try.prog 44 [aD (encSd s)] [aD (encSd s)] := by
  refine told_send_Own rfl ?_
  simp only [encSd]
  refine wk0 ?_
  refine cg0 [[sD 2 (encMl s.queue)]] ?_ ?_
  · exact obl_cons (ownM_told s.queue h.q h.m) obl_nil
  refine wk0 ?_
  refine cg0 [[sD 6 (encCl s.flight)]] ?_ ?_
  · exact obl_cons (ownC_told s.flight h.f h.c) obl_nil
  refine wk0 ?_
  exact ValsLe.refl _
end Go.Proofs.Ytngfedhffehkaac.ab
