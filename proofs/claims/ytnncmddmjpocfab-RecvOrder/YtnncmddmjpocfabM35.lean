/-
  Several texts in one.
-/
import Derived.Test.YtnncmddmjpocfabM33
import Derived.Test.YtnncmddmjpocfabM34
import Derived.Test.YtnncmddmjpocfabM21
import Derived.Test.YtnncmddmjpocfabProg
import Derived.Test.YtnncmddmjpocfabM25
import Derived.Test.YtnncmddmjpocfabM23

/-
  What the statement RecvOrder tells: its first loop, in which a sender makes chunks of messages.
-/
namespace Go.Proofs.Ytnncmddmjpocfab.ab
set_option linter.unusedVariables false
set_option linter.unusedSimpArgs false
open Go Go.RowKit
open mth

/-- At the head of the first loop. -/
def o1St (l : List Ms) (order : List Int) (s : Sd) (k : Nat) : St :=
  ⟨[(0, sD 2 (encMl l)), (1, sD 1 (order.map vI)), (5, pD 5 0), (6, sD 6 (encCl s.flight)), (24, sD 2 (encMl l)), (25, vI l.length), (26, vI k)], [(5, encSd s)], [((6, none), (32, 6, none))]⟩
set_option maxHeartbeats 4000000 in
theorem ro_make (l : List Ms) (order : List Int) (hl : l.length ≤ 4) (Q : AX → St → Prop) (hret : Q (some none) ⟨[(4, vB true)], [], []⟩)
    (hQ : ∀ s, MadeS l s → Q none ⟨[(0, sD 2 (encMl l)), (1, sD 1 (order.map vI)), (5, pD 5 0), (6, sD 6 (encCl s.flight)), (24, sD 2 (encMl l)), (25, vI l.length), (26, vI l.length), (27, vB false)], [(5, encSd s)], [((6, none), (32, 6, none))]⟩) :
    w6_RecvOrder_b3 (o1St l order zeroS 0) Q := by
  refine aw_block ?_
  refine aw_loop (fun n st => ∃ (k : Nat) (s : Sd), k ≤ l.length ∧ n = l.length - k ∧ MadeS (l.take k) s ∧ st = o1St l order s k) l.length _ (Le.refl _) ⟨0, zeroS, by omega, by omega, madeS_zero, rfl⟩ ?_
  rintro n st ⟨k, s, hk, hn, hM, rfl⟩
  by_cases hlt : k < l.length
  · obtain ⟨m, hm⟩ : ∃ m, l[k]? = some m := ⟨l[k], List.getElem?_eq_getElem hlt⟩
    have g1 : (k : Int) < (l.length : Int) := by omega
    have g2 : (0 : Int) ≤ (k : Int) := by omega
    have g3 := at_ml hm
    have g4 : inR .i64 ((k : Int) + 1) = true := inR_of (by omega)
    have hlk : (l.take k).length = k := by rw [List.length_take]; omega
    have hfl := hM.len
    have hP := refPut_told hM.g m
    by_cases he : putE s m = 0
    · have htk : l.take (k + 1) = l.take k ++ [m] := by rw [List.take_add_one, hm]; rfl
      have hsay := say_put hM.q (by omega) he
      have hS := refSay_told (hM.g.put m)
      rw [hsay] at hS
      have hmore := hM.more (m := m) (by omega) he
      rw [← htk] at hmore
      have hnx : Next (fun n st => ∃ (k : Nat) (s : Sd), k ≤ l.length ∧ n = l.length - k ∧ MadeS (l.take k) s ∧ st = o1St l order s k) n (o1St l order (newS s m []) (k + 1)) :=
        ⟨l.length - (k + 1), _, by omega, Le.refl _, k + 1, _, by omega, rfl, hmore, rfl⟩
      generalize (fun n st => ∃ (k : Nat) (s : Sd), k ≤ l.length ∧ n = l.length - k ∧ MadeS (l.take k) s ∧ st = o1St l order s k) = J at *
      have hfn : (newS s m []).flight = s.flight ++ [newC s m] := rfl
      have b1 : (s.flight.length + 1) * 80 ≤ 140737488355328 := by omega
      have e1 : (putE s m != 0) = false := by rw [he]; rfl
      simp only [o1St, hfn, cl_snoc, Int.natCast_add, Int.cast_ofNat_Int] at hnx ⊢
      generalize newS s m [] = s' at *
      generalize newC s m = c at *
      generalize putS s m = x at *
      simp only [encSd, encMs, encCh] at hP hS hnx ⊢
      repeat (first | refine aw_seq ?_ | refine aw_block ?_ | with_reducible refine aw_ret ?_ | with_reducible refine aw_skip ?_ | with_reducible refine aw_exit ?_ | refine thn_normal ?_ | refine thn_out ?_ | refine blk_normal ?_ | refine blk_ret ?_ | refine blk_exit ?_ | ((first | refine aw_regO ?_ | refine aw_regDO ?_ | refine aw_condO ?_ | refine fin_retO ?_); (conv => (arg 1; simp (maxSteps := 30000) only [ev0, ev1, ev2, look, lookF, cellsFrom, offT, offP, List.tail_nil, List.length_nil, Int.cast_ofNat_Int, Nat.reduceEqDiff, Nat.reduceAdd, Nat.reduceMul, Nat.reduceLeDiff, Nat.reduceLT, ↓reduceIte, reduceCtorEq, Int.reduceBEq, Int.reduceBNe, Int.reduceLT, Int.reduceLE, Int.reduceToNat, g1, g2, g3])); (first | with_reducible refine on_yes ?_ | with_reducible refine on_no ?_ | with_reducible refine on_reg ?_ | (with_reducible refine on_regD (by decide +kernel) ?_) | with_reducible refine on_fin ?_)))
      refine aw_reg [[aD (encSd x), vI (putE s m)]] (by simp only [ev0, ev1, ev2, look, lookF, cellsFrom, offT, offP, List.tail_nil, List.length_nil, Int.cast_ofNat_Int, Nat.reduceEqDiff, Nat.reduceAdd, Nat.reduceMul, Nat.reduceLeDiff, Nat.reduceLT, ↓reduceIte, reduceCtorEq, Int.reduceBEq, Int.reduceBNe, Int.reduceLT, Int.reduceLE, Int.reduceToNat, encSd]; first | rfl | exact ⟨rfl, rfl⟩) ?_ ?_
      · exact obl_cons hP obl_nil
      repeat (first | refine aw_seq ?_ | refine aw_block ?_ | with_reducible refine aw_ret ?_ | with_reducible refine aw_skip ?_ | with_reducible refine aw_exit ?_ | refine thn_normal ?_ | refine thn_out ?_ | refine blk_normal ?_ | refine blk_ret ?_ | refine blk_exit ?_ | ((first | refine aw_regO ?_ | refine aw_regDO ?_ | refine aw_condO ?_ | refine fin_retO ?_); (conv => (arg 1; simp (maxSteps := 30000) only [ev0, ev1, ev2, look, lookF, cellsFrom, offT, offP, List.tail_nil, List.length_nil, Int.cast_ofNat_Int, Nat.reduceEqDiff, Nat.reduceAdd, Nat.reduceMul, Nat.reduceLeDiff, Nat.reduceLT, ↓reduceIte, reduceCtorEq, Int.reduceBEq, Int.reduceBNe, Int.reduceLT, Int.reduceLE, Int.reduceToNat, e1])); (first | with_reducible refine on_yes ?_ | with_reducible refine on_no ?_ | with_reducible refine on_reg ?_ | (with_reducible refine on_regD (by decide +kernel) ?_) | with_reducible refine on_fin ?_)))
      refine aw_reg [[aD (encSd s'), aD (encCh c), vB true]] (by simp only [ev0, ev1, ev2, look, lookF, cellsFrom, offT, offP, List.tail_nil, List.length_nil, Int.cast_ofNat_Int, Nat.reduceEqDiff, Nat.reduceAdd, Nat.reduceMul, Nat.reduceLeDiff, Nat.reduceLT, ↓reduceIte, reduceCtorEq, Int.reduceBEq, Int.reduceBNe, Int.reduceLT, Int.reduceLE, Int.reduceToNat, encSd, encCh]; first | rfl | exact ⟨rfl, rfl⟩) ?_ ?_
      · exact obl_cons hS obl_nil
      repeat (first | refine aw_seq ?_ | refine aw_block ?_ | with_reducible refine aw_ret ?_ | with_reducible refine aw_skip ?_ | with_reducible refine aw_exit ?_ | refine thn_normal ?_ | refine thn_out ?_ | refine blk_normal ?_ | refine blk_ret ?_ | refine blk_exit ?_ | ((first | refine aw_regO ?_ | refine aw_regDO ?_ | refine aw_condO ?_ | refine fin_retO ?_); (conv => (arg 1; simp (maxSteps := 30000) only [ev0, ev1, ev2, look, lookF, cellsFrom, offT, offP, List.tail_nil, List.length_nil, Int.cast_ofNat_Int, Nat.reduceEqDiff, Nat.reduceAdd, Nat.reduceMul, Nat.reduceLeDiff, Nat.reduceLT, ↓reduceIte, reduceCtorEq, Int.reduceBEq, Int.reduceBNe, Int.reduceLT, Int.reduceLE, Int.reduceToNat, g4, b1, len_cl])); (first | with_reducible refine on_yes ?_ | with_reducible refine on_no ?_ | with_reducible refine on_reg ?_ | (with_reducible refine on_regD (by decide +kernel) ?_) | with_reducible refine on_fin ?_)))
      exact hnx
    · have e1 : (putE s m != 0) = true := by simpa using he
      generalize (fun n st => ∃ (k : Nat) (s : Sd), k ≤ l.length ∧ n = l.length - k ∧ MadeS (l.take k) s ∧ st = o1St l order s k) = J at *
      simp only [o1St]
      simp only [encSd, encMs] at hP ⊢
      repeat (first | refine aw_seq ?_ | refine aw_block ?_ | with_reducible refine aw_ret ?_ | with_reducible refine aw_skip ?_ | with_reducible refine aw_exit ?_ | refine thn_normal ?_ | refine thn_out ?_ | refine blk_normal ?_ | refine blk_ret ?_ | refine blk_exit ?_ | ((first | refine aw_regO ?_ | refine aw_regDO ?_ | refine aw_condO ?_ | refine fin_retO ?_); (conv => (arg 1; simp (maxSteps := 30000) only [ev0, ev1, ev2, look, lookF, cellsFrom, offT, offP, List.tail_nil, List.length_nil, Int.cast_ofNat_Int, Nat.reduceEqDiff, Nat.reduceAdd, Nat.reduceMul, Nat.reduceLeDiff, Nat.reduceLT, ↓reduceIte, reduceCtorEq, Int.reduceBEq, Int.reduceBNe, Int.reduceLT, Int.reduceLE, Int.reduceToNat, g1, g2, g3])); (first | with_reducible refine on_yes ?_ | with_reducible refine on_no ?_ | with_reducible refine on_reg ?_ | (with_reducible refine on_regD (by decide +kernel) ?_) | with_reducible refine on_fin ?_)))
      refine aw_reg [[aD (encSd (putS s m)), vI (putE s m)]] (by simp only [ev0, ev1, ev2, look, lookF, cellsFrom, offT, offP, List.tail_nil, List.length_nil, Int.cast_ofNat_Int, Nat.reduceEqDiff, Nat.reduceAdd, Nat.reduceMul, Nat.reduceLeDiff, Nat.reduceLT, ↓reduceIte, reduceCtorEq, Int.reduceBEq, Int.reduceBNe, Int.reduceLT, Int.reduceLE, Int.reduceToNat, encSd]; first | rfl | exact ⟨rfl, rfl⟩) ?_ ?_
      · exact obl_cons hP obl_nil
      repeat (first | refine aw_seq ?_ | refine aw_block ?_ | with_reducible refine aw_ret ?_ | with_reducible refine aw_skip ?_ | with_reducible refine aw_exit ?_ | refine thn_normal ?_ | refine thn_out ?_ | refine blk_normal ?_ | refine blk_ret ?_ | refine blk_exit ?_ | ((first | refine aw_regO ?_ | refine aw_regDO ?_ | refine aw_condO ?_ | refine fin_retO ?_); (conv => (arg 1; simp (maxSteps := 30000) only [ev0, ev1, ev2, look, lookF, cellsFrom, offT, offP, List.tail_nil, List.length_nil, Int.cast_ofNat_Int, Nat.reduceEqDiff, Nat.reduceAdd, Nat.reduceMul, Nat.reduceLeDiff, Nat.reduceLT, ↓reduceIte, reduceCtorEq, Int.reduceBEq, Int.reduceBNe, Int.reduceLT, Int.reduceLE, Int.reduceToNat, e1])); (first | with_reducible refine on_yes ?_ | with_reducible refine on_no ?_ | with_reducible refine on_reg ?_ | (with_reducible refine on_regD (by decide +kernel) ?_) | with_reducible refine on_fin ?_)))
      exact hret
  · have : k = l.length := by omega
    subst this
    rw [List.take_length] at hM
    have hq := hQ s hM
    have g1 : ¬ (l.length : Int) < (l.length : Int) := by omega
    simp only [o1St]
    repeat (first | refine aw_seq ?_ | refine aw_block ?_ | with_reducible refine aw_ret ?_ | with_reducible refine aw_skip ?_ | with_reducible refine aw_exit ?_ | refine thn_normal ?_ | refine thn_out ?_ | refine blk_normal ?_ | refine blk_ret ?_ | refine blk_exit ?_ | ((first | refine aw_regO ?_ | refine aw_regDO ?_ | refine aw_condO ?_ | refine fin_retO ?_); (conv => (arg 1; simp (maxSteps := 30000) only [ev0, ev1, ev2, look, lookF, cellsFrom, offT, offP, List.tail_nil, List.length_nil, Int.cast_ofNat_Int, Nat.reduceEqDiff, Nat.reduceAdd, Nat.reduceMul, Nat.reduceLeDiff, Nat.reduceLT, ↓reduceIte, reduceCtorEq, Int.reduceBEq, Int.reduceBNe, Int.reduceLT, Int.reduceLE, Int.reduceToNat, g1])); (first | with_reducible refine on_yes ?_ | with_reducible refine on_no ?_ | with_reducible refine on_reg ?_ | (with_reducible refine on_regD (by decide +kernel) ?_) | with_reducible refine on_fin ?_)))
    exact hq
end Go.Proofs.Ytnncmddmjpocfab.ab

/-
  Functions as plain code (written by wip/abs/ir.py): lkref1.Of, lkref1.Fits.
-/
namespace Go.Proofs.Ytnncmddmjpocfab.ab
set_option linter.unusedSimpArgs false
set_option linter.unusedVariables false
set_option maxRecDepth 100000
open Go Go.RowKit

def r1_Of_r0 : IC := cReg Try.prog [
    ⟨some 4, none, iMov 4 (.const (.slice none 0 0)) true⟩] [0, 1] []
def r1_Of_r1 : IC := cReg Try.prog [
    ⟨some 5, none, iMov 5 (.const (.slice none 0 0)) true⟩] [0, 1, 5] []
def r1_Of_r2 : IC := cReg Try.prog [
    ⟨some 8, none, iMov 8 (.tmp 0) false⟩,
    ⟨some 9, none, iLen 9 false (.tmp 8)⟩,
    ⟨some 10, none, iMov 10 (.const (.int .i64 0)) false⟩] [1, 5, 8, 9, 10] []
def r1_Of_r3 : IC := cReg Try.prog [
    ⟨some 11, none, iBin 11 .lss (.tmp 10) (.tmp 9)⟩] [1, 5, 8, 9, 10, 11] []
def r1_Of_c3 : IC := cCond (.tmp 11) cSkip (cExit 0)
def r1_Of_r4 : IC := cReg Try.prog [
    ⟨some 12, none, iIaS 12 2 (.tmp 8) (.tmp 10)⟩,
    ⟨some 13, none, iLoad 13 2 true (.tmp 12) false⟩,
    ⟨some 7, none, iAlo 7 [vD (.int .i64 0), vD (.slice none 0 0)]⟩,
    ⟨none, none, iStor 2 (.tmp 7) (.tmp 13)⟩] [1, 5, 7, 8, 9, 10] [7]
def r1_Of_r5 : IC := cReg Try.prog [
    ⟨some 14, none, iFad 14 0 (.tmp 7)⟩,
    ⟨some 15, none, iLoad 15 1 false (.tmp 14) false⟩,
    ⟨some 16, none, iMov 16 (.tmp 1) false⟩,
    ⟨some 17, none, iBin 17 .eql (.tmp 15) (.tmp 16)⟩] [1, 5, 7, 8, 9, 10, 17] [7]
def r1_Of_r6 : IC := cReg Try.prog [
    ⟨some 18, none, iMov 18 (.tmp 5) true⟩,
    ⟨some 19, none, iLoad 19 2 true (.tmp 7) false⟩,
    ⟨some 20, none, iRow 20 53 2 [(.tmp 19)]⟩,
    ⟨some 21, none, iApp 21 53 2 32 (.tmp 18) (.tmp 20)⟩,
    ⟨some 5, none, iMov 5 (.tmp 21) true⟩] [1, 5, 8, 9, 10] []
def r1_Of_c5 : IC := cCond (.tmp 17) r1_Of_r6 cSkip
def r1_Of_b4 : IC := cBlock 1 (cSeq r1_Of_r4 (cSeq r1_Of_r5 r1_Of_c5))
def r1_Of_r7 : IC := cReg Try.prog [
    ⟨some 22, none, iBin 22 .add (.tmp 10) (.const (.int .i64 1))⟩,
    ⟨some 10, none, iMov 10 (.tmp 22) false⟩] [1, 5, 8, 9, 10] []
def r1_Of_l2a : IC := (cSeq r1_Of_r3 (cSeq r1_Of_c3 (cSeq r1_Of_b4 r1_Of_r7)))
def r1_Of_l2 : IC := cLoop r1_Of_l2a
def r1_Of_b1 : IC := cBlock 0 r1_Of_l2
def r1_Of_r8 : IC := cReg Try.prog [
    ⟨some 23, none, iMov 23 (.tmp 5) false⟩,
    ⟨some 4, none, iMov 4 (.tmp 23) true⟩] [4] []
def r1_Of : IC := (cSeq r1_Of_r0 (cSeq r1_Of_r1 (cSeq (cSeq r1_Of_r2 r1_Of_b1) (cSeq r1_Of_r8 cRet))))
theorem told_r1_Of {args r : List D} (hl : args.length = 2) (h : r1_Of (start args) (fin [(4, none)] r)) : Told Try.prog 59 args r :=
  told_of follows Try.func59 rfl (an := [([], [0, 1], [], []), ([], [0, 1, 5], [], []), ([], [1, 5, 8, 9, 10], [], []), ([], [1, 5, 8, 9, 10, 11], [], []), ([], [1, 5, 7, 8, 9, 10], [7], []), ([], [1, 5, 7, 8, 9, 10, 17], [7], []), ([], [1, 5, 8, 9, 10], [], []), ([], [1, 5, 8, 9, 10], [], []), ([], [4], [], [])]) (by kernel_rfl) (by kernel_rfl) (by rw [hl]; decide +kernel) h

def r1_Fits_r0 : IC := cReg Try.prog [
    ⟨some 4, none, iMov 4 (.const (.bool false)) true⟩] [0, 1] []
def r1_Fits_r1 : IC := cReg Try.prog [
    ⟨some 8, none, iMov 8 (.const (.int .i64 0)) false⟩] [0, 1, 8] []
def r1_Fits_r2 : IC := cReg Try.prog [
    ⟨some 9, none, iBin 9 .lss (.tmp 8) (.const (.int .i64 3))⟩] [0, 1, 8, 9] []
def r1_Fits_c3 : IC := cCond (.tmp 9) cSkip (cExit 0)
def r1_Fits_r3 : IC := cReg Try.prog [
    ⟨some 10, none, iMov 10 (.tmp 8) false⟩,
    ⟨some 5, none, iMov 5 (.tmp 10) true⟩] [0, 1, 5, 8] []
def r1_Fits_r4 : IC := cReg Try.prog [
    ⟨some 11, none, iMov 11 (.tmp 0) false⟩,
    ⟨some 12, none, iMov 12 (.tmp 5) false⟩,
    ⟨some 13, none, iCall 13 59 [(.tmp 11), (.tmp 12)]⟩,
    ⟨some 14, none, iMov 14 (.tmp 1) false⟩,
    ⟨some 15, none, iMov 15 (.tmp 5) false⟩,
    ⟨some 16, none, iCall 16 59 [(.tmp 14), (.tmp 15)]⟩,
    ⟨some 6, none, iMov 6 (.tmp 13) true⟩,
    ⟨some 7, none, iMov 7 (.tmp 16) true⟩] [0, 1, 6, 7, 8] []
def r1_Fits_r5 : IC := cReg Try.prog [
    ⟨some 17, none, iMov 17 (.tmp 6) false⟩,
    ⟨some 18, none, iLen 18 false (.tmp 17)⟩,
    ⟨some 19, none, iMov 19 (.tmp 7) false⟩,
    ⟨some 20, none, iLen 20 false (.tmp 19)⟩,
    ⟨some 21, none, iBin 21 .gtr (.tmp 18) (.tmp 20)⟩,
    ⟨some 22, none, iMov 22 (.tmp 21) false⟩,
    ⟨some 23, some (22, false), iMov 23 (.tmp 6) false⟩,
    ⟨some 24, some (22, false), iMov 24 (.tmp 7) false⟩,
    ⟨some 25, some (22, false), iMov 25 (.tmp 6) false⟩,
    ⟨some 26, some (22, false), iLen 26 false (.tmp 25)⟩,
    ⟨some 27, some (22, false), iSlc 27 2 (.tmp 24) none (some (.tmp 26))⟩,
    ⟨some 28, some (22, false), iCall 28 49 [(.tmp 23), (.tmp 27)]⟩,
    ⟨some 29, some (22, false), iNot 29 (.tmp 28)⟩,
    ⟨some 30, none, iPick 30 (.tmp 22) (.const (.bool true)) (.tmp 29)⟩] [0, 1, 8, 30] []
def r1_Fits_r6 : IC := cReg Try.prog [
    ⟨some 4, none, iMov 4 (.const (.bool false)) true⟩] [4] []
def r1_Fits_c5a : IC := (cSeq r1_Fits_r6 cRet)
def r1_Fits_c5 : IC := cCond (.tmp 30) r1_Fits_c5a cSkip
def r1_Fits_b4 : IC := cBlock 1 (cSeq r1_Fits_r3 (cSeq r1_Fits_r4 (cSeq r1_Fits_r5 r1_Fits_c5)))
def r1_Fits_r7 : IC := cReg Try.prog [
    ⟨some 31, none, iBin 31 .add (.tmp 8) (.const (.int .i64 1))⟩,
    ⟨some 8, none, iMov 8 (.tmp 31) false⟩] [0, 1, 8] []
def r1_Fits_l2a : IC := (cSeq r1_Fits_r2 (cSeq r1_Fits_c3 (cSeq r1_Fits_b4 r1_Fits_r7)))
def r1_Fits_l2 : IC := cLoop r1_Fits_l2a
def r1_Fits_b1 : IC := cBlock 0 r1_Fits_l2
def r1_Fits_r8 : IC := cReg Try.prog [
    ⟨some 4, none, iMov 4 (.const (.bool true)) true⟩] [4] []
def r1_Fits : IC := (cSeq r1_Fits_r0 (cSeq (cSeq r1_Fits_r1 r1_Fits_b1) (cSeq r1_Fits_r8 cRet)))
theorem told_r1_Fits {args r : List D} (hl : args.length = 2) (h : r1_Fits (start args) (fin [(4, none)] r)) : Told Try.prog 27 args r :=
  told_of follows Try.func27 rfl (an := [([], [0, 1], [], []), ([], [0, 1, 8], [], []), ([], [0, 1, 8, 9], [], []), ([], [0, 1, 5, 8], [], []), ([], [0, 1, 6, 7, 8], [], []), ([], [0, 1, 8, 30], [], []), ([], [4], [], []), ([], [0, 1, 8], [], []), ([], [4], [], [])]) (by kernel_rfl) (by kernel_rfl) (by rw [hl]; decide +kernel) h

end Go.Proofs.Ytnncmddmjpocfab.ab

/-
  What the answer's functions on messages tell.
-/
namespace Go.Proofs.Ytnncmddmjpocfab.ab
set_option linter.unusedVariables false
set_option linter.unusedSimpArgs false
open Go Go.RowKit
open mth

/-- At the head of Of's loop. -/
def ofSt (l : List Ms) (s : Int) (k : Nat) : St := ⟨[(1, vI s), (5, sD 2 (encMl (ofS (l.take k) s))), (8, sD 2 (encMl l)), (9, vI l.length), (10, vI k)], [], [((5, none), (53, 2, none))]⟩
theorem ofS_next {l : List Ms} {s : Int} {k n : Nat} (hk : k < l.length) (hn : n = l.length - k) {xs : List D} (hx : xs = encMl (ofS (l.take (k + 1)) s)) :
    Next (fun n st => ∃ k, k ≤ l.length ∧ n = l.length - k ∧ st = ofSt l s k) n ⟨[(1, vI s), (5, sD 2 xs), (8, sD 2 (encMl l)), (9, vI l.length), (10, vI ((k : Int) + 1))], [], [((5, none), (53, 2, none))]⟩ := by
  subst hx
  exact ⟨l.length - (k + 1), _, by omega, Le.refl _, k + 1, by omega, rfl, by simp only [ofSt, Int.natCast_add, Int.cast_ofNat_Int]⟩
/-! ### The answer's Of -/
set_option maxHeartbeats 2000000 in
theorem refOf_told (l : List Ms) (s : Int) (hl : l.length ≤ 1048576) : Told Try.prog 59 [sD 2 (encMl l), vI s] [sD 2 (encMl (ofS l s))] := by
  refine told_r1_Of rfl ?_
  repeat (first | refine aw_seq ?_ | refine aw_block ?_ | with_reducible refine aw_ret ?_ | with_reducible refine aw_skip ?_ | with_reducible refine aw_exit ?_ | refine thn_normal ?_ | refine thn_out ?_ | refine blk_normal ?_ | refine blk_ret ?_ | refine blk_exit ?_ | ((first | refine aw_regO ?_ | refine aw_regDO ?_ | refine aw_condO ?_ | refine fin_retO ?_); (conv => (arg 1; simp (maxSteps := 30000) only [ev0, ev1, ev2, look, lookF, cellsFrom, offT, offP, List.tail_nil, List.length_nil, Int.cast_ofNat_Int, Nat.reduceEqDiff, Nat.reduceAdd, Nat.reduceMul, Nat.reduceLeDiff, Nat.reduceLT, ↓reduceIte, reduceCtorEq, Int.reduceBEq, Int.reduceBNe, Int.reduceLT, Int.reduceLE, Int.reduceToNat, len_ml])); (first | with_reducible refine on_yes ?_ | with_reducible refine on_no ?_ | with_reducible refine on_reg ?_ | (with_reducible refine on_regD (by decide +kernel) ?_) | with_reducible refine on_fin ?_)))
  refine aw_loop (fun n st => ∃ k, k ≤ l.length ∧ n = l.length - k ∧ st = ofSt l s k) l.length (ofSt l s 0) ((Le.nilS 5 53 2 rfl).trans (Le.keep (lv := [1, 5, 8, 9, 10]) (lb := []) (by simp only [ev0, ev1, ev2, look, lookF, cellsFrom, offT, offP, List.tail_nil, List.length_nil, Int.cast_ofNat_Int, Nat.reduceEqDiff, Nat.reduceAdd, Nat.reduceMul, Nat.reduceLeDiff, Nat.reduceLT, ↓reduceIte, reduceCtorEq, Int.reduceBEq, Int.reduceBNe, Int.reduceLT, Int.reduceLE, Int.reduceToNat]; rfl))) ⟨0, by omega, by omega, rfl⟩ ?_
  rintro n st ⟨k, hk, hn, rfl⟩
  by_cases hlt : k < l.length
  · obtain ⟨m, hm⟩ : ∃ m, l[k]? = some m := ⟨l[k], List.getElem?_eq_getElem hlt⟩
    have g1 : (k : Int) < (l.length : Int) := by omega
    have g2 : (0 : Int) ≤ (k : Int) := by omega
    have g3 := at_ml hm
    have g4 : inR .i64 ((k : Int) + 1) = true := inR_of (by omega)
    have hsn := ofS_snoc (s := s) hm
    have hol := ofS_len (l.take k) s
    rw [List.length_take] at hol
    have hb1 : ((ofS (l.take k) s).length + 1) * 32 ≤ 140737488355328 := by omega
    have hnx := fun xs => ofS_next (s := s) (xs := xs) hlt hn
    generalize (fun n st => ∃ k, k ≤ l.length ∧ n = l.length - k ∧ st = ofSt l s k) = J at *
    simp only [ofSt]
    by_cases he : m.stream = s
    · have e1 : (m.stream == s) = true := by simpa using he
      repeat (first | refine aw_seq ?_ | refine aw_block ?_ | with_reducible refine aw_ret ?_ | with_reducible refine aw_skip ?_ | with_reducible refine aw_exit ?_ | refine thn_normal ?_ | refine thn_out ?_ | refine blk_normal ?_ | refine blk_ret ?_ | refine blk_exit ?_ | ((first | refine aw_regO ?_ | refine aw_regDO ?_ | refine aw_condO ?_ | refine fin_retO ?_); (conv => (arg 1; simp (maxSteps := 30000) only [ev0, ev1, ev2, look, lookF, cellsFrom, offT, offP, List.tail_nil, List.length_nil, Int.cast_ofNat_Int, Nat.reduceEqDiff, Nat.reduceAdd, Nat.reduceMul, Nat.reduceLeDiff, Nat.reduceLT, ↓reduceIte, reduceCtorEq, Int.reduceBEq, Int.reduceBNe, Int.reduceLT, Int.reduceLE, Int.reduceToNat, g1, g2, g3, g4, e1, len_ml, hb1])); (first | with_reducible refine on_yes ?_ | with_reducible refine on_no ?_ | with_reducible refine on_reg ?_ | (with_reducible refine on_regD (by decide +kernel) ?_) | with_reducible refine on_fin ?_)))
      refine hnx _ ?_
      rw [hsn, if_pos e1]
      simp only [encMl, List.map_append, List.map_cons, List.map_nil, encMs]
    · have e1 : (m.stream == s) = false := by simpa using he
      repeat (first | refine aw_seq ?_ | refine aw_block ?_ | with_reducible refine aw_ret ?_ | with_reducible refine aw_skip ?_ | with_reducible refine aw_exit ?_ | refine thn_normal ?_ | refine thn_out ?_ | refine blk_normal ?_ | refine blk_ret ?_ | refine blk_exit ?_ | ((first | refine aw_regO ?_ | refine aw_regDO ?_ | refine aw_condO ?_ | refine fin_retO ?_); (conv => (arg 1; simp (maxSteps := 30000) only [ev0, ev1, ev2, look, lookF, cellsFrom, offT, offP, List.tail_nil, List.length_nil, Int.cast_ofNat_Int, Nat.reduceEqDiff, Nat.reduceAdd, Nat.reduceMul, Nat.reduceLeDiff, Nat.reduceLT, ↓reduceIte, reduceCtorEq, Int.reduceBEq, Int.reduceBNe, Int.reduceLT, Int.reduceLE, Int.reduceToNat, g1, g2, g3, g4, e1])); (first | with_reducible refine on_yes ?_ | with_reducible refine on_no ?_ | with_reducible refine on_reg ?_ | (with_reducible refine on_regD (by decide +kernel) ?_) | with_reducible refine on_fin ?_)))
      refine hnx _ ?_
      rw [hsn, if_neg (by rw [e1]; simp)]
  · have hk' : k = l.length := by omega
    subst hk'
    have g1 : ¬ (l.length : Int) < (l.length : Int) := by omega
    simp only [ofSt, List.take_length]
    repeat (first | refine aw_seq ?_ | refine aw_block ?_ | with_reducible refine aw_ret ?_ | with_reducible refine aw_skip ?_ | with_reducible refine aw_exit ?_ | refine thn_normal ?_ | refine thn_out ?_ | refine blk_normal ?_ | refine blk_ret ?_ | refine blk_exit ?_ | ((first | refine aw_regO ?_ | refine aw_regDO ?_ | refine aw_condO ?_ | refine fin_retO ?_); (conv => (arg 1; simp (maxSteps := 30000) only [ev0, ev1, ev2, look, lookF, cellsFrom, offT, offP, List.tail_nil, List.length_nil, Int.cast_ofNat_Int, Nat.reduceEqDiff, Nat.reduceAdd, Nat.reduceMul, Nat.reduceLeDiff, Nat.reduceLT, ↓reduceIte, reduceCtorEq, Int.reduceBEq, Int.reduceBNe, Int.reduceLT, Int.reduceLE, Int.reduceToNat, g1])); (first | with_reducible refine on_yes ?_ | with_reducible refine on_no ?_ | with_reducible refine on_reg ?_ | (with_reducible refine on_regD (by decide +kernel) ?_) | with_reducible refine on_fin ?_)))
    exact ValsLe.refl _

/-! ### The answer's SameMsgs -/
theorem take_ml (l : List Ms) (n : Nat) : (encMl l).take n = encMl (l.take n) := by simp [encMl, List.map_take]
/-! ### The answer's Fits -/
def rfSt (told put : List Ms) (k : Nat) : St := ⟨[(0, sD 2 (encMl told)), (1, sD 2 (encMl put)), (8, vI k)], [], []⟩
set_option maxHeartbeats 2000000 in
theorem refFits_told (told put : List Ms) (ht : told.length ≤ 1048576) (hp : put.length ≤ 1048576) : Told Try.prog 27 [sD 2 (encMl told), sD 2 (encMl put)] [vB (fitsS told put)] := by
  refine told_r1_Fits rfl ?_
  repeat (first | refine aw_seq ?_ | refine aw_block ?_ | with_reducible refine aw_ret ?_ | with_reducible refine aw_skip ?_ | with_reducible refine aw_exit ?_ | refine thn_normal ?_ | refine thn_out ?_ | refine blk_normal ?_ | refine blk_ret ?_ | refine blk_exit ?_ | ((first | refine aw_regO ?_ | refine aw_regDO ?_ | refine aw_condO ?_ | refine fin_retO ?_); (conv => (arg 1; simp (maxSteps := 30000) only [ev0, ev1, ev2, look, lookF, cellsFrom, offT, offP, List.tail_nil, List.length_nil, Int.cast_ofNat_Int, Nat.reduceEqDiff, Nat.reduceAdd, Nat.reduceMul, Nat.reduceLeDiff, Nat.reduceLT, ↓reduceIte, reduceCtorEq, Int.reduceBEq, Int.reduceBNe, Int.reduceLT, Int.reduceLE, Int.reduceToNat])); (first | with_reducible refine on_yes ?_ | with_reducible refine on_no ?_ | with_reducible refine on_reg ?_ | (with_reducible refine on_regD (by decide +kernel) ?_) | with_reducible refine on_fin ?_)))
  refine aw_loop (fun n st => ∃ k : Nat, k ≤ 3 ∧ n = 3 - k ∧ (∀ j : Nat, j < k → preS (ofS told j) (ofS put j) = true) ∧ st = rfSt told put k) 3 (rfSt told put 0) (Le.refl _) ⟨0, by omega, by omega, fun j hj => by omega, rfl⟩ ?_
  rintro n st ⟨k, hk, hn, hpre, rfl⟩
  by_cases hlt : k < 3
  · have g1 : (k : Int) < 3 := by omega
    have g4 : inR .i64 ((k : Int) + 1) = true := inR_of (by omega)
    simp only [rfSt]
    repeat (first | refine aw_seq ?_ | refine aw_block ?_ | with_reducible refine aw_ret ?_ | with_reducible refine aw_skip ?_ | with_reducible refine aw_exit ?_ | refine thn_normal ?_ | refine thn_out ?_ | refine blk_normal ?_ | refine blk_ret ?_ | refine blk_exit ?_ | ((first | refine aw_regO ?_ | refine aw_regDO ?_ | refine aw_condO ?_ | refine fin_retO ?_); (conv => (arg 1; simp (maxSteps := 30000) only [ev0, ev1, ev2, look, lookF, cellsFrom, offT, offP, List.tail_nil, List.length_nil, Int.cast_ofNat_Int, Nat.reduceEqDiff, Nat.reduceAdd, Nat.reduceMul, Nat.reduceLeDiff, Nat.reduceLT, ↓reduceIte, reduceCtorEq, Int.reduceBEq, Int.reduceBNe, Int.reduceLT, Int.reduceLE, Int.reduceToNat, g1])); (first | with_reducible refine on_yes ?_ | with_reducible refine on_no ?_ | with_reducible refine on_reg ?_ | (with_reducible refine on_regD (by decide +kernel) ?_) | with_reducible refine on_fin ?_)))
    refine aw_reg [[sD 2 (encMl (ofS told k))], [sD 2 (encMl (ofS put k))]] (by simp only [ev0, ev1, ev2, look, lookF, cellsFrom, offT, offP, List.tail_nil, List.length_nil, Int.cast_ofNat_Int, Nat.reduceEqDiff, Nat.reduceAdd, Nat.reduceMul, Nat.reduceLeDiff, Nat.reduceLT, ↓reduceIte, reduceCtorEq, Int.reduceBEq, Int.reduceBNe, Int.reduceLT, Int.reduceLE, Int.reduceToNat]; first | rfl | exact ⟨rfl, rfl⟩) ?_ ?_
    · exact obl_cons (refOf_told told k ht) (obl_cons (refOf_told put k hp) obl_nil)
    have hA := ofS_len told k
    have hC := ofS_len put k
    cases hpk : preS (ofS told k) (ofS put k) with
    | true =>
      have hnext : ∀ j : Nat, j < k + 1 → preS (ofS told j) (ofS put j) = true := fun j hj => by
        rcases Nat.lt_succ_iff_lt_or_eq.1 hj with h | h
        · exact hpre j h
        · subst h; exact hpk
      simp only [preS, Bool.and_eq_true, decide_eq_true_eq] at hpk
      generalize ofS told k = A at *
      generalize ofS put k = C at *
      have l1 : ¬ (C.length : Int) < (A.length : Int) := by omega
      have l2 : (0 : Int) ≤ (A.length : Int) := by omega
      have l3 : (A.length : Int) ≤ (C.length : Int) := by omega
      repeat (first | refine aw_seq ?_ | refine aw_block ?_ | with_reducible refine aw_ret ?_ | with_reducible refine aw_skip ?_ | with_reducible refine aw_exit ?_ | refine thn_normal ?_ | refine thn_out ?_ | refine blk_normal ?_ | refine blk_ret ?_ | refine blk_exit ?_ | ((first | refine aw_regO ?_ | refine aw_regDO ?_ | refine aw_condO ?_ | refine fin_retO ?_); (conv => (arg 1; simp (maxSteps := 30000) only [ev0, ev1, ev2, look, lookF, cellsFrom, offT, offP, List.tail_nil, List.length_nil, Int.cast_ofNat_Int, Nat.reduceEqDiff, Nat.reduceAdd, Nat.reduceMul, Nat.reduceLeDiff, Nat.reduceLT, ↓reduceIte, reduceCtorEq, Int.reduceBEq, Int.reduceBNe, Int.reduceLT, Int.reduceLE, Int.reduceToNat, l1, l2, l3, len_ml, take_ml, Int.natCast_zero, Int.le_refl])); (first | with_reducible refine on_yes ?_ | with_reducible refine on_no ?_ | with_reducible refine on_reg ?_ | (with_reducible refine on_regD (by decide +kernel) ?_) | with_reducible refine on_fin ?_)))
      refine aw_reg [[vB true]] (by simp only [ev0, ev1, ev2, look, lookF, cellsFrom, offT, offP, List.tail_nil, List.length_nil, Int.cast_ofNat_Int, Nat.reduceEqDiff, Nat.reduceAdd, Nat.reduceMul, Nat.reduceLeDiff, Nat.reduceLT, ↓reduceIte, reduceCtorEq, Int.reduceBEq, Int.reduceBNe, Int.reduceLT, Int.reduceLE, Int.reduceToNat, l1, l2, l3, len_ml, take_ml, Int.natCast_zero, Int.le_refl]; first | rfl | exact ⟨rfl, rfl⟩) ?_ ?_
      · have := sameMsgs_told A (C.take A.length) (by omega)
        rw [hpk.2] at this
        exact obl_cons this obl_nil
      repeat (first | refine aw_seq ?_ | refine aw_block ?_ | with_reducible refine aw_ret ?_ | with_reducible refine aw_skip ?_ | with_reducible refine aw_exit ?_ | refine thn_normal ?_ | refine thn_out ?_ | refine blk_normal ?_ | refine blk_ret ?_ | refine blk_exit ?_ | ((first | refine aw_regO ?_ | refine aw_regDO ?_ | refine aw_condO ?_ | refine fin_retO ?_); (conv => (arg 1; simp (maxSteps := 30000) only [ev0, ev1, ev2, look, lookF, cellsFrom, offT, offP, List.tail_nil, List.length_nil, Int.cast_ofNat_Int, Nat.reduceEqDiff, Nat.reduceAdd, Nat.reduceMul, Nat.reduceLeDiff, Nat.reduceLT, ↓reduceIte, reduceCtorEq, Int.reduceBEq, Int.reduceBNe, Int.reduceLT, Int.reduceLE, Int.reduceToNat, g4])); (first | with_reducible refine on_yes ?_ | with_reducible refine on_no ?_ | with_reducible refine on_reg ?_ | (with_reducible refine on_regD (by decide +kernel) ?_) | with_reducible refine on_fin ?_)))
      exact ⟨3 - (k + 1), _, by omega, Le.refl _, k + 1, by omega, rfl, hnext, by simp only [rfSt, Int.natCast_add, Int.cast_ofNat_Int]⟩
    | false =>
      have hf : fitsS told put = false := fitsS_no (s := k) (by omega) hpk
      rw [hf]
      simp only [preS, Bool.and_eq_false_iff, decide_eq_false_iff_not] at hpk
      generalize ofS told k = A at *
      generalize ofS put k = C at *
      by_cases hg : C.length < A.length
      · have l1 : (C.length : Int) < (A.length : Int) := by omega
        repeat (first | refine aw_seq ?_ | refine aw_block ?_ | with_reducible refine aw_ret ?_ | with_reducible refine aw_skip ?_ | with_reducible refine aw_exit ?_ | refine thn_normal ?_ | refine thn_out ?_ | refine blk_normal ?_ | refine blk_ret ?_ | refine blk_exit ?_ | ((first | refine aw_regO ?_ | refine aw_regDO ?_ | refine aw_condO ?_ | refine fin_retO ?_); (conv => (arg 1; simp (maxSteps := 30000) only [ev0, ev1, ev2, look, lookF, cellsFrom, offT, offP, List.tail_nil, List.length_nil, Int.cast_ofNat_Int, Nat.reduceEqDiff, Nat.reduceAdd, Nat.reduceMul, Nat.reduceLeDiff, Nat.reduceLT, ↓reduceIte, reduceCtorEq, Int.reduceBEq, Int.reduceBNe, Int.reduceLT, Int.reduceLE, Int.reduceToNat, l1, len_ml])); (first | with_reducible refine on_yes ?_ | with_reducible refine on_no ?_ | with_reducible refine on_reg ?_ | (with_reducible refine on_regD (by decide +kernel) ?_) | with_reducible refine on_fin ?_)))
        exact ValsLe.refl _
      · have l1 : ¬ (C.length : Int) < (A.length : Int) := by omega
        have l2 : (0 : Int) ≤ (A.length : Int) := by omega
        have l3 : (A.length : Int) ≤ (C.length : Int) := by omega
        have hss : sameL A (C.take A.length) = false := hpk.resolve_left (by omega)
        repeat (first | refine aw_seq ?_ | refine aw_block ?_ | with_reducible refine aw_ret ?_ | with_reducible refine aw_skip ?_ | with_reducible refine aw_exit ?_ | refine thn_normal ?_ | refine thn_out ?_ | refine blk_normal ?_ | refine blk_ret ?_ | refine blk_exit ?_ | ((first | refine aw_regO ?_ | refine aw_regDO ?_ | refine aw_condO ?_ | refine fin_retO ?_); (conv => (arg 1; simp (maxSteps := 30000) only [ev0, ev1, ev2, look, lookF, cellsFrom, offT, offP, List.tail_nil, List.length_nil, Int.cast_ofNat_Int, Nat.reduceEqDiff, Nat.reduceAdd, Nat.reduceMul, Nat.reduceLeDiff, Nat.reduceLT, ↓reduceIte, reduceCtorEq, Int.reduceBEq, Int.reduceBNe, Int.reduceLT, Int.reduceLE, Int.reduceToNat, l1, l2, l3, len_ml, take_ml, Int.natCast_zero, Int.le_refl])); (first | with_reducible refine on_yes ?_ | with_reducible refine on_no ?_ | with_reducible refine on_reg ?_ | (with_reducible refine on_regD (by decide +kernel) ?_) | with_reducible refine on_fin ?_)))
        refine aw_reg [[vB false]] (by simp only [ev0, ev1, ev2, look, lookF, cellsFrom, offT, offP, List.tail_nil, List.length_nil, Int.cast_ofNat_Int, Nat.reduceEqDiff, Nat.reduceAdd, Nat.reduceMul, Nat.reduceLeDiff, Nat.reduceLT, ↓reduceIte, reduceCtorEq, Int.reduceBEq, Int.reduceBNe, Int.reduceLT, Int.reduceLE, Int.reduceToNat, l1, l2, l3, len_ml, take_ml, Int.natCast_zero, Int.le_refl]; first | rfl | exact ⟨rfl, rfl⟩) ?_ ?_
        · have := sameMsgs_told A (C.take A.length) (by omega)
          rw [hss] at this
          exact obl_cons this obl_nil
        repeat (first | refine aw_seq ?_ | refine aw_block ?_ | with_reducible refine aw_ret ?_ | with_reducible refine aw_skip ?_ | with_reducible refine aw_exit ?_ | refine thn_normal ?_ | refine thn_out ?_ | refine blk_normal ?_ | refine blk_ret ?_ | refine blk_exit ?_ | ((first | refine aw_regO ?_ | refine aw_regDO ?_ | refine aw_condO ?_ | refine fin_retO ?_); (conv => (arg 1; simp (maxSteps := 30000) only [ev0, ev1, ev2, look, lookF, cellsFrom, offT, offP, List.tail_nil, List.length_nil, Int.cast_ofNat_Int, Nat.reduceEqDiff, Nat.reduceAdd, Nat.reduceMul, Nat.reduceLeDiff, Nat.reduceLT, ↓reduceIte, reduceCtorEq, Int.reduceBEq, Int.reduceBNe, Int.reduceLT, Int.reduceLE, Int.reduceToNat])); (first | with_reducible refine on_yes ?_ | with_reducible refine on_no ?_ | with_reducible refine on_reg ?_ | (with_reducible refine on_regD (by decide +kernel) ?_) | with_reducible refine on_fin ?_)))
        exact ValsLe.refl _
  · have hk' : k = 3 := by omega
    subst hk'
    have hf : fitsS told put = true := by
      have h0 := hpre 0 (by omega)
      have h1 := hpre 1 (by omega)
      have h2 := hpre 2 (by omega)
      simp only [Int.natCast_zero, Int.cast_ofNat_Int] at h0 h1 h2
      simp [fitsS, h0, h1, h2]
    rw [hf]
    have g1 : ¬ ((3 : Nat) : Int) < 3 := by omega
    simp only [rfSt]
    repeat (first | refine aw_seq ?_ | refine aw_block ?_ | with_reducible refine aw_ret ?_ | with_reducible refine aw_skip ?_ | with_reducible refine aw_exit ?_ | refine thn_normal ?_ | refine thn_out ?_ | refine blk_normal ?_ | refine blk_ret ?_ | refine blk_exit ?_ | ((first | refine aw_regO ?_ | refine aw_regDO ?_ | refine aw_condO ?_ | refine fin_retO ?_); (conv => (arg 1; simp (maxSteps := 30000) only [ev0, ev1, ev2, look, lookF, cellsFrom, offT, offP, List.tail_nil, List.length_nil, Int.cast_ofNat_Int, Nat.reduceEqDiff, Nat.reduceAdd, Nat.reduceMul, Nat.reduceLeDiff, Nat.reduceLT, ↓reduceIte, reduceCtorEq, Int.reduceBEq, Int.reduceBNe, Int.reduceLT, Int.reduceLE, Int.reduceToNat, g1])); (first | with_reducible refine on_yes ?_ | with_reducible refine on_no ?_ | with_reducible refine on_reg ?_ | (with_reducible refine on_regD (by decide +kernel) ?_) | with_reducible refine on_fin ?_)))
    exact ValsLe.refl _

end Go.Proofs.Ytnncmddmjpocfab.ab
