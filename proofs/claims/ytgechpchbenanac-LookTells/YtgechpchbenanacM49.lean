/-
  Several texts in one.
-/
import Derived.Test.YtgechpchbenanacM26
import Derived.Test.YtgechpchbenanacProg
import Derived.Test.YtgechpchbenanacM48

/-
  Functions as plain code (written by wip/abs/ir.py): lklaw11.LookTells.
-/
namespace Go.Proofs.Ytgechpchbenanac.ab
set_option linter.unusedSimpArgs false
set_option linter.unusedSimpArgs false
set_option linter.unusedVariables false
set_option maxRecDepth 100000
open Go Go.RowKit

def w11_LookTells_r0 : IC := cReg Try.prog [
    ⟨some 4, none, iMov 4 (.const (.bool false)) true⟩] [0, 1] []
def w11_LookTells_r1 : IC := cReg Try.prog [
    xM 11 0,
    xC 12 .lss 11 1,
    xM 13 12,
    xG 13 false (xM 14 0),
    xG 13 false (xC 15 .gtr 14 3),
    xP 16 13 15] [0, 1, 16] []
def w11_LookTells_r2 : IC := cReg Try.prog [
    ⟨some 4, none, iMov 4 (.const (.bool true)) true⟩] [4] []
def w11_LookTells_c1a : IC := (cSeq w11_LookTells_r2 cRet)
def w11_LookTells_c1 : IC := cCond (.tmp 16) w11_LookTells_c1a cSkip
def w11_LookTells_r3 : IC := cReg Try.prog [
    xM 18 0,
    xM 19 1,
    xV2 20 12 18 19,
    xM 17 20,
    xE 21 17 0,
    xE 22 17 1,
    ⟨some 5, none, iAlo 5 [zS, zI]⟩,
    xS 2 5 21,
    xT 6 22] [5] [5]
def w11_LookTells_r4 : IC := cReg Try.prog [
    xF 23 0 5,
    xL 24 1 23,
    xN 25 24,
    ⟨some 26, none, iMov 26 (.const (.int .i64 0)) false⟩] [5, 24, 25, 26] [5]
def w11_LookTells_r5 : IC := cReg Try.prog [
    xB 27 .lss 26 25] [5, 24, 25, 26, 27] [5]
def w11_LookTells_c4 : IC := cCond (.tmp 27) cSkip (cExit 0)
def w11_LookTells_r6 : IC := cReg Try.prog [
    xI 28 17 24 26,
    xA 29 17 28,
    ⟨some 8, none, iAlo 8 [zS, zI, zI, zI, zI, zS, zI, zI, zS, zI, zI, zI, zS, zS, zF, zS, zS]⟩,
    xS 17 8 29] [5, 8, 24, 25, 26] [5, 8]
def w11_LookTells_r7 : IC := cReg Try.prog [
    xA 31 17 8,
    xV1 32 23 31,
    xM 30 32,
    xE 33 30 0,
    xE 34 30 1,
    xT 9 33,
    xT 10 34] [5, 8, 9, 10, 24, 25, 26] [5, 8]
def w11_LookTells_r8 : IC := cRegD Try.prog [
    xA 35 17 8,
    xV1 36 24 35,
    xF 37 0 8,
    xF 38 0 37,
    xL 39 1 38,
    xN 40 39,
    xF 41 0 8,
    xF 42 5 41,
    xL 43 1 42,
    xN 44 43,
    xB 45 .add 40 44,
    xC 46 .eql 45 0,
    ⟨some 47, none, iBinB 47 false (.tmp 36) (.tmp 46)⟩,
    xM 48 47,
    xG 48 false (xA 49 17 8),
    xG 48 false (xV1 50 25 49),
    xG 48 false (xO 51 50),
    xP 52 48 51,
    xM 53 52,
    xG 53 false (xM 54 9),
    xG 53 false (xF 55 0 8),
    xG 53 false (xF 56 1 55),
    xG 53 false (xL 57 1 56),
    xG 53 false (xB 58 .neq 54 57),
    xP 59 53 58,
    xM 60 59,
    xG 60 false (xM 61 10),
    xG 60 false (xF 62 7 8),
    xG 60 false (xF 63 6 62),
    xG 60 false (xL 64 1 63),
    xG 60 false (xN 65 64),
    xG 60 false (xB 66 .neq 61 65),
    xP 67 60 66] [[], [0], [], [2], [3, 2], [4, 3, 2], [], [6], [7, 6], [8, 7, 6], [5, 9, 4, 3, 2, 8, 7, 6], [10, 5, 9, 4, 3, 2, 8, 7, 6], [1, 11, 0, 10, 5, 9, 4, 3, 2, 8, 7, 6], [12, 1, 11, 0, 10, 5, 9, 4, 3, 2, 8, 7, 6], [13, 12, 1, 11, 0, 10, 5, 9, 4, 3, 2, 8, 7, 6], [14, 13, 12, 1, 11, 0, 10, 5, 9, 4, 3, 2, 8, 7, 6], [15, 13, 14, 12, 1, 11, 0, 10, 5, 9, 4, 3, 2, 8, 7, 6], [13, 16, 12, 1, 11, 0, 10, 5, 9, 4, 3, 2, 8, 7, 6, 15, 14], [17, 15, 13, 16, 12, 1, 11, 0, 10, 5, 9, 4, 3, 2, 8, 7, 6, 14], [18, 17, 15, 13, 16, 12, 1, 11, 0, 10, 5, 9, 4, 3, 2, 8, 7, 6, 14], [18, 17, 15, 13, 16, 12, 1, 11, 0, 10, 5, 9, 4, 3, 2, 8, 7, 6, 14], [20, 18, 17, 15, 13, 16, 12, 1, 11, 0, 10, 5, 9, 4, 3, 2, 8, 7, 6, 14], [21, 18, 20, 17, 15, 13, 16, 12, 1, 11, 0, 10, 5, 9, 4, 3, 2, 8, 7, 6, 14], [19, 22, 18, 17, 15, 13, 16, 12, 1, 11, 0, 10, 5, 9, 4, 3, 2, 8, 7, 6, 14, 21, 20], [18, 23, 17, 15, 13, 16, 12, 1, 11, 0, 10, 5, 9, 4, 3, 2, 8, 7, 6, 14, 19, 22, 21, 20], [24, 18, 23, 17, 15, 13, 16, 12, 1, 11, 0, 10, 5, 9, 4, 3, 2, 8, 7, 6, 14, 19, 22, 21, 20], [25, 24, 18, 23, 17, 15, 13, 16, 12, 1, 11, 0, 10, 5, 9, 4, 3, 2, 8, 7, 6, 14, 19, 22, 21, 20], [25, 24, 18, 23, 17, 15, 13, 16, 12, 1, 11, 0, 10, 5, 9, 4, 3, 2, 8, 7, 6, 14, 19, 22, 21, 20], [27, 25, 24, 18, 23, 17, 15, 13, 16, 12, 1, 11, 0, 10, 5, 9, 4, 3, 2, 8, 7, 6, 14, 19, 22, 21, 20], [28, 25, 27, 24, 18, 23, 17, 15, 13, 16, 12, 1, 11, 0, 10, 5, 9, 4, 3, 2, 8, 7, 6, 14, 19, 22, 21, 20], [29, 25, 28, 27, 24, 18, 23, 17, 15, 13, 16, 12, 1, 11, 0, 10, 5, 9, 4, 3, 2, 8, 7, 6, 14, 19, 22, 21, 20], [26, 30, 25, 24, 18, 23, 17, 15, 13, 16, 12, 1, 11, 0, 10, 5, 9, 4, 3, 2, 8, 7, 6, 14, 19, 22, 21, 20, 29, 28, 27], [25, 31, 24, 18, 23, 17, 15, 13, 16, 12, 1, 11, 0, 10, 5, 9, 4, 3, 2, 8, 7, 6, 14, 19, 22, 21, 20, 26, 30, 29, 28, 27]] [5, 24, 25, 26, 67] [5]
def w11_LookTells_r9 : IC := cReg Try.prog [
    ⟨some 4, none, iMov 4 (.const (.bool false)) true⟩] [4] []
def w11_LookTells_c6a : IC := (cSeq w11_LookTells_r9 cRet)
def w11_LookTells_c6 : IC := cCond (.tmp 67) w11_LookTells_c6a cSkip
def w11_LookTells_b5 : IC := cBlock 1 (cSeq w11_LookTells_r6 (cSeq w11_LookTells_r7 (cSeq w11_LookTells_r8 w11_LookTells_c6)))
def w11_LookTells_r10 : IC := cReg Try.prog [
    xC 68 .add 26 1,
    xM 26 68] [5, 24, 25, 26] [5]
def w11_LookTells_l3a : IC := (cSeq w11_LookTells_r5 (cSeq w11_LookTells_c4 (cSeq w11_LookTells_b5 w11_LookTells_r10)))
def w11_LookTells_l3 : IC := cLoop w11_LookTells_l3a
def w11_LookTells_b2 : IC := cBlock 0 w11_LookTells_l3
def w11_LookTells_r11 : IC := cRegD Try.prog [
    xA 69 2 5,
    xV1 70 26 69,
    xA 71 2 5,
    xV1 72 27 71,
    ⟨some 73, none, iBinB 73 true (.tmp 70) (.tmp 72)⟩,
    xT 4 73] [[], [0], [], [2, 1, 0], [1, 3, 0, 2], [4, 3, 0, 1, 2]] [4] []
def w11_LookTells : IC := (cSeq w11_LookTells_r0 (cSeq (cSeq w11_LookTells_r1 w11_LookTells_c1) (cSeq w11_LookTells_r3 (cSeq (cSeq w11_LookTells_r4 w11_LookTells_b2) (cSeq w11_LookTells_r11 cRet)))))
theorem told_w11_LookTells {args r : List D} (hl : args.length = 2) (h : w11_LookTells (start args) (fin [(4, none)] r)) : Told Try.prog 8 args r :=
  told_of follows Try.func8 rfl (an := [([], [0, 1], [], []), ([], [0, 1, 16], [], []), ([], [4], [], []), ([], [5], [5], []), ([], [5, 24, 25, 26], [5], []), ([], [5, 24, 25, 26, 27], [5], []), ([], [5, 8, 24, 25, 26], [5, 8], []), ([], [5, 8, 9, 10, 24, 25, 26], [5, 8], []), ([], [5, 24, 25, 26, 67], [5], []), ([], [4], [], []), ([], [5, 24, 25, 26], [5], []), ([], [4], [], [])]) (by kernel_rfl) (by kernel_rfl) (by rw [hl]; decide +kernel) h

end Go.Proofs.Ytgechpchbenanac.ab

/-
  What the statement LookTells tells, out of what the functions of package look tell.
-/
namespace Go.Proofs.Ytgechpchbenanac.ab
set_option linter.unusedVariables false
set_option linter.unusedSimpArgs false
open Go Go.RowKit
open mth

def ltSt (w : Wd) (k : Nat) : St := ⟨[(5, pD 5 0), (24, sD 17 (encLl w.lanes)), (25, vI w.lanes.length), (26, vI k)], [(5, encWd w)], []⟩
theorem idle_bool (l : Ln) : (((l.s.queue.length : Int) + (l.s.flight.length : Int)) == 0) = idleL l := by
  cases h : idleL l with
  | true =>
    obtain ⟨h1, h2⟩ := idle_iff.1 h
    rw [h1, h2]; rfl
  | false =>
    rw [beq_eq_false_iff_ne]
    intro e
    have : idleL l = true := idle_iff.2 ⟨List.eq_nil_of_length_eq_zero (by omega), List.eq_nil_of_length_eq_zero (by omega)⟩
    rw [this] at h; cases h
set_option maxHeartbeats 16000000 in
theorem lookTells_told (hS : CSpoilR 45) (hI : CKIdle 24) (hW : CKWithin 25) (hN : CKSent 23) (hT : CKStill 26) (n : Int) (l : List Sp) (hl : l.length ≤ 9223372036854775807) : Told Try.prog 8 [vI n, sD 7 (encSl l)] [vB true] := by
  refine told_w11_LookTells rfl ?_
  by_cases n1 : n < 1
  · refine wk @n1 ?_
    exact ValsLe.refl _
  by_cases n2 : 3 < n
  · refine wk (an2 @n1 @n2) ?_
    exact ValsLe.refl _
  obtain ⟨q, rfl⟩ : ∃ q : Nat, n = q := ⟨n.toNat, by omega⟩
  have hn : 1 ≤ q ∧ q ≤ 3 := by omega
  have p1 := play_told hS q hn l hl
  obtain ⟨hw, _, _⟩ := good_run (good_new hn) l 160
  generalize (runW (newW q) (l.take 160)).2 = es at *
  generalize (runW (newW q) (l.take 160)).1 = w at *
  have hwn := hw.n
  simp only [encWd] at p1
  refine wk (an2 @n1 @n2) ?_
  refine cg [[aD (encWd w), sD 1 (es.map vI)]] (an3 @encWd.eq_1 @n1 @n2) ?_ ?_
  · exact obl_cons p1 obl_nil
  refine wk @len_ll ?_
  refine aw_loop (fun m st => ∃ k : Nat, k ≤ w.lanes.length ∧ m = w.lanes.length - k ∧ st = ltSt w k) w.lanes.length (ltSt w 0) (Le.refl _) ⟨0, by omega, by omega, rfl⟩ ?_
  rintro m st ⟨k, hk, hm, rfl⟩
  by_cases hlt : k < w.lanes.length
  · obtain ⟨x, hx⟩ : ∃ x, w.lanes[k]? = some x := ⟨w.lanes[k], List.getElem?_eq_getElem hlt⟩
    have hg := hw.l x (List.mem_of_getElem? hx)
    have g1 : (k : Int) < (w.lanes.length : Int) := by omega
    have g2 : (0 : Int) ≤ (k : Int) := by omega
    have g3 := at_ll hx
    have g4 : inR .i64 ((k : Int) + 1) = true := inR_of (by omega)
    have g5 : inR .i64 ((x.s.queue.length : Int) + (x.s.flight.length : Int)) = true := inR_of (by have := hg.s.q; have := hg.s.f; omega)
    have g6 := idle_bool x
    have h1 := hN x (good_smallN hg)
    have h2 := hI x (good_smallN hg)
    have h3 := hW x (good_smallN hg)
    rw [good_within hg] at h3
    have z1 : (idleL x != idleL x) = false := bne_self_eq_false _
    have z2 : (x.s.next != x.s.next) = false := bne_self_eq_false _
    have z3 : ((x.r.told.length : Int) != (x.r.told.length : Int)) = false := bne_self_eq_false _
    have hnx : Next (fun m st => ∃ k : Nat, k ≤ w.lanes.length ∧ m = w.lanes.length - k ∧ st = ltSt w k) m (ltSt w (k + 1)) := ⟨w.lanes.length - (k + 1), _, by omega, Le.refl _, k + 1, by omega, rfl, rfl⟩
    generalize (fun m st => ∃ k : Nat, k ≤ w.lanes.length ∧ m = w.lanes.length - k ∧ st = ltSt w k) = J at *
    generalize idleL x = b at *
    simp only [ltSt, encLn, encWd, Int.natCast_add, Int.cast_ofNat_Int] at g3 h1 h2 h3 hnx ⊢
    refine wk (an5 @g1 @g2 @g3 @len_ll @Int.toNat_natCast) ?_
    refine cg0 [[vI x.s.next, vI x.r.told.length]] ?_ ?_
    · exact obl_cons h1 obl_nil
    repeat (first | refine aw_seq ?_ | refine aw_block ?_ | with_reducible refine aw_ret ?_ | with_reducible refine aw_skip ?_ | with_reducible refine aw_exit ?_ | refine thn_normal ?_ | refine thn_out ?_ | refine blk_normal ?_ | refine blk_ret ?_ | refine blk_exit ?_ | ((first | refine aw_regO ?_ | refine aw_condO ?_ | refine fin_retO ?_); (conv => (arg 1; simp (maxSteps := 30000) only [ev0, ev1, ev2, look, lookF, cellsFrom, offT, offP, List.tail_nil, List.length_nil, Int.cast_ofNat_Int, Nat.reduceEqDiff, Nat.reduceAdd, Nat.reduceMul, Nat.reduceLeDiff, Nat.reduceLT, ↓reduceIte, reduceCtorEq, Int.reduceBEq, Int.reduceBNe, Int.reduceLT, Int.reduceLE, Int.reduceToNat])); (first | with_reducible refine on_yes ?_ | with_reducible refine on_no ?_ | with_reducible refine on_reg ?_ | (with_reducible refine on_regD (by decide +kernel) ?_) | with_reducible refine on_fin ?_)))
    refine aw_oneC [[vB b], [vB true]] ?_; (repeat (refine goC_op ?_; (conv => (arg 1; simp only [ev0, ev1, ev2, look, lookF, cellsFrom, offT, offP, List.tail_nil, List.length_nil, Int.cast_ofNat_Int, Nat.reduceEqDiff, Nat.reduceAdd, Nat.reduceMul, Nat.reduceLeDiff, Nat.reduceLT, ↓reduceIte, reduceCtorEq, Int.reduceBEq, Int.reduceBNe, Int.reduceLT, Int.reduceLE, Int.reduceToNat, List.headD_cons, List.headD_nil, List.tail_cons, g5, g6, z1, z2, z3, len_ml, len_cl])); with_reducible refine on_s ?_; (conv => (arg 1; simp only [ev0, ev1, ev2, look, lookF, cellsFrom, offT, offP, List.tail_nil, List.length_nil, Int.cast_ofNat_Int, Nat.reduceEqDiff, Nat.reduceAdd, Nat.reduceMul, Nat.reduceLeDiff, Nat.reduceLT, ↓reduceIte, reduceCtorEq, Int.reduceBEq, Int.reduceBNe, Int.reduceLT, Int.reduceLE, Int.reduceToNat])); (conv => (arg 2; simp only [ev0, ev1, ev2, look, lookF, cellsFrom, offT, offP, List.tail_nil, List.length_nil, Int.cast_ofNat_Int, Nat.reduceEqDiff, Nat.reduceAdd, Nat.reduceMul, Nat.reduceLeDiff, Nat.reduceLT, ↓reduceIte, reduceCtorEq, Int.reduceBEq, Int.reduceBNe, Int.reduceLT, Int.reduceLE, Int.reduceToNat])); with_reducible refine on_e ?_))
    refine goC_call ?_; (conv => (arg 1; simp only [ev0, ev1, ev2, look, lookF, cellsFrom, offT, offP, List.tail_nil, List.length_nil, Int.cast_ofNat_Int, Nat.reduceEqDiff, Nat.reduceAdd, Nat.reduceMul, Nat.reduceLeDiff, Nat.reduceLT, ↓reduceIte, reduceCtorEq, Int.reduceBEq, Int.reduceBNe, Int.reduceLT, Int.reduceLE, Int.reduceToNat, List.headD_cons, List.headD_nil, List.tail_cons])); with_reducible refine on_c ⟨?_, ?_⟩
    · exact obl_cons h2 obl_nil
    (conv => (arg 1; simp only [ev0, ev1, ev2, look, lookF, cellsFrom, offT, offP, List.tail_nil, List.length_nil, Int.cast_ofNat_Int, Nat.reduceEqDiff, Nat.reduceAdd, Nat.reduceMul, Nat.reduceLeDiff, Nat.reduceLT, ↓reduceIte, reduceCtorEq, Int.reduceBEq, Int.reduceBNe, Int.reduceLT, Int.reduceLE, Int.reduceToNat])); (conv => (arg 2; simp only [ev0, ev1, ev2, look, lookF, cellsFrom, offT, offP, List.tail_nil, List.length_nil, Int.cast_ofNat_Int, Nat.reduceEqDiff, Nat.reduceAdd, Nat.reduceMul, Nat.reduceLeDiff, Nat.reduceLT, ↓reduceIte, reduceCtorEq, Int.reduceBEq, Int.reduceBNe, Int.reduceLT, Int.reduceLE, Int.reduceToNat])); with_reducible refine on_e ?_; (repeat (refine goC_op ?_; (conv => (arg 1; simp only [ev0, ev1, ev2, look, lookF, cellsFrom, offT, offP, List.tail_nil, List.length_nil, Int.cast_ofNat_Int, Nat.reduceEqDiff, Nat.reduceAdd, Nat.reduceMul, Nat.reduceLeDiff, Nat.reduceLT, ↓reduceIte, reduceCtorEq, Int.reduceBEq, Int.reduceBNe, Int.reduceLT, Int.reduceLE, Int.reduceToNat, List.headD_cons, List.headD_nil, List.tail_cons, g5, g6, z1, z2, z3, len_ml, len_cl])); with_reducible refine on_s ?_; (conv => (arg 1; simp only [ev0, ev1, ev2, look, lookF, cellsFrom, offT, offP, List.tail_nil, List.length_nil, Int.cast_ofNat_Int, Nat.reduceEqDiff, Nat.reduceAdd, Nat.reduceMul, Nat.reduceLeDiff, Nat.reduceLT, ↓reduceIte, reduceCtorEq, Int.reduceBEq, Int.reduceBNe, Int.reduceLT, Int.reduceLE, Int.reduceToNat])); (conv => (arg 2; simp only [ev0, ev1, ev2, look, lookF, cellsFrom, offT, offP, List.tail_nil, List.length_nil, Int.cast_ofNat_Int, Nat.reduceEqDiff, Nat.reduceAdd, Nat.reduceMul, Nat.reduceLeDiff, Nat.reduceLT, ↓reduceIte, reduceCtorEq, Int.reduceBEq, Int.reduceBNe, Int.reduceLT, Int.reduceLE, Int.reduceToNat])); with_reducible refine on_e ?_))
    refine goC_call ?_; (conv => (arg 1; simp only [ev0, ev1, ev2, look, lookF, cellsFrom, offT, offP, List.tail_nil, List.length_nil, Int.cast_ofNat_Int, Nat.reduceEqDiff, Nat.reduceAdd, Nat.reduceMul, Nat.reduceLeDiff, Nat.reduceLT, ↓reduceIte, reduceCtorEq, Int.reduceBEq, Int.reduceBNe, Int.reduceLT, Int.reduceLE, Int.reduceToNat, List.headD_cons, List.headD_nil, List.tail_cons])); with_reducible refine on_c ⟨?_, ?_⟩
    · exact obl_cons h3 obl_nil
    (conv => (arg 1; simp only [ev0, ev1, ev2, look, lookF, cellsFrom, offT, offP, List.tail_nil, List.length_nil, Int.cast_ofNat_Int, Nat.reduceEqDiff, Nat.reduceAdd, Nat.reduceMul, Nat.reduceLeDiff, Nat.reduceLT, ↓reduceIte, reduceCtorEq, Int.reduceBEq, Int.reduceBNe, Int.reduceLT, Int.reduceLE, Int.reduceToNat])); (conv => (arg 2; simp only [ev0, ev1, ev2, look, lookF, cellsFrom, offT, offP, List.tail_nil, List.length_nil, Int.cast_ofNat_Int, Nat.reduceEqDiff, Nat.reduceAdd, Nat.reduceMul, Nat.reduceLeDiff, Nat.reduceLT, ↓reduceIte, reduceCtorEq, Int.reduceBEq, Int.reduceBNe, Int.reduceLT, Int.reduceLE, Int.reduceToNat])); with_reducible refine on_e ?_; (repeat (refine goC_op ?_; (conv => (arg 1; simp only [ev0, ev1, ev2, look, lookF, cellsFrom, offT, offP, List.tail_nil, List.length_nil, Int.cast_ofNat_Int, Nat.reduceEqDiff, Nat.reduceAdd, Nat.reduceMul, Nat.reduceLeDiff, Nat.reduceLT, ↓reduceIte, reduceCtorEq, Int.reduceBEq, Int.reduceBNe, Int.reduceLT, Int.reduceLE, Int.reduceToNat, List.headD_cons, List.headD_nil, List.tail_cons, z2, z3, len_ml, Bool.not_true])); with_reducible refine on_s ?_; (conv => (arg 1; simp only [ev0, ev1, ev2, look, lookF, cellsFrom, offT, offP, List.tail_nil, List.length_nil, Int.cast_ofNat_Int, Nat.reduceEqDiff, Nat.reduceAdd, Nat.reduceMul, Nat.reduceLeDiff, Nat.reduceLT, ↓reduceIte, reduceCtorEq, Int.reduceBEq, Int.reduceBNe, Int.reduceLT, Int.reduceLE, Int.reduceToNat])); (conv => (arg 2; simp only [ev0, ev1, ev2, look, lookF, cellsFrom, offT, offP, List.tail_nil, List.length_nil, Int.cast_ofNat_Int, Nat.reduceEqDiff, Nat.reduceAdd, Nat.reduceMul, Nat.reduceLeDiff, Nat.reduceLT, ↓reduceIte, reduceCtorEq, Int.reduceBEq, Int.reduceBNe, Int.reduceLT, Int.reduceLE, Int.reduceToNat])); with_reducible refine on_e ?_)); refine goC_end (by decide +kernel) ?_; (conv => (arg 1; simp only [ev0, ev1, ev2, look, lookF, cellsFrom, offT, offP, List.tail_nil, List.length_nil, Int.cast_ofNat_Int, Nat.reduceEqDiff, Nat.reduceAdd, Nat.reduceMul, Nat.reduceLeDiff, Nat.reduceLT, ↓reduceIte, reduceCtorEq, Int.reduceBEq, Int.reduceBNe, Int.reduceLT, Int.reduceLE, Int.reduceToNat])); with_reducible refine on_k ?_
    refine wk @g4 ?_
    exact hnx
  · have hkn : k = w.lanes.length := by omega
    subst hkn
    have g1 : ¬ (w.lanes.length : Int) < (w.lanes.length : Int) := by omega
    have h1 := hT w (by omega) (fun l hl => good_smallN (hw.l l hl))
    have h2 := still_told w hw
    have z1 : (stillW w == stillW w) = true := beq_self_eq_true _
    generalize (fun m st => ∃ k : Nat, k ≤ w.lanes.length ∧ m = w.lanes.length - k ∧ st = ltSt w k) = J at *
    generalize stillW w = b at *
    simp only [ltSt, encWd] at h1 h2 ⊢
    refine wk @g1 ?_
    refine cd [[vB b], [vB b]] @z1 ?_ ?_
    · exact obl_cons h1 (obl_cons h2 obl_nil)
    refine wk0 ?_
    exact ValsLe.refl _
end Go.Proofs.Ytgechpchbenanac.ab
