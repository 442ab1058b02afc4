/-
  Several texts in one.
-/
import Derived.Test.YtficfkeifcnbmabM38
import Derived.Test.YtficfkeifcnbmabIrLaw5E
import Derived.Test.YtficfkeifcnbmabAbsEval

/-
  What SendEach does in its inner loop.
-/
namespace Go.Proofs.Ytficfkeifcnbmab.ab
set_option linter.unusedVariables false
set_option linter.unusedSimpArgs false
open Go Go.RowKit
open mth

theorem say_cases {s : Sd} (h : GoodS s) : (s.queue = [] ∧ s.flight = [] ∧ sayL s = (s, zeroC, false)) ∨ (∃ c ∈ s.flight, sayL s = ({ s with turn := againK s + 1 }, c, true)) ∨ ∃ m r, s.queue = m :: r ∧ s.flight.length ≤ 3 ∧ sayL s = (newS s m r, newC s m, true) := by
  have key : 0 < s.flight.length → s.flight.getD (againK s).toNat zeroC ∈ s.flight := by
    intro hf
    have hk := againK_lt h hf
    have hlt : (againK s).toNat < s.flight.length := by omega
    simp only [List.getD_eq_getElem?_getD, List.getElem?_eq_getElem hlt, Option.getD_some]
    exact List.getElem_mem hlt
  unfold sayL
  split
  · rename_i hq
    split
    · rename_i hf; exact .inl ⟨hq, List.eq_nil_of_length_eq_zero hf, rfl⟩
    · rename_i hf; exact .inr (.inl ⟨_, key (by omega), rfl⟩)
  · rename_i m r hq
    split
    · rename_i hf; exact .inr (.inl ⟨_, key (by omega), rfl⟩)
    · rename_i hf; exact .inr (.inr ⟨m, r, hq, by omega, rfl⟩)
def seSt (s : Sd) (many : Int) (j : Nat) : St := ⟨[(7, pD 7 0), (30, vI many), (31, vI j)], [(7, encSd s)], []⟩
def seIn (s t : Sd) (c : Ch) (many j : Int) (b : Bool) (i : Int) : St :=
  ⟨[(7, pD 7 0), (8, pD 8 0), (9, pD 9 0), (11, vB b), (30, vI many), (31, vI j), (86, sD 6 (encCl s.flight)), (87, vI s.flight.length), (88, vI i)], [(7, encSd s), (8, encSd t), (9, encCh c)], []⟩
def seOut (s t : Sd) (c : Ch) (many j : Int) (b : Bool) (i : Int) : St :=
  ⟨[(7, pD 7 0), (8, pD 8 0), (9, pD 9 0), (11, vB b), (30, vI many), (31, vI j), (86, sD 6 (encCl s.flight)), (87, vI s.flight.length), (88, vI i), (89, vB false)], [(7, encSd s), (8, encSd t), (9, encCh c)], []⟩
theorem take_any {l : List Ch} {j : Nat} {y c : Ch} (h : l[j]? = some y) : (l.take (j + 1)).any (fun x => sameC x c) = ((l.take j).any (fun x => sameC x c) || sameC y c) := by
  rw [List.take_add_one, h]
  simp
set_option maxHeartbeats 2000000 in
theorem se_in (s t : Sd) (c : Ch) (many jj : Int) (hs : GoodS s) (Q : AX → St → Prop)
    (hQ : Q none (seOut s t c many jj (s.flight.any fun x => sameC x c) s.flight.length)) : w5_SendEach_b10 (seIn s t c many jj false 0) Q := by
  have hf := hs.f
  refine aw_block ?_
  refine aw_loop (fun m st => ∃ j : Nat, j ≤ s.flight.length ∧ m = s.flight.length - j ∧ st = seIn s t c many jj ((s.flight.take j).any fun x => sameC x c) j) s.flight.length _ (Le.refl _) ⟨0, by omega, by omega, by simp⟩ ?_
  rintro m st ⟨j, hj, hm, rfl⟩
  by_cases hlt : j < s.flight.length
  · obtain ⟨y, hy⟩ : ∃ m, s.flight[j]? = some m := ⟨s.flight[j], List.getElem?_eq_getElem hlt⟩
    have g1 : (j : Int) < (s.flight.length : Int) := by omega
    have g2 : (0 : Int) ≤ (j : Int) := by omega
    have g3 := at_cl hy
    have g4 : inR .i64 ((j : Int) + 1) = true := inR_of (by omega)
    have hc := take_any (c := c) hy
    have hsm := sameC_told y c (by rw [hs.early y (List.mem_of_getElem? hy)]; simp)
    have hnx : ∀ b', b' = (((s.flight.take j).any fun x => sameC x c) || sameC y c) → Next (fun m st => ∃ j : Nat, j ≤ s.flight.length ∧ m = s.flight.length - j ∧ st = seIn s t c many jj ((s.flight.take j).any fun x => sameC x c) j) m (seIn s t c many jj b' ((j : Int) + 1)) := by
      rintro b' rfl
      exact ⟨s.flight.length - (j + 1), _, by omega, Le.refl _, j + 1, by omega, rfl, by rw [hc, Int.natCast_add, Int.cast_ofNat_Int]⟩
    generalize (fun m st => ∃ j : Nat, j ≤ s.flight.length ∧ m = s.flight.length - j ∧ st = seIn s t c many jj ((s.flight.take j).any fun x => sameC x c) j) = J at *
    generalize ((s.flight.take j).any fun x => sameC x c) = q at *
    simp only [seIn, encSd, encCh] at hnx hsm ⊢
    cases q with
    | true =>
      repeat (first | refine aw_seq ?_ | refine aw_block ?_ | with_reducible refine aw_ret ?_ | with_reducible refine aw_skip ?_ | with_reducible refine aw_exit ?_ | refine thn_normal ?_ | refine thn_out ?_ | refine blk_normal ?_ | refine blk_ret ?_ | refine blk_exit ?_ | ((first | refine aw_regO ?_ | refine aw_regDO ?_ | refine aw_condO ?_ | refine fin_retO ?_); (conv => (arg 1; simp (maxSteps := 30000) only [ev0, ev1, ev2, look, lookF, cellsFrom, offT, offP, List.tail_nil, List.length_nil, Int.cast_ofNat_Int, Nat.reduceEqDiff, Nat.reduceAdd, Nat.reduceMul, Nat.reduceLeDiff, Nat.reduceLT, ↓reduceIte, reduceCtorEq, Int.reduceBEq, Int.reduceBNe, Int.reduceLT, Int.reduceLE, Int.reduceToNat, g1, g2, g3, g4])); (first | with_reducible refine on_yes ?_ | with_reducible refine on_no ?_ | with_reducible refine on_reg ?_ | (with_reducible refine on_regD (by decide +kernel) ?_) | with_reducible refine on_fin ?_)))
      exact hnx _ rfl
    | false =>
      repeat (first | refine aw_seq ?_ | refine aw_block ?_ | with_reducible refine aw_ret ?_ | with_reducible refine aw_skip ?_ | with_reducible refine aw_exit ?_ | refine thn_normal ?_ | refine thn_out ?_ | refine blk_normal ?_ | refine blk_ret ?_ | refine blk_exit ?_ | ((first | refine aw_regO ?_ | refine aw_regDO ?_ | refine aw_condO ?_ | refine fin_retO ?_); (conv => (arg 1; simp (maxSteps := 30000) only [ev0, ev1, ev2, look, lookF, cellsFrom, offT, offP, List.tail_nil, List.length_nil, Int.cast_ofNat_Int, Nat.reduceEqDiff, Nat.reduceAdd, Nat.reduceMul, Nat.reduceLeDiff, Nat.reduceLT, ↓reduceIte, reduceCtorEq, Int.reduceBEq, Int.reduceBNe, Int.reduceLT, Int.reduceLE, Int.reduceToNat, g1, g2, g3])); (first | with_reducible refine on_yes ?_ | with_reducible refine on_no ?_ | with_reducible refine on_reg ?_ | (with_reducible refine on_regD (by decide +kernel) ?_) | with_reducible refine on_fin ?_)))
      refine aw_reg [[vB (sameC y c)]] (by simp only [ev0, ev1, ev2, look, lookF, cellsFrom, offT, offP, List.tail_nil, List.length_nil, Int.cast_ofNat_Int, Nat.reduceEqDiff, Nat.reduceAdd, Nat.reduceMul, Nat.reduceLeDiff, Nat.reduceLT, ↓reduceIte, reduceCtorEq, Int.reduceBEq, Int.reduceBNe, Int.reduceLT, Int.reduceLE, Int.reduceToNat]; first | rfl | exact ⟨rfl, rfl⟩) ?_ ?_
      · exact obl_cons hsm obl_nil
      repeat (first | refine aw_seq ?_ | refine aw_block ?_ | with_reducible refine aw_ret ?_ | with_reducible refine aw_skip ?_ | with_reducible refine aw_exit ?_ | refine thn_normal ?_ | refine thn_out ?_ | refine blk_normal ?_ | refine blk_ret ?_ | refine blk_exit ?_ | ((first | refine aw_regO ?_ | refine aw_regDO ?_ | refine aw_condO ?_ | refine fin_retO ?_); (conv => (arg 1; simp (maxSteps := 30000) only [ev0, ev1, ev2, look, lookF, cellsFrom, offT, offP, List.tail_nil, List.length_nil, Int.cast_ofNat_Int, Nat.reduceEqDiff, Nat.reduceAdd, Nat.reduceMul, Nat.reduceLeDiff, Nat.reduceLT, ↓reduceIte, reduceCtorEq, Int.reduceBEq, Int.reduceBNe, Int.reduceLT, Int.reduceLE, Int.reduceToNat, g4])); (first | with_reducible refine on_yes ?_ | with_reducible refine on_no ?_ | with_reducible refine on_reg ?_ | (with_reducible refine on_regD (by decide +kernel) ?_) | with_reducible refine on_fin ?_)))
      exact hnx _ rfl
  · have hj' : j = s.flight.length := by omega
    subst hj'
    have g1 : ¬ (s.flight.length : Int) < (s.flight.length : Int) := by omega
    rw [List.take_length]
    simp only [seIn, seOut, encSd, encCh] at hQ ⊢
    repeat (first | refine aw_seq ?_ | refine aw_block ?_ | with_reducible refine aw_ret ?_ | with_reducible refine aw_skip ?_ | with_reducible refine aw_exit ?_ | refine thn_normal ?_ | refine thn_out ?_ | refine blk_normal ?_ | refine blk_ret ?_ | refine blk_exit ?_ | ((first | refine aw_regO ?_ | refine aw_regDO ?_ | refine aw_condO ?_ | refine fin_retO ?_); (conv => (arg 1; simp (maxSteps := 30000) only [ev0, ev1, ev2, look, lookF, cellsFrom, offT, offP, List.tail_nil, List.length_nil, Int.cast_ofNat_Int, Nat.reduceEqDiff, Nat.reduceAdd, Nat.reduceMul, Nat.reduceLeDiff, Nat.reduceLT, ↓reduceIte, reduceCtorEq, Int.reduceBEq, Int.reduceBNe, Int.reduceLT, Int.reduceLE, Int.reduceToNat, g1])); (first | with_reducible refine on_yes ?_ | with_reducible refine on_no ?_ | with_reducible refine on_reg ?_ | (with_reducible refine on_regD (by decide +kernel) ?_) | with_reducible refine on_fin ?_)))
    exact hQ
end Go.Proofs.Ytficfkeifcnbmab.ab

/-
  A round of SendEach: nothing is said.
-/
namespace Go.Proofs.Ytficfkeifcnbmab.ab
set_option linter.unusedVariables false
set_option linter.unusedSimpArgs false
open Go Go.RowKit
open mth

set_option maxHeartbeats 4000000 in
theorem se_none (hS : CSayS 6) (s : Sd) (many j : Nat) (hlt : j < many) (hs : GoodS s) (K R : St → Prop) (hq : s.queue = []) (hf : s.flight = []) (he : sayL s = (s, zeroC, false)) : w5_SendEach_l4a (seSt s many j) (thn K (blk 0 (thn R (fin [(6, none)] [vB true])))) := by
  have g1 : (j : Int) < (many : Int) := by omega
  have hT := hS s hs
  have hSm := refSame_told hs
  rw [he] at hT
  obtain ⟨queue, next, p0, p1, p2, flight, turn⟩ := s
  simp only at hq hf
  subst hq hf
  have i0 : inR .i64 0 = true := inR_of (by omega)
  simp only [seSt, encSd, encCh, zeroC, ml_nil, cl_nil, List.map_nil] at hT hSm ⊢
  repeat (first | refine aw_seq ?_ | refine aw_block ?_ | with_reducible refine aw_ret ?_ | with_reducible refine aw_skip ?_ | with_reducible refine aw_exit ?_ | refine thn_normal ?_ | refine thn_out ?_ | refine blk_normal ?_ | refine blk_ret ?_ | refine blk_exit ?_ | ((first | refine aw_regO ?_ | refine aw_regDO ?_ | refine aw_condO ?_ | refine fin_retO ?_); (conv => (arg 1; simp (maxSteps := 30000) only [ev0, ev1, ev2, look, lookF, cellsFrom, offT, offP, List.tail_nil, List.length_nil, Int.cast_ofNat_Int, Nat.reduceEqDiff, Nat.reduceAdd, Nat.reduceMul, Nat.reduceLeDiff, Nat.reduceLT, ↓reduceIte, reduceCtorEq, Int.reduceBEq, Int.reduceBNe, Int.reduceLT, Int.reduceLE, Int.reduceToNat, g1])); (first | with_reducible refine on_yes ?_ | with_reducible refine on_no ?_ | with_reducible refine on_reg ?_ | (with_reducible refine on_regD (by decide +kernel) ?_) | with_reducible refine on_fin ?_)))
  refine aw_reg [[aD [sD 2 [], vI next, vI p0, vI p1, vI p2, sD 6 [], vI turn], aD [vI 0, vI 0, vI 0, vI 0, sD 1 [], sD 1 []], vB false]] (by simp only [ev0, ev1, ev2, look, lookF, cellsFrom, offT, offP, List.tail_nil, List.length_nil, Int.cast_ofNat_Int, Nat.reduceEqDiff, Nat.reduceAdd, Nat.reduceMul, Nat.reduceLeDiff, Nat.reduceLT, ↓reduceIte, reduceCtorEq, Int.reduceBEq, Int.reduceBNe, Int.reduceLT, Int.reduceLE, Int.reduceToNat]; first | rfl | exact ⟨rfl, rfl⟩) ?_ ?_
  · exact obl_cons hT obl_nil
  repeat (first | refine aw_seq ?_ | refine aw_block ?_ | with_reducible refine aw_ret ?_ | with_reducible refine aw_skip ?_ | with_reducible refine aw_exit ?_ | refine thn_normal ?_ | refine thn_out ?_ | refine blk_normal ?_ | refine blk_ret ?_ | refine blk_exit ?_ | ((first | refine aw_regO ?_ | refine aw_regDO ?_ | refine aw_condO ?_ | refine fin_retO ?_); (conv => (arg 1; simp (maxSteps := 30000) only [ev0, ev1, ev2, look, lookF, cellsFrom, offT, offP, List.tail_nil, List.length_nil, Int.cast_ofNat_Int, Nat.reduceEqDiff, Nat.reduceAdd, Nat.reduceMul, Nat.reduceLeDiff, Nat.reduceLT, ↓reduceIte, reduceCtorEq, Int.reduceBEq, Int.reduceBNe, Int.reduceLT, Int.reduceLE, Int.reduceToNat, i0, List.length_nil, Int.cast_ofNat_Int, Int.add_zero])); (first | with_reducible refine on_yes ?_ | with_reducible refine on_no ?_ | with_reducible refine on_reg ?_ | (with_reducible refine on_regD (by decide +kernel) ?_) | with_reducible refine on_fin ?_)))
  refine aw_reg [[vB true]] (by simp only [ev0, ev1, ev2, look, lookF, cellsFrom, offT, offP, List.tail_nil, List.length_nil, Int.cast_ofNat_Int, Nat.reduceEqDiff, Nat.reduceAdd, Nat.reduceMul, Nat.reduceLeDiff, Nat.reduceLT, ↓reduceIte, reduceCtorEq, Int.reduceBEq, Int.reduceBNe, Int.reduceLT, Int.reduceLE, Int.reduceToNat, i0, List.length_nil, Int.cast_ofNat_Int, Int.add_zero]; first | rfl | exact ⟨rfl, rfl⟩) ?_ ?_
  · exact obl_cons hSm obl_nil
  repeat (first | refine aw_seq ?_ | refine aw_block ?_ | with_reducible refine aw_ret ?_ | with_reducible refine aw_skip ?_ | with_reducible refine aw_exit ?_ | refine thn_normal ?_ | refine thn_out ?_ | refine blk_normal ?_ | refine blk_ret ?_ | refine blk_exit ?_ | ((first | refine aw_regO ?_ | refine aw_regDO ?_ | refine aw_condO ?_ | refine fin_retO ?_); (conv => (arg 1; simp (maxSteps := 30000) only [ev0, ev1, ev2, look, lookF, cellsFrom, offT, offP, List.tail_nil, List.length_nil, Int.cast_ofNat_Int, Nat.reduceEqDiff, Nat.reduceAdd, Nat.reduceMul, Nat.reduceLeDiff, Nat.reduceLT, ↓reduceIte, reduceCtorEq, Int.reduceBEq, Int.reduceBNe, Int.reduceLT, Int.reduceLE, Int.reduceToNat])); (first | with_reducible refine on_yes ?_ | with_reducible refine on_no ?_ | with_reducible refine on_reg ?_ | (with_reducible refine on_regD (by decide +kernel) ?_) | with_reducible refine on_fin ?_)))
  exact ValsLe.refl _
end Go.Proofs.Ytficfkeifcnbmab.ab

/-
  A round of SendEach: something is said again.
-/
namespace Go.Proofs.Ytficfkeifcnbmab.ab
set_option linter.unusedVariables false
set_option linter.unusedSimpArgs false
open Go Go.RowKit
open mth

set_option maxHeartbeats 4000000 in
theorem se_again (hS : CSayS 6) (s : Sd) (many j : Nat) (hlt : j < many) (hm : many ≤ 40) (hs : GoodS s) (K R : St → Prop) (c : Ch) (hc : c ∈ s.flight) (he : sayL s = ({ s with turn := againK s + 1 }, c, true)) (hnx : K (seSt (sayL s).1 many (j + 1))) : w5_SendEach_l4a (seSt s many j) (thn K (blk 0 (thn R (fin [(6, none)] [vB true])))) := by
  have g1 : (j : Int) < (many : Int) := by omega
  have g4 : inR .i64 ((j : Int) + 1) = true := inR_of (by omega)
  have hT := hS s hs
  obtain ⟨hk, hw, hlt2⟩ := hs.c c hc
  have hany : (s.flight.any fun x => sameC x c) = true := List.any_eq_true.2 ⟨c, hc, sameC_refl c⟩
  have hW := wrong_told c (by rw [hs.early c hc]; simp)
  rw [hw] at hW
  rw [he] at hT hnx
  have n1 : (c.number == s.next) = false := by simp; omega
  have hfl := hs.f
  have f1 : ¬ 4 < (s.flight.length : Int) := by omega
  have hin := se_in s { s with turn := againK s + 1 } c many j hs
  simp only [seSt, seIn, seOut, encSd, encCh, Int.natCast_add, Int.cast_ofNat_Int] at hT hnx hin hW ⊢
  rw [hany] at hin
  repeat (first | refine aw_seq ?_ | refine aw_block ?_ | with_reducible refine aw_ret ?_ | with_reducible refine aw_skip ?_ | with_reducible refine aw_exit ?_ | refine thn_normal ?_ | refine thn_out ?_ | refine blk_normal ?_ | refine blk_ret ?_ | refine blk_exit ?_ | ((first | refine aw_regO ?_ | refine aw_regDO ?_ | refine aw_condO ?_ | refine fin_retO ?_); (conv => (arg 1; simp (maxSteps := 30000) only [ev0, ev1, ev2, look, lookF, cellsFrom, offT, offP, List.tail_nil, List.length_nil, Int.cast_ofNat_Int, Nat.reduceEqDiff, Nat.reduceAdd, Nat.reduceMul, Nat.reduceLeDiff, Nat.reduceLT, ↓reduceIte, reduceCtorEq, Int.reduceBEq, Int.reduceBNe, Int.reduceLT, Int.reduceLE, Int.reduceToNat, g1])); (first | with_reducible refine on_yes ?_ | with_reducible refine on_no ?_ | with_reducible refine on_reg ?_ | (with_reducible refine on_regD (by decide +kernel) ?_) | with_reducible refine on_fin ?_)))
  refine aw_reg [[aD [sD 2 (encMl s.queue), vI s.next, vI s.p0, vI s.p1, vI s.p2, sD 6 (encCl s.flight), vI (againK s + 1)], aD [vI c.kind, vI c.number, vI c.stream, vI c.place, sD 1 (c.data.map encB), sD 1 (c.early.map vI)], vB true]] (by simp only [ev0, ev1, ev2, look, lookF, cellsFrom, offT, offP, List.tail_nil, List.length_nil, Int.cast_ofNat_Int, Nat.reduceEqDiff, Nat.reduceAdd, Nat.reduceMul, Nat.reduceLeDiff, Nat.reduceLT, ↓reduceIte, reduceCtorEq, Int.reduceBEq, Int.reduceBNe, Int.reduceLT, Int.reduceLE, Int.reduceToNat]; first | rfl | exact ⟨rfl, rfl⟩) ?_ ?_
  · exact obl_cons hT obl_nil
  repeat (first | refine aw_seq ?_ | refine aw_block ?_ | with_reducible refine aw_ret ?_ | with_reducible refine aw_skip ?_ | with_reducible refine aw_exit ?_ | refine thn_normal ?_ | refine thn_out ?_ | refine blk_normal ?_ | refine blk_ret ?_ | refine blk_exit ?_ | ((first | refine aw_regO ?_ | refine aw_regDO ?_ | refine aw_condO ?_ | refine fin_retO ?_); (conv => (arg 1; simp (maxSteps := 30000) only [ev0, ev1, ev2, look, lookF, cellsFrom, offT, offP, List.tail_nil, List.length_nil, Int.cast_ofNat_Int, Nat.reduceEqDiff, Nat.reduceAdd, Nat.reduceMul, Nat.reduceLeDiff, Nat.reduceLT, ↓reduceIte, reduceCtorEq, Int.reduceBEq, Int.reduceBNe, Int.reduceLT, Int.reduceLE, Int.reduceToNat, n1, len_cl])); (first | with_reducible refine on_yes ?_ | with_reducible refine on_no ?_ | with_reducible refine on_reg ?_ | (with_reducible refine on_regD (by decide +kernel) ?_) | with_reducible refine on_fin ?_)))
  refine hin _ ?_
  refine thn_normal ?_
  repeat (first | refine aw_seq ?_ | refine aw_block ?_ | with_reducible refine aw_ret ?_ | with_reducible refine aw_skip ?_ | with_reducible refine aw_exit ?_ | refine thn_normal ?_ | refine thn_out ?_ | refine blk_normal ?_ | refine blk_ret ?_ | refine blk_exit ?_ | ((first | refine aw_regO ?_ | refine aw_regDO ?_ | refine aw_condO ?_ | refine fin_retO ?_); (conv => (arg 1; simp (maxSteps := 30000) only [ev0, ev1, ev2, look, lookF, cellsFrom, offT, offP, List.tail_nil, List.length_nil, Int.cast_ofNat_Int, Nat.reduceEqDiff, Nat.reduceAdd, Nat.reduceMul, Nat.reduceLeDiff, Nat.reduceLT, ↓reduceIte, reduceCtorEq, Int.reduceBEq, Int.reduceBNe, Int.reduceLT, Int.reduceLE, Int.reduceToNat, bne_self_eq_false, len_cl])); (first | with_reducible refine on_yes ?_ | with_reducible refine on_no ?_ | with_reducible refine on_reg ?_ | (with_reducible refine on_regD (by decide +kernel) ?_) | with_reducible refine on_fin ?_)))
  refine aw_reg [[vI 0]] (by simp only [ev0, ev1, ev2, look, lookF, cellsFrom, offT, offP, List.tail_nil, List.length_nil, Int.cast_ofNat_Int, Nat.reduceEqDiff, Nat.reduceAdd, Nat.reduceMul, Nat.reduceLeDiff, Nat.reduceLT, ↓reduceIte, reduceCtorEq, Int.reduceBEq, Int.reduceBNe, Int.reduceLT, Int.reduceLE, Int.reduceToNat, f1, len_cl]; first | rfl | exact ⟨rfl, rfl⟩) ?_ ?_
  · exact obl_cons hW obl_nil
  repeat (first | refine aw_seq ?_ | refine aw_block ?_ | with_reducible refine aw_ret ?_ | with_reducible refine aw_skip ?_ | with_reducible refine aw_exit ?_ | refine thn_normal ?_ | refine thn_out ?_ | refine blk_normal ?_ | refine blk_ret ?_ | refine blk_exit ?_ | ((first | refine aw_regO ?_ | refine aw_regDO ?_ | refine aw_condO ?_ | refine fin_retO ?_); (conv => (arg 1; simp (maxSteps := 30000) only [ev0, ev1, ev2, look, lookF, cellsFrom, offT, offP, List.tail_nil, List.length_nil, Int.cast_ofNat_Int, Nat.reduceEqDiff, Nat.reduceAdd, Nat.reduceMul, Nat.reduceLeDiff, Nat.reduceLT, ↓reduceIte, reduceCtorEq, Int.reduceBEq, Int.reduceBNe, Int.reduceLT, Int.reduceLE, Int.reduceToNat, g4])); (first | with_reducible refine on_yes ?_ | with_reducible refine on_no ?_ | with_reducible refine on_reg ?_ | (with_reducible refine on_regD (by decide +kernel) ?_) | with_reducible refine on_fin ?_)))
  exact hnx
end Go.Proofs.Ytficfkeifcnbmab.ab

/-
  A drawn region, one operation after another.
-/
namespace Go.Proofs.Ytficfkeifcnbmab.ab
open Go Go.RowKit

/-- What is left of a region; `fs` is what the operations behind have looked at. -/
def goD (fs : List Foot) (ops : List IOp) (anc : List (List Nat)) (lv lb : List Nat) (st : St) (K : St → Prop) : Prop := ∃ st' fs' st'', evalD ops [] st = some (st', fs', []) ∧ st'.keep lv lb = some st'' ∧ pairsOk anc (fs ++ fs') = true ∧ K st''
/-- An operation, reckoned out first. -/
def onS (x : Option (Ev × Option (Nat × List D × List D))) (K : Ev → Prop) : Prop := ∃ ev, x = some (ev, none) ∧ K ev
/-- A state and what was looked at, reckoned out first. -/
def onE (x : St) (f : Foot) (K : St → Foot → Prop) : Prop := K x f
def onK (x : Option St) (K : St → Prop) : Prop := ∃ st, x = some st ∧ K st

section
variable {P : Program} {st st' : St} {Q : AX → St → Prop} {K : St → Prop} {ops : List IOp} {anc : List (List Nat)} {lv lb : List Nat} {fs : List Foot}
theorem aw_one (h : goD [] ops anc lv lb st (Q none)) : cRegD P ops anc lv lb st Q := by
  obtain ⟨st1, fs1, st2, h1, h2, h3, h4⟩ := h
  refine ⟨[], st2, [], ?_, trivial, h4⟩
  rw [List.nil_append] at h3
  simp only [evalRD, h1, h2, h3]
theorem go_op {o : IOp} (h : onS (stepI o st []) fun ev => onE (st.app ev) ev.fp fun st' f => goD (fs ++ [f]) ops anc lv lb st' K) : goD fs (o :: ops) anc lv lb st K := by
  obtain ⟨ev, he, st1, fs1, st2, h1, h2, h3, h4⟩ := h
  refine ⟨st1, ev.fp :: fs1, st2, ?_, h2, ?_, h4⟩
  · simp only [evalD, List.headD_nil, he, h1]
  · rw [List.append_assoc] at h3
    exact h3
theorem go_end (hp : pairsOk anc fs = true) (h : onK (st.keep lv lb) K) : goD fs [] anc lv lb st K := by
  obtain ⟨st2, h2, h4⟩ := h
  exact ⟨st, [], st2, rfl, h2, by rw [List.append_nil]; exact hp, h4⟩
theorem on_s {ev : Ev} {K : Ev → Prop} (h : K ev) : onS (some (ev, none)) K := ⟨ev, rfl, h⟩
theorem on_e {f : Foot} {K : St → Foot → Prop} (h : K st f) : onE st f K := h
theorem on_k (h : K st) : onK (some st) K := ⟨st, rfl, h⟩
end
end Go.Proofs.Ytficfkeifcnbmab.ab
