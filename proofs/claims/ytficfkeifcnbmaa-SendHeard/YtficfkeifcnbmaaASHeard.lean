/-
  What the statement SendHeard tells: true, out of what the functions of package send tell.
-/
import Derived.Test.YtficfkeifcnbmaaM39
import Derived.Test.YtficfkeifcnbmaaM39
import Derived.Test.YtficfkeifcnbmaaIrLaw5H
namespace Go.Proofs.Ytficfkeifcnbmaa.ab
set_option linter.unusedVariables false
set_option linter.unusedSimpArgs false
open Go Go.RowKit
open mth

/-- At the heads of the loops. -/
def shSt (c : Ch) (x : Sd) (first many : Int) (j : Nat) : St :=
  ⟨[(6, pD 6 0), (10, pD 10 0), (11, vI first), (78, vI many), (79, vI j)], [(6, encCh c), (10, encSd x)], []⟩
def shIn (c : Ch) (x y : Sd) (d : Ch) (first many j : Int) (b : Bool) (i : Int) : St :=
  ⟨[(6, pD 6 0), (10, pD 10 0), (11, vI first), (12, pD 12 0), (13, pD 13 0), (15, vB b), (78, vI many), (79, vI j), (95, sD 1 (c.early.map vI)), (96, vI c.early.length), (97, vI i)], [(6, encCh c), (10, encSd x), (12, encSd y), (13, encCh d)], []⟩
def shOut (c : Ch) (x y : Sd) (d : Ch) (first many j : Int) (b : Bool) (i : Int) : St :=
  ⟨[(6, pD 6 0), (10, pD 10 0), (11, vI first), (12, pD 12 0), (13, pD 13 0), (15, vB b), (78, vI many), (79, vI j), (95, sD 1 (c.early.map vI)), (96, vI c.early.length), (97, vI i), (98, vB false)], [(6, encCh c), (10, encSd x), (12, encSd y), (13, encCh d)], []⟩
set_option maxHeartbeats 2000000 in
theorem sh_in (c : Ch) (x y : Sd) (d : Ch) (first many jj : Int) (b : Bool) (he : c.early.length ≤ 9223372036854775807) (Q : AX → St → Prop)
    (hQ : Q none (shOut c x y d first many jj (b || c.early.contains d.number) c.early.length)) : w5_SendHeard_b9 (shIn c x y d first many jj b 0) Q := by
  refine aw_block ?_
  refine aw_loop (fun m st => ∃ j : Nat, j ≤ c.early.length ∧ m = c.early.length - j ∧ st = shIn c x y d first many jj (b || (c.early.take j).contains d.number) j) c.early.length _ (Le.refl _) ⟨0, by omega, by omega, by simp⟩ ?_
  rintro m st ⟨j, hj, hm, rfl⟩
  by_cases hlt : j < c.early.length
  · obtain ⟨n, hn⟩ : ∃ m, c.early[j]? = some m := ⟨c.early[j], List.getElem?_eq_getElem hlt⟩
    have g1 : (j : Int) < (c.early.length : Int) := by omega
    have g2 : (0 : Int) ≤ (j : Int) := by omega
    have g3 := at_il hn
    have g4 : inR .i64 ((j : Int) + 1) = true := inR_of (by omega)
    have hc := take_has (n := d.number) hn
    have hnx : ∀ b', b' = ((b || (c.early.take j).contains d.number) || (n == d.number)) → Next (fun m st => ∃ j : Nat, j ≤ c.early.length ∧ m = c.early.length - j ∧ st = shIn c x y d first many jj (b || (c.early.take j).contains d.number) j) m (shIn c x y d first many jj b' ((j : Int) + 1)) := by
      rintro b' rfl
      exact ⟨c.early.length - (j + 1), _, by omega, Le.refl _, j + 1, by omega, rfl, by rw [hc, Bool.or_assoc, Int.natCast_add, Int.cast_ofNat_Int]⟩
    generalize (fun m st => ∃ j : Nat, j ≤ c.early.length ∧ m = c.early.length - j ∧ st = shIn c x y d first many jj (b || (c.early.take j).contains d.number) j) = J at *
    generalize (b || (c.early.take j).contains d.number) = q at *
    simp only [shIn, encSd, encCh] at hnx ⊢
    cases q with
    | true =>
      repeat (first | refine aw_seq ?_ | refine aw_block ?_ | with_reducible refine aw_ret ?_ | with_reducible refine aw_skip ?_ | with_reducible refine aw_exit ?_ | refine thn_normal ?_ | refine thn_out ?_ | refine blk_normal ?_ | refine blk_ret ?_ | refine blk_exit ?_ | ((first | refine aw_regO ?_ | refine aw_regDO ?_ | refine aw_condO ?_ | refine fin_retO ?_); (conv => (arg 1; simp (maxSteps := 30000) only [ev0, ev1, ev2, look, lookF, cellsFrom, offT, offP, List.tail_nil, List.length_nil, Int.cast_ofNat_Int, Nat.reduceEqDiff, Nat.reduceAdd, Nat.reduceMul, Nat.reduceLeDiff, Nat.reduceLT, ↓reduceIte, reduceCtorEq, Int.reduceBEq, Int.reduceBNe, Int.reduceLT, Int.reduceLE, Int.reduceToNat, g1, g2, g3, g4])); (first | with_reducible refine on_yes ?_ | with_reducible refine on_no ?_ | with_reducible refine on_reg ?_ | (with_reducible refine on_regD (by decide +kernel) ?_) | with_reducible refine on_fin ?_)))
      exact hnx _ rfl
    | false =>
      repeat (first | refine aw_seq ?_ | refine aw_block ?_ | with_reducible refine aw_ret ?_ | with_reducible refine aw_skip ?_ | with_reducible refine aw_exit ?_ | refine thn_normal ?_ | refine thn_out ?_ | refine blk_normal ?_ | refine blk_ret ?_ | refine blk_exit ?_ | ((first | refine aw_regO ?_ | refine aw_regDO ?_ | refine aw_condO ?_ | refine fin_retO ?_); (conv => (arg 1; simp (maxSteps := 30000) only [ev0, ev1, ev2, look, lookF, cellsFrom, offT, offP, List.tail_nil, List.length_nil, Int.cast_ofNat_Int, Nat.reduceEqDiff, Nat.reduceAdd, Nat.reduceMul, Nat.reduceLeDiff, Nat.reduceLT, ↓reduceIte, reduceCtorEq, Int.reduceBEq, Int.reduceBNe, Int.reduceLT, Int.reduceLE, Int.reduceToNat, g1, g2, g3, g4])); (first | with_reducible refine on_yes ?_ | with_reducible refine on_no ?_ | with_reducible refine on_reg ?_ | (with_reducible refine on_regD (by decide +kernel) ?_) | with_reducible refine on_fin ?_)))
      exact hnx _ rfl
  · have hj' : j = c.early.length := by omega
    subst hj'
    have g1 : ¬ (c.early.length : Int) < (c.early.length : Int) := by omega
    rw [List.take_length]
    simp only [shIn, shOut, encSd, encCh] at hQ ⊢
    repeat (first | refine aw_seq ?_ | refine aw_block ?_ | with_reducible refine aw_ret ?_ | with_reducible refine aw_skip ?_ | with_reducible refine aw_exit ?_ | refine thn_normal ?_ | refine thn_out ?_ | refine blk_normal ?_ | refine blk_ret ?_ | refine blk_exit ?_ | ((first | refine aw_regO ?_ | refine aw_regDO ?_ | refine aw_condO ?_ | refine fin_retO ?_); (conv => (arg 1; simp (maxSteps := 30000) only [ev0, ev1, ev2, look, lookF, cellsFrom, offT, offP, List.tail_nil, List.length_nil, Int.cast_ofNat_Int, Nat.reduceEqDiff, Nat.reduceAdd, Nat.reduceMul, Nat.reduceLeDiff, Nat.reduceLT, ↓reduceIte, reduceCtorEq, Int.reduceBEq, Int.reduceBNe, Int.reduceLT, Int.reduceLE, Int.reduceToNat, g1])); (first | with_reducible refine on_yes ?_ | with_reducible refine on_no ?_ | with_reducible refine on_reg ?_ | (with_reducible refine on_regD (by decide +kernel) ?_) | with_reducible refine on_fin ?_)))
    exact hQ
theorem sh_next {c : Ch} {x : Sd} {first : Int} {many j n : Nat} (hlt : j < many) (hn : n = many - j) (hx : Heard c first x) :
    Next (fun n st => ∃ (j : Nat) (x : Sd), j ≤ many ∧ n = many - j ∧ Heard c first x ∧ st = shSt c x first many j) n (shSt c (sayL x).1 first many (j + 1)) :=
  ⟨many - (j + 1), _, by omega, Le.refl _, j + 1, (sayL x).1, by omega, rfl, hx.say, rfl⟩
set_option maxHeartbeats 4000000 in
theorem sh_loop (hS : CSayS 45) (c : Ch) (s : Sd) (first : Int) (many : Nat) (hm : many ≤ 40) (hs : Heard c first s) (he : c.early.length ≤ 9223372036854775807) : w5_SendHeard_b4 (shSt c s first many 0) (thn (fun st' => cSeq w5_SendHeard_r25 cRet st' (fin [(8, none)] [vB true])) (fin [(8, none)] [vB true])) := by
  refine aw_block ?_
  refine aw_loop (fun n st => ∃ (j : Nat) (x : Sd), j ≤ many ∧ n = many - j ∧ Heard c first x ∧ st = shSt c x first many j) many (shSt c s first many 0) (Le.refl _) ⟨0, s, by omega, by omega, hs, rfl⟩ ?_
  rintro n st ⟨j, x, hj, hn, hx, rfl⟩
  by_cases hlt : j < many
  · have g1 : (j : Int) < (many : Int) := by omega
    have g4 : inR .i64 ((j : Int) + 1) = true := inR_of (by omega)
    have hT := hS x hx.g
    have hnx := sh_next (c := c) hlt hn hx
    have hsd := hx.said
    generalize (fun n st => ∃ (j : Nat) (x : Sd), j ≤ many ∧ n = many - j ∧ Heard c first x ∧ st = shSt c x first many j) = J at *
    generalize (sayL x).1 = y at *
    generalize (sayL x).2.1 = d at *
    generalize (sayL x).2.2 = ok at *
    simp only [shSt, encSd, encCh, Int.natCast_add, Int.cast_ofNat_Int] at hT hnx ⊢
    repeat (first | refine aw_seq ?_ | refine aw_block ?_ | with_reducible refine aw_ret ?_ | with_reducible refine aw_skip ?_ | with_reducible refine aw_exit ?_ | refine thn_normal ?_ | refine thn_out ?_ | refine blk_normal ?_ | refine blk_ret ?_ | refine blk_exit ?_ | ((first | refine aw_regO ?_ | refine aw_regDO ?_ | refine aw_condO ?_ | refine fin_retO ?_); (conv => (arg 1; simp (maxSteps := 30000) only [ev0, ev1, ev2, look, lookF, cellsFrom, offT, offP, List.tail_nil, List.length_nil, Int.cast_ofNat_Int, Nat.reduceEqDiff, Nat.reduceAdd, Nat.reduceMul, Nat.reduceLeDiff, Nat.reduceLT, ↓reduceIte, reduceCtorEq, Int.reduceBEq, Int.reduceBNe, Int.reduceLT, Int.reduceLE, Int.reduceToNat, g1])); (first | with_reducible refine on_yes ?_ | with_reducible refine on_no ?_ | with_reducible refine on_reg ?_ | (with_reducible refine on_regD (by decide +kernel) ?_) | with_reducible refine on_fin ?_)))
    refine aw_reg [[aD (encSd y), aD (encCh d), vB ok]] (by simp only [ev0, ev1, ev2, look, lookF, cellsFrom, offT, offP, List.tail_nil, List.length_nil, Int.cast_ofNat_Int, Nat.reduceEqDiff, Nat.reduceAdd, Nat.reduceMul, Nat.reduceLeDiff, Nat.reduceLT, ↓reduceIte, reduceCtorEq, Int.reduceBEq, Int.reduceBNe, Int.reduceLT, Int.reduceLE, Int.reduceToNat, encSd, encCh]; first | rfl | exact ⟨rfl, rfl⟩) ?_ ?_
    · exact obl_cons hT obl_nil
    cases ok with
    | false =>
      repeat (first | refine aw_seq ?_ | refine aw_block ?_ | with_reducible refine aw_ret ?_ | with_reducible refine aw_skip ?_ | with_reducible refine aw_exit ?_ | refine thn_normal ?_ | refine thn_out ?_ | refine blk_normal ?_ | refine blk_ret ?_ | refine blk_exit ?_ | ((first | refine aw_regO ?_ | refine aw_regDO ?_ | refine aw_condO ?_ | refine fin_retO ?_); (conv => (arg 1; simp (maxSteps := 30000) only [ev0, ev1, ev2, look, lookF, cellsFrom, offT, offP, List.tail_nil, List.length_nil, Int.cast_ofNat_Int, Nat.reduceEqDiff, Nat.reduceAdd, Nat.reduceMul, Nat.reduceLeDiff, Nat.reduceLT, ↓reduceIte, reduceCtorEq, Int.reduceBEq, Int.reduceBNe, Int.reduceLT, Int.reduceLE, Int.reduceToNat])); (first | with_reducible refine on_yes ?_ | with_reducible refine on_no ?_ | with_reducible refine on_reg ?_ | (with_reducible refine on_regD (by decide +kernel) ?_) | with_reducible refine on_fin ?_)))
      exact ValsLe.refl _
    | true =>
      repeat (first | refine aw_seq ?_ | refine aw_block ?_ | with_reducible refine aw_ret ?_ | with_reducible refine aw_skip ?_ | with_reducible refine aw_exit ?_ | refine thn_normal ?_ | refine thn_out ?_ | refine blk_normal ?_ | refine blk_ret ?_ | refine blk_exit ?_ | ((first | refine aw_regO ?_ | refine aw_regDO ?_ | refine aw_condO ?_ | refine fin_retO ?_); (conv => (arg 1; simp (maxSteps := 30000) only [ev0, ev1, ev2, look, lookF, cellsFrom, offT, offP, List.tail_nil, List.length_nil, Int.cast_ofNat_Int, Nat.reduceEqDiff, Nat.reduceAdd, Nat.reduceMul, Nat.reduceLeDiff, Nat.reduceLT, ↓reduceIte, reduceCtorEq, Int.reduceBEq, Int.reduceBNe, Int.reduceLT, Int.reduceLE, Int.reduceToNat, List.length_map])); (first | with_reducible refine on_yes ?_ | with_reducible refine on_no ?_ | with_reducible refine on_reg ?_ | (with_reducible refine on_regD (by decide +kernel) ?_) | with_reducible refine on_fin ?_)))
      have hin := sh_in c x y d first many j (decide (d.number < c.number)) he
      simp only [shIn, shOut, encSd, encCh] at hin
      refine hin _ ?_
      refine thn_normal ?_
      cases hb : (decide (d.number < c.number) || c.early.contains d.number) with
      | false =>
        repeat (first | refine aw_seq ?_ | refine aw_block ?_ | with_reducible refine aw_ret ?_ | with_reducible refine aw_skip ?_ | with_reducible refine aw_exit ?_ | refine thn_normal ?_ | refine thn_out ?_ | refine blk_normal ?_ | refine blk_ret ?_ | refine blk_exit ?_ | ((first | refine aw_regO ?_ | refine aw_regDO ?_ | refine aw_condO ?_ | refine fin_retO ?_); (conv => (arg 1; simp (maxSteps := 30000) only [ev0, ev1, ev2, look, lookF, cellsFrom, offT, offP, List.tail_nil, List.length_nil, Int.cast_ofNat_Int, Nat.reduceEqDiff, Nat.reduceAdd, Nat.reduceMul, Nat.reduceLeDiff, Nat.reduceLT, ↓reduceIte, reduceCtorEq, Int.reduceBEq, Int.reduceBNe, Int.reduceLT, Int.reduceLE, Int.reduceToNat, g4])); (first | with_reducible refine on_yes ?_ | with_reducible refine on_no ?_ | with_reducible refine on_reg ?_ | (with_reducible refine on_regD (by decide +kernel) ?_) | with_reducible refine on_fin ?_)))
        exact hnx
      | true =>
        have hge : ¬ d.number < first := fun h => by
          have h1 := hsd rfl h
          have h2 : cameL c d.number = true := hb
          rw [h1] at h2; cases h2
        repeat (first | refine aw_seq ?_ | refine aw_block ?_ | with_reducible refine aw_ret ?_ | with_reducible refine aw_skip ?_ | with_reducible refine aw_exit ?_ | refine thn_normal ?_ | refine thn_out ?_ | refine blk_normal ?_ | refine blk_ret ?_ | refine blk_exit ?_ | ((first | refine aw_regO ?_ | refine aw_regDO ?_ | refine aw_condO ?_ | refine fin_retO ?_); (conv => (arg 1; simp (maxSteps := 30000) only [ev0, ev1, ev2, look, lookF, cellsFrom, offT, offP, List.tail_nil, List.length_nil, Int.cast_ofNat_Int, Nat.reduceEqDiff, Nat.reduceAdd, Nat.reduceMul, Nat.reduceLeDiff, Nat.reduceLT, ↓reduceIte, reduceCtorEq, Int.reduceBEq, Int.reduceBNe, Int.reduceLT, Int.reduceLE, Int.reduceToNat, hge, g4])); (first | with_reducible refine on_yes ?_ | with_reducible refine on_no ?_ | with_reducible refine on_reg ?_ | (with_reducible refine on_regD (by decide +kernel) ?_) | with_reducible refine on_fin ?_)))
        exact hnx
  · have hj' : j = many := by omega
    subst hj'
    have g1 : ¬ (j : Int) < (j : Int) := by omega
    simp only [shSt, encSd, encCh]
    repeat (first | refine aw_seq ?_ | refine aw_block ?_ | with_reducible refine aw_ret ?_ | with_reducible refine aw_skip ?_ | with_reducible refine aw_exit ?_ | refine thn_normal ?_ | refine thn_out ?_ | refine blk_normal ?_ | refine blk_ret ?_ | refine blk_exit ?_ | ((first | refine aw_regO ?_ | refine aw_regDO ?_ | refine aw_condO ?_ | refine fin_retO ?_); (conv => (arg 1; simp (maxSteps := 30000) only [ev0, ev1, ev2, look, lookF, cellsFrom, offT, offP, List.tail_nil, List.length_nil, Int.cast_ofNat_Int, Nat.reduceEqDiff, Nat.reduceAdd, Nat.reduceMul, Nat.reduceLeDiff, Nat.reduceLT, ↓reduceIte, reduceCtorEq, Int.reduceBEq, Int.reduceBNe, Int.reduceLT, Int.reduceLE, Int.reduceToNat, g1])); (first | with_reducible refine on_yes ?_ | with_reducible refine on_no ?_ | with_reducible refine on_reg ?_ | (with_reducible refine on_regD (by decide +kernel) ?_) | with_reducible refine on_fin ?_)))
    exact ValsLe.refl _
end Go.Proofs.Ytficfkeifcnbmaa.ab
