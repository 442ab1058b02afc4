/-
  What the answer's Wrong tells.
-/
import Derived.Test.YtnncmddmjpocfabARef2
namespace Go.Proofs.Ytnncmddmjpocfab.ab
set_option linter.unusedVariables false
set_option linter.unusedSimpArgs false
open Go Go.RowKit
open mth

theorem ne_f {n : Nat} (h : n = 0) : ((n : Int) != 0) = false := by subst h; rfl
theorem ne_t {n : Nat} (h : n ≠ 0) : ((n : Int) != 0) = true := by
  have : ¬ (n : Int) = 0 := by omega
  simpa using this
def wrSt (l : List Int) (last : Int) (k : Nat) : St := ⟨[(3, vI last), (71, sD 1 (l.map vI)), (72, vI l.length), (73, vI k)], [], []⟩
set_option maxHeartbeats 4000000 in
theorem wrong_told (c : Ch) (hl : c.early.length ≤ 9223372036854775807) : Told Try.prog 16 [aD (encCh c)] [vI (wrongL c)] := by
  refine told_r1_Wrong rfl ?_
  simp only [encCh]
  by_cases hk : c.kind = 1
  · have k1 : (c.kind != 1) = false := by simpa using hk
    have k2 : (c.kind == 1) = true := by simpa using hk
    by_cases hn : c.number < 0 ∨ 40 < c.number
    · have hw : wrongL c = 3 := by unfold wrongL; rw [if_neg (by omega), if_pos hn]
      rw [hw]
      by_cases n1 : c.number < 0
      · repeat (first | refine aw_seq ?_ | refine aw_block ?_ | with_reducible refine aw_ret ?_ | with_reducible refine aw_skip ?_ | with_reducible refine aw_exit ?_ | refine thn_normal ?_ | refine thn_out ?_ | refine blk_normal ?_ | refine blk_ret ?_ | refine blk_exit ?_ | ((first | refine aw_regO ?_ | refine aw_regDO ?_ | refine aw_condO ?_ | refine fin_retO ?_); (conv => (arg 1; simp (maxSteps := 30000) only [ev0, ev1, ev2, look, lookF, cellsFrom, offT, offP, List.tail_nil, List.length_nil, Int.cast_ofNat_Int, Nat.reduceEqDiff, Nat.reduceAdd, Nat.reduceMul, Nat.reduceLeDiff, Nat.reduceLT, ↓reduceIte, reduceCtorEq, Int.reduceBEq, Int.reduceBNe, Int.reduceLT, Int.reduceLE, Int.reduceToNat, k1, n1])); (first | with_reducible refine on_yes ?_ | with_reducible refine on_no ?_ | with_reducible refine on_reg ?_ | (with_reducible refine on_regD (by decide +kernel) ?_) | with_reducible refine on_fin ?_)))
        exact ValsLe.refl _
      · have n2 : 40 < c.number := by omega
        repeat (first | refine aw_seq ?_ | refine aw_block ?_ | with_reducible refine aw_ret ?_ | with_reducible refine aw_skip ?_ | with_reducible refine aw_exit ?_ | refine thn_normal ?_ | refine thn_out ?_ | refine blk_normal ?_ | refine blk_ret ?_ | refine blk_exit ?_ | ((first | refine aw_regO ?_ | refine aw_regDO ?_ | refine aw_condO ?_ | refine fin_retO ?_); (conv => (arg 1; simp (maxSteps := 30000) only [ev0, ev1, ev2, look, lookF, cellsFrom, offT, offP, List.tail_nil, List.length_nil, Int.cast_ofNat_Int, Nat.reduceEqDiff, Nat.reduceAdd, Nat.reduceMul, Nat.reduceLeDiff, Nat.reduceLT, ↓reduceIte, reduceCtorEq, Int.reduceBEq, Int.reduceBNe, Int.reduceLT, Int.reduceLE, Int.reduceToNat, k1, n1, n2])); (first | with_reducible refine on_yes ?_ | with_reducible refine on_no ?_ | with_reducible refine on_reg ?_ | (with_reducible refine on_regD (by decide +kernel) ?_) | with_reducible refine on_fin ?_)))
        exact ValsLe.refl _
    · have n1 : ¬ c.number < 0 := by omega
      have n2 : ¬ 40 < c.number := by omega
      by_cases hp : 39 < c.number ∨ c.place < 0 ∨ c.number < c.place
      · have hw : wrongL c = 3 := by unfold wrongL; rw [if_neg (by omega), if_neg hn, if_pos hk, if_pos hp]
        rw [hw]
        by_cases p1 : 39 < c.number
        · repeat (first | refine aw_seq ?_ | refine aw_block ?_ | with_reducible refine aw_ret ?_ | with_reducible refine aw_skip ?_ | with_reducible refine aw_exit ?_ | refine thn_normal ?_ | refine thn_out ?_ | refine blk_normal ?_ | refine blk_ret ?_ | refine blk_exit ?_ | ((first | refine aw_regO ?_ | refine aw_regDO ?_ | refine aw_condO ?_ | refine fin_retO ?_); (conv => (arg 1; simp (maxSteps := 30000) only [ev0, ev1, ev2, look, lookF, cellsFrom, offT, offP, List.tail_nil, List.length_nil, Int.cast_ofNat_Int, Nat.reduceEqDiff, Nat.reduceAdd, Nat.reduceMul, Nat.reduceLeDiff, Nat.reduceLT, ↓reduceIte, reduceCtorEq, Int.reduceBEq, Int.reduceBNe, Int.reduceLT, Int.reduceLE, Int.reduceToNat, k1, k2, n1, n2, p1])); (first | with_reducible refine on_yes ?_ | with_reducible refine on_no ?_ | with_reducible refine on_reg ?_ | (with_reducible refine on_regD (by decide +kernel) ?_) | with_reducible refine on_fin ?_)))
          exact ValsLe.refl _
        · by_cases p2 : c.place < 0
          · repeat (first | refine aw_seq ?_ | refine aw_block ?_ | with_reducible refine aw_ret ?_ | with_reducible refine aw_skip ?_ | with_reducible refine aw_exit ?_ | refine thn_normal ?_ | refine thn_out ?_ | refine blk_normal ?_ | refine blk_ret ?_ | refine blk_exit ?_ | ((first | refine aw_regO ?_ | refine aw_regDO ?_ | refine aw_condO ?_ | refine fin_retO ?_); (conv => (arg 1; simp (maxSteps := 30000) only [ev0, ev1, ev2, look, lookF, cellsFrom, offT, offP, List.tail_nil, List.length_nil, Int.cast_ofNat_Int, Nat.reduceEqDiff, Nat.reduceAdd, Nat.reduceMul, Nat.reduceLeDiff, Nat.reduceLT, ↓reduceIte, reduceCtorEq, Int.reduceBEq, Int.reduceBNe, Int.reduceLT, Int.reduceLE, Int.reduceToNat, k1, k2, n1, n2, p1, p2])); (first | with_reducible refine on_yes ?_ | with_reducible refine on_no ?_ | with_reducible refine on_reg ?_ | (with_reducible refine on_regD (by decide +kernel) ?_) | with_reducible refine on_fin ?_)))
            exact ValsLe.refl _
          · have p3 : c.number < c.place := by omega
            repeat (first | refine aw_seq ?_ | refine aw_block ?_ | with_reducible refine aw_ret ?_ | with_reducible refine aw_skip ?_ | with_reducible refine aw_exit ?_ | refine thn_normal ?_ | refine thn_out ?_ | refine blk_normal ?_ | refine blk_ret ?_ | refine blk_exit ?_ | ((first | refine aw_regO ?_ | refine aw_regDO ?_ | refine aw_condO ?_ | refine fin_retO ?_); (conv => (arg 1; simp (maxSteps := 30000) only [ev0, ev1, ev2, look, lookF, cellsFrom, offT, offP, List.tail_nil, List.length_nil, Int.cast_ofNat_Int, Nat.reduceEqDiff, Nat.reduceAdd, Nat.reduceMul, Nat.reduceLeDiff, Nat.reduceLT, ↓reduceIte, reduceCtorEq, Int.reduceBEq, Int.reduceBNe, Int.reduceLT, Int.reduceLE, Int.reduceToNat, k1, k2, n1, n2, p1, p2, p3])); (first | with_reducible refine on_yes ?_ | with_reducible refine on_no ?_ | with_reducible refine on_reg ?_ | (with_reducible refine on_regD (by decide +kernel) ?_) | with_reducible refine on_fin ?_)))
            exact ValsLe.refl _
      · have p1 : ¬ 39 < c.number := by omega
        have p2 : ¬ c.place < 0 := by omega
        have p3 : ¬ c.number < c.place := by omega
        by_cases he : c.early.length = 0
        · have e1 : ((c.early.length : Int) != 0) = false := ne_f (by omega)
          have hw : wrongL c = wrongMsgL c.stream c.data := by unfold wrongL; rw [if_neg (by omega), if_neg hn, if_pos hk, if_neg hp, if_neg (by omega)]
          rw [hw]
          have hm := wrongMsg_told ⟨c.stream, c.data⟩
          simp only [encMs] at hm
          repeat (first | refine aw_seq ?_ | refine aw_block ?_ | with_reducible refine aw_ret ?_ | with_reducible refine aw_skip ?_ | with_reducible refine aw_exit ?_ | refine thn_normal ?_ | refine thn_out ?_ | refine blk_normal ?_ | refine blk_ret ?_ | refine blk_exit ?_ | ((first | refine aw_regO ?_ | refine aw_regDO ?_ | refine aw_condO ?_ | refine fin_retO ?_); (conv => (arg 1; simp (maxSteps := 30000) only [ev0, ev1, ev2, look, lookF, cellsFrom, offT, offP, List.tail_nil, List.length_nil, Int.cast_ofNat_Int, Nat.reduceEqDiff, Nat.reduceAdd, Nat.reduceMul, Nat.reduceLeDiff, Nat.reduceLT, ↓reduceIte, reduceCtorEq, Int.reduceBEq, Int.reduceBNe, Int.reduceLT, Int.reduceLE, Int.reduceToNat, k1, k2, n1, n2, p1, p2, p3, e1, List.length_map])); (first | with_reducible refine on_yes ?_ | with_reducible refine on_no ?_ | with_reducible refine on_reg ?_ | (with_reducible refine on_regD (by decide +kernel) ?_) | with_reducible refine on_fin ?_)))
          refine aw_reg [[vI (wrongMsgL c.stream c.data)]] (by simp only [ev0, ev1, ev2, look, lookF, cellsFrom, offT, offP, List.tail_nil, List.length_nil, Int.cast_ofNat_Int, Nat.reduceEqDiff, Nat.reduceAdd, Nat.reduceMul, Nat.reduceLeDiff, Nat.reduceLT, ↓reduceIte, reduceCtorEq, Int.reduceBEq, Int.reduceBNe, Int.reduceLT, Int.reduceLE, Int.reduceToNat]; first | rfl | exact ⟨rfl, rfl⟩) ?_ ?_
          · exact obl_cons hm obl_nil
          repeat (first | refine aw_seq ?_ | refine aw_block ?_ | with_reducible refine aw_ret ?_ | with_reducible refine aw_skip ?_ | with_reducible refine aw_exit ?_ | refine thn_normal ?_ | refine thn_out ?_ | refine blk_normal ?_ | refine blk_ret ?_ | refine blk_exit ?_ | ((first | refine aw_regO ?_ | refine aw_regDO ?_ | refine aw_condO ?_ | refine fin_retO ?_); (conv => (arg 1; simp (maxSteps := 30000) only [ev0, ev1, ev2, look, lookF, cellsFrom, offT, offP, List.tail_nil, List.length_nil, Int.cast_ofNat_Int, Nat.reduceEqDiff, Nat.reduceAdd, Nat.reduceMul, Nat.reduceLeDiff, Nat.reduceLT, ↓reduceIte, reduceCtorEq, Int.reduceBEq, Int.reduceBNe, Int.reduceLT, Int.reduceLE, Int.reduceToNat])); (first | with_reducible refine on_yes ?_ | with_reducible refine on_no ?_ | with_reducible refine on_reg ?_ | (with_reducible refine on_regD (by decide +kernel) ?_) | with_reducible refine on_fin ?_)))
          exact ValsLe.refl _
        · have e1 : ((c.early.length : Int) != 0) = true := ne_t (by omega)
          have hw : wrongL c = 5 := by unfold wrongL; rw [if_neg (by omega), if_neg hn, if_pos hk, if_neg hp, if_pos he]
          rw [hw]
          repeat (first | refine aw_seq ?_ | refine aw_block ?_ | with_reducible refine aw_ret ?_ | with_reducible refine aw_skip ?_ | with_reducible refine aw_exit ?_ | refine thn_normal ?_ | refine thn_out ?_ | refine blk_normal ?_ | refine blk_ret ?_ | refine blk_exit ?_ | ((first | refine aw_regO ?_ | refine aw_regDO ?_ | refine aw_condO ?_ | refine fin_retO ?_); (conv => (arg 1; simp (maxSteps := 30000) only [ev0, ev1, ev2, look, lookF, cellsFrom, offT, offP, List.tail_nil, List.length_nil, Int.cast_ofNat_Int, Nat.reduceEqDiff, Nat.reduceAdd, Nat.reduceMul, Nat.reduceLeDiff, Nat.reduceLT, ↓reduceIte, reduceCtorEq, Int.reduceBEq, Int.reduceBNe, Int.reduceLT, Int.reduceLE, Int.reduceToNat, k1, k2, n1, n2, p1, p2, p3, e1, List.length_map])); (first | with_reducible refine on_yes ?_ | with_reducible refine on_no ?_ | with_reducible refine on_reg ?_ | (with_reducible refine on_regD (by decide +kernel) ?_) | with_reducible refine on_fin ?_)))
          exact ValsLe.refl _
  · have k1 : (c.kind != 1) = true := by simpa using hk
    have k2 : (c.kind == 1) = false := by simpa using hk
    by_cases hk2 : c.kind = 2
    · have k3 : (c.kind != 2) = false := by simpa using hk2
      by_cases hn : c.number < 0 ∨ 40 < c.number
      · have hw : wrongL c = 3 := by unfold wrongL; rw [if_neg (by omega), if_pos hn]
        rw [hw]
        by_cases n1 : c.number < 0
        · repeat (first | refine aw_seq ?_ | refine aw_block ?_ | with_reducible refine aw_ret ?_ | with_reducible refine aw_skip ?_ | with_reducible refine aw_exit ?_ | refine thn_normal ?_ | refine thn_out ?_ | refine blk_normal ?_ | refine blk_ret ?_ | refine blk_exit ?_ | ((first | refine aw_regO ?_ | refine aw_regDO ?_ | refine aw_condO ?_ | refine fin_retO ?_); (conv => (arg 1; simp (maxSteps := 30000) only [ev0, ev1, ev2, look, lookF, cellsFrom, offT, offP, List.tail_nil, List.length_nil, Int.cast_ofNat_Int, Nat.reduceEqDiff, Nat.reduceAdd, Nat.reduceMul, Nat.reduceLeDiff, Nat.reduceLT, ↓reduceIte, reduceCtorEq, Int.reduceBEq, Int.reduceBNe, Int.reduceLT, Int.reduceLE, Int.reduceToNat, k1, k3, n1])); (first | with_reducible refine on_yes ?_ | with_reducible refine on_no ?_ | with_reducible refine on_reg ?_ | (with_reducible refine on_regD (by decide +kernel) ?_) | with_reducible refine on_fin ?_)))
          exact ValsLe.refl _
        · have n2 : 40 < c.number := by omega
          repeat (first | refine aw_seq ?_ | refine aw_block ?_ | with_reducible refine aw_ret ?_ | with_reducible refine aw_skip ?_ | with_reducible refine aw_exit ?_ | refine thn_normal ?_ | refine thn_out ?_ | refine blk_normal ?_ | refine blk_ret ?_ | refine blk_exit ?_ | ((first | refine aw_regO ?_ | refine aw_regDO ?_ | refine aw_condO ?_ | refine fin_retO ?_); (conv => (arg 1; simp (maxSteps := 30000) only [ev0, ev1, ev2, look, lookF, cellsFrom, offT, offP, List.tail_nil, List.length_nil, Int.cast_ofNat_Int, Nat.reduceEqDiff, Nat.reduceAdd, Nat.reduceMul, Nat.reduceLeDiff, Nat.reduceLT, ↓reduceIte, reduceCtorEq, Int.reduceBEq, Int.reduceBNe, Int.reduceLT, Int.reduceLE, Int.reduceToNat, k1, k3, n1, n2])); (first | with_reducible refine on_yes ?_ | with_reducible refine on_no ?_ | with_reducible refine on_reg ?_ | (with_reducible refine on_regD (by decide +kernel) ?_) | with_reducible refine on_fin ?_)))
          exact ValsLe.refl _
      · have n1 : ¬ c.number < 0 := by omega
        have n2 : ¬ 40 < c.number := by omega
        by_cases hs : c.stream ≠ 0 ∨ c.place ≠ 0
        · have hw : wrongL c = 3 := by unfold wrongL; rw [if_neg (by omega), if_neg hn, if_neg hk, if_pos hs]
          rw [hw]
          by_cases s1 : c.stream = 0
          · have s2 : (c.stream != 0) = false := by simpa using s1
            have s3 : (c.place != 0) = true := by simp; omega
            repeat (first | refine aw_seq ?_ | refine aw_block ?_ | with_reducible refine aw_ret ?_ | with_reducible refine aw_skip ?_ | with_reducible refine aw_exit ?_ | refine thn_normal ?_ | refine thn_out ?_ | refine blk_normal ?_ | refine blk_ret ?_ | refine blk_exit ?_ | ((first | refine aw_regO ?_ | refine aw_regDO ?_ | refine aw_condO ?_ | refine fin_retO ?_); (conv => (arg 1; simp (maxSteps := 30000) only [ev0, ev1, ev2, look, lookF, cellsFrom, offT, offP, List.tail_nil, List.length_nil, Int.cast_ofNat_Int, Nat.reduceEqDiff, Nat.reduceAdd, Nat.reduceMul, Nat.reduceLeDiff, Nat.reduceLT, ↓reduceIte, reduceCtorEq, Int.reduceBEq, Int.reduceBNe, Int.reduceLT, Int.reduceLE, Int.reduceToNat, k1, k2, k3, n1, n2, s2, s3])); (first | with_reducible refine on_yes ?_ | with_reducible refine on_no ?_ | with_reducible refine on_reg ?_ | (with_reducible refine on_regD (by decide +kernel) ?_) | with_reducible refine on_fin ?_)))
            exact ValsLe.refl _
          · have s2 : (c.stream != 0) = true := by simpa using s1
            repeat (first | refine aw_seq ?_ | refine aw_block ?_ | with_reducible refine aw_ret ?_ | with_reducible refine aw_skip ?_ | with_reducible refine aw_exit ?_ | refine thn_normal ?_ | refine thn_out ?_ | refine blk_normal ?_ | refine blk_ret ?_ | refine blk_exit ?_ | ((first | refine aw_regO ?_ | refine aw_regDO ?_ | refine aw_condO ?_ | refine fin_retO ?_); (conv => (arg 1; simp (maxSteps := 30000) only [ev0, ev1, ev2, look, lookF, cellsFrom, offT, offP, List.tail_nil, List.length_nil, Int.cast_ofNat_Int, Nat.reduceEqDiff, Nat.reduceAdd, Nat.reduceMul, Nat.reduceLeDiff, Nat.reduceLT, ↓reduceIte, reduceCtorEq, Int.reduceBEq, Int.reduceBNe, Int.reduceLT, Int.reduceLE, Int.reduceToNat, k1, k2, k3, n1, n2, s2])); (first | with_reducible refine on_yes ?_ | with_reducible refine on_no ?_ | with_reducible refine on_reg ?_ | (with_reducible refine on_regD (by decide +kernel) ?_) | with_reducible refine on_fin ?_)))
            exact ValsLe.refl _
        · have s2 : (c.stream != 0) = false := by simp; omega
          have s3 : (c.place != 0) = false := by simp; omega
          by_cases hd : c.data.length ≠ 0 ∨ 3 < c.early.length
          · have hw : wrongL c = 5 := by unfold wrongL; rw [if_neg (by omega), if_neg hn, if_neg hk, if_neg hs, if_pos hd]
            rw [hw]
            by_cases d1 : c.data.length = 0
            · have d2 : ((c.data.length : Int) != 0) = false := ne_f (by omega)
              have d3 : 3 < (c.early.length : Int) := by omega
              repeat (first | refine aw_seq ?_ | refine aw_block ?_ | with_reducible refine aw_ret ?_ | with_reducible refine aw_skip ?_ | with_reducible refine aw_exit ?_ | refine thn_normal ?_ | refine thn_out ?_ | refine blk_normal ?_ | refine blk_ret ?_ | refine blk_exit ?_ | ((first | refine aw_regO ?_ | refine aw_regDO ?_ | refine aw_condO ?_ | refine fin_retO ?_); (conv => (arg 1; simp (maxSteps := 30000) only [ev0, ev1, ev2, look, lookF, cellsFrom, offT, offP, List.tail_nil, List.length_nil, Int.cast_ofNat_Int, Nat.reduceEqDiff, Nat.reduceAdd, Nat.reduceMul, Nat.reduceLeDiff, Nat.reduceLT, ↓reduceIte, reduceCtorEq, Int.reduceBEq, Int.reduceBNe, Int.reduceLT, Int.reduceLE, Int.reduceToNat, k1, k2, k3, n1, n2, s2, s3, d2, d3, List.length_map])); (first | with_reducible refine on_yes ?_ | with_reducible refine on_no ?_ | with_reducible refine on_reg ?_ | (with_reducible refine on_regD (by decide +kernel) ?_) | with_reducible refine on_fin ?_)))
              exact ValsLe.refl _
            · have d2 : ((c.data.length : Int) != 0) = true := ne_t (by omega)
              repeat (first | refine aw_seq ?_ | refine aw_block ?_ | with_reducible refine aw_ret ?_ | with_reducible refine aw_skip ?_ | with_reducible refine aw_exit ?_ | refine thn_normal ?_ | refine thn_out ?_ | refine blk_normal ?_ | refine blk_ret ?_ | refine blk_exit ?_ | ((first | refine aw_regO ?_ | refine aw_regDO ?_ | refine aw_condO ?_ | refine fin_retO ?_); (conv => (arg 1; simp (maxSteps := 30000) only [ev0, ev1, ev2, look, lookF, cellsFrom, offT, offP, List.tail_nil, List.length_nil, Int.cast_ofNat_Int, Nat.reduceEqDiff, Nat.reduceAdd, Nat.reduceMul, Nat.reduceLeDiff, Nat.reduceLT, ↓reduceIte, reduceCtorEq, Int.reduceBEq, Int.reduceBNe, Int.reduceLT, Int.reduceLE, Int.reduceToNat, k1, k2, k3, n1, n2, s2, s3, d2, List.length_map])); (first | with_reducible refine on_yes ?_ | with_reducible refine on_no ?_ | with_reducible refine on_reg ?_ | (with_reducible refine on_regD (by decide +kernel) ?_) | with_reducible refine on_fin ?_)))
              exact ValsLe.refl _
          · have d2 : ((c.data.length : Int) != 0) = false := ne_f (by omega)
            have d3 : ¬ 3 < (c.early.length : Int) := by omega
            have hw : wrongL c = if risesL c.number c.early = true then 0 else 3 := by unfold wrongL; rw [if_neg (by omega), if_neg hn, if_neg hk, if_neg hs, if_neg hd]
            rw [hw]
            repeat (first | refine aw_seq ?_ | refine aw_block ?_ | with_reducible refine aw_ret ?_ | with_reducible refine aw_skip ?_ | with_reducible refine aw_exit ?_ | refine thn_normal ?_ | refine thn_out ?_ | refine blk_normal ?_ | refine blk_ret ?_ | refine blk_exit ?_ | ((first | refine aw_regO ?_ | refine aw_regDO ?_ | refine aw_condO ?_ | refine fin_retO ?_); (conv => (arg 1; simp (maxSteps := 30000) only [ev0, ev1, ev2, look, lookF, cellsFrom, offT, offP, List.tail_nil, List.length_nil, Int.cast_ofNat_Int, Nat.reduceEqDiff, Nat.reduceAdd, Nat.reduceMul, Nat.reduceLeDiff, Nat.reduceLT, ↓reduceIte, reduceCtorEq, Int.reduceBEq, Int.reduceBNe, Int.reduceLT, Int.reduceLE, Int.reduceToNat, k1, k2, k3, n1, n2, s2, s3, d2, d3, List.length_map])); (first | with_reducible refine on_yes ?_ | with_reducible refine on_no ?_ | with_reducible refine on_reg ?_ | (with_reducible refine on_regD (by decide +kernel) ?_) | with_reducible refine on_fin ?_)))
            clear hw
            generalize c.early = l at *
            generalize c.number = low at *
            refine aw_loop (fun n st => ∃ (k : Nat) (last : Int), k ≤ l.length ∧ n = l.length - k ∧ risesL low l = risesL last (l.drop k) ∧ st = wrSt l last k) l.length (wrSt l low 0) (Le.refl _) ⟨0, low, by omega, by omega, rfl, rfl⟩ ?_
            rintro n st ⟨k, last, hk', hn', hr, rfl⟩
            by_cases hlt : k < l.length
            · obtain ⟨x, hx⟩ : ∃ m, l[k]? = some m := ⟨l[k], List.getElem?_eq_getElem hlt⟩
              have g1 : (k : Int) < (l.length : Int) := by omega
              have g2 : (0 : Int) ≤ (k : Int) := by omega
              have g3 := at_il hx
              have g4 : inR .i64 ((k : Int) + 1) = true := inR_of (by omega)
              have hst := rises_drop last l k x hx
              rw [← hr] at hst
              simp only [wrSt]
              by_cases x1 : x ≤ last
              · rw [show decide (last < x) = false by simp; omega, Bool.false_and] at hst
                rw [hst]
                repeat (first | refine aw_seq ?_ | refine aw_block ?_ | with_reducible refine aw_ret ?_ | with_reducible refine aw_skip ?_ | with_reducible refine aw_exit ?_ | refine thn_normal ?_ | refine thn_out ?_ | refine blk_normal ?_ | refine blk_ret ?_ | refine blk_exit ?_ | ((first | refine aw_regO ?_ | refine aw_regDO ?_ | refine aw_condO ?_ | refine fin_retO ?_); (conv => (arg 1; simp (maxSteps := 30000) only [ev0, ev1, ev2, look, lookF, cellsFrom, offT, offP, List.tail_nil, List.length_nil, Int.cast_ofNat_Int, Nat.reduceEqDiff, Nat.reduceAdd, Nat.reduceMul, Nat.reduceLeDiff, Nat.reduceLT, ↓reduceIte, reduceCtorEq, Int.reduceBEq, Int.reduceBNe, Int.reduceLT, Int.reduceLE, Int.reduceToNat, g1, g2, g3, x1])); (first | with_reducible refine on_yes ?_ | with_reducible refine on_no ?_ | with_reducible refine on_reg ?_ | (with_reducible refine on_regD (by decide +kernel) ?_) | with_reducible refine on_fin ?_)))
                exact ValsLe.refl _
              · rw [show decide (last < x) = true by simp; omega, Bool.true_and] at hst
                by_cases x2 : 39 < x
                · rw [show decide (x ≤ 39) = false by simp; omega, Bool.false_and] at hst
                  rw [hst]
                  repeat (first | refine aw_seq ?_ | refine aw_block ?_ | with_reducible refine aw_ret ?_ | with_reducible refine aw_skip ?_ | with_reducible refine aw_exit ?_ | refine thn_normal ?_ | refine thn_out ?_ | refine blk_normal ?_ | refine blk_ret ?_ | refine blk_exit ?_ | ((first | refine aw_regO ?_ | refine aw_regDO ?_ | refine aw_condO ?_ | refine fin_retO ?_); (conv => (arg 1; simp (maxSteps := 30000) only [ev0, ev1, ev2, look, lookF, cellsFrom, offT, offP, List.tail_nil, List.length_nil, Int.cast_ofNat_Int, Nat.reduceEqDiff, Nat.reduceAdd, Nat.reduceMul, Nat.reduceLeDiff, Nat.reduceLT, ↓reduceIte, reduceCtorEq, Int.reduceBEq, Int.reduceBNe, Int.reduceLT, Int.reduceLE, Int.reduceToNat, g1, g2, g3, x1, x2])); (first | with_reducible refine on_yes ?_ | with_reducible refine on_no ?_ | with_reducible refine on_reg ?_ | (with_reducible refine on_regD (by decide +kernel) ?_) | with_reducible refine on_fin ?_)))
                  exact ValsLe.refl _
                · rw [show decide (x ≤ 39) = true by simp; omega, Bool.true_and] at hst
                  repeat (first | refine aw_seq ?_ | refine aw_block ?_ | with_reducible refine aw_ret ?_ | with_reducible refine aw_skip ?_ | with_reducible refine aw_exit ?_ | refine thn_normal ?_ | refine thn_out ?_ | refine blk_normal ?_ | refine blk_ret ?_ | refine blk_exit ?_ | ((first | refine aw_regO ?_ | refine aw_regDO ?_ | refine aw_condO ?_ | refine fin_retO ?_); (conv => (arg 1; simp (maxSteps := 30000) only [ev0, ev1, ev2, look, lookF, cellsFrom, offT, offP, List.tail_nil, List.length_nil, Int.cast_ofNat_Int, Nat.reduceEqDiff, Nat.reduceAdd, Nat.reduceMul, Nat.reduceLeDiff, Nat.reduceLT, ↓reduceIte, reduceCtorEq, Int.reduceBEq, Int.reduceBNe, Int.reduceLT, Int.reduceLE, Int.reduceToNat, g1, g2, g3, g4, x1, x2])); (first | with_reducible refine on_yes ?_ | with_reducible refine on_no ?_ | with_reducible refine on_reg ?_ | (with_reducible refine on_regD (by decide +kernel) ?_) | with_reducible refine on_fin ?_)))
                  exact ⟨l.length - (k + 1), _, by omega, Le.refl _, k + 1, x, by omega, rfl, hst, by simp only [wrSt, Int.natCast_add, Int.cast_ofNat_Int]⟩
            · have hk'' : k = l.length := by omega
              subst hk''
              have g1 : ¬ (l.length : Int) < (l.length : Int) := by omega
              have : risesL low l = true := by rw [hr, List.drop_length]; rfl
              rw [if_pos this]
              simp only [wrSt]
              repeat (first | refine aw_seq ?_ | refine aw_block ?_ | with_reducible refine aw_ret ?_ | with_reducible refine aw_skip ?_ | with_reducible refine aw_exit ?_ | refine thn_normal ?_ | refine thn_out ?_ | refine blk_normal ?_ | refine blk_ret ?_ | refine blk_exit ?_ | ((first | refine aw_regO ?_ | refine aw_regDO ?_ | refine aw_condO ?_ | refine fin_retO ?_); (conv => (arg 1; simp (maxSteps := 30000) only [ev0, ev1, ev2, look, lookF, cellsFrom, offT, offP, List.tail_nil, List.length_nil, Int.cast_ofNat_Int, Nat.reduceEqDiff, Nat.reduceAdd, Nat.reduceMul, Nat.reduceLeDiff, Nat.reduceLT, ↓reduceIte, reduceCtorEq, Int.reduceBEq, Int.reduceBNe, Int.reduceLT, Int.reduceLE, Int.reduceToNat, g1])); (first | with_reducible refine on_yes ?_ | with_reducible refine on_no ?_ | with_reducible refine on_reg ?_ | (with_reducible refine on_regD (by decide +kernel) ?_) | with_reducible refine on_fin ?_)))
              exact ValsLe.refl _
    · have k3 : (c.kind != 2) = true := by simpa using hk2
      have hw : wrongL c = 1 := by unfold wrongL; rw [if_pos ⟨hk, hk2⟩]
      rw [hw]
      repeat (first | refine aw_seq ?_ | refine aw_block ?_ | with_reducible refine aw_ret ?_ | with_reducible refine aw_skip ?_ | with_reducible refine aw_exit ?_ | refine thn_normal ?_ | refine thn_out ?_ | refine blk_normal ?_ | refine blk_ret ?_ | refine blk_exit ?_ | ((first | refine aw_regO ?_ | refine aw_regDO ?_ | refine aw_condO ?_ | refine fin_retO ?_); (conv => (arg 1; simp (maxSteps := 30000) only [ev0, ev1, ev2, look, lookF, cellsFrom, offT, offP, List.tail_nil, List.length_nil, Int.cast_ofNat_Int, Nat.reduceEqDiff, Nat.reduceAdd, Nat.reduceMul, Nat.reduceLeDiff, Nat.reduceLT, ↓reduceIte, reduceCtorEq, Int.reduceBEq, Int.reduceBNe, Int.reduceLT, Int.reduceLE, Int.reduceToNat, k1, k3])); (first | with_reducible refine on_yes ?_ | with_reducible refine on_no ?_ | with_reducible refine on_reg ?_ | (with_reducible refine on_regD (by decide +kernel) ?_) | with_reducible refine on_fin ?_)))
      exact ValsLe.refl _
end Go.Proofs.Ytnncmddmjpocfab.ab
