/-
  What the landed functions that copy tell: messages, chunks, lists of them, senders.
-/
import Derived.Test.YtnncmddmjpocfabM38
import Derived.Test.YtnncmddmjpocfabM23
import Derived.Test.YtnncmddmjpocfabARef2
namespace Go.Proofs.Ytnncmddmjpocfab.ab
set_option linter.unusedVariables false
set_option linter.unusedSimpArgs false
open Go Go.RowKit
open mth

theorem ownMsg_told (m : Ms) (h : m.data.length ≤ 1048576) : Told Try.prog 55 [aD (encMs m)] [aD (encMs m)] := by
  refine told_chunk_OwnMsg rfl ?_
  simp only [encMs]
  have h1 : m.data.length * 1 ≤ 140737488355328 := by omega
  repeat (first | refine aw_seq ?_ | refine aw_block ?_ | with_reducible refine aw_ret ?_ | with_reducible refine aw_skip ?_ | with_reducible refine aw_exit ?_ | refine thn_normal ?_ | refine thn_out ?_ | refine blk_normal ?_ | refine blk_ret ?_ | refine blk_exit ?_ | ((first | refine aw_regO ?_ | refine aw_regDO ?_ | refine aw_condO ?_ | refine fin_retO ?_); (conv => (arg 1; simp (maxSteps := 30000) only [ev0, ev1, ev2, look, lookF, cellsFrom, offT, offP, List.tail_nil, List.length_nil, Int.cast_ofNat_Int, Nat.reduceEqDiff, Nat.reduceAdd, Nat.reduceMul, Nat.reduceLeDiff, Nat.reduceLT, ↓reduceIte, reduceCtorEq, Int.reduceBEq, Int.reduceBNe, Int.reduceLT, Int.reduceLE, Int.reduceToNat, h1, List.length_map])); (first | with_reducible refine on_yes ?_ | with_reducible refine on_no ?_ | with_reducible refine on_reg ?_ | (with_reducible refine on_regD (by decide +kernel) ?_) | with_reducible refine on_fin ?_)))
  exact ValsLe.refl _
theorem ownCh_told (c : Ch) (h : c.data.length ≤ 1048576) (h' : c.early.length ≤ 1048576) : Told Try.prog 48 [aD (encCh c)] [aD (encCh c)] := by
  refine told_chunk_Own rfl ?_
  simp only [encCh]
  have h1 : c.data.length * 1 ≤ 140737488355328 := by omega
  have h2 : c.early.length * 8 ≤ 140737488355328 := by omega
  repeat (first | refine aw_seq ?_ | refine aw_block ?_ | with_reducible refine aw_ret ?_ | with_reducible refine aw_skip ?_ | with_reducible refine aw_exit ?_ | refine thn_normal ?_ | refine thn_out ?_ | refine blk_normal ?_ | refine blk_ret ?_ | refine blk_exit ?_ | ((first | refine aw_regO ?_ | refine aw_regDO ?_ | refine aw_condO ?_ | refine fin_retO ?_); (conv => (arg 1; simp (maxSteps := 30000) only [ev0, ev1, ev2, look, lookF, cellsFrom, offT, offP, List.tail_nil, List.length_nil, Int.cast_ofNat_Int, Nat.reduceEqDiff, Nat.reduceAdd, Nat.reduceMul, Nat.reduceLeDiff, Nat.reduceLT, ↓reduceIte, reduceCtorEq, Int.reduceBEq, Int.reduceBNe, Int.reduceLT, Int.reduceLE, Int.reduceToNat, h1, h2, List.length_map])); (first | with_reducible refine on_yes ?_ | with_reducible refine on_no ?_ | with_reducible refine on_reg ?_ | (with_reducible refine on_regD (by decide +kernel) ?_) | with_reducible refine on_fin ?_)))
  exact ValsLe.refl _
theorem callM : callableB Try.prog 55 = true := by kernel_rfl
theorem callC : callableB Try.prog 48 = true := by kernel_rfl

/-- At the head of the loop: what was made so far; frozen. -/
def omSt (l : List Ms) (k : Nat) : St := ⟨[(1, vD (.func (.func 55) #[] #[])), (5, sD 2 (encMl (l.take k))), (8, sD 2 (encMl l)), (9, vI l.length), (10, vI k)], [], [((5, none), (53, 2, none))]⟩
theorem ml_snoc (l : List Ms) (m : Ms) : encMl (l ++ [m]) = encMl l ++ [aD [vI m.stream, sD 1 (m.data.map encB)]] := by simp [encMl, encMs]
set_option maxHeartbeats 4000000 in
theorem ownM_core (l : List Ms) (hl : l.length ≤ 1048576) (hm : ∀ m ∈ l, m.data.length ≤ 1048576) (Q : AX → St → Prop) (hQ : Q (some none) ⟨[(4, sD 2 (encMl l))], [], [((4, none), (53, 2, none))]⟩) : list_OwnM (start [sD 2 (encMl l), vD (.func (.func 55) #[] #[])]) Q := by
  repeat (first | refine aw_seq ?_ | refine aw_block ?_ | with_reducible refine aw_ret ?_ | with_reducible refine aw_skip ?_ | with_reducible refine aw_exit ?_ | refine thn_normal ?_ | refine thn_out ?_ | refine blk_normal ?_ | refine blk_ret ?_ | refine blk_exit ?_ | ((first | refine aw_regO ?_ | refine aw_regDO ?_ | refine aw_condO ?_ | refine fin_retO ?_); (conv => (arg 1; simp (maxSteps := 30000) only [ev0, ev1, ev2, look, lookF, cellsFrom, offT, offP, List.tail_nil, List.length_nil, Int.cast_ofNat_Int, Nat.reduceEqDiff, Nat.reduceAdd, Nat.reduceMul, Nat.reduceLeDiff, Nat.reduceLT, ↓reduceIte, reduceCtorEq, Int.reduceBEq, Int.reduceBNe, Int.reduceLT, Int.reduceLE, Int.reduceToNat, len_ml])); (first | with_reducible refine on_yes ?_ | with_reducible refine on_no ?_ | with_reducible refine on_reg ?_ | (with_reducible refine on_regD (by decide +kernel) ?_) | with_reducible refine on_fin ?_)))
  refine aw_loop (fun n st => ∃ k, k ≤ l.length ∧ n = l.length - k ∧ st = omSt l k) l.length (omSt l 0) ((Le.nilS 5 53 2 rfl).trans (Le.keep (lv := [1, 5, 8, 9, 10]) (lb := []) (by simp only [ev0, ev1, ev2, look, lookF, cellsFrom, offT, offP, List.tail_nil, List.length_nil, Int.cast_ofNat_Int, Nat.reduceEqDiff, Nat.reduceAdd, Nat.reduceMul, Nat.reduceLeDiff, Nat.reduceLT, ↓reduceIte, reduceCtorEq, Int.reduceBEq, Int.reduceBNe, Int.reduceLT, Int.reduceLE, Int.reduceToNat]; rfl))) ⟨0, by omega, by omega, rfl⟩ ?_
  rintro n st ⟨k, hk', hn, rfl⟩
  by_cases hlt : k < l.length
  · obtain ⟨x, hx⟩ : ∃ m, l[k]? = some m := ⟨l[k], List.getElem?_eq_getElem hlt⟩
    have g1 : (k : Int) < (l.length : Int) := by omega
    have g2 : (0 : Int) ≤ (k : Int) := by omega
    have g3 := at_ml hx
    have g4 : inR .i64 ((k : Int) + 1) = true := inR_of (by omega)
    have hlen : (l.take k).length = k := by rw [List.length_take]; omega
    have hb1 : ((l.take k).length + 1) * 32 ≤ 140737488355328 := by omega
    have hnx : Next (fun n st => ∃ k, k ≤ l.length ∧ n = l.length - k ∧ st = omSt l k) n
        ⟨[(1, vD (.func (.func 55) #[] #[])), (5, sD 2 (encMl (l.take k) ++ [aD [vI x.stream, sD 1 (x.data.map encB)]])), (8, sD 2 (encMl l)), (9, vI l.length), (10, vI ((k : Int) + 1))], [], [((5, none), (53, 2, none))]⟩ := by
      rw [← ml_snoc, show l.take k ++ [x] = l.take (k + 1) by rw [List.take_add_one, hx]; rfl]
      exact ⟨l.length - (k + 1), _, by omega, Le.refl _, k + 1, by omega, rfl, by simp only [omSt, Int.natCast_add, Int.cast_ofNat_Int]⟩
    generalize (fun n st => ∃ k, k ≤ l.length ∧ n = l.length - k ∧ st = omSt l k) = J at *
    simp only [omSt]
    generalize l.take k = G at *
    repeat (first | refine aw_seq ?_ | refine aw_block ?_ | with_reducible refine aw_ret ?_ | with_reducible refine aw_skip ?_ | with_reducible refine aw_exit ?_ | refine thn_normal ?_ | refine thn_out ?_ | refine blk_normal ?_ | refine blk_ret ?_ | refine blk_exit ?_ | ((first | refine aw_regO ?_ | refine aw_regDO ?_ | refine aw_condO ?_ | refine fin_retO ?_); (conv => (arg 1; simp (maxSteps := 30000) only [ev0, ev1, ev2, look, lookF, cellsFrom, offT, offP, List.tail_nil, List.length_nil, Int.cast_ofNat_Int, Nat.reduceEqDiff, Nat.reduceAdd, Nat.reduceMul, Nat.reduceLeDiff, Nat.reduceLT, ↓reduceIte, reduceCtorEq, Int.reduceBEq, Int.reduceBNe, Int.reduceLT, Int.reduceLE, Int.reduceToNat, g1, g2, g3, callM, hb1, len_ml])); (first | with_reducible refine on_yes ?_ | with_reducible refine on_no ?_ | with_reducible refine on_reg ?_ | (with_reducible refine on_regD (by decide +kernel) ?_) | with_reducible refine on_fin ?_)))
    refine aw_reg [[aD [vI x.stream, sD 1 (x.data.map encB)]]] (by simp only [ev0, ev1, ev2, look, lookF, cellsFrom, offT, offP, List.tail_nil, List.length_nil, Int.cast_ofNat_Int, Nat.reduceEqDiff, Nat.reduceAdd, Nat.reduceMul, Nat.reduceLeDiff, Nat.reduceLT, ↓reduceIte, reduceCtorEq, Int.reduceBEq, Int.reduceBNe, Int.reduceLT, Int.reduceLE, Int.reduceToNat, callM, hb1, len_ml]; first | rfl | exact ⟨rfl, rfl⟩) ?_ ?_
    · exact obl_cons (ownMsg_told x (hm x (List.mem_of_getElem? hx))) obl_nil
    repeat (first | refine aw_seq ?_ | refine aw_block ?_ | with_reducible refine aw_ret ?_ | with_reducible refine aw_skip ?_ | with_reducible refine aw_exit ?_ | refine thn_normal ?_ | refine thn_out ?_ | refine blk_normal ?_ | refine blk_ret ?_ | refine blk_exit ?_ | ((first | refine aw_regO ?_ | refine aw_regDO ?_ | refine aw_condO ?_ | refine fin_retO ?_); (conv => (arg 1; simp (maxSteps := 30000) only [ev0, ev1, ev2, look, lookF, cellsFrom, offT, offP, List.tail_nil, List.length_nil, Int.cast_ofNat_Int, Nat.reduceEqDiff, Nat.reduceAdd, Nat.reduceMul, Nat.reduceLeDiff, Nat.reduceLT, ↓reduceIte, reduceCtorEq, Int.reduceBEq, Int.reduceBNe, Int.reduceLT, Int.reduceLE, Int.reduceToNat, g4])); (first | with_reducible refine on_yes ?_ | with_reducible refine on_no ?_ | with_reducible refine on_reg ?_ | (with_reducible refine on_regD (by decide +kernel) ?_) | with_reducible refine on_fin ?_)))
    exact hnx
  · have hk'' : k = l.length := by omega
    subst hk''
    have g1 : ¬ (l.length : Int) < (l.length : Int) := by omega
    simp only [omSt, List.take_length]
    repeat (first | refine aw_seq ?_ | refine aw_block ?_ | with_reducible refine aw_ret ?_ | with_reducible refine aw_skip ?_ | with_reducible refine aw_exit ?_ | refine thn_normal ?_ | refine thn_out ?_ | refine blk_normal ?_ | refine blk_ret ?_ | refine blk_exit ?_ | ((first | refine aw_regO ?_ | refine aw_regDO ?_ | refine aw_condO ?_ | refine fin_retO ?_); (conv => (arg 1; simp (maxSteps := 30000) only [ev0, ev1, ev2, look, lookF, cellsFrom, offT, offP, List.tail_nil, List.length_nil, Int.cast_ofNat_Int, Nat.reduceEqDiff, Nat.reduceAdd, Nat.reduceMul, Nat.reduceLeDiff, Nat.reduceLT, ↓reduceIte, reduceCtorEq, Int.reduceBEq, Int.reduceBNe, Int.reduceLT, Int.reduceLE, Int.reduceToNat, g1])); (first | with_reducible refine on_yes ?_ | with_reducible refine on_no ?_ | with_reducible refine on_reg ?_ | (with_reducible refine on_regD (by decide +kernel) ?_) | with_reducible refine on_fin ?_)))
    exact hQ
theorem ownM_told (l : List Ms) (hl : l.length ≤ 1048576) (hm : ∀ m ∈ l, m.data.length ≤ 1048576) : Told Try.prog 54 [sD 2 (encMl l), vD (.func (.func 55) #[] #[])] [sD 2 (encMl l)] :=
  told_list_OwnM rfl (ownM_core l hl hm _ ⟨[sD 2 (encMl l)], rfl, ValsLe.refl _⟩)
theorem ownM_toldO (l : List Ms) (hl : l.length ≤ 1048576) (hm : ∀ m ∈ l, m.data.length ≤ 1048576) : ToldO Try.prog 54 [sD 2 (encMl l), vD (.func (.func 55) #[] #[])] [sD 2 (encMl l)] none 53 (2, none) :=
  toldO_list_OwnM rfl (ownM_core l hl hm _ ⟨sD 2 (encMl l), rfl, rfl, CVLe.refl _, rfl⟩)
theorem cl_snoc' (l : List Ch) (c : Ch) : encCl (l ++ [c]) = encCl l ++ [aD [vI c.kind, vI c.number, vI c.stream, vI c.place, sD 1 (c.data.map encB), sD 1 (c.early.map vI)]] := by simp [encCl, encCh]
/-- At the head of the loop: what was made so far; frozen. -/
def ocSt (l : List Ch) (k : Nat) : St := ⟨[(1, vD (.func (.func 48) #[] #[])), (5, sD 6 (encCl (l.take k))), (8, sD 6 (encCl l)), (9, vI l.length), (10, vI k)], [], [((5, none), (32, 6, none))]⟩
set_option maxHeartbeats 4000000 in
theorem ownC_core (l : List Ch) (hl : l.length ≤ 1048576) (hm : ∀ m ∈ l, m.data.length ≤ 1048576 ∧ m.early.length ≤ 1048576) (Q : AX → St → Prop) (hQ : Q (some none) ⟨[(4, sD 6 (encCl l))], [], [((4, none), (32, 6, none))]⟩) : list_OwnC (start [sD 6 (encCl l), vD (.func (.func 48) #[] #[])]) Q := by
  repeat (first | refine aw_seq ?_ | refine aw_block ?_ | with_reducible refine aw_ret ?_ | with_reducible refine aw_skip ?_ | with_reducible refine aw_exit ?_ | refine thn_normal ?_ | refine thn_out ?_ | refine blk_normal ?_ | refine blk_ret ?_ | refine blk_exit ?_ | ((first | refine aw_regO ?_ | refine aw_regDO ?_ | refine aw_condO ?_ | refine fin_retO ?_); (conv => (arg 1; simp (maxSteps := 30000) only [ev0, ev1, ev2, look, lookF, cellsFrom, offT, offP, List.tail_nil, List.length_nil, Int.cast_ofNat_Int, Nat.reduceEqDiff, Nat.reduceAdd, Nat.reduceMul, Nat.reduceLeDiff, Nat.reduceLT, ↓reduceIte, reduceCtorEq, Int.reduceBEq, Int.reduceBNe, Int.reduceLT, Int.reduceLE, Int.reduceToNat, len_cl])); (first | with_reducible refine on_yes ?_ | with_reducible refine on_no ?_ | with_reducible refine on_reg ?_ | (with_reducible refine on_regD (by decide +kernel) ?_) | with_reducible refine on_fin ?_)))
  refine aw_loop (fun n st => ∃ k, k ≤ l.length ∧ n = l.length - k ∧ st = ocSt l k) l.length (ocSt l 0) ((Le.nilS 5 32 6 rfl).trans (Le.keep (lv := [1, 5, 8, 9, 10]) (lb := []) (by simp only [ev0, ev1, ev2, look, lookF, cellsFrom, offT, offP, List.tail_nil, List.length_nil, Int.cast_ofNat_Int, Nat.reduceEqDiff, Nat.reduceAdd, Nat.reduceMul, Nat.reduceLeDiff, Nat.reduceLT, ↓reduceIte, reduceCtorEq, Int.reduceBEq, Int.reduceBNe, Int.reduceLT, Int.reduceLE, Int.reduceToNat]; rfl))) ⟨0, by omega, by omega, rfl⟩ ?_
  rintro n st ⟨k, hk', hn, rfl⟩
  by_cases hlt : k < l.length
  · obtain ⟨x, hx⟩ : ∃ m, l[k]? = some m := ⟨l[k], List.getElem?_eq_getElem hlt⟩
    have g1 : (k : Int) < (l.length : Int) := by omega
    have g2 : (0 : Int) ≤ (k : Int) := by omega
    have g3 := at_cl hx
    have g4 : inR .i64 ((k : Int) + 1) = true := inR_of (by omega)
    have hlen : (l.take k).length = k := by rw [List.length_take]; omega
    have hb1 : ((l.take k).length + 1) * 80 ≤ 140737488355328 := by omega
    have hnx : Next (fun n st => ∃ k, k ≤ l.length ∧ n = l.length - k ∧ st = ocSt l k) n
        ⟨[(1, vD (.func (.func 48) #[] #[])), (5, sD 6 (encCl (l.take k) ++ [aD [vI x.kind, vI x.number, vI x.stream, vI x.place, sD 1 (x.data.map encB), sD 1 (x.early.map vI)]])), (8, sD 6 (encCl l)), (9, vI l.length), (10, vI ((k : Int) + 1))], [], [((5, none), (32, 6, none))]⟩ := by
      rw [← cl_snoc', show l.take k ++ [x] = l.take (k + 1) by rw [List.take_add_one, hx]; rfl]
      exact ⟨l.length - (k + 1), _, by omega, Le.refl _, k + 1, by omega, rfl, by simp only [ocSt, Int.natCast_add, Int.cast_ofNat_Int]⟩
    generalize (fun n st => ∃ k, k ≤ l.length ∧ n = l.length - k ∧ st = ocSt l k) = J at *
    simp only [ocSt]
    generalize l.take k = G at *
    repeat (first | refine aw_seq ?_ | refine aw_block ?_ | with_reducible refine aw_ret ?_ | with_reducible refine aw_skip ?_ | with_reducible refine aw_exit ?_ | refine thn_normal ?_ | refine thn_out ?_ | refine blk_normal ?_ | refine blk_ret ?_ | refine blk_exit ?_ | ((first | refine aw_regO ?_ | refine aw_regDO ?_ | refine aw_condO ?_ | refine fin_retO ?_); (conv => (arg 1; simp (maxSteps := 30000) only [ev0, ev1, ev2, look, lookF, cellsFrom, offT, offP, List.tail_nil, List.length_nil, Int.cast_ofNat_Int, Nat.reduceEqDiff, Nat.reduceAdd, Nat.reduceMul, Nat.reduceLeDiff, Nat.reduceLT, ↓reduceIte, reduceCtorEq, Int.reduceBEq, Int.reduceBNe, Int.reduceLT, Int.reduceLE, Int.reduceToNat, g1, g2, g3, callC, hb1, len_cl])); (first | with_reducible refine on_yes ?_ | with_reducible refine on_no ?_ | with_reducible refine on_reg ?_ | (with_reducible refine on_regD (by decide +kernel) ?_) | with_reducible refine on_fin ?_)))
    refine aw_reg [[aD [vI x.kind, vI x.number, vI x.stream, vI x.place, sD 1 (x.data.map encB), sD 1 (x.early.map vI)]]] (by simp only [ev0, ev1, ev2, look, lookF, cellsFrom, offT, offP, List.tail_nil, List.length_nil, Int.cast_ofNat_Int, Nat.reduceEqDiff, Nat.reduceAdd, Nat.reduceMul, Nat.reduceLeDiff, Nat.reduceLT, ↓reduceIte, reduceCtorEq, Int.reduceBEq, Int.reduceBNe, Int.reduceLT, Int.reduceLE, Int.reduceToNat, callC, hb1, len_cl]; first | rfl | exact ⟨rfl, rfl⟩) ?_ ?_
    · exact obl_cons (ownCh_told x (hm x (List.mem_of_getElem? hx)).1 (hm x (List.mem_of_getElem? hx)).2) obl_nil
    repeat (first | refine aw_seq ?_ | refine aw_block ?_ | with_reducible refine aw_ret ?_ | with_reducible refine aw_skip ?_ | with_reducible refine aw_exit ?_ | refine thn_normal ?_ | refine thn_out ?_ | refine blk_normal ?_ | refine blk_ret ?_ | refine blk_exit ?_ | ((first | refine aw_regO ?_ | refine aw_regDO ?_ | refine aw_condO ?_ | refine fin_retO ?_); (conv => (arg 1; simp (maxSteps := 30000) only [ev0, ev1, ev2, look, lookF, cellsFrom, offT, offP, List.tail_nil, List.length_nil, Int.cast_ofNat_Int, Nat.reduceEqDiff, Nat.reduceAdd, Nat.reduceMul, Nat.reduceLeDiff, Nat.reduceLT, ↓reduceIte, reduceCtorEq, Int.reduceBEq, Int.reduceBNe, Int.reduceLT, Int.reduceLE, Int.reduceToNat, g4])); (first | with_reducible refine on_yes ?_ | with_reducible refine on_no ?_ | with_reducible refine on_reg ?_ | (with_reducible refine on_regD (by decide +kernel) ?_) | with_reducible refine on_fin ?_)))
    exact hnx
  · have hk'' : k = l.length := by omega
    subst hk''
    have g1 : ¬ (l.length : Int) < (l.length : Int) := by omega
    simp only [ocSt, List.take_length]
    repeat (first | refine aw_seq ?_ | refine aw_block ?_ | with_reducible refine aw_ret ?_ | with_reducible refine aw_skip ?_ | with_reducible refine aw_exit ?_ | refine thn_normal ?_ | refine thn_out ?_ | refine blk_normal ?_ | refine blk_ret ?_ | refine blk_exit ?_ | ((first | refine aw_regO ?_ | refine aw_regDO ?_ | refine aw_condO ?_ | refine fin_retO ?_); (conv => (arg 1; simp (maxSteps := 30000) only [ev0, ev1, ev2, look, lookF, cellsFrom, offT, offP, List.tail_nil, List.length_nil, Int.cast_ofNat_Int, Nat.reduceEqDiff, Nat.reduceAdd, Nat.reduceMul, Nat.reduceLeDiff, Nat.reduceLT, ↓reduceIte, reduceCtorEq, Int.reduceBEq, Int.reduceBNe, Int.reduceLT, Int.reduceLE, Int.reduceToNat, g1])); (first | with_reducible refine on_yes ?_ | with_reducible refine on_no ?_ | with_reducible refine on_reg ?_ | (with_reducible refine on_regD (by decide +kernel) ?_) | with_reducible refine on_fin ?_)))
    exact hQ
/-- At the head of the loop: what was made so far; of one's own. -/
def ohSt (l : List Ch) (k : Nat) : St := ⟨[(1, vD (.func (.func 48) #[] #[])), (5, xD), (8, sD 6 (encCl l)), (9, vI l.length), (10, vI k)], [], [((5, none), (32, 6, some (encCl (l.take k))))]⟩
set_option maxHeartbeats 4000000 in
theorem ownH_core (l : List Ch) (hl : l.length ≤ 1048576) (hm : ∀ m ∈ l, m.data.length ≤ 1048576 ∧ m.early.length ≤ 1048576) (Q : AX → St → Prop) (hQ : Q (some none) ⟨[(4, xD)], [], [((4, none), (32, 6, some (encCl l)))]⟩) : list_OwnC (start [sD 6 (encCl l), vD (.func (.func 48) #[] #[])]) Q := by
  repeat (first | refine aw_seq ?_ | refine aw_block ?_ | with_reducible refine aw_ret ?_ | with_reducible refine aw_skip ?_ | with_reducible refine aw_exit ?_ | refine thn_normal ?_ | refine thn_out ?_ | refine blk_normal ?_ | refine blk_ret ?_ | refine blk_exit ?_ | ((first | refine aw_regO ?_ | refine aw_regDO ?_ | refine aw_condO ?_ | refine fin_retO ?_); (conv => (arg 1; simp (maxSteps := 30000) only [ev0, ev1, ev2, look, lookF, cellsFrom, offT, offP, List.tail_nil, List.length_nil, Int.cast_ofNat_Int, Nat.reduceEqDiff, Nat.reduceAdd, Nat.reduceMul, Nat.reduceLeDiff, Nat.reduceLT, ↓reduceIte, reduceCtorEq, Int.reduceBEq, Int.reduceBNe, Int.reduceLT, Int.reduceLE, Int.reduceToNat, len_cl])); (first | with_reducible refine on_yes ?_ | with_reducible refine on_no ?_ | with_reducible refine on_reg ?_ | (with_reducible refine on_regD (by decide +kernel) ?_) | with_reducible refine on_fin ?_)))
  refine aw_loop (fun n st => ∃ k, k ≤ l.length ∧ n = l.length - k ∧ st = ohSt l k) l.length (ohSt l 0) ((le_nilH 5 32 6 rfl).trans (Le.keep (lv := [1, 5, 8, 9, 10]) (lb := []) (by simp only [ev0, ev1, ev2, look, lookF, cellsFrom, offT, offP, List.tail_nil, List.length_nil, Int.cast_ofNat_Int, Nat.reduceEqDiff, Nat.reduceAdd, Nat.reduceMul, Nat.reduceLeDiff, Nat.reduceLT, ↓reduceIte, reduceCtorEq, Int.reduceBEq, Int.reduceBNe, Int.reduceLT, Int.reduceLE, Int.reduceToNat]; rfl))) ⟨0, by omega, by omega, rfl⟩ ?_
  rintro n st ⟨k, hk', hn, rfl⟩
  by_cases hlt : k < l.length
  · obtain ⟨x, hx⟩ : ∃ m, l[k]? = some m := ⟨l[k], List.getElem?_eq_getElem hlt⟩
    have g1 : (k : Int) < (l.length : Int) := by omega
    have g2 : (0 : Int) ≤ (k : Int) := by omega
    have g3 := at_cl hx
    have g4 : inR .i64 ((k : Int) + 1) = true := inR_of (by omega)
    have hlen : (l.take k).length = k := by rw [List.length_take]; omega
    have hb1 : ((l.take k).length + 1) * 80 ≤ 140737488355328 := by omega
    have hnx : Next (fun n st => ∃ k, k ≤ l.length ∧ n = l.length - k ∧ st = ohSt l k) n
        ⟨[(1, vD (.func (.func 48) #[] #[])), (5, xD), (8, sD 6 (encCl l)), (9, vI l.length), (10, vI ((k : Int) + 1))], [], [((5, none), (32, 6, some (encCl (l.take k) ++ [aD [vI x.kind, vI x.number, vI x.stream, vI x.place, sD 1 (x.data.map encB), sD 1 (x.early.map vI)]])))]⟩ := by
      rw [← cl_snoc', show l.take k ++ [x] = l.take (k + 1) by rw [List.take_add_one, hx]; rfl]
      exact ⟨l.length - (k + 1), _, by omega, Le.refl _, k + 1, by omega, rfl, by simp only [ohSt, Int.natCast_add, Int.cast_ofNat_Int]⟩
    generalize (fun n st => ∃ k, k ≤ l.length ∧ n = l.length - k ∧ st = ohSt l k) = J at *
    simp only [ohSt]
    generalize l.take k = G at *
    repeat (first | refine aw_seq ?_ | refine aw_block ?_ | with_reducible refine aw_ret ?_ | with_reducible refine aw_skip ?_ | with_reducible refine aw_exit ?_ | refine thn_normal ?_ | refine thn_out ?_ | refine blk_normal ?_ | refine blk_ret ?_ | refine blk_exit ?_ | ((first | refine aw_regO ?_ | refine aw_regDO ?_ | refine aw_condO ?_ | refine fin_retO ?_); (conv => (arg 1; simp (maxSteps := 30000) only [ev0, ev1, ev2, look, lookF, cellsFrom, offT, offP, List.tail_nil, List.length_nil, Int.cast_ofNat_Int, Nat.reduceEqDiff, Nat.reduceAdd, Nat.reduceMul, Nat.reduceLeDiff, Nat.reduceLT, ↓reduceIte, reduceCtorEq, Int.reduceBEq, Int.reduceBNe, Int.reduceLT, Int.reduceLE, Int.reduceToNat, g1, g2, g3, callC, hb1, len_cl])); (first | with_reducible refine on_yes ?_ | with_reducible refine on_no ?_ | with_reducible refine on_reg ?_ | (with_reducible refine on_regD (by decide +kernel) ?_) | with_reducible refine on_fin ?_)))
    refine aw_reg [[aD [vI x.kind, vI x.number, vI x.stream, vI x.place, sD 1 (x.data.map encB), sD 1 (x.early.map vI)]]] (by simp only [ev0, ev1, ev2, look, lookF, cellsFrom, offT, offP, List.tail_nil, List.length_nil, Int.cast_ofNat_Int, Nat.reduceEqDiff, Nat.reduceAdd, Nat.reduceMul, Nat.reduceLeDiff, Nat.reduceLT, ↓reduceIte, reduceCtorEq, Int.reduceBEq, Int.reduceBNe, Int.reduceLT, Int.reduceLE, Int.reduceToNat, callC, hb1, len_cl]; first | rfl | exact ⟨rfl, rfl⟩) ?_ ?_
    · exact obl_cons (ownCh_told x (hm x (List.mem_of_getElem? hx)).1 (hm x (List.mem_of_getElem? hx)).2) obl_nil
    repeat (first | refine aw_seq ?_ | refine aw_block ?_ | with_reducible refine aw_ret ?_ | with_reducible refine aw_skip ?_ | with_reducible refine aw_exit ?_ | refine thn_normal ?_ | refine thn_out ?_ | refine blk_normal ?_ | refine blk_ret ?_ | refine blk_exit ?_ | ((first | refine aw_regO ?_ | refine aw_regDO ?_ | refine aw_condO ?_ | refine fin_retO ?_); (conv => (arg 1; simp (maxSteps := 30000) only [ev0, ev1, ev2, look, lookF, cellsFrom, offT, offP, List.tail_nil, List.length_nil, Int.cast_ofNat_Int, Nat.reduceEqDiff, Nat.reduceAdd, Nat.reduceMul, Nat.reduceLeDiff, Nat.reduceLT, ↓reduceIte, reduceCtorEq, Int.reduceBEq, Int.reduceBNe, Int.reduceLT, Int.reduceLE, Int.reduceToNat, g4])); (first | with_reducible refine on_yes ?_ | with_reducible refine on_no ?_ | with_reducible refine on_reg ?_ | (with_reducible refine on_regD (by decide +kernel) ?_) | with_reducible refine on_fin ?_)))
    exact hnx
  · have hk'' : k = l.length := by omega
    subst hk''
    have g1 : ¬ (l.length : Int) < (l.length : Int) := by omega
    simp only [ohSt, List.take_length]
    repeat (first | refine aw_seq ?_ | refine aw_block ?_ | with_reducible refine aw_ret ?_ | with_reducible refine aw_skip ?_ | with_reducible refine aw_exit ?_ | refine thn_normal ?_ | refine thn_out ?_ | refine blk_normal ?_ | refine blk_ret ?_ | refine blk_exit ?_ | ((first | refine aw_regO ?_ | refine aw_regDO ?_ | refine aw_condO ?_ | refine fin_retO ?_); (conv => (arg 1; simp (maxSteps := 30000) only [ev0, ev1, ev2, look, lookF, cellsFrom, offT, offP, List.tail_nil, List.length_nil, Int.cast_ofNat_Int, Nat.reduceEqDiff, Nat.reduceAdd, Nat.reduceMul, Nat.reduceLeDiff, Nat.reduceLT, ↓reduceIte, reduceCtorEq, Int.reduceBEq, Int.reduceBNe, Int.reduceLT, Int.reduceLE, Int.reduceToNat, g1])); (first | with_reducible refine on_yes ?_ | with_reducible refine on_no ?_ | with_reducible refine on_reg ?_ | (with_reducible refine on_regD (by decide +kernel) ?_) | with_reducible refine on_fin ?_)))
    exact hQ
theorem ownC_told (l : List Ch) (hl : l.length ≤ 1048576) (hm : ∀ m ∈ l, m.data.length ≤ 1048576 ∧ m.early.length ≤ 1048576) : Told Try.prog 53 [sD 6 (encCl l), vD (.func (.func 48) #[] #[])] [sD 6 (encCl l)] :=
  told_list_OwnC rfl (ownC_core l hl hm _ ⟨[sD 6 (encCl l)], rfl, ValsLe.refl _⟩)
theorem ownC_toldH (l : List Ch) (hl : l.length ≤ 1048576) (hm : ∀ m ∈ l, m.data.length ≤ 1048576 ∧ m.early.length ≤ 1048576) : ToldO Try.prog 53 [sD 6 (encCl l), vD (.func (.func 48) #[] #[])] [xD] none 32 (6, some (encCl l)) :=
  toldO_list_OwnC rfl (ownH_core l hl hm _ ⟨xD, rfl, rfl, CVLe.refl _, rfl⟩)

theorem row_refl : ∀ (cs : List D), RowLe cs cs
  | [] => trivial
  | _ :: r => ⟨LfLe.refl _, row_refl r⟩
end Go.Proofs.Ytnncmddmjpocfab.ab
