/-
  What the landed package recv tells: a number that came is laid among those that came early, and the first ones are taken away.
-/
import Derived.Test.YtnncmddmjpocfabM47
import Derived.Test.YtnncmddmjpocfabM47
namespace Go.Proofs.Ytnncmddmjpocfab.ab
set_option linter.unusedVariables false
set_option linter.unusedSimpArgs false
open Go Go.RowKit
open mth

theorem all2 {α : Type} {p : α → Prop} {a b : α} (ha : p a) (hb : p b) : ∀ x ∈ [a, b], p x := by
  intro x hx
  simp only [List.mem_cons, List.not_mem_nil, or_false] at hx
  rcases hx with rfl | rfl
  · exact ha
  · exact hb
/-- The rows that are left to it. -/
def rowsR2 (hold : List Ch) : List (Nat × Nat × Pay) := [(5, 32, (6, some (encCl hold))), (6, 53, (2, none))]
/-- At the head of the loop. -/
def cmSt (L : List Int) (nx p0 p1 p2 : Int) (hold : List Ch) (told : List Ms) (ow : Bool) : St :=
  ⟨[(2, pD 2 0), (4, pD 4 0)], [(2, [vI nx, sD 1 (L.map vI), vI p0, vI p1, vI p2, xD, sD 2 (encMl told), vB ow]), (4, [vI 0, vD (.slice none 0 0), vI 0, vI 0, vI 0, vD (.slice none 0 0), vD (.slice none 0 0), vB false])], [((2, some 5), (32, (6, some (encCl hold)))), ((2, some 6), (53, (2, none)))]⟩
set_option maxHeartbeats 8000000 in
theorem came_toldX (early : List Int) (nx p0 p1 p2 : Int) (hold : List Ch) (told : List Ms) (ow : Bool) (n : Int) (hl : early.length ≤ 1000) (hs : early.Pairwise (· ≤ ·)) (hb : ∀ x ∈ layIn early n, 0 ≤ x ∧ x < 40) (hnx : 0 ≤ nx ∧ nx ≤ 40) :
    ToldX Try.prog 57 [aD [vI nx, xD, vI p0, vI p1, vI p2, xD, sD 2 (encMl told), vB ow], vI n] (upR (rowsR early hold)) [aD [vI (strip (layIn early n) nx).2, sD 1 ((strip (layIn early n) nx).1.map vI), vI p0, vI p1, vI p2, xD, sD 2 (encMl told), vB ow]] (upR (rowsR2 hold)) := by
  refine toldX_recv_came rfl (by show [1, 5, 6].Nodup; decide) ⟨_, Le.refl _, ?_⟩
  simp only [rowsR, flOf, List.map_cons, List.map_nil, startT]
  repeat (first | refine aw_seq ?_ | refine aw_block ?_ | with_reducible refine aw_ret ?_ | with_reducible refine aw_skip ?_ | with_reducible refine aw_exit ?_ | refine thn_normal ?_ | refine thn_out ?_ | refine blk_normal ?_ | refine blk_ret ?_ | refine blk_exit ?_ | ((first | refine aw_regO ?_ | refine aw_regDO ?_ | refine aw_condO ?_ | refine fin_retO ?_); (conv => (arg 1; simp (maxSteps := 30000) only [ev0, ev1, ev2, look, lookF, cellsFrom, offT, offP, List.tail_nil, List.length_nil, Int.cast_ofNat_Int, Nat.reduceEqDiff, Nat.reduceAdd, Nat.reduceMul, Nat.reduceLeDiff, Nat.reduceLT, ↓reduceIte, reduceCtorEq, Int.reduceBEq, Int.reduceBNe, Int.reduceLT, Int.reduceLE, Int.reduceToNat])); (first | with_reducible refine on_yes ?_ | with_reducible refine on_no ?_ | with_reducible refine on_reg ?_ | (with_reducible refine on_regD (by decide +kernel) ?_) | with_reducible refine on_fin ?_)))
  refine ⟨2, _, _, _, early.map vI, .int .i64 n, _, rfl, rfl, (by decide : 1 < 8), rfl, rfl, rfl, bsearch_told early n (by omega) hs, rfl, ?_⟩
  repeat (first | refine aw_seq ?_ | refine aw_block ?_ | with_reducible refine aw_ret ?_ | with_reducible refine aw_skip ?_ | with_reducible refine aw_exit ?_ | refine thn_normal ?_ | refine thn_out ?_ | refine blk_normal ?_ | refine blk_ret ?_ | refine blk_exit ?_ | ((first | refine aw_regO ?_ | refine aw_regDO ?_ | refine aw_condO ?_ | refine fin_retO ?_); (conv => (arg 1; simp (maxSteps := 30000) only [ev0, ev1, ev2, look, lookF, cellsFrom, offT, offP, List.tail_nil, List.length_nil, Int.cast_ofNat_Int, Nat.reduceEqDiff, Nat.reduceAdd, Nat.reduceMul, Nat.reduceLeDiff, Nat.reduceLT, ↓reduceIte, reduceCtorEq, Int.reduceBEq, Int.reduceBNe, Int.reduceLT, Int.reduceLE, Int.reduceToNat])); (first | with_reducible refine on_yes ?_ | with_reducible refine on_no ?_ | with_reducible refine on_reg ?_ | (with_reducible refine on_regD (by decide +kernel) ?_) | with_reducible refine on_fin ?_)))
  refine ⟨2, _, _, _, early.map vI, .int .i64 ((early.countP (· < n) : Nat) : Int), .int .i64 n, _, rfl, rfl, (by decide : 1 < 8), rfl, rfl, rfl, rfl, insert_told early (early.countP (· < n)) n _ List.countP_le_length (by omega), ?_⟩
  rw [show insI early (early.countP (· < n)) n = layIn early n from rfl]
  have hlay : (layIn early n).length ≤ 1001 := by
    have := insI_len (l := early) (i := early.countP (· < n)) (x := n) List.countP_le_length
    show (insI early (early.countP (· < n)) n).length ≤ 1001
    omega
  generalize layIn early n = E at *
  generalize hS : strip E nx = SE at *
  repeat (first | refine aw_seq ?_ | refine aw_block ?_ | with_reducible refine aw_ret ?_ | with_reducible refine aw_skip ?_ | with_reducible refine aw_exit ?_ | refine thn_normal ?_ | refine thn_out ?_ | refine blk_normal ?_ | refine blk_ret ?_ | refine blk_exit ?_ | ((first | refine aw_regO ?_ | refine aw_regDO ?_ | refine aw_condO ?_ | refine fin_retO ?_); (conv => (arg 1; simp (maxSteps := 30000) only [ev0, ev1, ev2, look, lookF, cellsFrom, offT, offP, List.tail_nil, List.length_nil, Int.cast_ofNat_Int, Nat.reduceEqDiff, Nat.reduceAdd, Nat.reduceMul, Nat.reduceLeDiff, Nat.reduceLT, ↓reduceIte, reduceCtorEq, Int.reduceBEq, Int.reduceBNe, Int.reduceLT, Int.reduceLE, Int.reduceToNat])); (first | with_reducible refine on_yes ?_ | with_reducible refine on_no ?_ | with_reducible refine on_reg ?_ | (with_reducible refine on_regD (by decide +kernel) ?_) | with_reducible refine on_fin ?_)))
  refine aw_loop (fun m st => ∃ L nx', strip L nx' = SE ∧ m = L.length ∧ (∀ x ∈ L, 0 ≤ x ∧ x < 40) ∧ (0 ≤ nx' ∧ nx' ≤ 40) ∧ L.length ≤ 1001 ∧ st = cmSt L nx' p0 p1 p2 hold told ow) E.length (cmSt E nx p0 p1 p2 hold told ow) (Le.keep (lv := [2, 4]) (lb := [2, 4]) (by simp only [ev0, ev1, ev2, look, lookF, cellsFrom, offT, offP, List.tail_nil, List.length_nil, Int.cast_ofNat_Int, Nat.reduceEqDiff, Nat.reduceAdd, Nat.reduceMul, Nat.reduceLeDiff, Nat.reduceLT, ↓reduceIte, reduceCtorEq, Int.reduceBEq, Int.reduceBNe, Int.reduceLT, Int.reduceLE, Int.reduceToNat]; rfl)) ⟨E, nx, hS, rfl, hb, hnx, hlay, rfl⟩ ?_
  rintro m st ⟨L, nx', hSL, hm, hbL, hnx', hLl, rfl⟩
  have hend : SE = (L, nx') → ∀ st, st = cmSt L nx' p0 p1 p2 hold told ow → cSeq recv_came_r6 cRet st (fin1 (cellFin 4 8 [vI SE.2, sD 1 (SE.1.map vI), vI p0, vI p1, vI p2, xD, sD 2 (encMl told), vB ow] (rowsR2 hold))) := by
    rintro rfl st rfl
    simp only [cmSt]
    refine aw_seq ?_
    refine aw_seq ?_
    refine ⟨2, 4, _, _, rowsR2 hold, rfl, by decide, rfl, rfl, ⟨rfl, rfl, rfl, rfl, row_refl _, all2 ⟨(by decide : 5 < 8), rfl⟩ ⟨(by decide : 6 < 8), rfl⟩⟩, by show [5, 6].Nodup; decide, ?_⟩
    simp only [flOf, rowsR2, List.map_cons, List.map_nil, List.cons_append, List.nil_append]
    repeat (first | refine aw_seq ?_ | refine aw_block ?_ | with_reducible refine aw_ret ?_ | with_reducible refine aw_skip ?_ | with_reducible refine aw_exit ?_ | refine thn_normal ?_ | refine thn_out ?_ | refine blk_normal ?_ | refine blk_ret ?_ | refine blk_exit ?_ | ((first | refine aw_regO ?_ | refine aw_regDO ?_ | refine aw_condO ?_ | refine fin_retO ?_); (conv => (arg 1; simp (maxSteps := 30000) only [ev0, ev1, ev2, look, lookF, cellsFrom, offT, offP, List.tail_nil, List.length_nil, Int.cast_ofNat_Int, Nat.reduceEqDiff, Nat.reduceAdd, Nat.reduceMul, Nat.reduceLeDiff, Nat.reduceLT, ↓reduceIte, reduceCtorEq, Int.reduceBEq, Int.reduceBNe, Int.reduceLT, Int.reduceLE, Int.reduceToNat])); (first | with_reducible refine on_yes ?_ | with_reducible refine on_no ?_ | with_reducible refine on_reg ?_ | (with_reducible refine on_regD (by decide +kernel) ?_) | with_reducible refine on_fin ?_)))
    exact fin1_ret ⟨4, _, rfl, rfl, rfl, rfl, row_refl _, all2 ⟨(by decide : 5 < 8), rfl⟩ ⟨(by decide : 6 < 8), rfl⟩⟩
  cases L with
  | nil =>
    have hend := hend (by rw [← hSL]; rfl) _ rfl
    generalize (fun m st => ∃ L nx', strip L nx' = SE ∧ m = L.length ∧ (∀ x ∈ L, 0 ≤ x ∧ x < 40) ∧ (0 ≤ nx' ∧ nx' ≤ 40) ∧ L.length ≤ 1001 ∧ st = cmSt L nx' p0 p1 p2 hold told ow) = J at *
    simp only [cmSt, List.map_nil] at hend ⊢
    repeat (first | refine aw_seq ?_ | refine aw_block ?_ | with_reducible refine aw_ret ?_ | with_reducible refine aw_skip ?_ | with_reducible refine aw_exit ?_ | refine thn_normal ?_ | refine thn_out ?_ | refine blk_normal ?_ | refine blk_ret ?_ | refine blk_exit ?_ | ((first | refine aw_regO ?_ | refine aw_regDO ?_ | refine aw_condO ?_ | refine fin_retO ?_); (conv => (arg 1; simp (maxSteps := 30000) only [ev0, ev1, ev2, look, lookF, cellsFrom, offT, offP, List.tail_nil, List.length_nil, Int.cast_ofNat_Int, Nat.reduceEqDiff, Nat.reduceAdd, Nat.reduceMul, Nat.reduceLeDiff, Nat.reduceLT, ↓reduceIte, reduceCtorEq, Int.reduceBEq, Int.reduceBNe, Int.reduceLT, Int.reduceLE, Int.reduceToNat])); (first | with_reducible refine on_yes ?_ | with_reducible refine on_no ?_ | with_reducible refine on_reg ?_ | (with_reducible refine on_regD (by decide +kernel) ?_) | with_reducible refine on_fin ?_)))
    exact hend
  | cons x r =>
    by_cases hx : x = nx'
    · have hb1 : (x == nx') = true := by simpa using hx
      have g4 : inR .i64 (nx' + 1) = true := inR_of (by omega)
      have g5 : (0 : Int) < ((r.length + 1 : Nat) : Int) := by omega
      have g6 : (0 : Int) ≤ 1 ∧ (1 : Int) ≤ ((r.length + 1 : Nat) : Int) ∧ ((r.length + 1 : Nat) : Int) ≤ ((r.length + 1 : Nat) : Int) := by omega
      have g7 : (r.map vI).take r.length = r.map vI := List.take_of_length_le (by simp)
      have hnxt : Next (fun m st => ∃ L nx', strip L nx' = SE ∧ m = L.length ∧ (∀ x ∈ L, 0 ≤ x ∧ x < 40) ∧ (0 ≤ nx' ∧ nx' ≤ 40) ∧ L.length ≤ 1001 ∧ st = cmSt L nx' p0 p1 p2 hold told ow) m (cmSt r (nx' + 1) p0 p1 p2 hold told ow) := by
        refine ⟨r.length, _, by rw [hm]; simp, Le.refl _, r, nx' + 1, ?_, rfl, fun y hy => hbL y (by simp [hy]), ?_, ?_, rfl⟩
        · rw [← hSL]
          show _ = (if x = nx' then strip r (nx' + 1) else (x :: r, nx'))
          rw [if_pos hx]
        · have := hbL x (by simp); omega
        · simp only [List.length_cons] at hLl; omega
      generalize (fun m st => ∃ L nx', strip L nx' = SE ∧ m = L.length ∧ (∀ x ∈ L, 0 ≤ x ∧ x < 40) ∧ (0 ≤ nx' ∧ nx' ≤ 40) ∧ L.length ≤ 1001 ∧ st = cmSt L nx' p0 p1 p2 hold told ow) = J at *
      simp only [cmSt, List.map_cons] at hnxt ⊢
      repeat (first | refine aw_seq ?_ | refine aw_block ?_ | with_reducible refine aw_ret ?_ | with_reducible refine aw_skip ?_ | with_reducible refine aw_exit ?_ | refine thn_normal ?_ | refine thn_out ?_ | refine blk_normal ?_ | refine blk_ret ?_ | refine blk_exit ?_ | ((first | refine aw_regO ?_ | refine aw_regDO ?_ | refine aw_condO ?_ | refine fin_retO ?_); (conv => (arg 1; simp (maxSteps := 30000) only [ev0, ev1, ev2, look, lookF, cellsFrom, offT, offP, List.tail_nil, List.length_nil, Int.cast_ofNat_Int, Nat.reduceEqDiff, Nat.reduceAdd, Nat.reduceMul, Nat.reduceLeDiff, Nat.reduceLT, ↓reduceIte, reduceCtorEq, Int.reduceBEq, Int.reduceBNe, Int.reduceLT, Int.reduceLE, Int.reduceToNat, hb1, g4, g5, g6, g7, List.length_cons, List.length_map])); (first | with_reducible refine on_yes ?_ | with_reducible refine on_no ?_ | with_reducible refine on_reg ?_ | (with_reducible refine on_regD (by decide +kernel) ?_) | with_reducible refine on_fin ?_)))
      exact hnxt
    · have hb1 : (x == nx') = false := by simpa using hx
      have g5 : (0 : Int) < ((r.length + 1 : Nat) : Int) := by omega
      have g6 : (0 : Int) ≤ 1 ∧ (1 : Int) ≤ ((r.length + 1 : Nat) : Int) ∧ ((r.length + 1 : Nat) : Int) ≤ ((r.length + 1 : Nat) : Int) := by omega
      have g7 : (r.map vI).take r.length = r.map vI := List.take_of_length_le (by simp)
      have hend := hend (by
        rw [← hSL]
        show (if x = nx' then strip r (nx' + 1) else (x :: r, nx')) = _
        rw [if_neg hx]) _ rfl
      generalize (fun m st => ∃ L nx', strip L nx' = SE ∧ m = L.length ∧ (∀ x ∈ L, 0 ≤ x ∧ x < 40) ∧ (0 ≤ nx' ∧ nx' ≤ 40) ∧ L.length ≤ 1001 ∧ st = cmSt L nx' p0 p1 p2 hold told ow) = J at *
      simp only [cmSt, List.map_cons] at hend ⊢
      repeat (first | refine aw_seq ?_ | refine aw_block ?_ | with_reducible refine aw_ret ?_ | with_reducible refine aw_skip ?_ | with_reducible refine aw_exit ?_ | refine thn_normal ?_ | refine thn_out ?_ | refine blk_normal ?_ | refine blk_ret ?_ | refine blk_exit ?_ | ((first | refine aw_regO ?_ | refine aw_regDO ?_ | refine aw_condO ?_ | refine fin_retO ?_); (conv => (arg 1; simp (maxSteps := 30000) only [ev0, ev1, ev2, look, lookF, cellsFrom, offT, offP, List.tail_nil, List.length_nil, Int.cast_ofNat_Int, Nat.reduceEqDiff, Nat.reduceAdd, Nat.reduceMul, Nat.reduceLeDiff, Nat.reduceLT, ↓reduceIte, reduceCtorEq, Int.reduceBEq, Int.reduceBNe, Int.reduceLT, Int.reduceLE, Int.reduceToNat, hb1, g5, List.length_cons, List.length_map])); (first | with_reducible refine on_yes ?_ | with_reducible refine on_no ?_ | with_reducible refine on_reg ?_ | (with_reducible refine on_regD (by decide +kernel) ?_) | with_reducible refine on_fin ?_)))
      exact hend
end Go.Proofs.Ytnncmddmjpocfab.ab
