/-
  Several texts in one.
-/
import Derived.Test.YtnncmddmjpocfabIrSend
import Derived.Test.YtnncmddmjpocfabM23
import Derived.Test.YtnncmddmjpocfabAWrong
import Derived.Test.YtnncmddmjpocfabM28

/-
  What the answer's functions on senders tell.
-/
namespace Go.Proofs.Ytnncmddmjpocfab.ab
set_option linter.unusedVariables false
set_option linter.unusedSimpArgs false
open Go Go.RowKit
open mth

theorem ml_nil : encMl [] = [] := rfl
theorem cl_nil : encCl [] = [] := rfl
theorem ml_cons (m : Ms) (r : List Ms) : encMl (m :: r) = aD [vI m.stream, sD 1 (m.data.map encB)] :: encMl r := rfl
theorem cl_snoc (l : List Ch) (c : Ch) : encCl (l ++ [c]) = encCl l ++ [aD [vI c.kind, vI c.number, vI c.stream, vI c.place, sD 1 (c.data.map encB), sD 1 (c.early.map vI)]] := by simp [encCl, encCh]
set_option maxHeartbeats 2000000 in
theorem put_told (s : Sd) (m : Ms) (hn : 0 ≤ s.next ∧ s.next ≤ 40) : Told Try.prog 25 [aD (encSd s), aD (encMs m)] [aD (encSd (putS s m)), vI (putE s m)] := by
  refine told_r1_Put rfl ?_
  obtain ⟨e, he⟩ : ∃ e, e = putE s m := ⟨_, rfl⟩
  obtain ⟨t, ht⟩ : ∃ t, t = putS s m := ⟨_, rfl⟩
  rw [← he, ← ht]
  simp only [encMs, encSd]
  repeat (first | refine aw_seq ?_ | refine aw_block ?_ | with_reducible refine aw_ret ?_ | with_reducible refine aw_skip ?_ | with_reducible refine aw_exit ?_ | refine thn_normal ?_ | refine thn_out ?_ | refine blk_normal ?_ | refine blk_ret ?_ | refine blk_exit ?_ | ((first | refine aw_regO ?_ | refine aw_regDO ?_ | refine aw_condO ?_ | refine fin_retO ?_); (conv => (arg 1; simp (maxSteps := 30000) only [ev0, ev1, ev2, look, lookF, cellsFrom, offT, offP, List.tail_nil, List.length_nil, Int.cast_ofNat_Int, Nat.reduceEqDiff, Nat.reduceAdd, Nat.reduceMul, Nat.reduceLeDiff, Nat.reduceLT, ↓reduceIte, reduceCtorEq, Int.reduceBEq, Int.reduceBNe, Int.reduceLT, Int.reduceLE, Int.reduceToNat])); (first | with_reducible refine on_yes ?_ | with_reducible refine on_no ?_ | with_reducible refine on_reg ?_ | (with_reducible refine on_regD (by decide +kernel) ?_) | with_reducible refine on_fin ?_)))
  refine aw_reg [[vI (wrongMsgL m.stream m.data)]] (by simp only [ev0, ev1, ev2, look, lookF, cellsFrom, offT, offP, List.tail_nil, List.length_nil, Int.cast_ofNat_Int, Nat.reduceEqDiff, Nat.reduceAdd, Nat.reduceMul, Nat.reduceLeDiff, Nat.reduceLT, ↓reduceIte, reduceCtorEq, Int.reduceBEq, Int.reduceBNe, Int.reduceLT, Int.reduceLE, Int.reduceToNat]; first | rfl | exact ⟨rfl, rfl⟩) ?_ ?_
  · exact obl_cons (wrongMsg_told m) obl_nil
  by_cases h0 : wrongMsgL m.stream m.data = 0
  · have h0' : (wrongMsgL m.stream m.data != 0) = false := by simpa using h0
    by_cases h5 : 5 < s.queue.length
    · have h5' : 5 < (s.queue.length : Int) := by omega
      have : e = 9 := by rw [he, putE, if_neg (by simpa using h0), if_pos h5]
      subst this
      have : t = s := by rw [ht, putS, ← he, if_neg (by decide)]
      subst this
      repeat (first | refine aw_seq ?_ | refine aw_block ?_ | with_reducible refine aw_ret ?_ | with_reducible refine aw_skip ?_ | with_reducible refine aw_exit ?_ | refine thn_normal ?_ | refine thn_out ?_ | refine blk_normal ?_ | refine blk_ret ?_ | refine blk_exit ?_ | ((first | refine aw_regO ?_ | refine aw_regDO ?_ | refine aw_condO ?_ | refine fin_retO ?_); (conv => (arg 1; simp (maxSteps := 30000) only [ev0, ev1, ev2, look, lookF, cellsFrom, offT, offP, List.tail_nil, List.length_nil, Int.cast_ofNat_Int, Nat.reduceEqDiff, Nat.reduceAdd, Nat.reduceMul, Nat.reduceLeDiff, Nat.reduceLT, ↓reduceIte, reduceCtorEq, Int.reduceBEq, Int.reduceBNe, Int.reduceLT, Int.reduceLE, Int.reduceToNat, h0', h5', len_ml])); (first | with_reducible refine on_yes ?_ | with_reducible refine on_no ?_ | with_reducible refine on_reg ?_ | (with_reducible refine on_regD (by decide +kernel) ?_) | with_reducible refine on_fin ?_)))
      exact ValsLe.refl _
    · have h5' : ¬ 5 < (s.queue.length : Int) := by omega
      have hr : inR .i64 (s.next + (s.queue.length : Int)) = true := inR_of (by omega)
      by_cases h39 : 39 < s.next + s.queue.length
      · have h39' : 39 < s.next + (s.queue.length : Int) := by omega
        have : e = 4 := by rw [he, putE, if_neg (by simpa using h0), if_neg h5, if_pos h39]
        subst this
        have : t = s := by rw [ht, putS, ← he, if_neg (by decide)]
        subst this
        repeat (first | refine aw_seq ?_ | refine aw_block ?_ | with_reducible refine aw_ret ?_ | with_reducible refine aw_skip ?_ | with_reducible refine aw_exit ?_ | refine thn_normal ?_ | refine thn_out ?_ | refine blk_normal ?_ | refine blk_ret ?_ | refine blk_exit ?_ | ((first | refine aw_regO ?_ | refine aw_regDO ?_ | refine aw_condO ?_ | refine fin_retO ?_); (conv => (arg 1; simp (maxSteps := 30000) only [ev0, ev1, ev2, look, lookF, cellsFrom, offT, offP, List.tail_nil, List.length_nil, Int.cast_ofNat_Int, Nat.reduceEqDiff, Nat.reduceAdd, Nat.reduceMul, Nat.reduceLeDiff, Nat.reduceLT, ↓reduceIte, reduceCtorEq, Int.reduceBEq, Int.reduceBNe, Int.reduceLT, Int.reduceLE, Int.reduceToNat, h0', h5', h39', hr, len_ml])); (first | with_reducible refine on_yes ?_ | with_reducible refine on_no ?_ | with_reducible refine on_reg ?_ | (with_reducible refine on_regD (by decide +kernel) ?_) | with_reducible refine on_fin ?_)))
        exact ValsLe.refl _
      · have h39' : ¬ 39 < s.next + (s.queue.length : Int) := by omega
        have : e = 0 := by rw [he, putE, if_neg (by simpa using h0), if_neg h5, if_neg h39]
        subst this
        have : t = { s with queue := s.queue ++ [m] } := by rw [ht, putS, ← he, if_pos rfl]
        subst this
        have hb1 : s.queue.length * 32 ≤ 140737488355328 := by omega
        have hb2 : (s.queue.length + 1) * 32 ≤ 140737488355328 := by omega
        repeat (first | refine aw_seq ?_ | refine aw_block ?_ | with_reducible refine aw_ret ?_ | with_reducible refine aw_skip ?_ | with_reducible refine aw_exit ?_ | refine thn_normal ?_ | refine thn_out ?_ | refine blk_normal ?_ | refine blk_ret ?_ | refine blk_exit ?_ | ((first | refine aw_regO ?_ | refine aw_regDO ?_ | refine aw_condO ?_ | refine fin_retO ?_); (conv => (arg 1; simp (maxSteps := 30000) only [ev0, ev1, ev2, look, lookF, cellsFrom, offT, offP, List.tail_nil, List.length_nil, Int.cast_ofNat_Int, Nat.reduceEqDiff, Nat.reduceAdd, Nat.reduceMul, Nat.reduceLeDiff, Nat.reduceLT, ↓reduceIte, reduceCtorEq, Int.reduceBEq, Int.reduceBNe, Int.reduceLT, Int.reduceLE, Int.reduceToNat, h0', h5', h39', hr, hb1, hb2, len_ml, List.length_append])); (first | with_reducible refine on_yes ?_ | with_reducible refine on_no ?_ | with_reducible refine on_reg ?_ | (with_reducible refine on_regD (by decide +kernel) ?_) | with_reducible refine on_fin ?_)))
        simp only [encMl, List.map_append, List.map_cons, List.map_nil, encMs]
        exact ValsLe.refl _
  · have h0' : (wrongMsgL m.stream m.data != 0) = true := by simpa using h0
    have : e = wrongMsgL m.stream m.data := by rw [he, putE, if_pos h0]
    subst this
    have : t = s := by rw [ht, putS, ← he, if_neg h0]
    subst this
    repeat (first | refine aw_seq ?_ | refine aw_block ?_ | with_reducible refine aw_ret ?_ | with_reducible refine aw_skip ?_ | with_reducible refine aw_exit ?_ | refine thn_normal ?_ | refine thn_out ?_ | refine blk_normal ?_ | refine blk_ret ?_ | refine blk_exit ?_ | ((first | refine aw_regO ?_ | refine aw_regDO ?_ | refine aw_condO ?_ | refine fin_retO ?_); (conv => (arg 1; simp (maxSteps := 30000) only [ev0, ev1, ev2, look, lookF, cellsFrom, offT, offP, List.tail_nil, List.length_nil, Int.cast_ofNat_Int, Nat.reduceEqDiff, Nat.reduceAdd, Nat.reduceMul, Nat.reduceLeDiff, Nat.reduceLT, ↓reduceIte, reduceCtorEq, Int.reduceBEq, Int.reduceBNe, Int.reduceLT, Int.reduceLE, Int.reduceToNat, h0'])); (first | with_reducible refine on_yes ?_ | with_reducible refine on_no ?_ | with_reducible refine on_reg ?_ | (with_reducible refine on_regD (by decide +kernel) ?_) | with_reducible refine on_fin ?_)))
    exact ValsLe.refl _

theorem again_eq {t : Int} {n : Nat} (ht : 0 ≤ t) : t - t.tdiv (n : Int) * (n : Int) = t % (n : Int) := by
  rw [Int.tdiv_eq_ediv_of_nonneg ht, Int.emod_def, Int.mul_comm]

set_option maxHeartbeats 4000000 in
theorem say_told_again (queue : List Ms) (next p0 p1 p2 turn : Int) (flight : List Ch) (ht : 0 ≤ turn ∧ turn ≤ 1000) (hf0 : 0 < flight.length) (hf : flight.length ≤ 4) (hq : queue = [] ∨ 3 < flight.length) :
    Told Try.prog 26 [aD (encSd ⟨queue, next, p0, p1, p2, flight, turn⟩)] [aD (encSd ⟨queue, next, p0, p1, p2, flight, turn % (flight.length : Int) + 1⟩), aD (encCh (flight.getD (turn % (flight.length : Int)).toNat zeroC)), vD (.bool true)] := by
  refine told_r1_SendSay rfl ?_
  have hn0 : ¬ (flight.length : Int) = 0 := by omega
  have hn1 : ((flight.length : Int) == 0) = false := by simpa using hn0
  have hae := again_eq (t := turn) (n := flight.length) ht.1
  have hm0 : 0 ≤ turn % (flight.length : Int) := Int.emod_nonneg _ hn0
  have hm1 : turn % (flight.length : Int) < flight.length := Int.emod_lt_of_pos _ (by omega)
  have hd : turn.tdiv (flight.length : Int) * (flight.length : Int) = turn - turn % (flight.length : Int) := by omega
  have hd0 : 0 ≤ turn.tdiv (flight.length : Int) := Int.tdiv_nonneg ht.1 (by omega)
  have hd1 : turn.tdiv (flight.length : Int) ≤ 1000 := by
    have := Int.tdiv_le_self (flight.length : Int) ht.1
    omega
  generalize hk : turn % (flight.length : Int) = k at *
  generalize hdv : turn.tdiv (flight.length : Int) = dv at *
  have r1 : inR .i64 dv = true := inR_of (by omega)
  have r2 : inR .i64 (dv * (flight.length : Int)) = true := inR_of (by omega)
  have r3 : inR .i64 k = true := inR_of (by omega)
  have r4 : inR .i64 (k + 1) = true := inR_of (by omega)
  have hlt : k.toNat < flight.length := by omega
  have hget : (encCl flight)[k.toNat]? = some (aD (encCh (flight.getD k.toNat zeroC))) := by
    rw [encCl, List.getElem?_map, List.getElem?_eq_getElem hlt, List.getD_eq_getElem?_getD, List.getElem?_eq_getElem hlt]; rfl
  obtain ⟨c0, hc0⟩ : ∃ c0, c0 = flight.getD k.toNat zeroC := ⟨_, rfl⟩
  rw [← hc0] at hget ⊢
  simp only [encSd, encCh] at hget ⊢
  rcases hq with hq | hq
  · subst hq
    repeat (first | refine aw_seq ?_ | refine aw_block ?_ | with_reducible refine aw_ret ?_ | with_reducible refine aw_skip ?_ | with_reducible refine aw_exit ?_ | refine thn_normal ?_ | refine thn_out ?_ | refine blk_normal ?_ | refine blk_ret ?_ | refine blk_exit ?_ | ((first | refine aw_regO ?_ | refine aw_regDO ?_ | refine aw_condO ?_ | refine fin_retO ?_); (conv => (arg 1; simp (maxSteps := 30000) only [ev0, ev1, ev2, look, lookF, cellsFrom, offT, offP, List.tail_nil, List.length_nil, Int.cast_ofNat_Int, Nat.reduceEqDiff, Nat.reduceAdd, Nat.reduceMul, Nat.reduceLeDiff, Nat.reduceLT, ↓reduceIte, reduceCtorEq, Int.reduceBEq, Int.reduceBNe, Int.reduceLT, Int.reduceLE, Int.reduceToNat, len_ml, len_cl, List.length_nil, List.map_nil, ml_nil, hn0, hn1, hdv, hae, r1, r2, r3, r4, hm0, hget])); (first | with_reducible refine on_yes ?_ | with_reducible refine on_no ?_ | with_reducible refine on_reg ?_ | (with_reducible refine on_regD (by decide +kernel) ?_) | with_reducible refine on_fin ?_)))
    repeat' (first | exact vals_nil | exact row_nil | exact es_nil | exact CVLe.refl _ | exact LfLe.refl _ | exact LfLe.nil _ | exact EsLe.refl _ | refine vals_cons ?_ ?_ | refine row_cons ?_ ?_ | refine es_cons ?_ ?_ | refine EsLe.app ?_ ?_ | refine CVLe.row ?_ | refine CVLe.leafV ?_ | refine CVLe.leafS ?_ | refine LfLe.s ?_)
  · have hq2 : 3 < (flight.length : Int) := by omega
    by_cases hqq : queue = []
    · subst hqq
      repeat (first | refine aw_seq ?_ | refine aw_block ?_ | with_reducible refine aw_ret ?_ | with_reducible refine aw_skip ?_ | with_reducible refine aw_exit ?_ | refine thn_normal ?_ | refine thn_out ?_ | refine blk_normal ?_ | refine blk_ret ?_ | refine blk_exit ?_ | ((first | refine aw_regO ?_ | refine aw_regDO ?_ | refine aw_condO ?_ | refine fin_retO ?_); (conv => (arg 1; simp (maxSteps := 30000) only [ev0, ev1, ev2, look, lookF, cellsFrom, offT, offP, List.tail_nil, List.length_nil, Int.cast_ofNat_Int, Nat.reduceEqDiff, Nat.reduceAdd, Nat.reduceMul, Nat.reduceLeDiff, Nat.reduceLT, ↓reduceIte, reduceCtorEq, Int.reduceBEq, Int.reduceBNe, Int.reduceLT, Int.reduceLE, Int.reduceToNat, len_ml, len_cl, List.length_nil, List.map_nil, ml_nil, hn0, hn1, hdv, hae, r1, r2, r3, r4, hm0, hget])); (first | with_reducible refine on_yes ?_ | with_reducible refine on_no ?_ | with_reducible refine on_reg ?_ | (with_reducible refine on_regD (by decide +kernel) ?_) | with_reducible refine on_fin ?_)))
      repeat' (first | exact vals_nil | exact row_nil | exact es_nil | exact CVLe.refl _ | exact LfLe.refl _ | exact LfLe.nil _ | exact EsLe.refl _ | refine vals_cons ?_ ?_ | refine row_cons ?_ ?_ | refine es_cons ?_ ?_ | refine EsLe.app ?_ ?_ | refine CVLe.row ?_ | refine CVLe.leafV ?_ | refine CVLe.leafS ?_ | refine LfLe.s ?_)
    · have hq3 : ((queue.length : Int) == 0) = false := by
        have : queue.length ≠ 0 := fun h => hqq (List.eq_nil_of_length_eq_zero h)
        have : ¬ (queue.length : Int) = 0 := by omega
        simpa using this
      repeat (first | refine aw_seq ?_ | refine aw_block ?_ | with_reducible refine aw_ret ?_ | with_reducible refine aw_skip ?_ | with_reducible refine aw_exit ?_ | refine thn_normal ?_ | refine thn_out ?_ | refine blk_normal ?_ | refine blk_ret ?_ | refine blk_exit ?_ | ((first | refine aw_regO ?_ | refine aw_regDO ?_ | refine aw_condO ?_ | refine fin_retO ?_); (conv => (arg 1; simp (maxSteps := 30000) only [ev0, ev1, ev2, look, lookF, cellsFrom, offT, offP, List.tail_nil, List.length_nil, Int.cast_ofNat_Int, Nat.reduceEqDiff, Nat.reduceAdd, Nat.reduceMul, Nat.reduceLeDiff, Nat.reduceLT, ↓reduceIte, reduceCtorEq, Int.reduceBEq, Int.reduceBNe, Int.reduceLT, Int.reduceLE, Int.reduceToNat, len_ml, len_cl, List.length_nil, List.map_nil, ml_nil, hq2, hq3, hn0, hn1, hdv, hae, r1, r2, r3, r4, hm0, hget])); (first | with_reducible refine on_yes ?_ | with_reducible refine on_no ?_ | with_reducible refine on_reg ?_ | (with_reducible refine on_regD (by decide +kernel) ?_) | with_reducible refine on_fin ?_)))
      repeat' (first | exact vals_nil | exact row_nil | exact es_nil | exact CVLe.refl _ | exact LfLe.refl _ | exact LfLe.nil _ | exact EsLe.refl _ | refine vals_cons ?_ ?_ | refine row_cons ?_ ?_ | refine es_cons ?_ ?_ | refine EsLe.app ?_ ?_ | refine CVLe.row ?_ | refine CVLe.leafV ?_ | refine CVLe.leafS ?_ | refine LfLe.s ?_)

set_option maxHeartbeats 1000000 in
theorem say_told_none (next p0 p1 p2 turn : Int) : Told Try.prog 26 [aD (encSd ⟨[], next, p0, p1, p2, [], turn⟩)] [aD (encSd ⟨[], next, p0, p1, p2, [], turn⟩), aD (encCh zeroC), vD (.bool false)] := by
  refine told_r1_SendSay rfl ?_
  simp only [encSd, ml_nil, cl_nil, zeroC, encCh, List.map_nil]
  repeat (first | refine aw_seq ?_ | refine aw_block ?_ | with_reducible refine aw_ret ?_ | with_reducible refine aw_skip ?_ | with_reducible refine aw_exit ?_ | refine thn_normal ?_ | refine thn_out ?_ | refine blk_normal ?_ | refine blk_ret ?_ | refine blk_exit ?_ | ((first | refine aw_regO ?_ | refine aw_regDO ?_ | refine aw_condO ?_ | refine fin_retO ?_); (conv => (arg 1; simp (maxSteps := 30000) only [ev0, ev1, ev2, look, lookF, cellsFrom, offT, offP, List.tail_nil, List.length_nil, Int.cast_ofNat_Int, Nat.reduceEqDiff, Nat.reduceAdd, Nat.reduceMul, Nat.reduceLeDiff, Nat.reduceLT, ↓reduceIte, reduceCtorEq, Int.reduceBEq, Int.reduceBNe, Int.reduceLT, Int.reduceLE, Int.reduceToNat, List.map_nil, List.length_nil])); (first | with_reducible refine on_yes ?_ | with_reducible refine on_no ?_ | with_reducible refine on_reg ?_ | (with_reducible refine on_regD (by decide +kernel) ?_) | with_reducible refine on_fin ?_)))
  repeat' (first | exact vals_nil | exact row_nil | exact es_nil | exact CVLe.refl _ | exact LfLe.refl _ | exact LfLe.nil _ | exact EsLe.refl _ | refine vals_cons ?_ ?_ | refine row_cons ?_ ?_ | refine es_cons ?_ ?_ | refine EsLe.app ?_ ?_ | refine CVLe.row ?_ | refine CVLe.leafV ?_ | refine CVLe.leafS ?_ | refine LfLe.s ?_)

set_option maxHeartbeats 4000000 in
theorem say_told_new (m : Ms) (r : List Ms) (next p0 p1 p2 turn : Int) (flight : List Ch) (hn : 0 ≤ next ∧ next ≤ 40) (h0 : 0 ≤ p0 ∧ p0 ≤ 40) (h1 : 0 ≤ p1 ∧ p1 ≤ 40) (h2 : 0 ≤ p2 ∧ p2 ≤ 40) (hf : flight.length ≤ 3) (hr : r.length ≤ 1000) (hm : 0 ≤ m.stream ∧ m.stream ≤ 2) :
    Told Try.prog 26 [aD (encSd ⟨m :: r, next, p0, p1, p2, flight, turn⟩)] [aD (encSd (newS ⟨m :: r, next, p0, p1, p2, flight, turn⟩ m r)), aD (encCh (newC ⟨m :: r, next, p0, p1, p2, flight, turn⟩ m)), vD (.bool true)] := by
  refine told_r1_SendSay rfl ?_
  have q1 : (((r.length + 1 : Nat) : Int) == 0) = false := by
    have : ¬ ((r.length + 1 : Nat) : Int) = 0 := by omega
    simpa using this
  have q2 : ¬ 3 < (flight.length : Int) := by omega
  have q3 : inR .i64 (next + 1) = true := inR_of (by omega)
  have q4 : inR .i64 (p0 + 1) = true := inR_of (by omega)
  have q5 : inR .i64 (p1 + 1) = true := inR_of (by omega)
  have q6 : inR .i64 (p2 + 1) = true := inR_of (by omega)
  have q7 : flight.length * 80 ≤ 140737488355328 := by omega
  have q8 : (flight.length + 1) * 80 ≤ 140737488355328 := by omega
  have q9 : (0 : Int) ≤ 1 ∧ (1 : Int) ≤ ((r.length + 1 : Nat) : Int) ∧ ((r.length + 1 : Nat) : Int) ≤ ((r.length + 1 : Nat) : Int) := by omega
  have q10 : (encMl r).take r.length = encMl r := List.take_of_length_le (by rw [len_ml]; exact Nat.le_refl _)
  obtain ⟨ms, md⟩ := m
  simp only at hm
  rcases (by omega : ms = 0 ∨ ms = 1 ∨ ms = 2) with hs | hs | hs
  · subst hs
    simp only [encSd, newS, newC, placeOf, encCh, ml_cons, cl_snoc, List.map_nil, if_true, Int.reduceEq, if_false]
    repeat (first | refine aw_seq ?_ | refine aw_block ?_ | with_reducible refine aw_ret ?_ | with_reducible refine aw_skip ?_ | with_reducible refine aw_exit ?_ | refine thn_normal ?_ | refine thn_out ?_ | refine blk_normal ?_ | refine blk_ret ?_ | refine blk_exit ?_ | ((first | refine aw_regO ?_ | refine aw_regDO ?_ | refine aw_condO ?_ | refine fin_retO ?_); (conv => (arg 1; simp (maxSteps := 30000) only [ev0, ev1, ev2, look, lookF, cellsFrom, offT, offP, List.tail_nil, List.length_nil, Int.cast_ofNat_Int, Nat.reduceEqDiff, Nat.reduceAdd, Nat.reduceMul, Nat.reduceLeDiff, Nat.reduceLT, ↓reduceIte, reduceCtorEq, Int.reduceBEq, Int.reduceBNe, Int.reduceLT, Int.reduceLE, Int.reduceToNat, len_ml, len_cl, List.length_append, q1, q2, q3, q4, q5, q6, q7, q8, q9, q10])); (first | with_reducible refine on_yes ?_ | with_reducible refine on_no ?_ | with_reducible refine on_reg ?_ | (with_reducible refine on_regD (by decide +kernel) ?_) | with_reducible refine on_fin ?_)))
    repeat' (first | exact vals_nil | exact row_nil | exact es_nil | exact CVLe.refl _ | exact LfLe.refl _ | exact LfLe.nil _ | exact EsLe.refl _ | refine vals_cons ?_ ?_ | refine row_cons ?_ ?_ | refine es_cons ?_ ?_ | refine EsLe.app ?_ ?_ | refine CVLe.row ?_ | refine CVLe.leafV ?_ | refine CVLe.leafS ?_ | refine LfLe.s ?_)
  · subst hs
    simp only [encSd, newS, newC, placeOf, encCh, ml_cons, cl_snoc, List.map_nil, if_true, Int.reduceEq, if_false]
    repeat (first | refine aw_seq ?_ | refine aw_block ?_ | with_reducible refine aw_ret ?_ | with_reducible refine aw_skip ?_ | with_reducible refine aw_exit ?_ | refine thn_normal ?_ | refine thn_out ?_ | refine blk_normal ?_ | refine blk_ret ?_ | refine blk_exit ?_ | ((first | refine aw_regO ?_ | refine aw_regDO ?_ | refine aw_condO ?_ | refine fin_retO ?_); (conv => (arg 1; simp (maxSteps := 30000) only [ev0, ev1, ev2, look, lookF, cellsFrom, offT, offP, List.tail_nil, List.length_nil, Int.cast_ofNat_Int, Nat.reduceEqDiff, Nat.reduceAdd, Nat.reduceMul, Nat.reduceLeDiff, Nat.reduceLT, ↓reduceIte, reduceCtorEq, Int.reduceBEq, Int.reduceBNe, Int.reduceLT, Int.reduceLE, Int.reduceToNat, len_ml, len_cl, List.length_append, q1, q2, q3, q4, q5, q6, q7, q8, q9, q10])); (first | with_reducible refine on_yes ?_ | with_reducible refine on_no ?_ | with_reducible refine on_reg ?_ | (with_reducible refine on_regD (by decide +kernel) ?_) | with_reducible refine on_fin ?_)))
    repeat' (first | exact vals_nil | exact row_nil | exact es_nil | exact CVLe.refl _ | exact LfLe.refl _ | exact LfLe.nil _ | exact EsLe.refl _ | refine vals_cons ?_ ?_ | refine row_cons ?_ ?_ | refine es_cons ?_ ?_ | refine EsLe.app ?_ ?_ | refine CVLe.row ?_ | refine CVLe.leafV ?_ | refine CVLe.leafS ?_ | refine LfLe.s ?_)
  · subst hs
    simp only [encSd, newS, newC, placeOf, encCh, ml_cons, cl_snoc, List.map_nil, if_true, Int.reduceEq, if_false]
    repeat (first | refine aw_seq ?_ | refine aw_block ?_ | with_reducible refine aw_ret ?_ | with_reducible refine aw_skip ?_ | with_reducible refine aw_exit ?_ | refine thn_normal ?_ | refine thn_out ?_ | refine blk_normal ?_ | refine blk_ret ?_ | refine blk_exit ?_ | ((first | refine aw_regO ?_ | refine aw_regDO ?_ | refine aw_condO ?_ | refine fin_retO ?_); (conv => (arg 1; simp (maxSteps := 30000) only [ev0, ev1, ev2, look, lookF, cellsFrom, offT, offP, List.tail_nil, List.length_nil, Int.cast_ofNat_Int, Nat.reduceEqDiff, Nat.reduceAdd, Nat.reduceMul, Nat.reduceLeDiff, Nat.reduceLT, ↓reduceIte, reduceCtorEq, Int.reduceBEq, Int.reduceBNe, Int.reduceLT, Int.reduceLE, Int.reduceToNat, len_ml, len_cl, List.length_append, q1, q2, q3, q4, q5, q6, q7, q8, q9, q10])); (first | with_reducible refine on_yes ?_ | with_reducible refine on_no ?_ | with_reducible refine on_reg ?_ | (with_reducible refine on_regD (by decide +kernel) ?_) | with_reducible refine on_fin ?_)))
    repeat' (first | exact vals_nil | exact row_nil | exact es_nil | exact CVLe.refl _ | exact LfLe.refl _ | exact LfLe.nil _ | exact EsLe.refl _ | refine vals_cons ?_ ?_ | refine row_cons ?_ ?_ | refine es_cons ?_ ?_ | refine EsLe.app ?_ ?_ | refine CVLe.row ?_ | refine CVLe.leafV ?_ | refine CVLe.leafS ?_ | refine LfLe.s ?_)
end Go.Proofs.Ytnncmddmjpocfab.ab

/-
  What the answer's RecvHear tells: what waits is told as long as some of it is its stream's next.
-/
namespace Go.Proofs.Ytnncmddmjpocfab.ab
set_option linter.unusedVariables false
set_option linter.unusedSimpArgs false
open Go Go.RowKit
open mth

theorem ml_snoc (l : List Ms) (m : Ms) : encMl (l ++ [m]) = encMl l ++ [aD [vI m.stream, sD 1 (m.data.map encB)]] := by simp [encMl, encMs]
end Go.Proofs.Ytnncmddmjpocfab.ab
