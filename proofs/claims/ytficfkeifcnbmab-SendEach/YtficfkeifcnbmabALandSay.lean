/-
  What the landed package send tells: what is said.
-/
import Derived.Test.YtficfkeifcnbmabALandSend
namespace Go.Proofs.Ytficfkeifcnbmab.ab
set_option linter.unusedVariables false
set_option linter.unusedSimpArgs false
open Go Go.RowKit
open mth

set_option maxHeartbeats 8000000 in
theorem sayNew_told (m : Ms) (r : List Ms) (next p0 p1 p2 turn : Int) (flight : List Ch) (hn : 0 ≤ next ∧ next ≤ 40) (h0 : 0 ≤ p0 ∧ p0 ≤ 40) (h1 : 0 ≤ p1 ∧ p1 ≤ 40) (h2 : 0 ≤ p2 ∧ p2 ≤ 40) (hf : flight.length ≤ 3) (hr : r.length ≤ 1000) (hm : 0 ≤ m.stream ∧ m.stream ≤ 2) :
    ToldI Try.prog 16 [aD (encSd ⟨m :: r, next, p0, p1, p2, flight, turn⟩)] 0 (some 5) 32 (6, none) [aD (encSd (newS ⟨m :: r, next, p0, p1, p2, flight, turn⟩ m r)), aD (encCh (newC ⟨m :: r, next, p0, p1, p2, flight, turn⟩ m))] := by
  refine toldI_send_sayNew ?_
  have q3 : inR .i64 (next + 1) = true := inR_of (by omega)
  have q4 : inR .i64 (p0 + 1) = true := inR_of (by omega)
  have q5 : inR .i64 (p1 + 1) = true := inR_of (by omega)
  have q6 : inR .i64 (p2 + 1) = true := inR_of (by omega)
  have q8 : (flight.length + 1) * 80 ≤ 140737488355328 := by omega
  have q9 : (0 : Int) ≤ 1 ∧ (1 : Int) ≤ ((r.length + 1 : Nat) : Int) ∧ ((r.length + 1 : Nat) : Int) ≤ ((r.length + 1 : Nat) : Int) := by omega
  have q10 : (encMl r).take r.length = encMl r := List.take_of_length_le (by rw [len_ml]; exact Nat.le_refl _)
  obtain ⟨ms, md⟩ := m
  simp only at hm
  rcases (by omega : ms = 0 ∨ ms = 1 ∨ ms = 2) with hs | hs | hs
  · subst hs
    simp only [encSd, newS, newC, placeOf, encCh, ml_cons, cl_snoc, List.map_nil, if_true, Int.reduceEq, if_false]
    repeat (first | refine aw_seq ?_ | refine aw_block ?_ | with_reducible refine aw_ret ?_ | with_reducible refine aw_skip ?_ | with_reducible refine aw_exit ?_ | refine thn_normal ?_ | refine thn_out ?_ | refine blk_normal ?_ | refine blk_ret ?_ | refine blk_exit ?_ | ((first | refine aw_regO ?_ | refine aw_regDO ?_ | refine aw_condO ?_ | refine fin_retO ?_); (conv => (arg 1; simp (maxSteps := 30000) only [ev0, ev1, ev2, look, lookF, cellsFrom, offT, offP, List.tail_nil, List.length_nil, Int.cast_ofNat_Int, Nat.reduceEqDiff, Nat.reduceAdd, Nat.reduceMul, Nat.reduceLeDiff, Nat.reduceLT, ↓reduceIte, reduceCtorEq, Int.reduceBEq, Int.reduceBNe, Int.reduceLT, Int.reduceLE, Int.reduceToNat, len_ml, len_cl, List.length_append, q3, q4, q5, q6, q8, q9, q10])); (first | with_reducible refine on_yes ?_ | with_reducible refine on_no ?_ | with_reducible refine on_reg ?_ | (with_reducible refine on_regD (by decide +kernel) ?_) | with_reducible refine on_fin ?_)))
    repeat' (first | exact vals_nil | exact row_nil | exact es_nil | exact CVLe.refl _ | exact LfLe.refl _ | exact LfLe.nil _ | exact EsLe.refl _ | refine vals_cons ?_ ?_ | refine row_cons ?_ ?_ | refine es_cons ?_ ?_ | refine EsLe.app ?_ ?_ | refine CVLe.row ?_ | refine CVLe.leafV ?_ | refine CVLe.leafS ?_ | refine LfLe.s ?_)
  · subst hs
    simp only [encSd, newS, newC, placeOf, encCh, ml_cons, cl_snoc, List.map_nil, if_true, Int.reduceEq, if_false]
    repeat (first | refine aw_seq ?_ | refine aw_block ?_ | with_reducible refine aw_ret ?_ | with_reducible refine aw_skip ?_ | with_reducible refine aw_exit ?_ | refine thn_normal ?_ | refine thn_out ?_ | refine blk_normal ?_ | refine blk_ret ?_ | refine blk_exit ?_ | ((first | refine aw_regO ?_ | refine aw_regDO ?_ | refine aw_condO ?_ | refine fin_retO ?_); (conv => (arg 1; simp (maxSteps := 30000) only [ev0, ev1, ev2, look, lookF, cellsFrom, offT, offP, List.tail_nil, List.length_nil, Int.cast_ofNat_Int, Nat.reduceEqDiff, Nat.reduceAdd, Nat.reduceMul, Nat.reduceLeDiff, Nat.reduceLT, ↓reduceIte, reduceCtorEq, Int.reduceBEq, Int.reduceBNe, Int.reduceLT, Int.reduceLE, Int.reduceToNat, len_ml, len_cl, List.length_append, q3, q4, q5, q6, q8, q9, q10])); (first | with_reducible refine on_yes ?_ | with_reducible refine on_no ?_ | with_reducible refine on_reg ?_ | (with_reducible refine on_regD (by decide +kernel) ?_) | with_reducible refine on_fin ?_)))
    repeat' (first | exact vals_nil | exact row_nil | exact es_nil | exact CVLe.refl _ | exact LfLe.refl _ | exact LfLe.nil _ | exact EsLe.refl _ | refine vals_cons ?_ ?_ | refine row_cons ?_ ?_ | refine es_cons ?_ ?_ | refine EsLe.app ?_ ?_ | refine CVLe.row ?_ | refine CVLe.leafV ?_ | refine CVLe.leafS ?_ | refine LfLe.s ?_)
  · subst hs
    simp only [encSd, newS, newC, placeOf, encCh, ml_cons, cl_snoc, List.map_nil, if_true, Int.reduceEq, if_false]
    repeat (first | refine aw_seq ?_ | refine aw_block ?_ | with_reducible refine aw_ret ?_ | with_reducible refine aw_skip ?_ | with_reducible refine aw_exit ?_ | refine thn_normal ?_ | refine thn_out ?_ | refine blk_normal ?_ | refine blk_ret ?_ | refine blk_exit ?_ | ((first | refine aw_regO ?_ | refine aw_regDO ?_ | refine aw_condO ?_ | refine fin_retO ?_); (conv => (arg 1; simp (maxSteps := 30000) only [ev0, ev1, ev2, look, lookF, cellsFrom, offT, offP, List.tail_nil, List.length_nil, Int.cast_ofNat_Int, Nat.reduceEqDiff, Nat.reduceAdd, Nat.reduceMul, Nat.reduceLeDiff, Nat.reduceLT, ↓reduceIte, reduceCtorEq, Int.reduceBEq, Int.reduceBNe, Int.reduceLT, Int.reduceLE, Int.reduceToNat, len_ml, len_cl, List.length_append, q3, q4, q5, q6, q8, q9, q10])); (first | with_reducible refine on_yes ?_ | with_reducible refine on_no ?_ | with_reducible refine on_reg ?_ | (with_reducible refine on_regD (by decide +kernel) ?_) | with_reducible refine on_fin ?_)))
    repeat' (first | exact vals_nil | exact row_nil | exact es_nil | exact CVLe.refl _ | exact LfLe.refl _ | exact LfLe.nil _ | exact EsLe.refl _ | refine vals_cons ?_ ?_ | refine row_cons ?_ ?_ | refine es_cons ?_ ?_ | refine EsLe.app ?_ ?_ | refine CVLe.row ?_ | refine CVLe.leafV ?_ | refine CVLe.leafS ?_ | refine LfLe.s ?_)
theorem tmod_eq {t : Int} {n : Nat} (ht : 0 ≤ t) : t.tmod (n : Int) = t % (n : Int) := Int.tmod_eq_emod_of_nonneg ht
set_option maxHeartbeats 4000000 in
theorem sayAgain_told (queue : List Ms) (next p0 p1 p2 turn : Int) (flight : List Ch) (ht : 0 ≤ turn ∧ turn ≤ 1000) (hf0 : 0 < flight.length) (hf : flight.length ≤ 4) :
    Told Try.prog 17 [aD (encSd ⟨queue, next, p0, p1, p2, flight, turn⟩)] [aD (encSd ⟨queue, next, p0, p1, p2, flight, turn % (flight.length : Int) + 1⟩), aD (encCh (flight.getD (turn % (flight.length : Int)).toNat zeroC))] := by
  refine told_send_sayAgain rfl ?_
  have hn0 : ¬ (flight.length : Int) = 0 := by omega
  have hae := tmod_eq (t := turn) (n := flight.length) ht.1
  have hm0 : 0 ≤ turn % (flight.length : Int) := Int.emod_nonneg _ hn0
  have hm1 : turn % (flight.length : Int) < flight.length := Int.emod_lt_of_pos _ (by omega)
  generalize hk : turn % (flight.length : Int) = k at *
  have r4 : inR .i64 (k + 1) = true := inR_of (by omega)
  have hlt : k.toNat < flight.length := by omega
  have hget : (encCl flight)[k.toNat]? = some (aD (encCh (flight.getD k.toNat zeroC))) := by
    rw [encCl, List.getElem?_map, List.getElem?_eq_getElem hlt, List.getD_eq_getElem?_getD, List.getElem?_eq_getElem hlt]; rfl
  obtain ⟨c0, hc0⟩ : ∃ c0, c0 = flight.getD k.toNat zeroC := ⟨_, rfl⟩
  rw [← hc0] at hget ⊢
  simp only [encSd, encCh] at hget ⊢
  repeat (first | refine aw_seq ?_ | refine aw_block ?_ | with_reducible refine aw_ret ?_ | with_reducible refine aw_skip ?_ | with_reducible refine aw_exit ?_ | refine thn_normal ?_ | refine thn_out ?_ | refine blk_normal ?_ | refine blk_ret ?_ | refine blk_exit ?_ | ((first | refine aw_regO ?_ | refine aw_regDO ?_ | refine aw_condO ?_ | refine fin_retO ?_); (conv => (arg 1; simp (maxSteps := 30000) only [ev0, ev1, ev2, look, lookF, cellsFrom, offT, offP, List.tail_nil, List.length_nil, Int.cast_ofNat_Int, Nat.reduceEqDiff, Nat.reduceAdd, Nat.reduceMul, Nat.reduceLeDiff, Nat.reduceLT, ↓reduceIte, reduceCtorEq, Int.reduceBEq, Int.reduceBNe, Int.reduceLT, Int.reduceLE, Int.reduceToNat, len_cl, hn0, hae, r4, hm0, hget])); (first | with_reducible refine on_yes ?_ | with_reducible refine on_no ?_ | with_reducible refine on_reg ?_ | (with_reducible refine on_regD (by decide +kernel) ?_) | with_reducible refine on_fin ?_)))
  repeat' (first | exact vals_nil | exact row_nil | exact es_nil | exact CVLe.refl _ | exact LfLe.refl _ | exact LfLe.nil _ | exact EsLe.refl _ | refine vals_cons ?_ ?_ | refine row_cons ?_ ?_ | refine es_cons ?_ ?_ | refine EsLe.app ?_ ?_ | refine CVLe.row ?_ | refine CVLe.leafV ?_ | refine CVLe.leafS ?_ | refine LfLe.s ?_)
set_option maxHeartbeats 8000000 in
theorem lsay_told (s : Sd) (h : GoodS s) : Told Try.prog 6 [aD (encSd s)] [aD (encSd (sayL s).1), aD (encCh (sayL s).2.1), vB (sayL s).2.2] := by
  refine told_send_Say rfl ?_
  have hown := ownS_toldF s (good_small h)
  have hsm := good_small h
  have hdat := say_early h
  have hgd : (sayL s).2.1.data.length ≤ 1048576 ∧ (sayL s).2.1.early.length ≤ 1048576 := by
    refine ⟨?_, by omega⟩
    unfold sayL
    split
    · split
      · simp [zeroC]
      · rename_i hf
        have hk := againK_lt h (by omega)
        have hlt : (againK s).toNat < s.flight.length := by omega
        simp only [List.getD_eq_getElem?_getD, List.getElem?_eq_getElem hlt, Option.getD_some]
        exact (hsm.c _ (List.getElem_mem hlt)).1
    · rename_i m r hq
      split
      · rename_i hf
        have hk := againK_lt h (by omega)
        have hlt : (againK s).toNat < s.flight.length := by omega
        simp only [List.getD_eq_getElem?_getD, List.getElem?_eq_getElem hlt, Option.getD_some]
        exact (hsm.c _ (List.getElem_mem hlt)).1
      · exact hsm.m m (by rw [hq]; simp)
  have hn := h.n
  have hp := h.p
  have ht := h.t
  have hf := h.f
  have hq := h.q
  have hms := h.m
  obtain ⟨queue, next, p0, p1, p2, flight, turn⟩ := s
  simp only at hn hp ht hf hq hms
  have hown' := ownCh_told _ hgd.1 hgd.2
  by_cases hnew : queue = [] ∨ 3 < flight.length
  · by_cases hf0 : flight.length = 0
    · have hqn : queue = [] := by rcases hnew with q | q <;> first | exact q | omega
      subst hqn
      have hfn : flight = [] := List.eq_nil_of_length_eq_zero hf0
      subst hfn
      simp only [sayL, List.length_nil, if_true]
      simp only [encSd, encCh, zeroC, List.map_nil, ml_nil, cl_nil] at hown ⊢
      repeat (first | refine aw_seq ?_ | refine aw_block ?_ | with_reducible refine aw_ret ?_ | with_reducible refine aw_skip ?_ | with_reducible refine aw_exit ?_ | refine thn_normal ?_ | refine thn_out ?_ | refine blk_normal ?_ | refine blk_ret ?_ | refine blk_exit ?_ | ((first | refine aw_regO ?_ | refine aw_regDO ?_ | refine aw_condO ?_ | refine fin_retO ?_); (conv => (arg 1; simp (maxSteps := 30000) only [ev0, ev1, ev2, look, lookF, cellsFrom, offT, offP, List.tail_nil, List.length_nil, Int.cast_ofNat_Int, Nat.reduceEqDiff, Nat.reduceAdd, Nat.reduceMul, Nat.reduceLeDiff, Nat.reduceLT, ↓reduceIte, reduceCtorEq, Int.reduceBEq, Int.reduceBNe, Int.reduceLT, Int.reduceLE, Int.reduceToNat])); (first | with_reducible refine on_yes ?_ | with_reducible refine on_no ?_ | with_reducible refine on_reg ?_ | (with_reducible refine on_regD (by decide +kernel) ?_) | with_reducible refine on_fin ?_)))
      refine ⟨1, _, _, _, 5, _, _, rfl, rfl, rfl, rfl, row_refl _, hown, rfl, ?_⟩
      repeat (first | refine aw_seq ?_ | refine aw_block ?_ | with_reducible refine aw_ret ?_ | with_reducible refine aw_skip ?_ | with_reducible refine aw_exit ?_ | refine thn_normal ?_ | refine thn_out ?_ | refine blk_normal ?_ | refine blk_ret ?_ | refine blk_exit ?_ | ((first | refine aw_regO ?_ | refine aw_regDO ?_ | refine aw_condO ?_ | refine fin_retO ?_); (conv => (arg 1; simp (maxSteps := 30000) only [ev0, ev1, ev2, look, lookF, cellsFrom, offT, offP, List.tail_nil, List.length_nil, Int.cast_ofNat_Int, Nat.reduceEqDiff, Nat.reduceAdd, Nat.reduceMul, Nat.reduceLeDiff, Nat.reduceLT, ↓reduceIte, reduceCtorEq, Int.reduceBEq, Int.reduceBNe, Int.reduceLT, Int.reduceLE, Int.reduceToNat, List.length_nil, Int.natCast_zero, Int.lt_irrefl])); (first | with_reducible refine on_yes ?_ | with_reducible refine on_no ?_ | with_reducible refine on_reg ?_ | (with_reducible refine on_regD (by decide +kernel) ?_) | with_reducible refine on_fin ?_)))
      repeat' (first | exact vals_nil | exact row_nil | exact es_nil | exact CVLe.refl _ | exact LfLe.refl _ | exact LfLe.nil _ | exact EsLe.refl _ | refine vals_cons ?_ ?_ | refine row_cons ?_ ?_ | refine es_cons ?_ ?_ | refine EsLe.app ?_ ?_ | refine CVLe.row ?_ | refine CVLe.leafV ?_ | refine CVLe.leafS ?_ | refine LfLe.s ?_)
    · have hsay : sayL ⟨queue, next, p0, p1, p2, flight, turn⟩ = (⟨queue, next, p0, p1, p2, flight, turn % (flight.length : Int) + 1⟩, flight.getD (turn % (flight.length : Int)).toNat zeroC, true) := by
        unfold sayL
        simp only
        split
        · rw [if_neg hf0]; rfl
        · rcases hnew with q | q
          · cases q
          · rw [if_pos q]; rfl
      rw [hsay] at hown' ⊢
      have hag := sayAgain_told queue next p0 p1 p2 turn flight ⟨ht.1, by omega⟩ (by omega) hf
      generalize turn % (flight.length : Int) + 1 = t' at *
      generalize flight.getD (turn % (flight.length : Int)).toNat zeroC = c0 at *
      have g1 : 0 < (flight.length : Int) := by omega
      simp only [encSd, encCh] at hown hown' hag ⊢
      have fin2 : ∀ st, st = (⟨[(1, pD 1 0), (2, pD 2 0), (3, pD 3 0), (5, pD 5 0)], [(1, [sD 2 (encMl queue), vI next, vI p0, vI p1, vI p2, sD 6 (encCl flight), vI t']), (2, [vD (.slice none 0 0), vI 0, vI 0, vI 0, vI 0, vD (.slice none 0 0), vI 0]), (3, [vI 0, vI 0, vI 0, vI 0, vD (.slice none 0 0), vD (.slice none 0 0)]), (5, [vI c0.kind, vI c0.number, vI c0.stream, vI c0.place, sD 1 (c0.data.map encB), sD 1 (c0.early.map vI)])], []⟩ : St) →
          cSeq send_Say_r8 cRet st (fin [(2, some (7, true)), (3, some (6, true)), (4, none)] [aD [sD 2 (encMl queue), vI next, vI p0, vI p1, vI p2, sD 6 (encCl flight), vI t'], aD [vI c0.kind, vI c0.number, vI c0.stream, vI c0.place, sD 1 (c0.data.map encB), sD 1 (c0.early.map vI)], vB true]) := by
        rintro st rfl
        repeat (first | refine aw_seq ?_ | refine aw_block ?_ | with_reducible refine aw_ret ?_ | with_reducible refine aw_skip ?_ | with_reducible refine aw_exit ?_ | refine thn_normal ?_ | refine thn_out ?_ | refine blk_normal ?_ | refine blk_ret ?_ | refine blk_exit ?_ | ((first | refine aw_regO ?_ | refine aw_regDO ?_ | refine aw_condO ?_ | refine fin_retO ?_); (conv => (arg 1; simp (maxSteps := 30000) only [ev0, ev1, ev2, look, lookF, cellsFrom, offT, offP, List.tail_nil, List.length_nil, Int.cast_ofNat_Int, Nat.reduceEqDiff, Nat.reduceAdd, Nat.reduceMul, Nat.reduceLeDiff, Nat.reduceLT, ↓reduceIte, reduceCtorEq, Int.reduceBEq, Int.reduceBNe, Int.reduceLT, Int.reduceLE, Int.reduceToNat])); (first | with_reducible refine on_yes ?_ | with_reducible refine on_no ?_ | with_reducible refine on_reg ?_ | (with_reducible refine on_regD (by decide +kernel) ?_) | with_reducible refine on_fin ?_)))
        refine aw_regD [[aD [vI c0.kind, vI c0.number, vI c0.stream, vI c0.place, sD 1 (c0.data.map encB), sD 1 (c0.early.map vI)]]] (by simp only [ev0, ev1, ev2, look, lookF, cellsFrom, offT, offP, List.tail_nil, List.length_nil, Int.cast_ofNat_Int, Nat.reduceEqDiff, Nat.reduceAdd, Nat.reduceMul, Nat.reduceLeDiff, Nat.reduceLT, ↓reduceIte, reduceCtorEq, Int.reduceBEq, Int.reduceBNe, Int.reduceLT, Int.reduceLE, Int.reduceToNat]; first | exact ⟨rfl, rfl⟩ | exact ⟨rfl, rfl, rfl⟩) (by decide +kernel) ?_ ?_
        · exact obl_cons hown' obl_nil
        repeat (first | refine aw_seq ?_ | refine aw_block ?_ | with_reducible refine aw_ret ?_ | with_reducible refine aw_skip ?_ | with_reducible refine aw_exit ?_ | refine thn_normal ?_ | refine thn_out ?_ | refine blk_normal ?_ | refine blk_ret ?_ | refine blk_exit ?_ | ((first | refine aw_regO ?_ | refine aw_regDO ?_ | refine aw_condO ?_ | refine fin_retO ?_); (conv => (arg 1; simp (maxSteps := 30000) only [ev0, ev1, ev2, look, lookF, cellsFrom, offT, offP, List.tail_nil, List.length_nil, Int.cast_ofNat_Int, Nat.reduceEqDiff, Nat.reduceAdd, Nat.reduceMul, Nat.reduceLeDiff, Nat.reduceLT, ↓reduceIte, reduceCtorEq, Int.reduceBEq, Int.reduceBNe, Int.reduceLT, Int.reduceLE, Int.reduceToNat])); (first | with_reducible refine on_yes ?_ | with_reducible refine on_no ?_ | with_reducible refine on_reg ?_ | (with_reducible refine on_regD (by decide +kernel) ?_) | with_reducible refine on_fin ?_)))
        exact ValsLe.refl _
      by_cases hqn : queue = []
      · subst hqn
        simp only [ml_nil] at *
        repeat (first | refine aw_seq ?_ | refine aw_block ?_ | with_reducible refine aw_ret ?_ | with_reducible refine aw_skip ?_ | with_reducible refine aw_exit ?_ | refine thn_normal ?_ | refine thn_out ?_ | refine blk_normal ?_ | refine blk_ret ?_ | refine blk_exit ?_ | ((first | refine aw_regO ?_ | refine aw_regDO ?_ | refine aw_condO ?_ | refine fin_retO ?_); (conv => (arg 1; simp (maxSteps := 30000) only [ev0, ev1, ev2, look, lookF, cellsFrom, offT, offP, List.tail_nil, List.length_nil, Int.cast_ofNat_Int, Nat.reduceEqDiff, Nat.reduceAdd, Nat.reduceMul, Nat.reduceLeDiff, Nat.reduceLT, ↓reduceIte, reduceCtorEq, Int.reduceBEq, Int.reduceBNe, Int.reduceLT, Int.reduceLE, Int.reduceToNat])); (first | with_reducible refine on_yes ?_ | with_reducible refine on_no ?_ | with_reducible refine on_reg ?_ | (with_reducible refine on_regD (by decide +kernel) ?_) | with_reducible refine on_fin ?_)))
        refine ⟨1, _, _, _, 5, _, _, rfl, rfl, rfl, rfl, row_refl _, hown, rfl, ?_⟩
        repeat (first | refine aw_seq ?_ | refine aw_block ?_ | with_reducible refine aw_ret ?_ | with_reducible refine aw_skip ?_ | with_reducible refine aw_exit ?_ | refine thn_normal ?_ | refine thn_out ?_ | refine blk_normal ?_ | refine blk_ret ?_ | refine blk_exit ?_ | ((first | refine aw_regO ?_ | refine aw_regDO ?_ | refine aw_condO ?_ | refine fin_retO ?_); (conv => (arg 1; simp (maxSteps := 30000) only [ev0, ev1, ev2, look, lookF, cellsFrom, offT, offP, List.tail_nil, List.length_nil, Int.cast_ofNat_Int, Nat.reduceEqDiff, Nat.reduceAdd, Nat.reduceMul, Nat.reduceLeDiff, Nat.reduceLT, ↓reduceIte, reduceCtorEq, Int.reduceBEq, Int.reduceBNe, Int.reduceLT, Int.reduceLE, Int.reduceToNat, List.length_nil, Int.natCast_zero, Int.lt_irrefl, g1, len_cl])); (first | with_reducible refine on_yes ?_ | with_reducible refine on_no ?_ | with_reducible refine on_reg ?_ | (with_reducible refine on_regD (by decide +kernel) ?_) | with_reducible refine on_fin ?_)))
        refine aw_reg [[aD [sD 2 [], vI next, vI p0, vI p1, vI p2, sD 6 (encCl flight), vI t'], aD [vI c0.kind, vI c0.number, vI c0.stream, vI c0.place, sD 1 (c0.data.map encB), sD 1 (c0.early.map vI)]]] (by simp only [ev0, ev1, ev2, look, lookF, cellsFrom, offT, offP, List.tail_nil, List.length_nil, Int.cast_ofNat_Int, Nat.reduceEqDiff, Nat.reduceAdd, Nat.reduceMul, Nat.reduceLeDiff, Nat.reduceLT, ↓reduceIte, reduceCtorEq, Int.reduceBEq, Int.reduceBNe, Int.reduceLT, Int.reduceLE, Int.reduceToNat]; first | rfl | exact ⟨rfl, rfl⟩) ?_ ?_
        · exact obl_cons hag obl_nil
        refine blk_normal ?_
        refine thn_normal ?_
        exact fin2 _ rfl
      · have hq3 : 0 < (queue.length : Int) := by
          have : queue.length ≠ 0 := fun h => hqn (List.eq_nil_of_length_eq_zero h)
          omega
        have hf3 : ¬ (flight.length : Int) < 4 := by
          rcases hnew with q | q
          · exact absurd q hqn
          · omega
        repeat (first | refine aw_seq ?_ | refine aw_block ?_ | with_reducible refine aw_ret ?_ | with_reducible refine aw_skip ?_ | with_reducible refine aw_exit ?_ | refine thn_normal ?_ | refine thn_out ?_ | refine blk_normal ?_ | refine blk_ret ?_ | refine blk_exit ?_ | ((first | refine aw_regO ?_ | refine aw_regDO ?_ | refine aw_condO ?_ | refine fin_retO ?_); (conv => (arg 1; simp (maxSteps := 30000) only [ev0, ev1, ev2, look, lookF, cellsFrom, offT, offP, List.tail_nil, List.length_nil, Int.cast_ofNat_Int, Nat.reduceEqDiff, Nat.reduceAdd, Nat.reduceMul, Nat.reduceLeDiff, Nat.reduceLT, ↓reduceIte, reduceCtorEq, Int.reduceBEq, Int.reduceBNe, Int.reduceLT, Int.reduceLE, Int.reduceToNat])); (first | with_reducible refine on_yes ?_ | with_reducible refine on_no ?_ | with_reducible refine on_reg ?_ | (with_reducible refine on_regD (by decide +kernel) ?_) | with_reducible refine on_fin ?_)))
        refine ⟨1, _, _, _, 5, _, _, rfl, rfl, rfl, rfl, row_refl _, hown, rfl, ?_⟩
        repeat (first | refine aw_seq ?_ | refine aw_block ?_ | with_reducible refine aw_ret ?_ | with_reducible refine aw_skip ?_ | with_reducible refine aw_exit ?_ | refine thn_normal ?_ | refine thn_out ?_ | refine blk_normal ?_ | refine blk_ret ?_ | refine blk_exit ?_ | ((first | refine aw_regO ?_ | refine aw_regDO ?_ | refine aw_condO ?_ | refine fin_retO ?_); (conv => (arg 1; simp (maxSteps := 30000) only [ev0, ev1, ev2, look, lookF, cellsFrom, offT, offP, List.tail_nil, List.length_nil, Int.cast_ofNat_Int, Nat.reduceEqDiff, Nat.reduceAdd, Nat.reduceMul, Nat.reduceLeDiff, Nat.reduceLT, ↓reduceIte, reduceCtorEq, Int.reduceBEq, Int.reduceBNe, Int.reduceLT, Int.reduceLE, Int.reduceToNat, hq3, hf3, g1, len_cl, len_ml])); (first | with_reducible refine on_yes ?_ | with_reducible refine on_no ?_ | with_reducible refine on_reg ?_ | (with_reducible refine on_regD (by decide +kernel) ?_) | with_reducible refine on_fin ?_)))
        refine aw_reg [[aD [sD 2 (encMl queue), vI next, vI p0, vI p1, vI p2, sD 6 (encCl flight), vI t'], aD [vI c0.kind, vI c0.number, vI c0.stream, vI c0.place, sD 1 (c0.data.map encB), sD 1 (c0.early.map vI)]]] (by simp only [ev0, ev1, ev2, look, lookF, cellsFrom, offT, offP, List.tail_nil, List.length_nil, Int.cast_ofNat_Int, Nat.reduceEqDiff, Nat.reduceAdd, Nat.reduceMul, Nat.reduceLeDiff, Nat.reduceLT, ↓reduceIte, reduceCtorEq, Int.reduceBEq, Int.reduceBNe, Int.reduceLT, Int.reduceLE, Int.reduceToNat]; first | rfl | exact ⟨rfl, rfl⟩) ?_ ?_
        · exact obl_cons hag obl_nil
        refine blk_normal ?_
        refine thn_normal ?_
        exact fin2 _ rfl
  · obtain ⟨m, r, rfl⟩ : ∃ m r, queue = m :: r := by
      cases queue with
      | nil => exact absurd (Or.inl rfl) hnew
      | cons m r => exact ⟨m, r, rfl⟩
    have hf3 : flight.length ≤ 3 := by
      have : ¬ 3 < flight.length := fun q => hnew (Or.inr q)
      omega
    have hsay : sayL ⟨m :: r, next, p0, p1, p2, flight, turn⟩ = (newS ⟨m :: r, next, p0, p1, p2, flight, turn⟩ m r, newC ⟨m :: r, next, p0, p1, p2, flight, turn⟩ m, true) := by
      unfold sayL
      simp only
      rw [if_neg (by omega)]
    have hm : 0 ≤ m.stream ∧ m.stream ≤ 2 := by
      have := hms m (by simp)
      unfold wrongMsgL at this
      split at this
      · cases this
      · omega
    have hnw := sayNew_told m r next p0 p1 p2 turn flight (by omega) (by omega) (by omega) (by omega) hf3 (by simp only [List.length_cons] at hq; omega) hm
    rw [hsay] at hown' ⊢
    simp only at hown' ⊢
    generalize newS ⟨m :: r, next, p0, p1, p2, flight, turn⟩ m r = s' at *
    generalize newC ⟨m :: r, next, p0, p1, p2, flight, turn⟩ m = c0 at *
    have g1 : 0 < (((r.length + 1 : Nat)) : Int) := by omega
    have g2 : (flight.length : Int) < 4 := by omega
    simp only [encSd, encCh, ml_cons] at hown hown' hnw ⊢
    repeat (first | refine aw_seq ?_ | refine aw_block ?_ | with_reducible refine aw_ret ?_ | with_reducible refine aw_skip ?_ | with_reducible refine aw_exit ?_ | refine thn_normal ?_ | refine thn_out ?_ | refine blk_normal ?_ | refine blk_ret ?_ | refine blk_exit ?_ | ((first | refine aw_regO ?_ | refine aw_regDO ?_ | refine aw_condO ?_ | refine fin_retO ?_); (conv => (arg 1; simp (maxSteps := 30000) only [ev0, ev1, ev2, look, lookF, cellsFrom, offT, offP, List.tail_nil, List.length_nil, Int.cast_ofNat_Int, Nat.reduceEqDiff, Nat.reduceAdd, Nat.reduceMul, Nat.reduceLeDiff, Nat.reduceLT, ↓reduceIte, reduceCtorEq, Int.reduceBEq, Int.reduceBNe, Int.reduceLT, Int.reduceLE, Int.reduceToNat])); (first | with_reducible refine on_yes ?_ | with_reducible refine on_no ?_ | with_reducible refine on_reg ?_ | (with_reducible refine on_regD (by decide +kernel) ?_) | with_reducible refine on_fin ?_)))
    refine ⟨1, _, _, _, 5, _, _, rfl, rfl, rfl, rfl, row_refl _, hown, rfl, ?_⟩
    repeat (first | refine aw_seq ?_ | refine aw_block ?_ | with_reducible refine aw_ret ?_ | with_reducible refine aw_skip ?_ | with_reducible refine aw_exit ?_ | refine thn_normal ?_ | refine thn_out ?_ | refine blk_normal ?_ | refine blk_ret ?_ | refine blk_exit ?_ | ((first | refine aw_regO ?_ | refine aw_regDO ?_ | refine aw_condO ?_ | refine fin_retO ?_); (conv => (arg 1; simp (maxSteps := 30000) only [ev0, ev1, ev2, look, lookF, cellsFrom, offT, offP, List.tail_nil, List.length_nil, Int.cast_ofNat_Int, Nat.reduceEqDiff, Nat.reduceAdd, Nat.reduceMul, Nat.reduceLeDiff, Nat.reduceLT, ↓reduceIte, reduceCtorEq, Int.reduceBEq, Int.reduceBNe, Int.reduceLT, Int.reduceLE, Int.reduceToNat, g1, g2, len_cl, len_ml])); (first | with_reducible refine on_yes ?_ | with_reducible refine on_no ?_ | with_reducible refine on_reg ?_ | (with_reducible refine on_regD (by decide +kernel) ?_) | with_reducible refine on_fin ?_)))
    refine ⟨1, _, _, 5, _, _, _, rfl, rfl, rfl, rfl, row_refl _, by decide, rfl, hnw, ?_⟩
    repeat (first | refine aw_seq ?_ | refine aw_block ?_ | with_reducible refine aw_ret ?_ | with_reducible refine aw_skip ?_ | with_reducible refine aw_exit ?_ | refine thn_normal ?_ | refine thn_out ?_ | refine blk_normal ?_ | refine blk_ret ?_ | refine blk_exit ?_ | ((first | refine aw_regO ?_ | refine aw_regDO ?_ | refine aw_condO ?_ | refine fin_retO ?_); (conv => (arg 1; simp (maxSteps := 30000) only [ev0, ev1, ev2, look, lookF, cellsFrom, offT, offP, List.tail_nil, List.length_nil, Int.cast_ofNat_Int, Nat.reduceEqDiff, Nat.reduceAdd, Nat.reduceMul, Nat.reduceLeDiff, Nat.reduceLT, ↓reduceIte, reduceCtorEq, Int.reduceBEq, Int.reduceBNe, Int.reduceLT, Int.reduceLE, Int.reduceToNat])); (first | with_reducible refine on_yes ?_ | with_reducible refine on_no ?_ | with_reducible refine on_reg ?_ | (with_reducible refine on_regD (by decide +kernel) ?_) | with_reducible refine on_fin ?_)))
    refine aw_regD [[aD [vI c0.kind, vI c0.number, vI c0.stream, vI c0.place, sD 1 (c0.data.map encB), sD 1 (c0.early.map vI)]]] (by simp only [ev0, ev1, ev2, look, lookF, cellsFrom, offT, offP, List.tail_nil, List.length_nil, Int.cast_ofNat_Int, Nat.reduceEqDiff, Nat.reduceAdd, Nat.reduceMul, Nat.reduceLeDiff, Nat.reduceLT, ↓reduceIte, reduceCtorEq, Int.reduceBEq, Int.reduceBNe, Int.reduceLT, Int.reduceLE, Int.reduceToNat]; first | exact ⟨rfl, rfl⟩ | exact ⟨rfl, rfl, rfl⟩) (by decide +kernel) ?_ ?_
    · exact obl_cons hown' obl_nil
    repeat (first | refine aw_seq ?_ | refine aw_block ?_ | with_reducible refine aw_ret ?_ | with_reducible refine aw_skip ?_ | with_reducible refine aw_exit ?_ | refine thn_normal ?_ | refine thn_out ?_ | refine blk_normal ?_ | refine blk_ret ?_ | refine blk_exit ?_ | ((first | refine aw_regO ?_ | refine aw_regDO ?_ | refine aw_condO ?_ | refine fin_retO ?_); (conv => (arg 1; simp (maxSteps := 30000) only [ev0, ev1, ev2, look, lookF, cellsFrom, offT, offP, List.tail_nil, List.length_nil, Int.cast_ofNat_Int, Nat.reduceEqDiff, Nat.reduceAdd, Nat.reduceMul, Nat.reduceLeDiff, Nat.reduceLT, ↓reduceIte, reduceCtorEq, Int.reduceBEq, Int.reduceBNe, Int.reduceLT, Int.reduceLE, Int.reduceToNat])); (first | with_reducible refine on_yes ?_ | with_reducible refine on_no ?_ | with_reducible refine on_reg ?_ | (with_reducible refine on_regD (by decide +kernel) ?_) | with_reducible refine on_fin ?_)))
    exact ValsLe.refl _
end Go.Proofs.Ytficfkeifcnbmab.ab
