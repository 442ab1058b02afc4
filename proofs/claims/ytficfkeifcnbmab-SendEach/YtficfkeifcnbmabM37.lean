/-
  Several texts in one.
-/
import Derived.Test.YtficfkeifcnbmabAHear
import Derived.Test.YtficfkeifcnbmabM36

/-
  What the statements' own function build tells (senders), and the answer's SendSay, of any good sender.
-/
namespace Go.Proofs.Ytficfkeifcnbmab.ab
set_option linter.unusedVariables false
set_option linter.unusedSimpArgs false
open Go Go.RowKit
open mth

theorem refPut_told {s : Sd} (h : GoodS s) (m : Ms) : Told Try.prog 13 [aD (encSd s), aD (encMs m)] [aD (encSd (putS s m)), vI (putE s m)] := put_told s m (by have := h.n; omega)
theorem refSay_told {s : Sd} (h : GoodS s) : Told Try.prog 14 [aD (encSd s)] [aD (encSd (sayL s).1), aD (encCh (sayL s).2.1), vB (sayL s).2.2] := by
  obtain ⟨queue, next, p0, p1, p2, flight, turn⟩ := s
  have hf := h.f
  have ht := h.t
  have hn := h.n
  have hp := h.p
  have hq := h.q
  simp only at hf ht hn hp hq
  cases queue with
  | nil =>
    by_cases hz : flight.length = 0
    · have hz' : flight = [] := List.eq_nil_of_length_eq_zero hz
      subst hz'
      exact say_told_none next p0 p1 p2 turn
    · have := say_told_again [] next p0 p1 p2 turn flight (by omega) (by omega) hf (.inl rfl)
      simpa [sayL, hz, againK] using this
  | cons m r =>
    by_cases hz : 3 < flight.length
    · have := say_told_again (m :: r) next p0 p1 p2 turn flight (by omega) (by omega) hf (.inr hz)
      simpa [sayL, hz, againK] using this
    · have hm := (right_ms (h.m m (by simp))).1
      have := say_told_new m r next p0 p1 p2 turn flight (by omega) (by omega) (by omega) (by omega) (by omega) (by simp at hq; omega) hm
      simpa [sayL, hz] using this
theorem refHear_told {s : Sd} (h : GoodS s) (c : Ch) (he : c.early.length ≤ 9223372036854775807) : Told Try.prog 15 [aD (encSd s), aD (encCh c)] [aD (encSd (hearS s c))] := hear_told s c (by have := h.f; omega) he
theorem refSame_told {s : Sd} (h : GoodS s) : Told Try.prog 7 [aD (encSd s), aD (encSd s)] [vB true] :=
  sameSd_told s (by have := h.q; omega) (by have := h.f; omega) (fun c hc => by rw [h.early c hc]; simp)

/-- At the head of build's loop; of the loop in it. -/
def bSt (l : List Ms) (does : List Int) (s : Sd) (k : Nat) : St :=
  ⟨[(1, sD 1 (does.map vI)), (4, pD 4 0), (5, pD 5 0), (9, sD 2 (encMl l)), (10, vI l.length), (11, vI k)], [(4, [vD (.slice none 0 0), vI 0, vI 0, vI 0, vI 0, vD (.slice none 0 0), vI 0]), (5, encSd s)], []⟩
def bIn (l : List Ms) (does : List Int) (s : Sd) (k : Int) (n : Int) (j : Nat) : St :=
  ⟨[(1, sD 1 (does.map vI)), (4, pD 4 0), (5, pD 5 0), (9, sD 2 (encMl l)), (10, vI l.length), (11, vI k), (37, vI n), (38, vI j)], [(4, [vD (.slice none 0 0), vI 0, vI 0, vI 0, vI 0, vD (.slice none 0 0), vI 0]), (5, encSd s)], []⟩
set_option maxHeartbeats 2000000 in
theorem build_in (l : List Ms) (does : List Int) (s : Sd) (hs : GoodS s) (k : Int) (n : Nat) (hn : n ≤ 4) (Q : AX → St → Prop)
    (hQ : ∀ (x : D), Q none ⟨[(1, sD 1 (does.map vI)), (4, pD 4 0), (5, pD 5 0), (9, sD 2 (encMl l)), (10, vI l.length), (11, vI k), (37, vI n), (38, vI n), (39, vB false)], [(4, [vD (.slice none 0 0), vI 0, vI 0, vI 0, vI 0, vD (.slice none 0 0), vI 0]), (5, encSd (sayN n s))], []⟩) : w5_build_b9 (bIn l does s k n 0) Q := by
  refine aw_block ?_
  refine aw_loop (fun m st => ∃ j : Nat, j ≤ n ∧ m = n - j ∧ st = bIn l does (sayN j s) k n j) n _ (Le.refl _) ⟨0, by omega, by omega, rfl⟩ ?_
  rintro m st ⟨j, hj, hm, rfl⟩
  have hg := hs.sayN j
  by_cases hlt : j < n
  · have g1 : (j : Int) < (n : Int) := by omega
    have g4 : inR .i64 ((j : Int) + 1) = true := inR_of (by omega)
    have hT := refSay_told hg
    have hnx : Next (fun m st => ∃ j : Nat, j ≤ n ∧ m = n - j ∧ st = bIn l does (sayN j s) k n j) m (bIn l does (sayL (sayN j s)).1 k n (j + 1)) := ⟨n - (j + 1), _, by omega, Le.refl _, j + 1, by omega, rfl, by rw [sayN_succ]⟩
    generalize (fun m st => ∃ j : Nat, j ≤ n ∧ m = n - j ∧ st = bIn l does (sayN j s) k n j) = J at *
    generalize sayN j s = t at *
    simp only [bIn, encSd, Int.natCast_add, Int.cast_ofNat_Int] at hnx hT ⊢
    repeat (first | refine aw_seq ?_ | refine aw_block ?_ | with_reducible refine aw_ret ?_ | with_reducible refine aw_skip ?_ | with_reducible refine aw_exit ?_ | refine thn_normal ?_ | refine thn_out ?_ | refine blk_normal ?_ | refine blk_ret ?_ | refine blk_exit ?_ | ((first | refine aw_regO ?_ | refine aw_regDO ?_ | refine aw_condO ?_ | refine fin_retO ?_); (conv => (arg 1; simp (maxSteps := 30000) only [ev0, ev1, ev2, look, lookF, cellsFrom, offT, offP, List.tail_nil, List.length_nil, Int.cast_ofNat_Int, Nat.reduceEqDiff, Nat.reduceAdd, Nat.reduceMul, Nat.reduceLeDiff, Nat.reduceLT, ↓reduceIte, reduceCtorEq, Int.reduceBEq, Int.reduceBNe, Int.reduceLT, Int.reduceLE, Int.reduceToNat, g1])); (first | with_reducible refine on_yes ?_ | with_reducible refine on_no ?_ | with_reducible refine on_reg ?_ | (with_reducible refine on_regD (by decide +kernel) ?_) | with_reducible refine on_fin ?_)))
    refine aw_reg [[aD (encSd (sayL t).1), aD (encCh (sayL t).2.1), vB (sayL t).2.2]] (by simp only [ev0, ev1, ev2, look, lookF, cellsFrom, offT, offP, List.tail_nil, List.length_nil, Int.cast_ofNat_Int, Nat.reduceEqDiff, Nat.reduceAdd, Nat.reduceMul, Nat.reduceLeDiff, Nat.reduceLT, ↓reduceIte, reduceCtorEq, Int.reduceBEq, Int.reduceBNe, Int.reduceLT, Int.reduceLE, Int.reduceToNat, encSd, encCh]; first | rfl | exact ⟨rfl, rfl⟩) ?_ ?_
    · exact obl_cons hT obl_nil
    repeat (first | refine aw_seq ?_ | refine aw_block ?_ | with_reducible refine aw_ret ?_ | with_reducible refine aw_skip ?_ | with_reducible refine aw_exit ?_ | refine thn_normal ?_ | refine thn_out ?_ | refine blk_normal ?_ | refine blk_ret ?_ | refine blk_exit ?_ | ((first | refine aw_regO ?_ | refine aw_regDO ?_ | refine aw_condO ?_ | refine fin_retO ?_); (conv => (arg 1; simp (maxSteps := 30000) only [ev0, ev1, ev2, look, lookF, cellsFrom, offT, offP, List.tail_nil, List.length_nil, Int.cast_ofNat_Int, Nat.reduceEqDiff, Nat.reduceAdd, Nat.reduceMul, Nat.reduceLeDiff, Nat.reduceLT, ↓reduceIte, reduceCtorEq, Int.reduceBEq, Int.reduceBNe, Int.reduceLT, Int.reduceLE, Int.reduceToNat, g4])); (first | with_reducible refine on_yes ?_ | with_reducible refine on_no ?_ | with_reducible refine on_reg ?_ | (with_reducible refine on_regD (by decide +kernel) ?_) | with_reducible refine on_fin ?_)))
    exact hnx
  · have hj' : j = n := by omega
    subst hj'
    have g1 : ¬ (j : Int) < (j : Int) := by omega
    simp only [bIn, encSd] at hQ ⊢
    repeat (first | refine aw_seq ?_ | refine aw_block ?_ | with_reducible refine aw_ret ?_ | with_reducible refine aw_skip ?_ | with_reducible refine aw_exit ?_ | refine thn_normal ?_ | refine thn_out ?_ | refine blk_normal ?_ | refine blk_ret ?_ | refine blk_exit ?_ | ((first | refine aw_regO ?_ | refine aw_regDO ?_ | refine aw_condO ?_ | refine fin_retO ?_); (conv => (arg 1; simp (maxSteps := 30000) only [ev0, ev1, ev2, look, lookF, cellsFrom, offT, offP, List.tail_nil, List.length_nil, Int.cast_ofNat_Int, Nat.reduceEqDiff, Nat.reduceAdd, Nat.reduceMul, Nat.reduceLeDiff, Nat.reduceLT, ↓reduceIte, reduceCtorEq, Int.reduceBEq, Int.reduceBNe, Int.reduceLT, Int.reduceLE, Int.reduceToNat, g1])); (first | with_reducible refine on_yes ?_ | with_reducible refine on_no ?_ | with_reducible refine on_reg ?_ | (with_reducible refine on_regD (by decide +kernel) ?_) | with_reducible refine on_fin ?_)))
    exact hQ (vD undef)
end Go.Proofs.Ytficfkeifcnbmab.ab

/-
  What the statements' own function build tells (senders).
-/
namespace Go.Proofs.Ytficfkeifcnbmab.ab
set_option linter.unusedVariables false
set_option linter.unusedSimpArgs false
open Go Go.RowKit
open mth

theorem build_next {l : List Ms} {does : List Int} {k n : Nat} {m : Ms} (hlt : k < l.length) (hn : n = l.length - k) (hm : l[k]? = some m) {t : Sd} (ht : t = stepB (buildS l does k) m does[k]?) :
    Next (fun n st => ∃ k, k ≤ l.length ∧ n = l.length - k ∧ st = bSt l does (buildS l does k) k) n ⟨[(1, sD 1 (does.map vI)), (4, pD 4 0), (5, pD 5 0), (9, sD 2 (encMl l)), (10, vI l.length), (11, vI ((k : Int) + 1))], [(4, [vD (.slice none 0 0), vI 0, vI 0, vI 0, vI 0, vD (.slice none 0 0), vI 0]), (5, encSd t)], []⟩ := by
  subst ht
  exact ⟨l.length - (k + 1), _, by omega, Le.refl _, k + 1, by omega, rfl, by simp only [bSt, buildS, hm, Int.natCast_add, Int.cast_ofNat_Int]⟩
set_option maxHeartbeats 4000000 in
theorem build_told (l : List Ms) (does : List Int) (hl : l.length ≤ 9223372036854775807) (hd : does.length ≤ 9223372036854775807) : Told Try.prog 5 [sD 2 (encMl l), sD 1 (does.map vI)] [aD (encSd (buildS l does l.length))] := by
  refine told_w5_build rfl ?_
  repeat (first | refine aw_seq ?_ | refine aw_block ?_ | with_reducible refine aw_ret ?_ | with_reducible refine aw_skip ?_ | with_reducible refine aw_exit ?_ | refine thn_normal ?_ | refine thn_out ?_ | refine blk_normal ?_ | refine blk_ret ?_ | refine blk_exit ?_ | ((first | refine aw_regO ?_ | refine aw_regDO ?_ | refine aw_condO ?_ | refine fin_retO ?_); (conv => (arg 1; simp (maxSteps := 30000) only [ev0, ev1, ev2, look, lookF, cellsFrom, offT, offP, List.tail_nil, List.length_nil, Int.cast_ofNat_Int, Nat.reduceEqDiff, Nat.reduceAdd, Nat.reduceMul, Nat.reduceLeDiff, Nat.reduceLT, ↓reduceIte, reduceCtorEq, Int.reduceBEq, Int.reduceBNe, Int.reduceLT, Int.reduceLE, Int.reduceToNat, len_ml])); (first | with_reducible refine on_yes ?_ | with_reducible refine on_no ?_ | with_reducible refine on_reg ?_ | (with_reducible refine on_regD (by decide +kernel) ?_) | with_reducible refine on_fin ?_)))
  refine aw_loop (fun n st => ∃ k, k ≤ l.length ∧ n = l.length - k ∧ st = bSt l does (buildS l does k) k) l.length (bSt l does zeroS 0) ?_ ⟨0, by omega, by omega, rfl⟩ ?_
  · refine (Le.box 5 (cs' := encSd zeroS) (by decide) rfl rfl ?_).trans (Le.keep (lv := [1, 4, 5, 9, 10, 11]) (lb := [4, 5]) (by simp only [ev0, ev1, ev2, look, lookF, cellsFrom, offT, offP, List.tail_nil, List.length_nil, Int.cast_ofNat_Int, Nat.reduceEqDiff, Nat.reduceAdd, Nat.reduceMul, Nat.reduceLeDiff, Nat.reduceLT, ↓reduceIte, reduceCtorEq, Int.reduceBEq, Int.reduceBNe, Int.reduceLT, Int.reduceLE, Int.reduceToNat]; rfl))
    exact ⟨LfLe.nil 2, LfLe.refl _, LfLe.refl _, LfLe.refl _, LfLe.refl _, LfLe.nil 6, LfLe.refl _, trivial⟩
  rintro n st ⟨k, hk, hn, rfl⟩
  have hg := good_build l does k
  by_cases hlt : k < l.length
  · obtain ⟨m, hm⟩ : ∃ m, l[k]? = some m := ⟨l[k], List.getElem?_eq_getElem hlt⟩
    have g1 : (k : Int) < (l.length : Int) := by omega
    have g2 : (0 : Int) ≤ (k : Int) := by omega
    have g3 := at_ml hm
    have g4 : inR .i64 ((k : Int) + 1) = true := inR_of (by omega)
    have hnx := fun t => build_next (does := does) (t := t) hlt hn hm
    generalize (fun n st => ∃ k, k ≤ l.length ∧ n = l.length - k ∧ st = bSt l does (buildS l does k) k) = J at *
    have hP := refPut_told hg m
    have hgp := hg.put m
    generalize buildS l does k = s at *
    simp only [bSt, encSd, encMs] at hP ⊢
    repeat (first | refine aw_seq ?_ | refine aw_block ?_ | with_reducible refine aw_ret ?_ | with_reducible refine aw_skip ?_ | with_reducible refine aw_exit ?_ | refine thn_normal ?_ | refine thn_out ?_ | refine blk_normal ?_ | refine blk_ret ?_ | refine blk_exit ?_ | ((first | refine aw_regO ?_ | refine aw_regDO ?_ | refine aw_condO ?_ | refine fin_retO ?_); (conv => (arg 1; simp (maxSteps := 30000) only [ev0, ev1, ev2, look, lookF, cellsFrom, offT, offP, List.tail_nil, List.length_nil, Int.cast_ofNat_Int, Nat.reduceEqDiff, Nat.reduceAdd, Nat.reduceMul, Nat.reduceLeDiff, Nat.reduceLT, ↓reduceIte, reduceCtorEq, Int.reduceBEq, Int.reduceBNe, Int.reduceLT, Int.reduceLE, Int.reduceToNat, g1, g2, g3])); (first | with_reducible refine on_yes ?_ | with_reducible refine on_no ?_ | with_reducible refine on_reg ?_ | (with_reducible refine on_regD (by decide +kernel) ?_) | with_reducible refine on_fin ?_)))
    refine aw_reg [[aD (encSd (putS s m)), vI (putE s m)]] (by simp only [ev0, ev1, ev2, look, lookF, cellsFrom, offT, offP, List.tail_nil, List.length_nil, Int.cast_ofNat_Int, Nat.reduceEqDiff, Nat.reduceAdd, Nat.reduceMul, Nat.reduceLeDiff, Nat.reduceLT, ↓reduceIte, reduceCtorEq, Int.reduceBEq, Int.reduceBNe, Int.reduceLT, Int.reduceLE, Int.reduceToNat, encSd]; first | rfl | exact ⟨rfl, rfl⟩) ?_ ?_
    · exact obl_cons hP obl_nil
    generalize ht : putS s m = t at *
    simp only [encSd] at hnx
    by_cases hdk : k < does.length
    · obtain ⟨d, hd'⟩ : ∃ d, does[k]? = some d := ⟨does[k], List.getElem?_eq_getElem hdk⟩
      have d1 : (k : Int) < (does.length : Int) := by omega
      have d2 := at_il hd'
      rw [hd'] at hnx
      simp only [stepB, ht] at hnx
      by_cases c1 : d < 0
      · rw [if_pos c1] at hnx
        repeat (first | refine aw_seq ?_ | refine aw_block ?_ | with_reducible refine aw_ret ?_ | with_reducible refine aw_skip ?_ | with_reducible refine aw_exit ?_ | refine thn_normal ?_ | refine thn_out ?_ | refine blk_normal ?_ | refine blk_ret ?_ | refine blk_exit ?_ | ((first | refine aw_regO ?_ | refine aw_regDO ?_ | refine aw_condO ?_ | refine fin_retO ?_); (conv => (arg 1; simp (maxSteps := 30000) only [ev0, ev1, ev2, look, lookF, cellsFrom, offT, offP, List.tail_nil, List.length_nil, Int.cast_ofNat_Int, Nat.reduceEqDiff, Nat.reduceAdd, Nat.reduceMul, Nat.reduceLeDiff, Nat.reduceLT, ↓reduceIte, reduceCtorEq, Int.reduceBEq, Int.reduceBNe, Int.reduceLT, Int.reduceLE, Int.reduceToNat, d1, d2, g2, c1, List.length_map, g4])); (first | with_reducible refine on_yes ?_ | with_reducible refine on_no ?_ | with_reducible refine on_reg ?_ | (with_reducible refine on_regD (by decide +kernel) ?_) | with_reducible refine on_fin ?_)))
        exact hnx _ rfl
      · rw [if_neg c1] at hnx
        by_cases c2 : d < 50
        · rw [if_pos c2] at hnx
          have hmod : ((d.tmod 5).toNat : Int) = d.tmod 5 := by have := Int.tmod_nonneg 5 (by omega : 0 ≤ d); omega
          have hm4 : (d.tmod 5).toNat ≤ 4 := by
            have := Int.tmod_lt_of_pos d (by omega : (0 : Int) < 5)
            omega
          have h50 : ¬ (5 : Int) = 0 := by omega
          repeat (first | refine aw_seq ?_ | refine aw_block ?_ | with_reducible refine aw_ret ?_ | with_reducible refine aw_skip ?_ | with_reducible refine aw_exit ?_ | refine thn_normal ?_ | refine thn_out ?_ | refine blk_normal ?_ | refine blk_ret ?_ | refine blk_exit ?_ | ((first | refine aw_regO ?_ | refine aw_regDO ?_ | refine aw_condO ?_ | refine fin_retO ?_); (conv => (arg 1; simp (maxSteps := 30000) only [ev0, ev1, ev2, look, lookF, cellsFrom, offT, offP, List.tail_nil, List.length_nil, Int.cast_ofNat_Int, Nat.reduceEqDiff, Nat.reduceAdd, Nat.reduceMul, Nat.reduceLeDiff, Nat.reduceLT, ↓reduceIte, reduceCtorEq, Int.reduceBEq, Int.reduceBNe, Int.reduceLT, Int.reduceLE, Int.reduceToNat, d1, d2, g2, c1, c2, h50, List.length_map])); (first | with_reducible refine on_yes ?_ | with_reducible refine on_no ?_ | with_reducible refine on_reg ?_ | (with_reducible refine on_regD (by decide +kernel) ?_) | with_reducible refine on_fin ?_)))
          rw [← hmod]
          have hbi := build_in l does t hgp k (d.tmod 5).toNat hm4
          simp only [bIn, encSd] at hbi
          refine hbi _ (fun _ => ?_)
          repeat (first | refine aw_seq ?_ | refine aw_block ?_ | with_reducible refine aw_ret ?_ | with_reducible refine aw_skip ?_ | with_reducible refine aw_exit ?_ | refine thn_normal ?_ | refine thn_out ?_ | refine blk_normal ?_ | refine blk_ret ?_ | refine blk_exit ?_ | ((first | refine aw_regO ?_ | refine aw_regDO ?_ | refine aw_condO ?_ | refine fin_retO ?_); (conv => (arg 1; simp (maxSteps := 30000) only [ev0, ev1, ev2, look, lookF, cellsFrom, offT, offP, List.tail_nil, List.length_nil, Int.cast_ofNat_Int, Nat.reduceEqDiff, Nat.reduceAdd, Nat.reduceMul, Nat.reduceLeDiff, Nat.reduceLT, ↓reduceIte, reduceCtorEq, Int.reduceBEq, Int.reduceBNe, Int.reduceLT, Int.reduceLE, Int.reduceToNat, g4])); (first | with_reducible refine on_yes ?_ | with_reducible refine on_no ?_ | with_reducible refine on_reg ?_ | (with_reducible refine on_regD (by decide +kernel) ?_) | with_reducible refine on_fin ?_)))
          exact hnx _ rfl
        · rw [if_neg c2] at hnx
          by_cases c3 : d < 90
          · rw [if_pos c3] at hnx
            have d5 : inR .i64 (d - 50) = true := inR_of (by omega)
            have hH := refHear_told hgp ⟨2, d - 50, 0, 0, [], []⟩ (by simp)
            simp only [encSd, encCh, List.map_nil] at hH
            repeat (first | refine aw_seq ?_ | refine aw_block ?_ | with_reducible refine aw_ret ?_ | with_reducible refine aw_skip ?_ | with_reducible refine aw_exit ?_ | refine thn_normal ?_ | refine thn_out ?_ | refine blk_normal ?_ | refine blk_ret ?_ | refine blk_exit ?_ | ((first | refine aw_regO ?_ | refine aw_regDO ?_ | refine aw_condO ?_ | refine fin_retO ?_); (conv => (arg 1; simp (maxSteps := 30000) only [ev0, ev1, ev2, look, lookF, cellsFrom, offT, offP, List.tail_nil, List.length_nil, Int.cast_ofNat_Int, Nat.reduceEqDiff, Nat.reduceAdd, Nat.reduceMul, Nat.reduceLeDiff, Nat.reduceLT, ↓reduceIte, reduceCtorEq, Int.reduceBEq, Int.reduceBNe, Int.reduceLT, Int.reduceLE, Int.reduceToNat, d1, d2, g2, c1, c2, c3, d5, List.length_map])); (first | with_reducible refine on_yes ?_ | with_reducible refine on_no ?_ | with_reducible refine on_reg ?_ | (with_reducible refine on_regD (by decide +kernel) ?_) | with_reducible refine on_fin ?_)))
            refine aw_reg [[aD (encSd (hearS t ⟨2, d - 50, 0, 0, [], []⟩))]] (by simp only [ev0, ev1, ev2, look, lookF, cellsFrom, offT, offP, List.tail_nil, List.length_nil, Int.cast_ofNat_Int, Nat.reduceEqDiff, Nat.reduceAdd, Nat.reduceMul, Nat.reduceLeDiff, Nat.reduceLT, ↓reduceIte, reduceCtorEq, Int.reduceBEq, Int.reduceBNe, Int.reduceLT, Int.reduceLE, Int.reduceToNat, d5, encSd]; first | rfl | exact ⟨rfl, rfl⟩) ?_ ?_
            · refine ⟨⟨_, ?_, hH⟩, trivial⟩
              repeat' (first | exact vals_nil | exact row_nil | exact es_nil | exact CVLe.refl _ | exact LfLe.refl _ | exact LfLe.nil _ | exact EsLe.refl _ | refine vals_cons ?_ ?_ | refine row_cons ?_ ?_ | refine es_cons ?_ ?_ | refine EsLe.app ?_ ?_ | refine CVLe.row ?_ | refine CVLe.leafV ?_ | refine CVLe.leafS ?_ | refine LfLe.s ?_)
            repeat (first | refine aw_seq ?_ | refine aw_block ?_ | with_reducible refine aw_ret ?_ | with_reducible refine aw_skip ?_ | with_reducible refine aw_exit ?_ | refine thn_normal ?_ | refine thn_out ?_ | refine blk_normal ?_ | refine blk_ret ?_ | refine blk_exit ?_ | ((first | refine aw_regO ?_ | refine aw_regDO ?_ | refine aw_condO ?_ | refine fin_retO ?_); (conv => (arg 1; simp (maxSteps := 30000) only [ev0, ev1, ev2, look, lookF, cellsFrom, offT, offP, List.tail_nil, List.length_nil, Int.cast_ofNat_Int, Nat.reduceEqDiff, Nat.reduceAdd, Nat.reduceMul, Nat.reduceLeDiff, Nat.reduceLT, ↓reduceIte, reduceCtorEq, Int.reduceBEq, Int.reduceBNe, Int.reduceLT, Int.reduceLE, Int.reduceToNat, g4])); (first | with_reducible refine on_yes ?_ | with_reducible refine on_no ?_ | with_reducible refine on_reg ?_ | (with_reducible refine on_regD (by decide +kernel) ?_) | with_reducible refine on_fin ?_)))
            exact hnx _ rfl
          · rw [if_neg c3] at hnx
            repeat (first | refine aw_seq ?_ | refine aw_block ?_ | with_reducible refine aw_ret ?_ | with_reducible refine aw_skip ?_ | with_reducible refine aw_exit ?_ | refine thn_normal ?_ | refine thn_out ?_ | refine blk_normal ?_ | refine blk_ret ?_ | refine blk_exit ?_ | ((first | refine aw_regO ?_ | refine aw_regDO ?_ | refine aw_condO ?_ | refine fin_retO ?_); (conv => (arg 1; simp (maxSteps := 30000) only [ev0, ev1, ev2, look, lookF, cellsFrom, offT, offP, List.tail_nil, List.length_nil, Int.cast_ofNat_Int, Nat.reduceEqDiff, Nat.reduceAdd, Nat.reduceMul, Nat.reduceLeDiff, Nat.reduceLT, ↓reduceIte, reduceCtorEq, Int.reduceBEq, Int.reduceBNe, Int.reduceLT, Int.reduceLE, Int.reduceToNat, d1, d2, g2, c1, c2, c3, List.length_map, g4])); (first | with_reducible refine on_yes ?_ | with_reducible refine on_no ?_ | with_reducible refine on_reg ?_ | (with_reducible refine on_regD (by decide +kernel) ?_) | with_reducible refine on_fin ?_)))
            exact hnx _ rfl
    · have d1 : ¬ (k : Int) < (does.length : Int) := by omega
      have d2 : does[k]? = none := List.getElem?_eq_none (by omega)
      rw [d2] at hnx
      simp only [stepB, ht] at hnx
      repeat (first | refine aw_seq ?_ | refine aw_block ?_ | with_reducible refine aw_ret ?_ | with_reducible refine aw_skip ?_ | with_reducible refine aw_exit ?_ | refine thn_normal ?_ | refine thn_out ?_ | refine blk_normal ?_ | refine blk_ret ?_ | refine blk_exit ?_ | ((first | refine aw_regO ?_ | refine aw_regDO ?_ | refine aw_condO ?_ | refine fin_retO ?_); (conv => (arg 1; simp (maxSteps := 30000) only [ev0, ev1, ev2, look, lookF, cellsFrom, offT, offP, List.tail_nil, List.length_nil, Int.cast_ofNat_Int, Nat.reduceEqDiff, Nat.reduceAdd, Nat.reduceMul, Nat.reduceLeDiff, Nat.reduceLT, ↓reduceIte, reduceCtorEq, Int.reduceBEq, Int.reduceBNe, Int.reduceLT, Int.reduceLE, Int.reduceToNat, d1, List.length_map, g4])); (first | with_reducible refine on_yes ?_ | with_reducible refine on_no ?_ | with_reducible refine on_reg ?_ | (with_reducible refine on_regD (by decide +kernel) ?_) | with_reducible refine on_fin ?_)))
      exact hnx _ rfl
  · have hk' : k = l.length := by omega
    subst hk'
    have g1 : ¬ (l.length : Int) < (l.length : Int) := by omega
    simp only [bSt, encSd]
    repeat (first | refine aw_seq ?_ | refine aw_block ?_ | with_reducible refine aw_ret ?_ | with_reducible refine aw_skip ?_ | with_reducible refine aw_exit ?_ | refine thn_normal ?_ | refine thn_out ?_ | refine blk_normal ?_ | refine blk_ret ?_ | refine blk_exit ?_ | ((first | refine aw_regO ?_ | refine aw_regDO ?_ | refine aw_condO ?_ | refine fin_retO ?_); (conv => (arg 1; simp (maxSteps := 30000) only [ev0, ev1, ev2, look, lookF, cellsFrom, offT, offP, List.tail_nil, List.length_nil, Int.cast_ofNat_Int, Nat.reduceEqDiff, Nat.reduceAdd, Nat.reduceMul, Nat.reduceLeDiff, Nat.reduceLT, ↓reduceIte, reduceCtorEq, Int.reduceBEq, Int.reduceBNe, Int.reduceLT, Int.reduceLE, Int.reduceToNat, g1])); (first | with_reducible refine on_yes ?_ | with_reducible refine on_no ?_ | with_reducible refine on_reg ?_ | (with_reducible refine on_regD (by decide +kernel) ?_) | with_reducible refine on_fin ?_)))
    exact ValsLe.refl _
end Go.Proofs.Ytficfkeifcnbmab.ab
