/-
  What the answer's SendHear and SameSender tell.
-/
import Derived.Test.YtficfkeifcnbmabASend
namespace Go.Proofs.Ytficfkeifcnbmab.ab
set_option linter.unusedVariables false
set_option linter.unusedSimpArgs false
open Go Go.RowKit
open mth

def zSd : List D := [vD (.slice none 0 0), vI 0, vI 0, vI 0, vI 0, vD (.slice none 0 0), vI 0]
/-- At the head of the inner loop. -/
def hIn (b2 : List D) (c x : Ch) (L F : List D) (e17 e18 : Int) (b : Bool) (i : Int) : St :=
  ⟨[(2, pD 2 0), (3, pD 3 0), (4, pD 4 0), (5, sD 6 L), (7, pD 7 0), (8, vB b), (16, sD 6 F), (17, vI e17), (18, vI e18), (28, sD 1 (c.early.map vI)), (29, vI c.early.length), (30, vI i)],
    [(2, b2), (3, [vI c.kind, vI c.number, vI c.stream, vI c.place, sD 1 (c.data.map encB), sD 1 (c.early.map vI)]), (4, [vD (.slice none 0 0), vI 0, vI 0, vI 0, vI 0, vD (.slice none 0 0), vI 0]), (7, [vI x.kind, vI x.number, vI x.stream, vI x.place, sD 1 (x.data.map encB), sD 1 (x.early.map vI)])], [((5, none), (32, 6, none))]⟩
def hOut (b2 : List D) (c x : Ch) (L F : List D) (e17 e18 : Int) (b : Bool) (i : Int) : St :=
  ⟨[(2, pD 2 0), (3, pD 3 0), (4, pD 4 0), (5, sD 6 L), (7, pD 7 0), (8, vB b), (16, sD 6 F), (17, vI e17), (18, vI e18), (28, sD 1 (c.early.map vI)), (29, vI c.early.length), (30, vI i), (31, vB false)],
    [(2, b2), (3, [vI c.kind, vI c.number, vI c.stream, vI c.place, sD 1 (c.data.map encB), sD 1 (c.early.map vI)]), (4, [vD (.slice none 0 0), vI 0, vI 0, vI 0, vI 0, vD (.slice none 0 0), vI 0]), (7, [vI x.kind, vI x.number, vI x.stream, vI x.place, sD 1 (x.data.map encB), sD 1 (x.early.map vI)])], [((5, none), (32, 6, none))]⟩
theorem take_has {l : List Int} {j : Nat} {y n : Int} (h : l[j]? = some y) : (l.take (j + 1)).contains n = ((l.take j).contains n || (y == n)) := by
  rw [List.take_add_one, h, Bool.eq_iff_iff]
  simp only [Option.toList_some, List.contains_iff_mem, List.mem_append, List.mem_singleton, Bool.or_eq_true, beq_iff_eq]
  constructor
  · rintro (h | h)
    · exact .inl h
    · exact .inr h.symm
  · rintro (h | h)
    · exact .inl h
    · exact .inr h.symm
set_option maxHeartbeats 2000000 in
theorem hear_in (b2 : List D) (c x : Ch) (L F : List D) (e17 e18 : Int) (b : Bool) (he : c.early.length ≤ 9223372036854775807) (Q : AX → St → Prop)
    (hQ : Q none (hOut b2 c x L F e17 e18 (b || c.early.contains x.number) c.early.length)) : r1_SendHear_b6 (hIn b2 c x L F e17 e18 b 0) Q := by
  refine aw_block ?_
  refine aw_loop (fun m st => ∃ j : Nat, j ≤ c.early.length ∧ m = c.early.length - j ∧ st = hIn b2 c x L F e17 e18 (b || (c.early.take j).contains x.number) j) c.early.length _ (Le.refl _) ⟨0, by omega, by omega, by simp⟩ ?_
  rintro m st ⟨j, hj, hm, rfl⟩
  by_cases hlt : j < c.early.length
  · obtain ⟨y, hy⟩ : ∃ m, c.early[j]? = some m := ⟨c.early[j], List.getElem?_eq_getElem hlt⟩
    have g1 : (j : Int) < (c.early.length : Int) := by omega
    have g2 : (0 : Int) ≤ (j : Int) := by omega
    have g3 := at_il hy
    have g4 : inR .i64 ((j : Int) + 1) = true := inR_of (by omega)
    have hc := take_has (n := x.number) hy
    have hnx : ∀ b', b' = ((b || (c.early.take j).contains x.number) || (y == x.number)) → Next (fun m st => ∃ j : Nat, j ≤ c.early.length ∧ m = c.early.length - j ∧ st = hIn b2 c x L F e17 e18 (b || (c.early.take j).contains x.number) j) m (hIn b2 c x L F e17 e18 b' ((j : Int) + 1)) := by
      rintro b' rfl
      exact ⟨c.early.length - (j + 1), _, by omega, Le.refl _, j + 1, by omega, rfl, by rw [hc, Bool.or_assoc, Int.natCast_add, Int.cast_ofNat_Int]⟩
    generalize (fun m st => ∃ j : Nat, j ≤ c.early.length ∧ m = c.early.length - j ∧ st = hIn b2 c x L F e17 e18 (b || (c.early.take j).contains x.number) j) = J at *
    generalize (b || (c.early.take j).contains x.number) = q at *
    simp only [hIn] at hnx ⊢
    cases q with
    | true =>
      repeat (first | refine aw_seq ?_ | refine aw_block ?_ | with_reducible refine aw_ret ?_ | with_reducible refine aw_skip ?_ | with_reducible refine aw_exit ?_ | refine thn_normal ?_ | refine thn_out ?_ | refine blk_normal ?_ | refine blk_ret ?_ | refine blk_exit ?_ | ((first | refine aw_regO ?_ | refine aw_regDO ?_ | refine aw_condO ?_ | refine fin_retO ?_); (conv => (arg 1; simp (maxSteps := 30000) only [ev0, ev1, ev2, look, lookF, cellsFrom, offT, offP, List.tail_nil, List.length_nil, Int.cast_ofNat_Int, Nat.reduceEqDiff, Nat.reduceAdd, Nat.reduceMul, Nat.reduceLeDiff, Nat.reduceLT, ↓reduceIte, reduceCtorEq, Int.reduceBEq, Int.reduceBNe, Int.reduceLT, Int.reduceLE, Int.reduceToNat, g1, g2, g3, g4])); (first | with_reducible refine on_yes ?_ | with_reducible refine on_no ?_ | with_reducible refine on_reg ?_ | (with_reducible refine on_regD (by decide +kernel) ?_) | with_reducible refine on_fin ?_)))
      exact hnx _ rfl
    | false =>
      repeat (first | refine aw_seq ?_ | refine aw_block ?_ | with_reducible refine aw_ret ?_ | with_reducible refine aw_skip ?_ | with_reducible refine aw_exit ?_ | refine thn_normal ?_ | refine thn_out ?_ | refine blk_normal ?_ | refine blk_ret ?_ | refine blk_exit ?_ | ((first | refine aw_regO ?_ | refine aw_regDO ?_ | refine aw_condO ?_ | refine fin_retO ?_); (conv => (arg 1; simp (maxSteps := 30000) only [ev0, ev1, ev2, look, lookF, cellsFrom, offT, offP, List.tail_nil, List.length_nil, Int.cast_ofNat_Int, Nat.reduceEqDiff, Nat.reduceAdd, Nat.reduceMul, Nat.reduceLeDiff, Nat.reduceLT, ↓reduceIte, reduceCtorEq, Int.reduceBEq, Int.reduceBNe, Int.reduceLT, Int.reduceLE, Int.reduceToNat, g1, g2, g3, g4])); (first | with_reducible refine on_yes ?_ | with_reducible refine on_no ?_ | with_reducible refine on_reg ?_ | (with_reducible refine on_regD (by decide +kernel) ?_) | with_reducible refine on_fin ?_)))
      exact hnx _ rfl
  · have hj' : j = c.early.length := by omega
    subst hj'
    have g1 : ¬ (c.early.length : Int) < (c.early.length : Int) := by omega
    rw [List.take_length]
    simp only [hIn, hOut] at hQ ⊢
    repeat (first | refine aw_seq ?_ | refine aw_block ?_ | with_reducible refine aw_ret ?_ | with_reducible refine aw_skip ?_ | with_reducible refine aw_exit ?_ | refine thn_normal ?_ | refine thn_out ?_ | refine blk_normal ?_ | refine blk_ret ?_ | refine blk_exit ?_ | ((first | refine aw_regO ?_ | refine aw_regDO ?_ | refine aw_condO ?_ | refine fin_retO ?_); (conv => (arg 1; simp (maxSteps := 30000) only [ev0, ev1, ev2, look, lookF, cellsFrom, offT, offP, List.tail_nil, List.length_nil, Int.cast_ofNat_Int, Nat.reduceEqDiff, Nat.reduceAdd, Nat.reduceMul, Nat.reduceLeDiff, Nat.reduceLT, ↓reduceIte, reduceCtorEq, Int.reduceBEq, Int.reduceBNe, Int.reduceLT, Int.reduceLE, Int.reduceToNat, g1])); (first | with_reducible refine on_yes ?_ | with_reducible refine on_no ?_ | with_reducible refine on_reg ?_ | (with_reducible refine on_regD (by decide +kernel) ?_) | with_reducible refine on_fin ?_)))
    exact hQ
/-- At the head of the outer loop. -/
def hSt (s : Sd) (c : Ch) (k : Nat) : St :=
  ⟨[(2, pD 2 0), (3, pD 3 0), (4, pD 4 0), (5, sD 6 (encCl ((s.flight.take k).filter fun x => !cameL c x.number))), (16, sD 6 (encCl s.flight)), (17, vI s.flight.length), (18, vI k)],
    [(2, [sD 2 (encMl s.queue), vI s.next, vI s.p0, vI s.p1, vI s.p2, sD 6 (encCl s.flight), vI s.turn]), (3, [vI c.kind, vI c.number, vI c.stream, vI c.place, sD 1 (c.data.map encB), sD 1 (c.early.map vI)]), (4, [vD (.slice none 0 0), vI 0, vI 0, vI 0, vI 0, vD (.slice none 0 0), vI 0])], [((5, none), (32, 6, none))]⟩
theorem filter_snoc {l : List Ch} {f : Ch → Bool} {k : Nat} {m : Ch} (h : l[k]? = some m) : (l.take (k + 1)).filter f = if f m = true then (l.take k).filter f ++ [m] else (l.take k).filter f := by
  rw [List.take_add_one, h]
  simp only [List.filter_append, Option.toList_some, List.filter_cons, List.filter_nil]
  split <;> simp
set_option maxHeartbeats 4000000 in
theorem hear_told (s : Sd) (c : Ch) (hf : s.flight.length ≤ 1048576) (he : c.early.length ≤ 9223372036854775807) : Told Try.prog 15 [aD (encSd s), aD (encCh c)] [aD (encSd (hearS s c))] := by
  refine told_r1_SendHear rfl ?_
  simp only [encSd, encCh]
  by_cases hk : c.kind = 2
  · have k1 : (c.kind != 2) = false := by simpa using hk
    rw [hearS, if_pos hk]
    repeat (first | refine aw_seq ?_ | refine aw_block ?_ | with_reducible refine aw_ret ?_ | with_reducible refine aw_skip ?_ | with_reducible refine aw_exit ?_ | refine thn_normal ?_ | refine thn_out ?_ | refine blk_normal ?_ | refine blk_ret ?_ | refine blk_exit ?_ | ((first | refine aw_regO ?_ | refine aw_regDO ?_ | refine aw_condO ?_ | refine fin_retO ?_); (conv => (arg 1; simp (maxSteps := 30000) only [ev0, ev1, ev2, look, lookF, cellsFrom, offT, offP, List.tail_nil, List.length_nil, Int.cast_ofNat_Int, Nat.reduceEqDiff, Nat.reduceAdd, Nat.reduceMul, Nat.reduceLeDiff, Nat.reduceLT, ↓reduceIte, reduceCtorEq, Int.reduceBEq, Int.reduceBNe, Int.reduceLT, Int.reduceLE, Int.reduceToNat, k1, len_cl])); (first | with_reducible refine on_yes ?_ | with_reducible refine on_no ?_ | with_reducible refine on_reg ?_ | (with_reducible refine on_regD (by decide +kernel) ?_) | with_reducible refine on_fin ?_)))
    refine aw_loop (fun n st => ∃ k, k ≤ s.flight.length ∧ n = s.flight.length - k ∧ st = hSt s c k) s.flight.length (hSt s c 0) ((Le.nilS 5 32 6 rfl).trans (Le.keep (lv := [2, 3, 4, 5, 16, 17, 18]) (lb := [2, 3, 4]) (by simp only [ev0, ev1, ev2, look, lookF, cellsFrom, offT, offP, List.tail_nil, List.length_nil, Int.cast_ofNat_Int, Nat.reduceEqDiff, Nat.reduceAdd, Nat.reduceMul, Nat.reduceLeDiff, Nat.reduceLT, ↓reduceIte, reduceCtorEq, Int.reduceBEq, Int.reduceBNe, Int.reduceLT, Int.reduceLE, Int.reduceToNat]; rfl))) ⟨0, by omega, by omega, rfl⟩ ?_
    rintro n st ⟨k, hk', hn, rfl⟩
    by_cases hlt : k < s.flight.length
    · obtain ⟨x, hx⟩ : ∃ m, s.flight[k]? = some m := ⟨s.flight[k], List.getElem?_eq_getElem hlt⟩
      have g1 : (k : Int) < (s.flight.length : Int) := by omega
      have g2 : (0 : Int) ≤ (k : Int) := by omega
      have g3 := at_cl hx
      have g4 : inR .i64 ((k : Int) + 1) = true := inR_of (by omega)
      have hsn := filter_snoc (f := fun x => !cameL c x.number) hx
      have hlen : ((s.flight.take k).filter fun x => !cameL c x.number).length ≤ k := Nat.le_trans (List.length_filter_le _ _) (by rw [List.length_take]; omega)
      have hb1 : (((s.flight.take k).filter fun x => !cameL c x.number).length + 1) * 80 ≤ 140737488355328 := by omega
      have hnx : ∀ L, L = (s.flight.take (k + 1)).filter (fun x => !cameL c x.number) → Next (fun n st => ∃ k, k ≤ s.flight.length ∧ n = s.flight.length - k ∧ st = hSt s c k) n
          ⟨[(2, pD 2 0), (3, pD 3 0), (4, pD 4 0), (5, sD 6 (encCl L)), (16, sD 6 (encCl s.flight)), (17, vI s.flight.length), (18, vI ((k : Int) + 1))],
            [(2, [sD 2 (encMl s.queue), vI s.next, vI s.p0, vI s.p1, vI s.p2, sD 6 (encCl s.flight), vI s.turn]), (3, [vI c.kind, vI c.number, vI c.stream, vI c.place, sD 1 (c.data.map encB), sD 1 (c.early.map vI)]), (4, [vD (.slice none 0 0), vI 0, vI 0, vI 0, vI 0, vD (.slice none 0 0), vI 0])], [((5, none), (32, 6, none))]⟩ := by
        rintro L rfl
        exact ⟨s.flight.length - (k + 1), _, by omega, Le.refl _, k + 1, by omega, rfl, by simp only [hSt, Int.natCast_add, Int.cast_ofNat_Int]⟩
      generalize (fun n st => ∃ k, k ≤ s.flight.length ∧ n = s.flight.length - k ∧ st = hSt s c k) = J at *
      simp only [hSt]
      generalize ((s.flight.take k).filter fun x => !cameL c x.number) = G at *
      repeat (first | refine aw_seq ?_ | refine aw_block ?_ | with_reducible refine aw_ret ?_ | with_reducible refine aw_skip ?_ | with_reducible refine aw_exit ?_ | refine thn_normal ?_ | refine thn_out ?_ | refine blk_normal ?_ | refine blk_ret ?_ | refine blk_exit ?_ | ((first | refine aw_regO ?_ | refine aw_regDO ?_ | refine aw_condO ?_ | refine fin_retO ?_); (conv => (arg 1; simp (maxSteps := 30000) only [ev0, ev1, ev2, look, lookF, cellsFrom, offT, offP, List.tail_nil, List.length_nil, Int.cast_ofNat_Int, Nat.reduceEqDiff, Nat.reduceAdd, Nat.reduceMul, Nat.reduceLeDiff, Nat.reduceLT, ↓reduceIte, reduceCtorEq, Int.reduceBEq, Int.reduceBNe, Int.reduceLT, Int.reduceLE, Int.reduceToNat, g1, g2, g3, List.length_map])); (first | with_reducible refine on_yes ?_ | with_reducible refine on_no ?_ | with_reducible refine on_reg ?_ | (with_reducible refine on_regD (by decide +kernel) ?_) | with_reducible refine on_fin ?_)))
      refine hear_in _ c x _ _ _ _ (decide (x.number < c.number)) he _ ?_
      refine thn_normal ?_
      cases hc : cameL c x.number with
      | true =>
        have hc' : (decide (x.number < c.number) || c.early.contains x.number) = true := hc
        rw [hc']
        simp only [hOut]
        repeat (first | refine aw_seq ?_ | refine aw_block ?_ | with_reducible refine aw_ret ?_ | with_reducible refine aw_skip ?_ | with_reducible refine aw_exit ?_ | refine thn_normal ?_ | refine thn_out ?_ | refine blk_normal ?_ | refine blk_ret ?_ | refine blk_exit ?_ | ((first | refine aw_regO ?_ | refine aw_regDO ?_ | refine aw_condO ?_ | refine fin_retO ?_); (conv => (arg 1; simp (maxSteps := 30000) only [ev0, ev1, ev2, look, lookF, cellsFrom, offT, offP, List.tail_nil, List.length_nil, Int.cast_ofNat_Int, Nat.reduceEqDiff, Nat.reduceAdd, Nat.reduceMul, Nat.reduceLeDiff, Nat.reduceLT, ↓reduceIte, reduceCtorEq, Int.reduceBEq, Int.reduceBNe, Int.reduceLT, Int.reduceLE, Int.reduceToNat, g4])); (first | with_reducible refine on_yes ?_ | with_reducible refine on_no ?_ | with_reducible refine on_reg ?_ | (with_reducible refine on_regD (by decide +kernel) ?_) | with_reducible refine on_fin ?_)))
        refine hnx G ?_
        rw [hsn, hc]; rfl
      | false =>
        have hc' : (decide (x.number < c.number) || c.early.contains x.number) = false := hc
        rw [hc']
        simp only [hOut]
        repeat (first | refine aw_seq ?_ | refine aw_block ?_ | with_reducible refine aw_ret ?_ | with_reducible refine aw_skip ?_ | with_reducible refine aw_exit ?_ | refine thn_normal ?_ | refine thn_out ?_ | refine blk_normal ?_ | refine blk_ret ?_ | refine blk_exit ?_ | ((first | refine aw_regO ?_ | refine aw_regDO ?_ | refine aw_condO ?_ | refine fin_retO ?_); (conv => (arg 1; simp (maxSteps := 30000) only [ev0, ev1, ev2, look, lookF, cellsFrom, offT, offP, List.tail_nil, List.length_nil, Int.cast_ofNat_Int, Nat.reduceEqDiff, Nat.reduceAdd, Nat.reduceMul, Nat.reduceLeDiff, Nat.reduceLT, ↓reduceIte, reduceCtorEq, Int.reduceBEq, Int.reduceBNe, Int.reduceLT, Int.reduceLE, Int.reduceToNat, g4, hb1, len_cl])); (first | with_reducible refine on_yes ?_ | with_reducible refine on_no ?_ | with_reducible refine on_reg ?_ | (with_reducible refine on_regD (by decide +kernel) ?_) | with_reducible refine on_fin ?_)))
        rw [← cl_snoc]
        refine hnx (G ++ [x]) ?_
        rw [hsn, hc]; rfl
    · have hk'' : k = s.flight.length := by omega
      subst hk''
      have g1 : ¬ (s.flight.length : Int) < (s.flight.length : Int) := by omega
      simp only [hSt, List.take_length]
      repeat (first | refine aw_seq ?_ | refine aw_block ?_ | with_reducible refine aw_ret ?_ | with_reducible refine aw_skip ?_ | with_reducible refine aw_exit ?_ | refine thn_normal ?_ | refine thn_out ?_ | refine blk_normal ?_ | refine blk_ret ?_ | refine blk_exit ?_ | ((first | refine aw_regO ?_ | refine aw_regDO ?_ | refine aw_condO ?_ | refine fin_retO ?_); (conv => (arg 1; simp (maxSteps := 30000) only [ev0, ev1, ev2, look, lookF, cellsFrom, offT, offP, List.tail_nil, List.length_nil, Int.cast_ofNat_Int, Nat.reduceEqDiff, Nat.reduceAdd, Nat.reduceMul, Nat.reduceLeDiff, Nat.reduceLT, ↓reduceIte, reduceCtorEq, Int.reduceBEq, Int.reduceBNe, Int.reduceLT, Int.reduceLE, Int.reduceToNat, g1])); (first | with_reducible refine on_yes ?_ | with_reducible refine on_no ?_ | with_reducible refine on_reg ?_ | (with_reducible refine on_regD (by decide +kernel) ?_) | with_reducible refine on_fin ?_)))
      exact ValsLe.refl _
  · have k1 : (c.kind != 2) = true := by simpa using hk
    rw [hearS, if_neg hk]
    repeat (first | refine aw_seq ?_ | refine aw_block ?_ | with_reducible refine aw_ret ?_ | with_reducible refine aw_skip ?_ | with_reducible refine aw_exit ?_ | refine thn_normal ?_ | refine thn_out ?_ | refine blk_normal ?_ | refine blk_ret ?_ | refine blk_exit ?_ | ((first | refine aw_regO ?_ | refine aw_regDO ?_ | refine aw_condO ?_ | refine fin_retO ?_); (conv => (arg 1; simp (maxSteps := 30000) only [ev0, ev1, ev2, look, lookF, cellsFrom, offT, offP, List.tail_nil, List.length_nil, Int.cast_ofNat_Int, Nat.reduceEqDiff, Nat.reduceAdd, Nat.reduceMul, Nat.reduceLeDiff, Nat.reduceLT, ↓reduceIte, reduceCtorEq, Int.reduceBEq, Int.reduceBNe, Int.reduceLT, Int.reduceLE, Int.reduceToNat, k1])); (first | with_reducible refine on_yes ?_ | with_reducible refine on_no ?_ | with_reducible refine on_reg ?_ | (with_reducible refine on_regD (by decide +kernel) ?_) | with_reducible refine on_fin ?_)))
    exact ValsLe.refl _
set_option maxHeartbeats 2000000 in
theorem sameSd_told (s : Sd) (hq : s.queue.length ≤ 1048576) (hf : s.flight.length ≤ 1048576) (he : ∀ c ∈ s.flight, c.early.length ≤ 9223372036854775807) : Told Try.prog 7 [aD (encSd s), aD (encSd s)] [vB true] := by
  refine told_r1_SameSender rfl ?_
  have h1 := sameMsgs_told s.queue s.queue hq
  have h2 := sameAll_told s.flight s.flight hf he
  rw [sameL_refl] at h1
  rw [sameCs_refl] at h2
  simp only [encSd]
  repeat (first | refine aw_seq ?_ | refine aw_block ?_ | with_reducible refine aw_ret ?_ | with_reducible refine aw_skip ?_ | with_reducible refine aw_exit ?_ | refine thn_normal ?_ | refine thn_out ?_ | refine blk_normal ?_ | refine blk_ret ?_ | refine blk_exit ?_ | ((first | refine aw_regO ?_ | refine aw_regDO ?_ | refine aw_condO ?_ | refine fin_retO ?_); (conv => (arg 1; simp (maxSteps := 30000) only [ev0, ev1, ev2, look, lookF, cellsFrom, offT, offP, List.tail_nil, List.length_nil, Int.cast_ofNat_Int, Nat.reduceEqDiff, Nat.reduceAdd, Nat.reduceMul, Nat.reduceLeDiff, Nat.reduceLT, ↓reduceIte, reduceCtorEq, Int.reduceBEq, Int.reduceBNe, Int.reduceLT, Int.reduceLE, Int.reduceToNat, beq_self_eq_true])); (first | with_reducible refine on_yes ?_ | with_reducible refine on_no ?_ | with_reducible refine on_reg ?_ | (with_reducible refine on_regD (by decide +kernel) ?_) | with_reducible refine on_fin ?_)))
  refine aw_reg [[vB true]] (by simp only [ev0, ev1, ev2, look, lookF, cellsFrom, offT, offP, List.tail_nil, List.length_nil, Int.cast_ofNat_Int, Nat.reduceEqDiff, Nat.reduceAdd, Nat.reduceMul, Nat.reduceLeDiff, Nat.reduceLT, ↓reduceIte, reduceCtorEq, Int.reduceBEq, Int.reduceBNe, Int.reduceLT, Int.reduceLE, Int.reduceToNat, beq_self_eq_true]; first | rfl | exact ⟨rfl, rfl⟩) ?_ ?_
  · exact obl_cons h1 obl_nil
  repeat (first | refine aw_seq ?_ | refine aw_block ?_ | with_reducible refine aw_ret ?_ | with_reducible refine aw_skip ?_ | with_reducible refine aw_exit ?_ | refine thn_normal ?_ | refine thn_out ?_ | refine blk_normal ?_ | refine blk_ret ?_ | refine blk_exit ?_ | ((first | refine aw_regO ?_ | refine aw_regDO ?_ | refine aw_condO ?_ | refine fin_retO ?_); (conv => (arg 1; simp (maxSteps := 30000) only [ev0, ev1, ev2, look, lookF, cellsFrom, offT, offP, List.tail_nil, List.length_nil, Int.cast_ofNat_Int, Nat.reduceEqDiff, Nat.reduceAdd, Nat.reduceMul, Nat.reduceLeDiff, Nat.reduceLT, ↓reduceIte, reduceCtorEq, Int.reduceBEq, Int.reduceBNe, Int.reduceLT, Int.reduceLE, Int.reduceToNat, beq_self_eq_true, Bool.and_self])); (first | with_reducible refine on_yes ?_ | with_reducible refine on_no ?_ | with_reducible refine on_reg ?_ | (with_reducible refine on_regD (by decide +kernel) ?_) | with_reducible refine on_fin ?_)))
  refine aw_reg [[vB true]] (by simp only [ev0, ev1, ev2, look, lookF, cellsFrom, offT, offP, List.tail_nil, List.length_nil, Int.cast_ofNat_Int, Nat.reduceEqDiff, Nat.reduceAdd, Nat.reduceMul, Nat.reduceLeDiff, Nat.reduceLT, ↓reduceIte, reduceCtorEq, Int.reduceBEq, Int.reduceBNe, Int.reduceLT, Int.reduceLE, Int.reduceToNat, beq_self_eq_true]; first | rfl | exact ⟨rfl, rfl⟩) ?_ ?_
  · exact obl_cons h2 obl_nil
  repeat (first | refine aw_seq ?_ | refine aw_block ?_ | with_reducible refine aw_ret ?_ | with_reducible refine aw_skip ?_ | with_reducible refine aw_exit ?_ | refine thn_normal ?_ | refine thn_out ?_ | refine blk_normal ?_ | refine blk_ret ?_ | refine blk_exit ?_ | ((first | refine aw_regO ?_ | refine aw_regDO ?_ | refine aw_condO ?_ | refine fin_retO ?_); (conv => (arg 1; simp (maxSteps := 30000) only [ev0, ev1, ev2, look, lookF, cellsFrom, offT, offP, List.tail_nil, List.length_nil, Int.cast_ofNat_Int, Nat.reduceEqDiff, Nat.reduceAdd, Nat.reduceMul, Nat.reduceLeDiff, Nat.reduceLT, ↓reduceIte, reduceCtorEq, Int.reduceBEq, Int.reduceBNe, Int.reduceLT, Int.reduceLE, Int.reduceToNat, beq_self_eq_true])); (first | with_reducible refine on_yes ?_ | with_reducible refine on_no ?_ | with_reducible refine on_reg ?_ | (with_reducible refine on_regD (by decide +kernel) ?_) | with_reducible refine on_fin ?_)))
  exact ValsLe.refl _
end Go.Proofs.Ytficfkeifcnbmab.ab
