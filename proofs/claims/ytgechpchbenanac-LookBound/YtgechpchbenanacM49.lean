/-
  Several texts in one.
-/
import Derived.Test.YtgechpchbenanacM48

/-
  The closed fact that the statements on looks ask first.
-/
namespace Go.Proofs.Ytgechpchbenanac.ab
set_option linter.unusedVariables false
set_option linter.unusedSimpArgs false
open Go Go.RowKit
open mth

def ak1 : Ln := ⟨⟨[], 2, 0, 0, 0, [zeroC], 0⟩, zeroR, [], []⟩
def ak99 : Ln := ⟨zeroS, zeroR, List.replicate 99 [], []⟩
theorem nil_rows : ∀ n : Nat, EsLe (List.replicate n (vD (.slice none 0 0))) (List.replicate n (sD 1 []))
  | 0 => es_nil
  | n + 1 => es_cons (row_cons (LfLe.nil _) row_nil) (nil_rows n)
theorem pk_none (n : Nat) : encPk (List.replicate n []) = List.replicate n (sD 1 []) := by simp [encPk]
set_option maxHeartbeats 16000000 in
theorem alive11_told (hI : CKIdle 24) (hW : CKWithin 25) (hN : CKSent 23) (hS : CKStill 26) : Told Try.prog 28 [] [vB true] := by
  refine told_w11_alive rfl ?_
  have s1 : SmallN ak1 := ⟨by decide, by decide, by decide, by decide, by decide, by decide, by decide⟩
  have s0 : SmallN zeroL := good_smallN good_zeroL
  have s9 : SmallN ak99 := ⟨by decide, by decide, by decide, by decide, by decide, by unfold ak99; simp, by decide⟩
  have h1 := hN ak1 s1
  have h2 := hI zeroL s0
  have h3 := hI ak1 s1
  have h4 := hS ⟨[], 0⟩ (by decide) (by simp)
  have h5 := hS ⟨[ak1], 0⟩ (by decide) (by intro l hl; rw [List.mem_singleton.1 hl]; exact s1)
  have h6 := hW ak1 s1
  have h7 := hW ak99 s9
  rw [show idleL zeroL = true from rfl] at h2
  rw [show idleL ak1 = false from rfl] at h3
  rw [show stillW ⟨[], 0⟩ = true from rfl] at h4
  rw [show stillW ⟨[ak1], 0⟩ = false from rfl] at h5
  rw [show withinL ak1 = true from by decide] at h6
  rw [show withinL ak99 = false by unfold withinL; rw [decide_eq_false_iff_not]; intro q; have := q.2.2.2.2.2.1; unfold ak99 at this; simp at this] at h7
  simp only [ak99, encLn, pk_none] at h7
  generalize hr : List.replicate 99 (sD 1 []) = R at *
  have hR : EsLe (List.replicate 99 (vD (.slice none 0 0))) R := by rw [← hr]; exact nil_rows 99
  have hRl : R.length = 99 := by rw [← hr]; simp
  generalize hr2 : List.replicate 99 (vD (.slice none 0 0)) = R2 at *
  have hR2 : 99 = R2.length := by rw [← hr2]; simp
  have z0 : ((ak1.r.told.length : Nat) : Int) = 0 := rfl
  rw [z0] at h1
  simp only [encWd, encLn, ak1, zeroL, zeroS, zeroR, zeroC, encCl, encCh, encMl, encPk, encLl, List.map_cons, List.map_nil] at h1 h2 h3 h4 h5 h6 h7
  refine wk (an4 @zrs @zr0 @zcons @znil) ?_
  refine cg0 [[vI 2, vI 0]] ?_ ?_
  · refine ⟨⟨_, ?_, h1⟩, trivial⟩
    repeat' (first | exact vals_nil | exact row_nil | exact es_nil | exact CVLe.refl _ | exact LfLe.refl _ | exact LfLe.nil _ | exact EsLe.refl _ | refine vals_cons ?_ ?_ | refine row_cons ?_ ?_ | refine es_cons ?_ ?_ | refine EsLe.app ?_ ?_ | refine CVLe.row ?_ | refine CVLe.leafV ?_ | refine CVLe.leafS ?_ | refine LfLe.s ?_)
  refine wk0 ?_
  refine cg [[vB true], [vB false], [vB true]] Bool.not_false ?_ ?_
  · refine ⟨⟨_, ?_, h2⟩, ⟨_, ?_, h3⟩, ⟨_, ?_, h4⟩, trivial⟩
    · repeat' (first | exact vals_nil | exact row_nil | exact es_nil | exact CVLe.refl _ | exact LfLe.refl _ | exact LfLe.nil _ | exact EsLe.refl _ | refine vals_cons ?_ ?_ | refine row_cons ?_ ?_ | refine es_cons ?_ ?_ | refine EsLe.app ?_ ?_ | refine CVLe.row ?_ | refine CVLe.leafV ?_ | refine CVLe.leafS ?_ | refine LfLe.s ?_)
    · repeat' (first | exact vals_nil | exact row_nil | exact es_nil | exact CVLe.refl _ | exact LfLe.refl _ | exact LfLe.nil _ | exact EsLe.refl _ | refine vals_cons ?_ ?_ | refine row_cons ?_ ?_ | refine es_cons ?_ ?_ | refine EsLe.app ?_ ?_ | refine CVLe.row ?_ | refine CVLe.leafV ?_ | refine CVLe.leafS ?_ | refine LfLe.s ?_)
    · repeat' (first | exact vals_nil | exact row_nil | exact es_nil | exact CVLe.refl _ | exact LfLe.refl _ | exact LfLe.nil _ | exact EsLe.refl _ | refine vals_cons ?_ ?_ | refine row_cons ?_ ?_ | refine es_cons ?_ ?_ | refine EsLe.app ?_ ?_ | refine CVLe.row ?_ | refine CVLe.leafV ?_ | refine CVLe.leafS ?_ | refine LfLe.s ?_)
  refine wk Bool.not_false ?_
  refine cg [[vB false]] Bool.not_false ?_ ?_
  · refine ⟨⟨_, ?_, h5⟩, trivial⟩
    repeat' (first | exact vals_nil | exact row_nil | exact es_nil | exact CVLe.refl _ | exact LfLe.refl _ | exact LfLe.nil _ | exact EsLe.refl _ | refine vals_cons ?_ ?_ | refine row_cons ?_ ?_ | refine es_cons ?_ ?_ | refine EsLe.app ?_ ?_ | refine CVLe.row ?_ | refine CVLe.leafV ?_ | refine CVLe.leafS ?_ | refine LfLe.s ?_)
  repeat (first | refine aw_seq ?_ | refine aw_block ?_ | with_reducible refine aw_ret ?_ | with_reducible refine aw_skip ?_ | with_reducible refine aw_exit ?_ | refine thn_normal ?_ | refine thn_out ?_ | refine blk_normal ?_ | refine blk_ret ?_ | refine blk_exit ?_ | ((first | refine aw_regO ?_ | refine aw_regDO ?_ | refine aw_condO ?_ | refine fin_retO ?_); (conv => (arg 1; simp (maxSteps := 30000) only [ev0, ev1, ev2, look, lookF, cellsFrom, offT, offP, List.tail_nil, List.length_nil, Int.cast_ofNat_Int, Nat.reduceEqDiff, Nat.reduceAdd, Nat.reduceMul, Nat.reduceLeDiff, Nat.reduceLT, ↓reduceIte, reduceCtorEq, Int.reduceBEq, Int.reduceBNe, Int.reduceLT, Int.reduceLE, Int.reduceToNat, Bool.not_false, hr2, ← hR2])); (first | with_reducible refine on_yes ?_ | with_reducible refine on_no ?_ | with_reducible refine on_reg ?_ | (with_reducible refine on_regD (by decide +kernel) ?_) | with_reducible refine on_fin ?_)))
  refine aw_reg [[vB true]] (by simp only [ev0, ev1, ev2, look, lookF, cellsFrom, offT, offP, List.tail_nil, List.length_nil, Int.cast_ofNat_Int, Nat.reduceEqDiff, Nat.reduceAdd, Nat.reduceMul, Nat.reduceLeDiff, Nat.reduceLT, ↓reduceIte, reduceCtorEq, Int.reduceBEq, Int.reduceBNe, Int.reduceLT, Int.reduceLE, Int.reduceToNat, hr2, ← hR2]; first | rfl | exact ⟨rfl, rfl⟩) ?_ ?_
  · refine ⟨⟨_, ?_, h6⟩, trivial⟩
    repeat' (first | exact vals_nil | exact row_nil | exact es_nil | exact CVLe.refl _ | exact LfLe.refl _ | exact LfLe.nil _ | exact EsLe.refl _ | refine vals_cons ?_ ?_ | refine row_cons ?_ ?_ | refine es_cons ?_ ?_ | refine EsLe.app ?_ ?_ | refine CVLe.row ?_ | refine CVLe.leafV ?_ | refine CVLe.leafS ?_ | refine LfLe.s ?_)
  repeat (first | refine aw_seq ?_ | refine aw_block ?_ | with_reducible refine aw_ret ?_ | with_reducible refine aw_skip ?_ | with_reducible refine aw_exit ?_ | refine thn_normal ?_ | refine thn_out ?_ | refine blk_normal ?_ | refine blk_ret ?_ | refine blk_exit ?_ | ((first | refine aw_regO ?_ | refine aw_regDO ?_ | refine aw_condO ?_ | refine fin_retO ?_); (conv => (arg 1; simp (maxSteps := 30000) only [ev0, ev1, ev2, look, lookF, cellsFrom, offT, offP, List.tail_nil, List.length_nil, Int.cast_ofNat_Int, Nat.reduceEqDiff, Nat.reduceAdd, Nat.reduceMul, Nat.reduceLeDiff, Nat.reduceLT, ↓reduceIte, reduceCtorEq, Int.reduceBEq, Int.reduceBNe, Int.reduceLT, Int.reduceLE, Int.reduceToNat, ← hR2])); (first | with_reducible refine on_yes ?_ | with_reducible refine on_no ?_ | with_reducible refine on_reg ?_ | (with_reducible refine on_regD (by decide +kernel) ?_) | with_reducible refine on_fin ?_)))
  refine cg [[vB false]] Bool.not_false ?_ ?_
  · refine ⟨⟨_, ?_, h7⟩, trivial⟩
    repeat' (first | exact vals_nil | exact row_nil | exact es_nil | exact CVLe.refl _ | exact LfLe.refl _ | exact LfLe.nil _ | exact EsLe.refl _ | refine vals_cons ?_ ?_ | refine row_cons ?_ ?_ | refine es_cons ?_ ?_ | refine EsLe.app ?_ ?_ | refine CVLe.row ?_ | refine CVLe.leafV ?_ | refine CVLe.leafS ?_ | refine LfLe.s ?_)
    exact hR
  refine wk Bool.not_false ?_
  exact ValsLe.refl _
end Go.Proofs.Ytgechpchbenanac.ab

/-
  What the statements LookBound and LookKnows tell, out of what the functions of package look tell.
-/
namespace Go.Proofs.Ytgechpchbenanac.ab
set_option linter.unusedVariables false
set_option linter.unusedSimpArgs false
open Go Go.RowKit
open mth

def lbSt (w : Wd) (k : Nat) : St := ⟨[(24, sD 17 (encLl w.lanes)), (25, vI w.lanes.length), (26, vI k)], [], []⟩
set_option maxHeartbeats 8000000 in
theorem lookBound_told (hS : CSpoilR 45) (hI : CKIdle 24) (hW : CKWithin 25) (hN : CKSent 23) (hT : CKStill 26) (n : Int) (l : List Sp) (hl : l.length ≤ 9223372036854775807) : Told Try.prog 9 [vI n, sD 7 (encSl l)] [vB true] := by
  refine told_w11_LookBound rfl ?_
  have hA := alive11_told hI hW hN hT
  refine wk0 ?_
  refine cg [[vB true]] Bool.not_true ?_ ?_
  · exact obl_cons hA obl_nil
  by_cases n1 : n < 1
  · refine wk @n1 ?_
    exact ValsLe.refl _
  by_cases n2 : 3 < n
  · refine wk (an2 @n1 @n2) ?_
    exact ValsLe.refl _
  obtain ⟨q, rfl⟩ : ∃ q : Nat, n = q := ⟨n.toNat, by omega⟩
  have hn : 1 ≤ q ∧ q ≤ 3 := by omega
  have p1 := play_told hS q hn l hl
  obtain ⟨hw, _, _⟩ := good_run (good_new hn) l 160
  generalize (runW (newW q) (l.take 160)).2 = es at *
  generalize (runW (newW q) (l.take 160)).1 = w at *
  have hwn := hw.n
  simp only [encWd] at p1
  refine wk (an2 @n1 @n2) ?_
  refine cg [[aD (encWd w), sD 1 (es.map vI)]] (an3 @encWd.eq_1 @n1 @n2) ?_ ?_
  · exact obl_cons p1 obl_nil
  refine wk @len_ll ?_
  refine aw_loop (fun m st => ∃ k : Nat, k ≤ w.lanes.length ∧ m = w.lanes.length - k ∧ st = lbSt w k) w.lanes.length (lbSt w 0) (Le.refl _) ⟨0, by omega, by omega, rfl⟩ ?_
  rintro m st ⟨k, hk, hm, rfl⟩
  by_cases hlt : k < w.lanes.length
  · obtain ⟨x, hx⟩ : ∃ x, w.lanes[k]? = some x := ⟨w.lanes[k], List.getElem?_eq_getElem hlt⟩
    have hg := hw.l x (List.mem_of_getElem? hx)
    have g1 : (k : Int) < (w.lanes.length : Int) := by omega
    have g2 : (0 : Int) ≤ (k : Int) := by omega
    have g3 := at_ll hx
    have g4 : inR .i64 ((k : Int) + 1) = true := inR_of (by omega)
    have h1 := hW x (good_smallN hg)
    rw [good_within hg] at h1
    have b1 : ¬ 6 < (x.s.queue.length : Int) := by have := hg.s.q; omega
    have b2 : ¬ 4 < (x.s.flight.length : Int) := by have := hg.s.f; omega
    have b3 : ¬ 6 < (x.there.length : Int) := by have := hg.t; omega
    have b4 : ¬ 6 < (x.back.length : Int) := by have := hg.b; omega
    have b5 : ¬ 3 < (x.r.early.length : Int) := by have := hg.r.l; omega
    have hnx : Next (fun m st => ∃ k : Nat, k ≤ w.lanes.length ∧ m = w.lanes.length - k ∧ st = lbSt w k) m (lbSt w (k + 1)) := ⟨w.lanes.length - (k + 1), _, by omega, Le.refl _, k + 1, by omega, rfl, rfl⟩
    generalize (fun m st => ∃ k : Nat, k ≤ w.lanes.length ∧ m = w.lanes.length - k ∧ st = lbSt w k) = J at *
    simp only [lbSt, encLn, Int.natCast_add, Int.cast_ofNat_Int] at g3 h1 hnx ⊢
    refine wk (an5 @g1 @g2 @g3 @len_ll @Int.toNat_natCast) ?_
    refine cg [[vB true]] (an3 @b1 Bool.not_true @len_ml) ?_ ?_
    · exact obl_cons h1 obl_nil
    refine wk (an10 @b1 @b2 @b3 @b4 @b5 @g4 @len_ml @len_cl @len_pk @zmap) ?_
    exact hnx
  · have hkn : k = w.lanes.length := by omega
    subst hkn
    have g1 : ¬ (w.lanes.length : Int) < (w.lanes.length : Int) := by omega
    generalize (fun m st => ∃ k : Nat, k ≤ w.lanes.length ∧ m = w.lanes.length - k ∧ st = lbSt w k) = J at *
    simp only [lbSt]
    refine wk @g1 ?_
    exact ValsLe.refl _
end Go.Proofs.Ytgechpchbenanac.ab
