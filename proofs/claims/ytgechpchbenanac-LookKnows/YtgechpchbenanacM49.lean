/-
  Several texts in one.
-/
import Derived.Test.YtgechpchbenanacM48

/-
  The closed fact that the statements on looks ask first.
-/
namespace Go.Proofs.Ytgechpchbenanac.ab
set_option linter.unusedVariables false
set_option linter.unusedSimpArgs false
open Go Go.RowKit
open mth

def ak1 : Ln := ⟨⟨[], 2, 0, 0, 0, [zeroC], 0⟩, zeroR, [], []⟩
def ak99 : Ln := ⟨zeroS, zeroR, List.replicate 99 [], []⟩
theorem nil_rows : ∀ n : Nat, EsLe (List.replicate n (vD (.slice none 0 0))) (List.replicate n (sD 1 []))
  | 0 => es_nil
  | n + 1 => es_cons (row_cons (LfLe.nil _) row_nil) (nil_rows n)
theorem pk_none (n : Nat) : encPk (List.replicate n []) = List.replicate n (sD 1 []) := by simp [encPk]
set_option maxHeartbeats 16000000 in
theorem alive11_told (hI : CKIdle 24) (hW : CKWithin 25) (hN : CKSent 23) (hS : CKStill 26) : Told Try.prog 28 [] [vB true] := by
  refine told_w11_alive rfl ?_
  have s1 : SmallN ak1 := ⟨by decide, by decide, by decide, by decide, by decide, by decide, by decide⟩
  have s0 : SmallN zeroL := good_smallN good_zeroL
  have s9 : SmallN ak99 := ⟨by decide, by decide, by decide, by decide, by decide, by unfold ak99; simp, by decide⟩
  have h1 := hN ak1 s1
  have h2 := hI zeroL s0
  have h3 := hI ak1 s1
  have h4 := hS ⟨[], 0⟩ (by decide) (by simp)
  have h5 := hS ⟨[ak1], 0⟩ (by decide) (by intro l hl; rw [List.mem_singleton.1 hl]; exact s1)
  have h6 := hW ak1 s1
  have h7 := hW ak99 s9
  rw [show idleL zeroL = true from rfl] at h2
  rw [show idleL ak1 = false from rfl] at h3
  rw [show stillW ⟨[], 0⟩ = true from rfl] at h4
  rw [show stillW ⟨[ak1], 0⟩ = false from rfl] at h5
  rw [show withinL ak1 = true from by decide] at h6
  rw [show withinL ak99 = false by unfold withinL; rw [decide_eq_false_iff_not]; intro q; have := q.2.2.2.2.2.1; unfold ak99 at this; simp at this] at h7
  simp only [ak99, encLn, pk_none] at h7
  generalize hr : List.replicate 99 (sD 1 []) = R at *
  have hR : EsLe (List.replicate 99 (vD (.slice none 0 0))) R := by rw [← hr]; exact nil_rows 99
  have hRl : R.length = 99 := by rw [← hr]; simp
  generalize hr2 : List.replicate 99 (vD (.slice none 0 0)) = R2 at *
  have hR2 : 99 = R2.length := by rw [← hr2]; simp
  have z0 : ((ak1.r.told.length : Nat) : Int) = 0 := rfl
  rw [z0] at h1
  simp only [encWd, encLn, ak1, zeroL, zeroS, zeroR, zeroC, encCl, encCh, encMl, encPk, encLl, List.map_cons, List.map_nil] at h1 h2 h3 h4 h5 h6 h7
  refine wk (an4 @zrs @zr0 @zcons @znil) ?_
  refine cg0 [[vI 2, vI 0]] ?_ ?_
  · refine ⟨⟨_, ?_, h1⟩, trivial⟩
    repeat' (first | exact vals_nil | exact row_nil | exact es_nil | exact CVLe.refl _ | exact LfLe.refl _ | exact LfLe.nil _ | exact EsLe.refl _ | refine vals_cons ?_ ?_ | refine row_cons ?_ ?_ | refine es_cons ?_ ?_ | refine EsLe.app ?_ ?_ | refine CVLe.row ?_ | refine CVLe.leafV ?_ | refine CVLe.leafS ?_ | refine LfLe.s ?_)
  refine wk0 ?_
  refine cg [[vB true], [vB false], [vB true]] Bool.not_false ?_ ?_
  · refine ⟨⟨_, ?_, h2⟩, ⟨_, ?_, h3⟩, ⟨_, ?_, h4⟩, trivial⟩
    · repeat' (first | exact vals_nil | exact row_nil | exact es_nil | exact CVLe.refl _ | exact LfLe.refl _ | exact LfLe.nil _ | exact EsLe.refl _ | refine vals_cons ?_ ?_ | refine row_cons ?_ ?_ | refine es_cons ?_ ?_ | refine EsLe.app ?_ ?_ | refine CVLe.row ?_ | refine CVLe.leafV ?_ | refine CVLe.leafS ?_ | refine LfLe.s ?_)
    · repeat' (first | exact vals_nil | exact row_nil | exact es_nil | exact CVLe.refl _ | exact LfLe.refl _ | exact LfLe.nil _ | exact EsLe.refl _ | refine vals_cons ?_ ?_ | refine row_cons ?_ ?_ | refine es_cons ?_ ?_ | refine EsLe.app ?_ ?_ | refine CVLe.row ?_ | refine CVLe.leafV ?_ | refine CVLe.leafS ?_ | refine LfLe.s ?_)
    · repeat' (first | exact vals_nil | exact row_nil | exact es_nil | exact CVLe.refl _ | exact LfLe.refl _ | exact LfLe.nil _ | exact EsLe.refl _ | refine vals_cons ?_ ?_ | refine row_cons ?_ ?_ | refine es_cons ?_ ?_ | refine EsLe.app ?_ ?_ | refine CVLe.row ?_ | refine CVLe.leafV ?_ | refine CVLe.leafS ?_ | refine LfLe.s ?_)
  refine wk Bool.not_false ?_
  refine cg [[vB false]] Bool.not_false ?_ ?_
  · refine ⟨⟨_, ?_, h5⟩, trivial⟩
    repeat' (first | exact vals_nil | exact row_nil | exact es_nil | exact CVLe.refl _ | exact LfLe.refl _ | exact LfLe.nil _ | exact EsLe.refl _ | refine vals_cons ?_ ?_ | refine row_cons ?_ ?_ | refine es_cons ?_ ?_ | refine EsLe.app ?_ ?_ | refine CVLe.row ?_ | refine CVLe.leafV ?_ | refine CVLe.leafS ?_ | refine LfLe.s ?_)
  repeat (first | refine aw_seq ?_ | refine aw_block ?_ | with_reducible refine aw_ret ?_ | with_reducible refine aw_skip ?_ | with_reducible refine aw_exit ?_ | refine thn_normal ?_ | refine thn_out ?_ | refine blk_normal ?_ | refine blk_ret ?_ | refine blk_exit ?_ | ((first | refine aw_regO ?_ | refine aw_regDO ?_ | refine aw_condO ?_ | refine fin_retO ?_); (conv => (arg 1; simp (maxSteps := 30000) only [ev0, ev1, ev2, look, lookF, cellsFrom, offT, offP, List.tail_nil, List.length_nil, Int.cast_ofNat_Int, Nat.reduceEqDiff, Nat.reduceAdd, Nat.reduceMul, Nat.reduceLeDiff, Nat.reduceLT, ↓reduceIte, reduceCtorEq, Int.reduceBEq, Int.reduceBNe, Int.reduceLT, Int.reduceLE, Int.reduceToNat, Bool.not_false, hr2, ← hR2])); (first | with_reducible refine on_yes ?_ | with_reducible refine on_no ?_ | with_reducible refine on_reg ?_ | (with_reducible refine on_regD (by decide +kernel) ?_) | with_reducible refine on_fin ?_)))
  refine aw_reg [[vB true]] (by simp only [ev0, ev1, ev2, look, lookF, cellsFrom, offT, offP, List.tail_nil, List.length_nil, Int.cast_ofNat_Int, Nat.reduceEqDiff, Nat.reduceAdd, Nat.reduceMul, Nat.reduceLeDiff, Nat.reduceLT, ↓reduceIte, reduceCtorEq, Int.reduceBEq, Int.reduceBNe, Int.reduceLT, Int.reduceLE, Int.reduceToNat, hr2, ← hR2]; first | rfl | exact ⟨rfl, rfl⟩) ?_ ?_
  · refine ⟨⟨_, ?_, h6⟩, trivial⟩
    repeat' (first | exact vals_nil | exact row_nil | exact es_nil | exact CVLe.refl _ | exact LfLe.refl _ | exact LfLe.nil _ | exact EsLe.refl _ | refine vals_cons ?_ ?_ | refine row_cons ?_ ?_ | refine es_cons ?_ ?_ | refine EsLe.app ?_ ?_ | refine CVLe.row ?_ | refine CVLe.leafV ?_ | refine CVLe.leafS ?_ | refine LfLe.s ?_)
  repeat (first | refine aw_seq ?_ | refine aw_block ?_ | with_reducible refine aw_ret ?_ | with_reducible refine aw_skip ?_ | with_reducible refine aw_exit ?_ | refine thn_normal ?_ | refine thn_out ?_ | refine blk_normal ?_ | refine blk_ret ?_ | refine blk_exit ?_ | ((first | refine aw_regO ?_ | refine aw_regDO ?_ | refine aw_condO ?_ | refine fin_retO ?_); (conv => (arg 1; simp (maxSteps := 30000) only [ev0, ev1, ev2, look, lookF, cellsFrom, offT, offP, List.tail_nil, List.length_nil, Int.cast_ofNat_Int, Nat.reduceEqDiff, Nat.reduceAdd, Nat.reduceMul, Nat.reduceLeDiff, Nat.reduceLT, ↓reduceIte, reduceCtorEq, Int.reduceBEq, Int.reduceBNe, Int.reduceLT, Int.reduceLE, Int.reduceToNat, ← hR2])); (first | with_reducible refine on_yes ?_ | with_reducible refine on_no ?_ | with_reducible refine on_reg ?_ | (with_reducible refine on_regD (by decide +kernel) ?_) | with_reducible refine on_fin ?_)))
  refine cg [[vB false]] Bool.not_false ?_ ?_
  · refine ⟨⟨_, ?_, h7⟩, trivial⟩
    repeat' (first | exact vals_nil | exact row_nil | exact es_nil | exact CVLe.refl _ | exact LfLe.refl _ | exact LfLe.nil _ | exact EsLe.refl _ | refine vals_cons ?_ ?_ | refine row_cons ?_ ?_ | refine es_cons ?_ ?_ | refine EsLe.app ?_ ?_ | refine CVLe.row ?_ | refine CVLe.leafV ?_ | refine CVLe.leafS ?_ | refine LfLe.s ?_)
    exact hR
  refine wk Bool.not_false ?_
  exact ValsLe.refl _
end Go.Proofs.Ytgechpchbenanac.ab

/-
  What the statements LookBound and LookKnows tell, out of what the functions of package look tell.
-/
namespace Go.Proofs.Ytgechpchbenanac.ab
set_option linter.unusedVariables false
set_option linter.unusedSimpArgs false
open Go Go.RowKit
open mth

def lk1 (n : Int) (l : List Sp) (i : Nat) : St := ⟨[(0, vI n), (1, sD 7 (encSl l)), (15, sD 7 (encSl l)), (16, vI l.length), (17, vI i)], [], []⟩
def lk2 (w : Wd) (k : Nat) : St := ⟨[(38, sD 17 (encLl w.lanes)), (39, vI w.lanes.length), (40, vI k)], [], []⟩
set_option maxHeartbeats 8000000 in
theorem lookKnows_told (hS : CSpoilR 45) (hI : CKIdle 24) (hW : CKWithin 25) (hN : CKSent 23) (hT : CKStill 26) (n : Int) (l : List Sp) (hl : l.length ≤ 9223372036854775807) : Told Try.prog 10 [vI n, sD 7 (encSl l)] [vB true] := by
  refine told_w11_LookKnows rfl ?_
  have hA := alive11_told hI hW hN hT
  refine wk0 ?_
  refine cg [[vB true]] Bool.not_true ?_ ?_
  · exact obl_cons hA obl_nil
  refine wk @len_sl ?_
  refine aw_loop (fun m st => ∃ i : Nat, i ≤ l.length ∧ m = l.length - i ∧ (∀ s ∈ l.take i, s.kind ≠ 6) ∧ st = lk1 n l i) l.length (lk1 n l 0) (Le.refl _) ⟨0, by omega, by omega, by simp, rfl⟩ ?_
  rintro m st ⟨i, hi, hm, hno, rfl⟩
  by_cases hlt : i < l.length
  · obtain ⟨s, hs⟩ : ∃ s, l[i]? = some s := ⟨l[i], List.getElem?_eq_getElem hlt⟩
    have g1 : (i : Int) < (l.length : Int) := by omega
    have g2 : (0 : Int) ≤ (i : Int) := by omega
    have g3 := at_sl hs
    have g4 : inR .i64 ((i : Int) + 1) = true := inR_of (by omega)
    by_cases h6 : s.kind = 6
    · have e1 : (s.kind == 6) = true := by simpa using h6
      generalize (fun m st => ∃ i : Nat, i ≤ l.length ∧ m = l.length - i ∧ (∀ s ∈ l.take i, s.kind ≠ 6) ∧ st = lk1 n l i) = J at *
      simp only [lk1]
      refine wk (an6 @g1 @g2 @g3 @e1 @len_sl @Int.toNat_natCast) ?_
      exact ValsLe.refl _
    · have e1 : (s.kind == 6) = false := by simpa using h6
      have hnx : Next (fun m st => ∃ i : Nat, i ≤ l.length ∧ m = l.length - i ∧ (∀ s ∈ l.take i, s.kind ≠ 6) ∧ st = lk1 n l i) m (lk1 n l (i + 1)) := ⟨l.length - (i + 1), _, by omega, Le.refl _, i + 1, by omega, rfl, fun z hz => by
        rw [List.take_add_one, hs] at hz
        rcases List.mem_append.1 hz with q | q
        · exact hno z q
        · have q : z = s := by simpa using q
          rw [q]; exact h6, rfl⟩
      generalize (fun m st => ∃ i : Nat, i ≤ l.length ∧ m = l.length - i ∧ (∀ s ∈ l.take i, s.kind ≠ 6) ∧ st = lk1 n l i) = J at *
      simp only [lk1, Int.natCast_add, Int.cast_ofNat_Int] at hnx ⊢
      refine wk (an7 @g1 @g2 @g3 @g4 @e1 @len_sl @Int.toNat_natCast) ?_
      exact hnx
  · have hin : i = l.length := by omega
    subst hin
    rw [List.take_length] at hno
    have g1 : ¬ (l.length : Int) < (l.length : Int) := by omega
    generalize (fun m st => ∃ i : Nat, i ≤ l.length ∧ m = l.length - i ∧ (∀ s ∈ l.take i, s.kind ≠ 6) ∧ st = lk1 n l i) = J0 at *
    simp only [lk1]
    by_cases n1 : n < 1
    · refine wk (an2 @g1 @n1) ?_
      exact ValsLe.refl _
    by_cases n2 : 3 < n
    · refine wk (an3 @g1 @n1 @n2) ?_
      exact ValsLe.refl _
    obtain ⟨q, rfl⟩ : ∃ q : Nat, n = q := ⟨n.toNat, by omega⟩
    have hn : 1 ≤ q ∧ q ≤ 3 := by omega
    have p1 := play_told hS q hn l hl
    obtain ⟨hw, _, _⟩ := good_run (good_new hn) l 160
    have hk := wknow_run q (l.take 160) (fun s hs => hno s (List.mem_of_mem_take hs)) (l.take 160).length (Nat.le_refl _)
    rw [List.take_length] at hk
    generalize (runW (newW q) (l.take 160)).2 = es at *
    generalize (runW (newW q) (l.take 160)).1 = w at *
    have hwn := hw.n
    simp only [encWd] at p1
    refine wk (an3 @g1 @n1 @n2) ?_
    refine cg [[aD (encWd w), sD 1 (es.map vI)]] @encWd.eq_1 ?_ ?_
    · exact obl_cons p1 obl_nil
    refine wk @len_ll ?_
    refine aw_loop (fun m st => ∃ k : Nat, k ≤ w.lanes.length ∧ m = w.lanes.length - k ∧ st = lk2 w k) w.lanes.length (lk2 w 0) (Le.refl _) ⟨0, by omega, by omega, rfl⟩ ?_
    rintro m st ⟨k, hkk, hm, rfl⟩
    by_cases hlt : k < w.lanes.length
    · obtain ⟨x, hx⟩ : ∃ x, w.lanes[k]? = some x := ⟨w.lanes[k], List.getElem?_eq_getElem hlt⟩
      have hg := hw.l x (List.mem_of_getElem? hx)
      obtain ⟨_, mm, cs, _, kn⟩ := hk k x hx
      have g1 : (k : Int) < (w.lanes.length : Int) := by omega
      have g2 : (0 : Int) ≤ (k : Int) := by omega
      have g3 := at_ll hx
      have g4 : inR .i64 ((k : Int) + 1) = true := inR_of (by omega)
      have h1 := hN x (good_smallN hg)
      have h2 := hI x (good_smallN hg)
      have b1 : ¬ x.s.next < (x.r.told.length : Int) := by have := kn.told_le; omega
      have hid : idleL x = true → (x.r.told.length : Int) = x.s.next := fun h => kn.idle (idle_iff.1 h).2
      have hnx : Next (fun m st => ∃ k : Nat, k ≤ w.lanes.length ∧ m = w.lanes.length - k ∧ st = lk2 w k) m (lk2 w (k + 1)) := ⟨w.lanes.length - (k + 1), _, by omega, Le.refl _, k + 1, by omega, rfl, rfl⟩
      generalize (fun m st => ∃ k : Nat, k ≤ w.lanes.length ∧ m = w.lanes.length - k ∧ st = lk2 w k) = J at *
      simp only [lk2, encLn, Int.natCast_add, Int.cast_ofNat_Int] at g3 h1 h2 hnx ⊢
      refine wk (an5 @g1 @g2 @g3 @len_ll @Int.toNat_natCast) ?_
      refine cg0 [[vI x.s.next, vI x.r.told.length]] ?_ ?_
      · exact obl_cons h1 obl_nil
      cases hb : idleL x with
      | true =>
        rw [hb] at h2
        have b2 : (x.s.next != (x.r.told.length : Int)) = false := by rw [hid hb]; exact bne_self_eq_false _
        refine wk @b1 ?_
        refine cg [[vB true]] (an2 @b1 @b2) ?_ ?_
        · exact obl_cons h2 obl_nil
        refine wk @g4 ?_
        exact hnx
      | false =>
        rw [hb] at h2
        refine wk @b1 ?_
        refine cg [[vB false]] @b1 ?_ ?_
        · exact obl_cons h2 obl_nil
        refine wk @g4 ?_
        exact hnx
    · have hkn : k = w.lanes.length := by omega
      subst hkn
      have g1 : ¬ (w.lanes.length : Int) < (w.lanes.length : Int) := by omega
      generalize (fun m st => ∃ k : Nat, k ≤ w.lanes.length ∧ m = w.lanes.length - k ∧ st = lk2 w k) = J at *
      simp only [lk2]
      refine wk @g1 ?_
      exact ValsLe.refl _
end Go.Proofs.Ytgechpchbenanac.ab
