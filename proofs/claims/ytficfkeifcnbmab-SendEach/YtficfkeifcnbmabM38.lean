/-
  Several texts in one.
-/
import Derived.Test.YtficfkeifcnbmabM37
import Derived.Test.YtficfkeifcnbmabM36

/-
  What the functions of package send are held to.
-/
namespace Go.Proofs.Ytficfkeifcnbmab.ab
set_option linter.unusedVariables false
open Go Go.RowKit
open mth

/- What the functions of package send are held to: number f of the program. -/
def COwnS (f : Nat) : Prop := ∀ s, GoodS s → Told Try.prog f [aD (encSd s)] [aD (encSd s)]
def CPutS (f : Nat) : Prop := ∀ s m, GoodS s → Told Try.prog f [aD (encSd s), aD (encMs m)] [aD (encSd (putS s m)), vI (putE s m)]
def CSayS (f : Nat) : Prop := ∀ s, GoodS s → Told Try.prog f [aD (encSd s)] [aD (encSd (sayL s).1), aD (encCh (sayL s).2.1), vB (sayL s).2.2]
def CHearS (f : Nat) : Prop := ∀ s c, GoodS s → wrongL c = 0 → Told Try.prog f [aD (encSd s), aD (encCh c)] [aD (encSd (hearS s c))]
theorem early_right {c : Ch} (h : wrongL c = 0) : c.early.length ≤ 3 := by
  unfold wrongL at h
  split at h
  · cases h
  · split at h
    · cases h
    · split at h
      · split at h
        · cases h
        · split at h
          · cases h
          · rename_i he; omega
      · split at h
        · cases h
        · split at h
          · cases h
          · rename_i he; omega
theorem say_early {s : Sd} (h : GoodS s) : (sayL s).2.1.early.length ≤ 3 := by
  unfold sayL
  split
  · split
    · simp [zeroC]
    · rename_i hf
      have hk := againK_lt h (by omega)
      have hlt : (againK s).toNat < s.flight.length := by omega
      simp only [List.getD_eq_getElem?_getD, List.getElem?_eq_getElem hlt, Option.getD_some]
      rw [h.early _ (List.getElem_mem hlt)]
      simp
  · split
    · rename_i hf
      have hk := againK_lt h (by omega)
      have hlt : (againK s).toNat < s.flight.length := by omega
      simp only [List.getD_eq_getElem?_getD, List.getElem?_eq_getElem hlt, Option.getD_some]
      rw [h.early _ (List.getElem_mem hlt)]
      simp
    · simp [newC]
end Go.Proofs.Ytficfkeifcnbmab.ab

/-
  The closed fact that the statements on senders ask first.
-/
namespace Go.Proofs.Ytficfkeifcnbmab.ab
set_option linter.unusedVariables false
set_option linter.unusedSimpArgs false
open Go Go.RowKit
open mth

def al1 : Sd := ⟨[⟨1, [97]⟩], 0, 0, 0, 0, [], 0⟩
def alC : Ch := ⟨1, 0, 1, 0, [97], []⟩
def al2 : Sd := ⟨[], 1, 0, 1, 0, [alC], 0⟩
def al3 : Sd := ⟨[], 1, 0, 1, 0, [alC], 1⟩
def al4 : Sd := ⟨[], 1, 0, 1, 0, [], 1⟩
theorem al1_eq : putS zeroS ⟨1, [97]⟩ = al1 ∧ putE zeroS ⟨1, [97]⟩ = 0 := ⟨rfl, rfl⟩
theorem al2_eq : sayL al1 = (al2, alC, true) := rfl
theorem al3_eq : sayL al2 = (al3, alC, true) := rfl
theorem al4_eq : hearS al3 ⟨2, 1, 0, 0, [], []⟩ = al4 := rfl
theorem encB97 : [97].map encB = [vD (.int .u8 97)] := rfl
set_option maxHeartbeats 4000000 in
theorem alive5_told (hO : COwnS 12) (hP : CPutS 10) (hS : CSayS 6) (hH : CHearS 11) : Told Try.prog 4 [] [vB true] := by
  refine told_w5_alive rfl ?_
  have g1 : GoodS al1 := al1_eq.1 ▸ good_zero.put _
  have g2 : GoodS al2 := by have := g1.say; rw [al2_eq] at this; exact this
  have g3 : GoodS al3 := by have := g2.say; rw [al3_eq] at this; exact this
  have h1 := hP zeroS ⟨1, [97]⟩ good_zero
  have h2 := hS al1 g1
  have h3 := hS al2 g2
  have h4 := hH al3 ⟨2, 1, 0, 0, [], []⟩ g3 rfl
  have h5 := sameC_told alC alC (by simp [alC])
  have h6 := hO al1 g1
  rw [al1_eq.1, al1_eq.2] at h1
  rw [al2_eq] at h2
  rw [al3_eq] at h3
  rw [al4_eq] at h4
  rw [sameC_refl] at h5
  simp only [zeroS, al1, al2, al3, al4, alC, encSd, encMs, encCh, encB97, encMl, encCl, List.map_cons, List.map_nil] at h1 h2 h3 h4 h5 h6
  repeat (first | refine aw_seq ?_ | refine aw_block ?_ | with_reducible refine aw_ret ?_ | with_reducible refine aw_skip ?_ | with_reducible refine aw_exit ?_ | refine thn_normal ?_ | refine thn_out ?_ | refine blk_normal ?_ | refine blk_ret ?_ | refine blk_exit ?_ | ((first | refine aw_regO ?_ | refine aw_regDO ?_ | refine aw_condO ?_ | refine fin_retO ?_); (conv => (arg 1; simp (maxSteps := 30000) only [ev0, ev1, ev2, look, lookF, cellsFrom, offT, offP, List.tail_nil, List.length_nil, Int.cast_ofNat_Int, Nat.reduceEqDiff, Nat.reduceAdd, Nat.reduceMul, Nat.reduceLeDiff, Nat.reduceLT, ↓reduceIte, reduceCtorEq, Int.reduceBEq, Int.reduceBNe, Int.reduceLT, Int.reduceLE, Int.reduceToNat])); (first | with_reducible refine on_yes ?_ | with_reducible refine on_no ?_ | with_reducible refine on_reg ?_ | (with_reducible refine on_regD (by decide +kernel) ?_) | with_reducible refine on_fin ?_)))
  refine aw_reg [[aD (encSd al1), vI 0]] (by simp only [ev0, ev1, ev2, look, lookF, cellsFrom, offT, offP, List.tail_nil, List.length_nil, Int.cast_ofNat_Int, Nat.reduceEqDiff, Nat.reduceAdd, Nat.reduceMul, Nat.reduceLeDiff, Nat.reduceLT, ↓reduceIte, reduceCtorEq, Int.reduceBEq, Int.reduceBNe, Int.reduceLT, Int.reduceLE, Int.reduceToNat, encSd, al1, encMl, encMs, encB97, encCl]; first | rfl | exact ⟨rfl, rfl⟩) ?_ ?_
  · refine ⟨⟨_, ?_, h1⟩, trivial⟩
    repeat' (first | exact vals_nil | exact row_nil | exact es_nil | exact CVLe.refl _ | exact LfLe.refl _ | exact LfLe.nil _ | exact EsLe.refl _ | refine vals_cons ?_ ?_ | refine row_cons ?_ ?_ | refine es_cons ?_ ?_ | refine EsLe.app ?_ ?_ | refine CVLe.row ?_ | refine CVLe.leafV ?_ | refine CVLe.leafS ?_ | refine LfLe.s ?_)
  repeat (first | refine aw_seq ?_ | refine aw_block ?_ | with_reducible refine aw_ret ?_ | with_reducible refine aw_skip ?_ | with_reducible refine aw_exit ?_ | refine thn_normal ?_ | refine thn_out ?_ | refine blk_normal ?_ | refine blk_ret ?_ | refine blk_exit ?_ | ((first | refine aw_regO ?_ | refine aw_regDO ?_ | refine aw_condO ?_ | refine fin_retO ?_); (conv => (arg 1; simp (maxSteps := 30000) only [ev0, ev1, ev2, look, lookF, cellsFrom, offT, offP, List.tail_nil, List.length_nil, Int.cast_ofNat_Int, Nat.reduceEqDiff, Nat.reduceAdd, Nat.reduceMul, Nat.reduceLeDiff, Nat.reduceLT, ↓reduceIte, reduceCtorEq, Int.reduceBEq, Int.reduceBNe, Int.reduceLT, Int.reduceLE, Int.reduceToNat])); (first | with_reducible refine on_yes ?_ | with_reducible refine on_no ?_ | with_reducible refine on_reg ?_ | (with_reducible refine on_regD (by decide +kernel) ?_) | with_reducible refine on_fin ?_)))
  refine aw_reg [[aD (encSd al2), aD (encCh alC), vB true]] (by simp only [ev0, ev1, ev2, look, lookF, cellsFrom, offT, offP, List.tail_nil, List.length_nil, Int.cast_ofNat_Int, Nat.reduceEqDiff, Nat.reduceAdd, Nat.reduceMul, Nat.reduceLeDiff, Nat.reduceLT, ↓reduceIte, reduceCtorEq, Int.reduceBEq, Int.reduceBNe, Int.reduceLT, Int.reduceLE, Int.reduceToNat, encSd, al2, alC, encMl, encMs, encB97, encCl, encCh]; first | rfl | exact ⟨rfl, rfl⟩) ?_ ?_
  · exact obl_cons h2 obl_nil
  repeat (first | refine aw_seq ?_ | refine aw_block ?_ | with_reducible refine aw_ret ?_ | with_reducible refine aw_skip ?_ | with_reducible refine aw_exit ?_ | refine thn_normal ?_ | refine thn_out ?_ | refine blk_normal ?_ | refine blk_ret ?_ | refine blk_exit ?_ | ((first | refine aw_regO ?_ | refine aw_regDO ?_ | refine aw_condO ?_ | refine fin_retO ?_); (conv => (arg 1; simp (maxSteps := 30000) only [ev0, ev1, ev2, look, lookF, cellsFrom, offT, offP, List.tail_nil, List.length_nil, Int.cast_ofNat_Int, Nat.reduceEqDiff, Nat.reduceAdd, Nat.reduceMul, Nat.reduceLeDiff, Nat.reduceLT, ↓reduceIte, reduceCtorEq, Int.reduceBEq, Int.reduceBNe, Int.reduceLT, Int.reduceLE, Int.reduceToNat])); (first | with_reducible refine on_yes ?_ | with_reducible refine on_no ?_ | with_reducible refine on_reg ?_ | (with_reducible refine on_regD (by decide +kernel) ?_) | with_reducible refine on_fin ?_)))
  refine aw_reg [[aD (encSd al3), aD (encCh alC), vB true]] (by simp only [ev0, ev1, ev2, look, lookF, cellsFrom, offT, offP, List.tail_nil, List.length_nil, Int.cast_ofNat_Int, Nat.reduceEqDiff, Nat.reduceAdd, Nat.reduceMul, Nat.reduceLeDiff, Nat.reduceLT, ↓reduceIte, reduceCtorEq, Int.reduceBEq, Int.reduceBNe, Int.reduceLT, Int.reduceLE, Int.reduceToNat, encSd, al3, alC, encMl, encMs, encB97, encCl, encCh]; first | rfl | exact ⟨rfl, rfl⟩) ?_ ?_
  · exact obl_cons h3 obl_nil
  repeat (first | refine aw_seq ?_ | refine aw_block ?_ | with_reducible refine aw_ret ?_ | with_reducible refine aw_skip ?_ | with_reducible refine aw_exit ?_ | refine thn_normal ?_ | refine thn_out ?_ | refine blk_normal ?_ | refine blk_ret ?_ | refine blk_exit ?_ | ((first | refine aw_regO ?_ | refine aw_regDO ?_ | refine aw_condO ?_ | refine fin_retO ?_); (conv => (arg 1; simp (maxSteps := 30000) only [ev0, ev1, ev2, look, lookF, cellsFrom, offT, offP, List.tail_nil, List.length_nil, Int.cast_ofNat_Int, Nat.reduceEqDiff, Nat.reduceAdd, Nat.reduceMul, Nat.reduceLeDiff, Nat.reduceLT, ↓reduceIte, reduceCtorEq, Int.reduceBEq, Int.reduceBNe, Int.reduceLT, Int.reduceLE, Int.reduceToNat])); (first | with_reducible refine on_yes ?_ | with_reducible refine on_no ?_ | with_reducible refine on_reg ?_ | (with_reducible refine on_regD (by decide +kernel) ?_) | with_reducible refine on_fin ?_)))
  refine aw_reg [[aD (encSd al4)]] (by simp only [ev0, ev1, ev2, look, lookF, cellsFrom, offT, offP, List.tail_nil, List.length_nil, Int.cast_ofNat_Int, Nat.reduceEqDiff, Nat.reduceAdd, Nat.reduceMul, Nat.reduceLeDiff, Nat.reduceLT, ↓reduceIte, reduceCtorEq, Int.reduceBEq, Int.reduceBNe, Int.reduceLT, Int.reduceLE, Int.reduceToNat, encSd, al4, encMl, encCl]; first | rfl | exact ⟨rfl, rfl⟩) ?_ ?_
  · refine ⟨⟨_, ?_, h4⟩, trivial⟩
    repeat' (first | exact vals_nil | exact row_nil | exact es_nil | exact CVLe.refl _ | exact LfLe.refl _ | exact LfLe.nil _ | exact EsLe.refl _ | refine vals_cons ?_ ?_ | refine row_cons ?_ ?_ | refine es_cons ?_ ?_ | refine EsLe.app ?_ ?_ | refine CVLe.row ?_ | refine CVLe.leafV ?_ | refine CVLe.leafS ?_ | refine LfLe.s ?_)
  repeat (first | refine aw_seq ?_ | refine aw_block ?_ | with_reducible refine aw_ret ?_ | with_reducible refine aw_skip ?_ | with_reducible refine aw_exit ?_ | refine thn_normal ?_ | refine thn_out ?_ | refine blk_normal ?_ | refine blk_ret ?_ | refine blk_exit ?_ | ((first | refine aw_regO ?_ | refine aw_regDO ?_ | refine aw_condO ?_ | refine fin_retO ?_); (conv => (arg 1; simp (maxSteps := 30000) only [ev0, ev1, ev2, look, lookF, cellsFrom, offT, offP, List.tail_nil, List.length_nil, Int.cast_ofNat_Int, Nat.reduceEqDiff, Nat.reduceAdd, Nat.reduceMul, Nat.reduceLeDiff, Nat.reduceLT, ↓reduceIte, reduceCtorEq, Int.reduceBEq, Int.reduceBNe, Int.reduceLT, Int.reduceLE, Int.reduceToNat])); (first | with_reducible refine on_yes ?_ | with_reducible refine on_no ?_ | with_reducible refine on_reg ?_ | (with_reducible refine on_regD (by decide +kernel) ?_) | with_reducible refine on_fin ?_)))
  refine aw_reg [[vB true]] (by simp only [ev0, ev1, ev2, look, lookF, cellsFrom, offT, offP, List.tail_nil, List.length_nil, Int.cast_ofNat_Int, Nat.reduceEqDiff, Nat.reduceAdd, Nat.reduceMul, Nat.reduceLeDiff, Nat.reduceLT, ↓reduceIte, reduceCtorEq, Int.reduceBEq, Int.reduceBNe, Int.reduceLT, Int.reduceLE, Int.reduceToNat]; first | rfl | exact ⟨rfl, rfl⟩) ?_ ?_
  · exact obl_cons h5 obl_nil
  repeat (first | refine aw_seq ?_ | refine aw_block ?_ | with_reducible refine aw_ret ?_ | with_reducible refine aw_skip ?_ | with_reducible refine aw_exit ?_ | refine thn_normal ?_ | refine thn_out ?_ | refine blk_normal ?_ | refine blk_ret ?_ | refine blk_exit ?_ | ((first | refine aw_regO ?_ | refine aw_regDO ?_ | refine aw_condO ?_ | refine fin_retO ?_); (conv => (arg 1; simp (maxSteps := 30000) only [ev0, ev1, ev2, look, lookF, cellsFrom, offT, offP, List.tail_nil, List.length_nil, Int.cast_ofNat_Int, Nat.reduceEqDiff, Nat.reduceAdd, Nat.reduceMul, Nat.reduceLeDiff, Nat.reduceLT, ↓reduceIte, reduceCtorEq, Int.reduceBEq, Int.reduceBNe, Int.reduceLT, Int.reduceLE, Int.reduceToNat])); (first | with_reducible refine on_yes ?_ | with_reducible refine on_no ?_ | with_reducible refine on_reg ?_ | (with_reducible refine on_regD (by decide +kernel) ?_) | with_reducible refine on_fin ?_)))
  refine aw_reg [[aD (encSd al1)]] (by simp only [ev0, ev1, ev2, look, lookF, cellsFrom, offT, offP, List.tail_nil, List.length_nil, Int.cast_ofNat_Int, Nat.reduceEqDiff, Nat.reduceAdd, Nat.reduceMul, Nat.reduceLeDiff, Nat.reduceLT, ↓reduceIte, reduceCtorEq, Int.reduceBEq, Int.reduceBNe, Int.reduceLT, Int.reduceLE, Int.reduceToNat, encSd, al1, encMl, encMs, encB97, encCl]; first | rfl | exact ⟨rfl, rfl⟩) ?_ ?_
  · exact obl_cons h6 obl_nil
  repeat (first | refine aw_seq ?_ | refine aw_block ?_ | with_reducible refine aw_ret ?_ | with_reducible refine aw_skip ?_ | with_reducible refine aw_exit ?_ | refine thn_normal ?_ | refine thn_out ?_ | refine blk_normal ?_ | refine blk_ret ?_ | refine blk_exit ?_ | ((first | refine aw_regO ?_ | refine aw_regDO ?_ | refine aw_condO ?_ | refine fin_retO ?_); (conv => (arg 1; simp (maxSteps := 30000) only [ev0, ev1, ev2, look, lookF, cellsFrom, offT, offP, List.tail_nil, List.length_nil, Int.cast_ofNat_Int, Nat.reduceEqDiff, Nat.reduceAdd, Nat.reduceMul, Nat.reduceLeDiff, Nat.reduceLT, ↓reduceIte, reduceCtorEq, Int.reduceBEq, Int.reduceBNe, Int.reduceLT, Int.reduceLE, Int.reduceToNat])); (first | with_reducible refine on_yes ?_ | with_reducible refine on_no ?_ | with_reducible refine on_reg ?_ | (with_reducible refine on_regD (by decide +kernel) ?_) | with_reducible refine on_fin ?_)))
  exact ValsLe.refl _
end Go.Proofs.Ytficfkeifcnbmab.ab

/-
  Plain mathematics for senders: what was heard is said no more; each has a number of its own. Nothing of the program.
-/
namespace Go.Proofs.Ytficfkeifcnbmab.mth
set_option linter.unusedVariables false

/-- Behind an answer: nothing of what it tells that it came. -/
structure Heard (c : Ch) (first : Int) (x : Sd) : Prop where
  g : GoodS x
  h : ∀ f ∈ x.flight, f.number < first → cameL c f.number = false
  n : first ≤ x.next
theorem heard_hear {s : Sd} (hs : GoodS s) {c : Ch} (hk : c.kind = 2) : Heard c s.next (hearS s c) := by
  refine ⟨hs.hear c, fun f hf _ => ?_, ?_⟩
  · simp only [hearS, hk, if_true] at hf
    have := (List.mem_filter.1 hf).2
    simpa using this
  · simp only [hearS, hk, if_true]; omega
/-- What is said lies in flight then. -/
theorem said_in {s : Sd} (h : GoodS s) (hs : (sayL s).2.2 = true) : (sayL s).2.1 ∈ (sayL s).1.flight := by
  revert hs
  unfold sayL
  split
  · split
    · intro hs; simp at hs
    · intro _
      rename_i hf
      have hk := againK_lt h (by omega)
      have hlt : (againK s).toNat < s.flight.length := by omega
      simp only [List.getD_eq_getElem?_getD, List.getElem?_eq_getElem hlt, Option.getD_some]
      exact List.getElem_mem hlt
  · split
    · intro _
      rename_i hf
      have hk := againK_lt h (by omega)
      have hlt : (againK s).toNat < s.flight.length := by omega
      simp only [List.getD_eq_getElem?_getD, List.getElem?_eq_getElem hlt, Option.getD_some]
      exact List.getElem_mem hlt
    · intro _
      simp [newS]
theorem Heard.say {c : Ch} {first : Int} {x : Sd} (h : Heard c first x) : Heard c first (sayL x).1 := by
  refine ⟨h.g.say, fun f hf hlt => ?_, ?_⟩
  · unfold sayL at hf
    split at hf
    · split at hf
      · exact h.h f hf hlt
      · exact h.h f hf hlt
    · split at hf
      · exact h.h f hf hlt
      · rcases List.mem_append.1 hf with hf | hf
        · exact h.h f hf hlt
        · simp at hf
          subst hf
          have := h.n
          simp only [newC] at hlt
          omega
  · have := h.n
    unfold sayL
    split
    · split <;> simp only <;> omega
    · split
      · simp only; omega
      · simp only [newS]; omega
theorem Heard.said {c : Ch} {first : Int} {x : Sd} (h : Heard c first x) (hs : (sayL x).2.2 = true) (hlt : (sayL x).2.1.number < first) : cameL c (sayL x).2.1.number = false :=
  h.say.h _ (said_in h.g hs) hlt
end Go.Proofs.Ytficfkeifcnbmab.mth
