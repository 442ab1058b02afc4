/-
  Several texts in one.
-/
import Derived.Test.YtnncmddmjpocfabM32
import Derived.Test.YtnncmddmjpocfabM23

/-
  What lklaw6's build tells; what the functions of package recv are held to.
-/
namespace Go.Proofs.Ytnncmddmjpocfab.ab
set_option linter.unusedVariables false
set_option linter.unusedSimpArgs false
open Go Go.RowKit
open mth

theorem good_sizes {r : Rv} (h : GoodR r) : r.early.length ≤ 3 ∧ r.hold.length ≤ 43 ∧ r.told.length ≤ 43 := by
  have := h.n; have := h.t; have := h.l
  omega
/- What the functions of package recv are held to: number f of the program. -/
def COwnR (f : Nat) : Prop := ∀ r, GoodR r → Told Try.prog f [aD (encRv r)] [aD (encRv r)]
def CSayR (f : Nat) : Prop := ∀ r, GoodR r → Told Try.prog f [aD (encRv r)] [aD (encRv (sayR r).1), aD (encCh (sayR r).2.1), vB (sayR r).2.2]
def CHearR (f : Nat) : Prop := ∀ r c, GoodR r → wrongL c = 0 → Told Try.prog f [aD (encRv r), aD (encCh c)] [aD (encRv (hearR r c))]
end Go.Proofs.Ytnncmddmjpocfab.ab

/-
  The closed fact that the statements on receivers ask first.
-/
namespace Go.Proofs.Ytnncmddmjpocfab.ab
set_option linter.unusedVariables false
set_option linter.unusedSimpArgs false
open Go Go.RowKit
open mth

def arA : Ch := ⟨1, 1, 1, 1, [98], []⟩
def arB : Ch := ⟨1, 0, 1, 0, [97], []⟩
def ar1 : Rv := ⟨0, [1], 0, 0, 0, [arA], [], true⟩
def ar2 : Rv := ⟨2, [], 0, 2, 0, [], [⟨1, [97]⟩, ⟨1, [98]⟩], true⟩
def ar3 : Rv := ⟨2, [], 0, 2, 0, [], [⟨1, [97]⟩, ⟨1, [98]⟩], false⟩
theorem ar1_eq : hearR zeroR arA = ar1 := rfl
theorem ar2_eq : hearR ar1 arB = ar2 := rfl
theorem ar3_eq : sayR ar2 = (ar3, ⟨2, 2, 0, 0, [], []⟩, true) := rfl
theorem encBar97 : [97].map encB = [vD (.int .u8 97)] := rfl
theorem encBar98 : [98].map encB = [vD (.int .u8 98)] := rfl
set_option maxHeartbeats 4000000 in
theorem alive6_told (hO : COwnR 21) (hS : CSayR 18) (hH : CHearR 22) : Told Try.prog 24 [] [vB true] := by
  refine told_w6_alive rfl ?_
  have g1 : GoodR ar1 := ar1_eq ▸ good_zeroR.hear rfl
  have g2 : GoodR ar2 := ar2_eq ▸ g1.hear rfl
  have h1 := hH zeroR arA good_zeroR rfl
  have h2 := hH ar1 arB g1 rfl
  have h3 := hS ar2 g2
  have h4 := hO ar2 g2
  rw [ar1_eq] at h1
  rw [ar2_eq] at h2
  rw [ar3_eq] at h3
  simp only [zeroR, ar1, ar2, ar3, arA, arB, encRv, encMs, encCh, encBar97, encBar98, encMl, encCl, List.map_cons, List.map_nil] at h1 h2 h3 h4
  repeat (first | refine aw_seq ?_ | refine aw_block ?_ | with_reducible refine aw_ret ?_ | with_reducible refine aw_skip ?_ | with_reducible refine aw_exit ?_ | refine thn_normal ?_ | refine thn_out ?_ | refine blk_normal ?_ | refine blk_ret ?_ | refine blk_exit ?_ | ((first | refine aw_regO ?_ | refine aw_regDO ?_ | refine aw_condO ?_ | refine fin_retO ?_); (conv => (arg 1; simp (maxSteps := 30000) only [ev0, ev1, ev2, look, lookF, cellsFrom, offT, offP, List.tail_nil, List.length_nil, Int.cast_ofNat_Int, Nat.reduceEqDiff, Nat.reduceAdd, Nat.reduceMul, Nat.reduceLeDiff, Nat.reduceLT, ↓reduceIte, reduceCtorEq, Int.reduceBEq, Int.reduceBNe, Int.reduceLT, Int.reduceLE, Int.reduceToNat])); (first | with_reducible refine on_yes ?_ | with_reducible refine on_no ?_ | with_reducible refine on_reg ?_ | (with_reducible refine on_regD (by decide +kernel) ?_) | with_reducible refine on_fin ?_)))
  refine aw_reg [[aD (encRv ar1)]] (by simp only [ev0, ev1, ev2, look, lookF, cellsFrom, offT, offP, List.tail_nil, List.length_nil, Int.cast_ofNat_Int, Nat.reduceEqDiff, Nat.reduceAdd, Nat.reduceMul, Nat.reduceLeDiff, Nat.reduceLT, ↓reduceIte, reduceCtorEq, Int.reduceBEq, Int.reduceBNe, Int.reduceLT, Int.reduceLE, Int.reduceToNat, encRv, ar1, arA, encMl, encMs, encBar97, encBar98, encCl, encCh, List.map_cons, List.map_nil]; first | rfl | exact ⟨rfl, rfl⟩) ?_ ?_
  · refine ⟨⟨_, ?_, h1⟩, trivial⟩
    repeat' (first | exact vals_nil | exact row_nil | exact es_nil | exact CVLe.refl _ | exact LfLe.refl _ | exact LfLe.nil _ | exact EsLe.refl _ | refine vals_cons ?_ ?_ | refine row_cons ?_ ?_ | refine es_cons ?_ ?_ | refine EsLe.app ?_ ?_ | refine CVLe.row ?_ | refine CVLe.leafV ?_ | refine CVLe.leafS ?_ | refine LfLe.s ?_)
  repeat (first | refine aw_seq ?_ | refine aw_block ?_ | with_reducible refine aw_ret ?_ | with_reducible refine aw_skip ?_ | with_reducible refine aw_exit ?_ | refine thn_normal ?_ | refine thn_out ?_ | refine blk_normal ?_ | refine blk_ret ?_ | refine blk_exit ?_ | ((first | refine aw_regO ?_ | refine aw_regDO ?_ | refine aw_condO ?_ | refine fin_retO ?_); (conv => (arg 1; simp (maxSteps := 30000) only [ev0, ev1, ev2, look, lookF, cellsFrom, offT, offP, List.tail_nil, List.length_nil, Int.cast_ofNat_Int, Nat.reduceEqDiff, Nat.reduceAdd, Nat.reduceMul, Nat.reduceLeDiff, Nat.reduceLT, ↓reduceIte, reduceCtorEq, Int.reduceBEq, Int.reduceBNe, Int.reduceLT, Int.reduceLE, Int.reduceToNat])); (first | with_reducible refine on_yes ?_ | with_reducible refine on_no ?_ | with_reducible refine on_reg ?_ | (with_reducible refine on_regD (by decide +kernel) ?_) | with_reducible refine on_fin ?_)))
  refine aw_reg [[aD (encRv ar2)]] (by simp only [ev0, ev1, ev2, look, lookF, cellsFrom, offT, offP, List.tail_nil, List.length_nil, Int.cast_ofNat_Int, Nat.reduceEqDiff, Nat.reduceAdd, Nat.reduceMul, Nat.reduceLeDiff, Nat.reduceLT, ↓reduceIte, reduceCtorEq, Int.reduceBEq, Int.reduceBNe, Int.reduceLT, Int.reduceLE, Int.reduceToNat, encRv, ar2, encMl, encMs, encBar97, encBar98, encCl, encCh, List.map_cons, List.map_nil]; first | rfl | exact ⟨rfl, rfl⟩) ?_ ?_
  · refine ⟨⟨_, ?_, h2⟩, trivial⟩
    repeat' (first | exact vals_nil | exact row_nil | exact es_nil | exact CVLe.refl _ | exact LfLe.refl _ | exact LfLe.nil _ | exact EsLe.refl _ | refine vals_cons ?_ ?_ | refine row_cons ?_ ?_ | refine es_cons ?_ ?_ | refine EsLe.app ?_ ?_ | refine CVLe.row ?_ | refine CVLe.leafV ?_ | refine CVLe.leafS ?_ | refine LfLe.s ?_)
  repeat (first | refine aw_seq ?_ | refine aw_block ?_ | with_reducible refine aw_ret ?_ | with_reducible refine aw_skip ?_ | with_reducible refine aw_exit ?_ | refine thn_normal ?_ | refine thn_out ?_ | refine blk_normal ?_ | refine blk_ret ?_ | refine blk_exit ?_ | ((first | refine aw_regO ?_ | refine aw_regDO ?_ | refine aw_condO ?_ | refine fin_retO ?_); (conv => (arg 1; simp (maxSteps := 30000) only [ev0, ev1, ev2, look, lookF, cellsFrom, offT, offP, List.tail_nil, List.length_nil, Int.cast_ofNat_Int, Nat.reduceEqDiff, Nat.reduceAdd, Nat.reduceMul, Nat.reduceLeDiff, Nat.reduceLT, ↓reduceIte, reduceCtorEq, Int.reduceBEq, Int.reduceBNe, Int.reduceLT, Int.reduceLE, Int.reduceToNat])); (first | with_reducible refine on_yes ?_ | with_reducible refine on_no ?_ | with_reducible refine on_reg ?_ | (with_reducible refine on_regD (by decide +kernel) ?_) | with_reducible refine on_fin ?_)))
  refine aw_reg [[aD (encRv ar3), aD (encCh ⟨2, 2, 0, 0, [], []⟩), vB true]] (by simp only [ev0, ev1, ev2, look, lookF, cellsFrom, offT, offP, List.tail_nil, List.length_nil, Int.cast_ofNat_Int, Nat.reduceEqDiff, Nat.reduceAdd, Nat.reduceMul, Nat.reduceLeDiff, Nat.reduceLT, ↓reduceIte, reduceCtorEq, Int.reduceBEq, Int.reduceBNe, Int.reduceLT, Int.reduceLE, Int.reduceToNat, encRv, ar3, encMl, encMs, encBar97, encBar98, encCl, encCh, List.map_cons, List.map_nil]; first | rfl | exact ⟨rfl, rfl⟩) ?_ ?_
  · refine ⟨⟨_, ?_, h3⟩, trivial⟩
    repeat' (first | exact vals_nil | exact row_nil | exact es_nil | exact CVLe.refl _ | exact LfLe.refl _ | exact LfLe.nil _ | exact EsLe.refl _ | refine vals_cons ?_ ?_ | refine row_cons ?_ ?_ | refine es_cons ?_ ?_ | refine EsLe.app ?_ ?_ | refine CVLe.row ?_ | refine CVLe.leafV ?_ | refine CVLe.leafS ?_ | refine LfLe.s ?_)
  repeat (first | refine aw_seq ?_ | refine aw_block ?_ | with_reducible refine aw_ret ?_ | with_reducible refine aw_skip ?_ | with_reducible refine aw_exit ?_ | refine thn_normal ?_ | refine thn_out ?_ | refine blk_normal ?_ | refine blk_ret ?_ | refine blk_exit ?_ | ((first | refine aw_regO ?_ | refine aw_regDO ?_ | refine aw_condO ?_ | refine fin_retO ?_); (conv => (arg 1; simp (maxSteps := 30000) only [ev0, ev1, ev2, look, lookF, cellsFrom, offT, offP, List.tail_nil, List.length_nil, Int.cast_ofNat_Int, Nat.reduceEqDiff, Nat.reduceAdd, Nat.reduceMul, Nat.reduceLeDiff, Nat.reduceLT, ↓reduceIte, reduceCtorEq, Int.reduceBEq, Int.reduceBNe, Int.reduceLT, Int.reduceLE, Int.reduceToNat, Bool.not_false, List.length_cons, List.length_nil])); (first | with_reducible refine on_yes ?_ | with_reducible refine on_no ?_ | with_reducible refine on_reg ?_ | (with_reducible refine on_regD (by decide +kernel) ?_) | with_reducible refine on_fin ?_)))
  refine aw_reg [[aD (encRv ar2)]] (by simp only [ev0, ev1, ev2, look, lookF, cellsFrom, offT, offP, List.tail_nil, List.length_nil, Int.cast_ofNat_Int, Nat.reduceEqDiff, Nat.reduceAdd, Nat.reduceMul, Nat.reduceLeDiff, Nat.reduceLT, ↓reduceIte, reduceCtorEq, Int.reduceBEq, Int.reduceBNe, Int.reduceLT, Int.reduceLE, Int.reduceToNat, encRv, ar2, encMl, encMs, encBar97, encBar98, encCl, Bool.not_false, List.length_cons, List.length_nil]; first | rfl | exact ⟨rfl, rfl⟩) ?_ ?_
  · refine ⟨⟨_, ?_, h4⟩, trivial⟩
    repeat' (first | exact vals_nil | exact row_nil | exact es_nil | exact CVLe.refl _ | exact LfLe.refl _ | exact LfLe.nil _ | exact EsLe.refl _ | refine vals_cons ?_ ?_ | refine row_cons ?_ ?_ | refine es_cons ?_ ?_ | refine EsLe.app ?_ ?_ | refine CVLe.row ?_ | refine CVLe.leafV ?_ | refine CVLe.leafS ?_ | refine LfLe.s ?_)
  repeat (first | refine aw_seq ?_ | refine aw_block ?_ | with_reducible refine aw_ret ?_ | with_reducible refine aw_skip ?_ | with_reducible refine aw_exit ?_ | refine thn_normal ?_ | refine thn_out ?_ | refine blk_normal ?_ | refine blk_ret ?_ | refine blk_exit ?_ | ((first | refine aw_regO ?_ | refine aw_regDO ?_ | refine aw_condO ?_ | refine fin_retO ?_); (conv => (arg 1; simp (maxSteps := 30000) only [ev0, ev1, ev2, look, lookF, cellsFrom, offT, offP, List.tail_nil, List.length_nil, Int.cast_ofNat_Int, Nat.reduceEqDiff, Nat.reduceAdd, Nat.reduceMul, Nat.reduceLeDiff, Nat.reduceLT, ↓reduceIte, reduceCtorEq, Int.reduceBEq, Int.reduceBNe, Int.reduceLT, Int.reduceLE, Int.reduceToNat])); (first | with_reducible refine on_yes ?_ | with_reducible refine on_no ?_ | with_reducible refine on_reg ?_ | (with_reducible refine on_regD (by decide +kernel) ?_) | with_reducible refine on_fin ?_)))
  exact ValsLe.refl _
end Go.Proofs.Ytnncmddmjpocfab.ab

/-
  Plain mathematics for receivers: twice is once. Nothing of the program.
-/
namespace Go.Proofs.Ytnncmddmjpocfab.mth
set_option linter.unusedSimpArgs false
set_option linter.unusedVariables false
end Go.Proofs.Ytnncmddmjpocfab.mth

/-
  Plain mathematics for receivers: it says what came, and nothing else. Nothing of the program.
-/
namespace Go.Proofs.Ytnncmddmjpocfab.mth
set_option linter.unusedSimpArgs false
set_option linter.unusedVariables false
/-- What an answer tells. -/
def Tells (r : Rv) (m : Int) : Prop := m < r.next ∨ r.early.contains m = true
theorem hear_is {r : Rv} {c : Ch} (hk : c.kind = 1) : hearR r c = if seenR r c.number = true then { r with owes := true } else takeR r c := by unfold hearR; rw [if_pos hk]
theorem take_tells {r : Rv} (h : GoodR r) {c : Ch} (hn : 0 ≤ c.number ∧ c.number < 40) (hs : seenR r c.number = false) (m : Int) (hm : m < 40) : Tells (takeR r c) m ↔ Tells r m ∨ m = c.number := by
  obtain ⟨t1, t2, t3, t4, t5⟩ := take_numbers h hn hs
  have hS : ∀ m ∈ c.number :: r.early, m < 40 := by
    intro m hm
    rcases List.mem_cons.1 hm with rfl | hm
    · exact hn.2
    · exact (h.in40 m hm).2
  have t6 := (climb_ok (c.number :: r.early) hS 41 r.next h.n.2 (by have := h.n; omega)).2.2.2
  show (m < climb 41 (c.number :: r.early) r.next ∨ (earlyR (c.number :: r.early) (climb 41 (c.number :: r.early) r.next)).contains m = true) ↔ _
  unfold Tells
  by_cases q : m < climb 41 (c.number :: r.early) r.next
  · constructor
    · intro _
      by_cases q2 : m < r.next
      · exact .inl (.inl q2)
      · have := t6 m (by omega) q
        rw [contains_eq, Bool.or_eq_true, beq_iff_eq] at this
        rcases this with w | w
        · exact .inl (.inr w)
        · exact .inr w
    · intro _; exact .inl q
  · rw [earlyR_has (by omega) hm, contains_eq, Bool.or_eq_true, beq_iff_eq]
    constructor
    · rintro (w | w | w)
      · omega
      · exact .inl (.inr w)
      · exact .inr w
    · rintro ((w | w) | w)
      · omega
      · exact .inr (.inl w)
      · exact .inr (.inr w)
theorem tells_lt {r : Rv} (h : GoodR r) {m : Int} (hm : Tells r m) : m < 40 := by
  have := h.n
  rcases hm with q | q
  · omega
  · exact (h.in40 m (List.contains_iff_mem.1 q)).2
/-- Nothing else. -/
theorem says_only {r : Rv} (h : GoodR r) {c : Ch} (hk : c.kind = 1) (hw : wrongL c = 0) {came : List Int} (hs : ∀ m, 0 ≤ m → Tells r m → came.contains m = true) : ∀ m, 0 ≤ m → Tells (hearR r c) m → (c.number :: came).contains m = true := by
  intro m h0 hm
  have hn := (wrong_one hk hw).1
  have hlt := tells_lt (h.hear hw) hm
  rw [hear_is hk] at hm
  rw [contains_eq, Bool.or_eq_true, beq_iff_eq]
  cases q : seenR r c.number with
  | true =>
    rw [q, if_pos rfl] at hm
    exact .inl (hs m h0 hm)
  | false =>
    rw [q, if_neg (by simp)] at hm
    rcases (take_tells h hn q m hlt).1 hm with w | w
    · exact .inl (hs m h0 w)
    · exact .inr w
/-- What came last, if there was room. -/
theorem says_last {r : Rv} (h : GoodR r) {c : Ch} (hk : c.kind = 1) (hw : wrongL c = 0) (hr : c.number = r.next ∨ r.early.length < 3) : Tells (hearR r c) c.number := by
  have hn := (wrong_one hk hw).1
  rw [hear_is hk]
  cases q : seenR r c.number with
  | true =>
    rw [if_pos rfl]
    show c.number < r.next ∨ r.early.contains c.number = true
    unfold seenR at q
    rw [Bool.or_eq_true, Bool.or_eq_true, Bool.and_eq_true, decide_eq_true_eq, decide_eq_true_eq, decide_eq_true_eq] at q
    rcases q with w | w | w
    · exact .inr w
    · exact .inl w
    · omega
  | false =>
    rw [if_neg (by simp)]
    exact (take_tells h hn q c.number hn.2).2 (.inr rfl)
theorem hear_owes {r : Rv} {c : Ch} (hk : c.kind = 1) : (hearR r c).owes = true := by
  rw [hear_is hk]
  split <;> rfl
theorem says_is {r : Rv} {c : Ch} (hk : c.kind = 1) : sayR (hearR r c) = ({ hearR r c with owes := false }, ⟨2, (hearR r c).next, 0, 0, [], (hearR r c).early⟩, true) := by
  unfold sayR
  rw [if_pos (hear_owes hk)]
end Go.Proofs.Ytnncmddmjpocfab.mth
