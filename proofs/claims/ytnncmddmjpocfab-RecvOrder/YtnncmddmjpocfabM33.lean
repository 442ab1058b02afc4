/-
  Several texts in one.
-/
import Derived.Test.YtnncmddmjpocfabM32
import Derived.Test.YtnncmddmjpocfabM23
import Derived.Test.YtnncmddmjpocfabM30

/-
  What lklaw6's build tells; what the functions of package recv are held to.
-/
namespace Go.Proofs.Ytnncmddmjpocfab.ab
set_option linter.unusedVariables false
set_option linter.unusedSimpArgs false
open Go Go.RowKit
open mth

theorem good_sizes {r : Rv} (h : GoodR r) : r.early.length ≤ 3 ∧ r.hold.length ≤ 43 ∧ r.told.length ≤ 43 := by
  have := h.n; have := h.t; have := h.l
  omega
/- What the functions of package recv are held to: number f of the program. -/
def COwnR (f : Nat) : Prop := ∀ r, GoodR r → Told Try.prog f [aD (encRv r)] [aD (encRv r)]
def CSayR (f : Nat) : Prop := ∀ r, GoodR r → Told Try.prog f [aD (encRv r)] [aD (encRv (sayR r).1), aD (encCh (sayR r).2.1), vB (sayR r).2.2]
def CHearR (f : Nat) : Prop := ∀ r c, GoodR r → wrongL c = 0 → Told Try.prog f [aD (encRv r), aD (encCh c)] [aD (encRv (hearR r c))]
end Go.Proofs.Ytnncmddmjpocfab.ab

/-
  The closed fact that the statements on receivers ask first.
-/
namespace Go.Proofs.Ytnncmddmjpocfab.ab
set_option linter.unusedVariables false
set_option linter.unusedSimpArgs false
open Go Go.RowKit
open mth

def arA : Ch := ⟨1, 1, 1, 1, [98], []⟩
def arB : Ch := ⟨1, 0, 1, 0, [97], []⟩
def ar1 : Rv := ⟨0, [1], 0, 0, 0, [arA], [], true⟩
def ar2 : Rv := ⟨2, [], 0, 2, 0, [], [⟨1, [97]⟩, ⟨1, [98]⟩], true⟩
def ar3 : Rv := ⟨2, [], 0, 2, 0, [], [⟨1, [97]⟩, ⟨1, [98]⟩], false⟩
theorem ar1_eq : hearR zeroR arA = ar1 := rfl
theorem ar2_eq : hearR ar1 arB = ar2 := rfl
theorem ar3_eq : sayR ar2 = (ar3, ⟨2, 2, 0, 0, [], []⟩, true) := rfl
theorem encBar97 : [97].map encB = [vD (.int .u8 97)] := rfl
theorem encBar98 : [98].map encB = [vD (.int .u8 98)] := rfl
set_option maxHeartbeats 4000000 in
theorem alive6_told (hO : COwnR 21) (hS : CSayR 18) (hH : CHearR 22) : Told Try.prog 24 [] [vB true] := by
  refine told_w6_alive rfl ?_
  have g1 : GoodR ar1 := ar1_eq ▸ good_zeroR.hear rfl
  have g2 : GoodR ar2 := ar2_eq ▸ g1.hear rfl
  have h1 := hH zeroR arA good_zeroR rfl
  have h2 := hH ar1 arB g1 rfl
  have h3 := hS ar2 g2
  have h4 := hO ar2 g2
  rw [ar1_eq] at h1
  rw [ar2_eq] at h2
  rw [ar3_eq] at h3
  simp only [zeroR, ar1, ar2, ar3, arA, arB, encRv, encMs, encCh, encBar97, encBar98, encMl, encCl, List.map_cons, List.map_nil] at h1 h2 h3 h4
  repeat (first | refine aw_seq ?_ | refine aw_block ?_ | with_reducible refine aw_ret ?_ | with_reducible refine aw_skip ?_ | with_reducible refine aw_exit ?_ | refine thn_normal ?_ | refine thn_out ?_ | refine blk_normal ?_ | refine blk_ret ?_ | refine blk_exit ?_ | ((first | refine aw_regO ?_ | refine aw_regDO ?_ | refine aw_condO ?_ | refine fin_retO ?_); (conv => (arg 1; simp (maxSteps := 30000) only [ev0, ev1, ev2, look, lookF, cellsFrom, offT, offP, List.tail_nil, List.length_nil, Int.cast_ofNat_Int, Nat.reduceEqDiff, Nat.reduceAdd, Nat.reduceMul, Nat.reduceLeDiff, Nat.reduceLT, ↓reduceIte, reduceCtorEq, Int.reduceBEq, Int.reduceBNe, Int.reduceLT, Int.reduceLE, Int.reduceToNat])); (first | with_reducible refine on_yes ?_ | with_reducible refine on_no ?_ | with_reducible refine on_reg ?_ | (with_reducible refine on_regD (by decide +kernel) ?_) | with_reducible refine on_fin ?_)))
  refine aw_reg [[aD (encRv ar1)]] (by simp only [ev0, ev1, ev2, look, lookF, cellsFrom, offT, offP, List.tail_nil, List.length_nil, Int.cast_ofNat_Int, Nat.reduceEqDiff, Nat.reduceAdd, Nat.reduceMul, Nat.reduceLeDiff, Nat.reduceLT, ↓reduceIte, reduceCtorEq, Int.reduceBEq, Int.reduceBNe, Int.reduceLT, Int.reduceLE, Int.reduceToNat, encRv, ar1, arA, encMl, encMs, encBar97, encBar98, encCl, encCh, List.map_cons, List.map_nil]; first | rfl | exact ⟨rfl, rfl⟩) ?_ ?_
  · refine ⟨⟨_, ?_, h1⟩, trivial⟩
    repeat' (first | exact vals_nil | exact row_nil | exact es_nil | exact CVLe.refl _ | exact LfLe.refl _ | exact LfLe.nil _ | exact EsLe.refl _ | refine vals_cons ?_ ?_ | refine row_cons ?_ ?_ | refine es_cons ?_ ?_ | refine EsLe.app ?_ ?_ | refine CVLe.row ?_ | refine CVLe.leafV ?_ | refine CVLe.leafS ?_ | refine LfLe.s ?_)
  repeat (first | refine aw_seq ?_ | refine aw_block ?_ | with_reducible refine aw_ret ?_ | with_reducible refine aw_skip ?_ | with_reducible refine aw_exit ?_ | refine thn_normal ?_ | refine thn_out ?_ | refine blk_normal ?_ | refine blk_ret ?_ | refine blk_exit ?_ | ((first | refine aw_regO ?_ | refine aw_regDO ?_ | refine aw_condO ?_ | refine fin_retO ?_); (conv => (arg 1; simp (maxSteps := 30000) only [ev0, ev1, ev2, look, lookF, cellsFrom, offT, offP, List.tail_nil, List.length_nil, Int.cast_ofNat_Int, Nat.reduceEqDiff, Nat.reduceAdd, Nat.reduceMul, Nat.reduceLeDiff, Nat.reduceLT, ↓reduceIte, reduceCtorEq, Int.reduceBEq, Int.reduceBNe, Int.reduceLT, Int.reduceLE, Int.reduceToNat])); (first | with_reducible refine on_yes ?_ | with_reducible refine on_no ?_ | with_reducible refine on_reg ?_ | (with_reducible refine on_regD (by decide +kernel) ?_) | with_reducible refine on_fin ?_)))
  refine aw_reg [[aD (encRv ar2)]] (by simp only [ev0, ev1, ev2, look, lookF, cellsFrom, offT, offP, List.tail_nil, List.length_nil, Int.cast_ofNat_Int, Nat.reduceEqDiff, Nat.reduceAdd, Nat.reduceMul, Nat.reduceLeDiff, Nat.reduceLT, ↓reduceIte, reduceCtorEq, Int.reduceBEq, Int.reduceBNe, Int.reduceLT, Int.reduceLE, Int.reduceToNat, encRv, ar2, encMl, encMs, encBar97, encBar98, encCl, encCh, List.map_cons, List.map_nil]; first | rfl | exact ⟨rfl, rfl⟩) ?_ ?_
  · refine ⟨⟨_, ?_, h2⟩, trivial⟩
    repeat' (first | exact vals_nil | exact row_nil | exact es_nil | exact CVLe.refl _ | exact LfLe.refl _ | exact LfLe.nil _ | exact EsLe.refl _ | refine vals_cons ?_ ?_ | refine row_cons ?_ ?_ | refine es_cons ?_ ?_ | refine EsLe.app ?_ ?_ | refine CVLe.row ?_ | refine CVLe.leafV ?_ | refine CVLe.leafS ?_ | refine LfLe.s ?_)
  repeat (first | refine aw_seq ?_ | refine aw_block ?_ | with_reducible refine aw_ret ?_ | with_reducible refine aw_skip ?_ | with_reducible refine aw_exit ?_ | refine thn_normal ?_ | refine thn_out ?_ | refine blk_normal ?_ | refine blk_ret ?_ | refine blk_exit ?_ | ((first | refine aw_regO ?_ | refine aw_regDO ?_ | refine aw_condO ?_ | refine fin_retO ?_); (conv => (arg 1; simp (maxSteps := 30000) only [ev0, ev1, ev2, look, lookF, cellsFrom, offT, offP, List.tail_nil, List.length_nil, Int.cast_ofNat_Int, Nat.reduceEqDiff, Nat.reduceAdd, Nat.reduceMul, Nat.reduceLeDiff, Nat.reduceLT, ↓reduceIte, reduceCtorEq, Int.reduceBEq, Int.reduceBNe, Int.reduceLT, Int.reduceLE, Int.reduceToNat])); (first | with_reducible refine on_yes ?_ | with_reducible refine on_no ?_ | with_reducible refine on_reg ?_ | (with_reducible refine on_regD (by decide +kernel) ?_) | with_reducible refine on_fin ?_)))
  refine aw_reg [[aD (encRv ar3), aD (encCh ⟨2, 2, 0, 0, [], []⟩), vB true]] (by simp only [ev0, ev1, ev2, look, lookF, cellsFrom, offT, offP, List.tail_nil, List.length_nil, Int.cast_ofNat_Int, Nat.reduceEqDiff, Nat.reduceAdd, Nat.reduceMul, Nat.reduceLeDiff, Nat.reduceLT, ↓reduceIte, reduceCtorEq, Int.reduceBEq, Int.reduceBNe, Int.reduceLT, Int.reduceLE, Int.reduceToNat, encRv, ar3, encMl, encMs, encBar97, encBar98, encCl, encCh, List.map_cons, List.map_nil]; first | rfl | exact ⟨rfl, rfl⟩) ?_ ?_
  · refine ⟨⟨_, ?_, h3⟩, trivial⟩
    repeat' (first | exact vals_nil | exact row_nil | exact es_nil | exact CVLe.refl _ | exact LfLe.refl _ | exact LfLe.nil _ | exact EsLe.refl _ | refine vals_cons ?_ ?_ | refine row_cons ?_ ?_ | refine es_cons ?_ ?_ | refine EsLe.app ?_ ?_ | refine CVLe.row ?_ | refine CVLe.leafV ?_ | refine CVLe.leafS ?_ | refine LfLe.s ?_)
  repeat (first | refine aw_seq ?_ | refine aw_block ?_ | with_reducible refine aw_ret ?_ | with_reducible refine aw_skip ?_ | with_reducible refine aw_exit ?_ | refine thn_normal ?_ | refine thn_out ?_ | refine blk_normal ?_ | refine blk_ret ?_ | refine blk_exit ?_ | ((first | refine aw_regO ?_ | refine aw_regDO ?_ | refine aw_condO ?_ | refine fin_retO ?_); (conv => (arg 1; simp (maxSteps := 30000) only [ev0, ev1, ev2, look, lookF, cellsFrom, offT, offP, List.tail_nil, List.length_nil, Int.cast_ofNat_Int, Nat.reduceEqDiff, Nat.reduceAdd, Nat.reduceMul, Nat.reduceLeDiff, Nat.reduceLT, ↓reduceIte, reduceCtorEq, Int.reduceBEq, Int.reduceBNe, Int.reduceLT, Int.reduceLE, Int.reduceToNat, Bool.not_false, List.length_cons, List.length_nil])); (first | with_reducible refine on_yes ?_ | with_reducible refine on_no ?_ | with_reducible refine on_reg ?_ | (with_reducible refine on_regD (by decide +kernel) ?_) | with_reducible refine on_fin ?_)))
  refine aw_reg [[aD (encRv ar2)]] (by simp only [ev0, ev1, ev2, look, lookF, cellsFrom, offT, offP, List.tail_nil, List.length_nil, Int.cast_ofNat_Int, Nat.reduceEqDiff, Nat.reduceAdd, Nat.reduceMul, Nat.reduceLeDiff, Nat.reduceLT, ↓reduceIte, reduceCtorEq, Int.reduceBEq, Int.reduceBNe, Int.reduceLT, Int.reduceLE, Int.reduceToNat, encRv, ar2, encMl, encMs, encBar97, encBar98, encCl, Bool.not_false, List.length_cons, List.length_nil]; first | rfl | exact ⟨rfl, rfl⟩) ?_ ?_
  · refine ⟨⟨_, ?_, h4⟩, trivial⟩
    repeat' (first | exact vals_nil | exact row_nil | exact es_nil | exact CVLe.refl _ | exact LfLe.refl _ | exact LfLe.nil _ | exact EsLe.refl _ | refine vals_cons ?_ ?_ | refine row_cons ?_ ?_ | refine es_cons ?_ ?_ | refine EsLe.app ?_ ?_ | refine CVLe.row ?_ | refine CVLe.leafV ?_ | refine CVLe.leafS ?_ | refine LfLe.s ?_)
  repeat (first | refine aw_seq ?_ | refine aw_block ?_ | with_reducible refine aw_ret ?_ | with_reducible refine aw_skip ?_ | with_reducible refine aw_exit ?_ | refine thn_normal ?_ | refine thn_out ?_ | refine blk_normal ?_ | refine blk_ret ?_ | refine blk_exit ?_ | ((first | refine aw_regO ?_ | refine aw_regDO ?_ | refine aw_condO ?_ | refine fin_retO ?_); (conv => (arg 1; simp (maxSteps := 30000) only [ev0, ev1, ev2, look, lookF, cellsFrom, offT, offP, List.tail_nil, List.length_nil, Int.cast_ofNat_Int, Nat.reduceEqDiff, Nat.reduceAdd, Nat.reduceMul, Nat.reduceLeDiff, Nat.reduceLT, ↓reduceIte, reduceCtorEq, Int.reduceBEq, Int.reduceBNe, Int.reduceLT, Int.reduceLE, Int.reduceToNat])); (first | with_reducible refine on_yes ?_ | with_reducible refine on_no ?_ | with_reducible refine on_reg ?_ | (with_reducible refine on_regD (by decide +kernel) ?_) | with_reducible refine on_fin ?_)))
  exact ValsLe.refl _
end Go.Proofs.Ytnncmddmjpocfab.ab

/-
  Plain mathematics for senders: what a sender is that came of puts, sayings and answers. Nothing of the program.
-/
namespace Go.Proofs.Ytnncmddmjpocfab.mth
set_option linter.unusedSimpArgs false
set_option linter.unusedVariables false

def zeroS : Sd := ⟨[], 0, 0, 0, 0, [], 0⟩
/-- A sender that came of puts, sayings and answers. -/
structure GoodS (s : Sd) : Prop where
  q : s.queue.length ≤ 6
  f : s.flight.length ≤ 4
  n : 0 ≤ s.next ∧ s.next + s.queue.length ≤ 40
  p : 0 ≤ s.p0 ∧ 0 ≤ s.p1 ∧ 0 ≤ s.p2 ∧ s.p0 + s.p1 + s.p2 = s.next
  t : 0 ≤ s.turn ∧ s.turn ≤ 4
  m : ∀ m ∈ s.queue, wrongMsgL m.stream m.data = 0
  c : ∀ c ∈ s.flight, c.kind = 1 ∧ wrongL c = 0 ∧ c.number < s.next
  r : s.flight.Pairwise (fun a b => a.number < b.number)
theorem good_zero : GoodS zeroS := ⟨by simp [zeroS], by simp [zeroS], by simp [zeroS], by simp [zeroS], by simp [zeroS], by simp [zeroS], by simp [zeroS], by simp [zeroS]⟩
theorem GoodS.put {s : Sd} (h : GoodS s) (m : Ms) : GoodS (putS s m) := by
  unfold putS
  split
  · rename_i he
    unfold putE at he
    split at he
    · rename_i hw; exact absurd he hw
    · rename_i hw
      split at he
      · cases he
      · rename_i hq
        split at he
        · cases he
        · rename_i hn
          refine ⟨by simp; omega, h.f, by have := h.n; simp; omega, h.p, h.t, fun x hx => ?_, h.c, h.r⟩
          rcases List.mem_append.1 hx with hx | hx
          · exact h.m x hx
          · simp at hx; subst hx; simpa using hw
  · exact h
theorem GoodS.hear {s : Sd} (h : GoodS s) (c : Ch) : GoodS (hearS s c) := by
  unfold hearS
  split
  · exact ⟨h.q, Nat.le_trans (List.length_filter_le _ _) h.f, h.n, h.p, h.t, h.m, fun x hx => h.c x (List.mem_filter.1 hx).1, h.r.filter _⟩
  · exact h
theorem right_ms {s : Int} {d : List UInt8} (h : wrongMsgL s d = 0) : (0 ≤ s ∧ s ≤ 2) ∧ d.length ≤ 6 := by
  unfold wrongMsgL at h
  split at h
  · cases h
  · split at h
    · cases h
    · omega
theorem placeOf_le {s : Sd} (h : GoodS s) (k : Int) : 0 ≤ placeOf s k ∧ placeOf s k ≤ s.next := by
  have := h.p
  unfold placeOf
  split
  · omega
  · split
    · omega
    · omega
theorem newC_right {s : Sd} {m : Ms} (h : GoodS s) (hm : wrongMsgL m.stream m.data = 0) (hn : s.next ≤ 39) : wrongL (newC s m) = 0 := by
  have hp := placeOf_le h m.stream
  have := h.n
  unfold newC
  rw [wrongL_one, if_neg (by omega), if_neg (by omega), if_neg (by simp), hm]
theorem againK_lt {s : Sd} (h : GoodS s) (hf : 0 < s.flight.length) : 0 ≤ againK s ∧ againK s < s.flight.length := by
  unfold againK
  exact ⟨Int.emod_nonneg _ (by omega), Int.emod_lt_of_pos _ (by omega)⟩
theorem GoodS.again {s : Sd} (h : GoodS s) (hf : 0 < s.flight.length) : GoodS { s with turn := againK s + 1 } := by
  have := againK_lt h hf
  have := h.f
  exact ⟨h.q, h.f, h.n, h.p, by simp only; omega, h.m, h.c, h.r⟩
theorem GoodS.new {s : Sd} {m : Ms} {r : List Ms} (h : GoodS s) (hq : s.queue = m :: r) (hf : s.flight.length ≤ 3) : GoodS (newS s m r) := by
  have h1 := h.q
  have h2 := h.n
  have h3 := h.p
  rw [hq] at h1 h2
  simp only [List.length_cons] at h1 h2
  have hm := h.m m (by rw [hq]; simp)
  have hs := (right_ms hm).1
  refine ⟨by simp only [newS]; omega, by simp only [newS, List.length_append, List.length_cons, List.length_nil]; omega, by simp only [newS]; omega, ?_, h.t, fun x hx => h.m x (by rw [hq]; exact List.mem_cons_of_mem _ hx), fun x hx => ?_, ?_⟩
  · simp only [newS]
    rcases (by omega : m.stream = 0 ∨ m.stream = 1 ∨ m.stream = 2) with e | e | e <;> simp only [e, if_true, Int.reduceEq, if_false] <;> omega
  · rcases List.mem_append.1 hx with hx | hx
    · have := h.c x hx
      exact ⟨this.1, this.2.1, by simp only [newS]; omega⟩
    · simp at hx
      subst hx
      exact ⟨rfl, newC_right h hm (by omega), by simp only [newS, newC]; omega⟩
  · refine List.pairwise_append.2 ⟨h.r, by simp, fun a ha b hb => ?_⟩
    simp at hb
    subst hb
    exact (h.c a ha).2.2
theorem GoodS.say {s : Sd} (h : GoodS s) : GoodS (sayL s).1 := by
  unfold sayL
  split
  · rename_i hq
    split
    · exact h
    · exact h.again (by omega)
  · rename_i m r hq
    split
    · exact h.again (by omega)
    · exact h.new hq (by omega)
theorem GoodS.early {s : Sd} (h : GoodS s) : ∀ c ∈ s.flight, c.early = [] := by
  intro c hc
  obtain ⟨h1, h2, _⟩ := h.c c hc
  unfold wrongL at h2
  rw [if_neg (by omega)] at h2
  split at h2
  · cases h2
  · split at h2
    · cases h2
    · split at h2
      · cases h2
      · rename_i he; exact List.eq_nil_of_length_eq_zero (by omega)
end Go.Proofs.Ytnncmddmjpocfab.mth

/-
  What the answer's Put and SendSay tell, of any good sender.
-/
namespace Go.Proofs.Ytnncmddmjpocfab.ab
set_option linter.unusedVariables false
set_option linter.unusedSimpArgs false
open Go Go.RowKit
open mth

theorem refPut_told {s : Sd} (h : GoodS s) (m : Ms) : Told Try.prog 25 [aD (encSd s), aD (encMs m)] [aD (encSd (putS s m)), vI (putE s m)] := put_told s m (by have := h.n; omega)
theorem refSay_told {s : Sd} (h : GoodS s) : Told Try.prog 26 [aD (encSd s)] [aD (encSd (sayL s).1), aD (encCh (sayL s).2.1), vB (sayL s).2.2] := by
  obtain ⟨queue, next, p0, p1, p2, flight, turn⟩ := s
  have hf := h.f
  have ht := h.t
  have hn := h.n
  have hp := h.p
  have hq := h.q
  simp only at hf ht hn hp hq
  cases queue with
  | nil =>
    by_cases hz : flight.length = 0
    · have hz' : flight = [] := List.eq_nil_of_length_eq_zero hz
      subst hz'
      exact say_told_none next p0 p1 p2 turn
    · have := say_told_again [] next p0 p1 p2 turn flight (by omega) (by omega) hf (.inl rfl)
      simpa [sayL, hz, againK] using this
  | cons m r =>
    by_cases hz : 3 < flight.length
    · have := say_told_again (m :: r) next p0 p1 p2 turn flight (by omega) (by omega) hf (.inr hz)
      simpa [sayL, hz, againK] using this
    · have hm := (right_ms (h.m m (by simp))).1
      have := say_told_new m r next p0 p1 p2 turn flight (by omega) (by omega) (by omega) (by omega) (by omega) (by simp at hq; omega) hm
      simpa [sayL, hz] using this
end Go.Proofs.Ytnncmddmjpocfab.ab

/-
  Plain mathematics for receivers: twice is once. Nothing of the program.
-/
namespace Go.Proofs.Ytnncmddmjpocfab.mth
set_option linter.unusedSimpArgs false
set_option linter.unusedVariables false
end Go.Proofs.Ytnncmddmjpocfab.mth

/-
  Plain mathematics for receivers: in whatever order they come. Nothing of the program.
-/
namespace Go.Proofs.Ytnncmddmjpocfab.mth
set_option linter.unusedSimpArgs false
set_option linter.unusedVariables false
/-- Chunks that were made of messages. -/
structure Made (l : List Ms) (cs : List Ch) : Prop where
  len : cs.length = l.length
  few : l.length ≤ 4
  right : ∀ c ∈ cs, c.kind = 1 ∧ wrongL c = 0
  num : ∀ c ∈ cs, 0 ≤ c.number ∧ c.number < l.length
  one : ∀ a ∈ cs, ∀ b ∈ cs, a.number = b.number → a = b
  all : ∀ n : Int, 0 ≤ n → n < l.length → ∃ c ∈ cs, c.number = n
  two : ∀ a ∈ cs, ∀ b ∈ cs, a.stream = b.stream → a.place = b.place → a = b
  low : ∀ a ∈ cs, ∀ p : Int, 0 ≤ p → p < a.place → ∃ b ∈ cs, b.stream = a.stream ∧ b.place = p
  put : ∀ a ∈ cs, (ofS l a.stream)[a.place.toNat]? = some ⟨a.stream, a.data⟩
def plD (d : Dr) (s : Int) : Int := plc d.p0 d.p1 d.p2 s
/-- What holds while it is told. -/
structure DInv (l : List Ms) (cs : List Ch) (K : Ch → Prop) (d : Dr) : Prop where
  p : 0 ≤ d.p0 ∧ 0 ≤ d.p1 ∧ 0 ≤ d.p2
  a : ∀ y ∈ d.hold, y ∈ cs ∧ plD d y.stream ≤ y.place
  b : d.hold.Nodup
  t : ∀ s : Int, 0 ≤ s → s ≤ 2 → ofS d.told s = (ofS l s).take (plD d s).toNat
  e : ∀ x ∈ cs, K x ↔ (x.place < plD d x.stream ∨ x ∈ d.hold)
theorem plD_step {d : Dr} {i : Nat} {x : Ch} (hs : x.stream = 0 ∨ x.stream = 1 ∨ x.stream = 2) {s : Int} (h : 0 ≤ s ∧ s ≤ 2) : plD (stepD d i x) s = if s = x.stream then plD d s + 1 else plD d s := by
  unfold plD stepD plc
  simp only
  rcases hs with e | e | e <;> rw [e] <;> rcases (by omega : s = 0 ∨ s = 1 ∨ s = 2) with rfl | rfl | rfl <;> simp
theorem cut_mem {l : List Ch} {i : Nat} {x : Ch} (hx : l[i]? = some x) (hn : l.Nodup) (y : Ch) : y ∈ l.take i ++ l.drop (i + 1) ↔ y ∈ l ∧ y ≠ x := by
  obtain ⟨hi, he⟩ := List.getElem?_eq_some_iff.1 hx
  have hl : l = l.take i ++ x :: l.drop (i + 1) := by
    rw [← he, ← List.drop_eq_getElem_cons hi, List.take_append_drop]
  have hn' := hn
  rw [hl] at hn'
  have h1 := (List.nodup_append.1 hn').2.2
  have h2 := (List.nodup_cons.1 (List.nodup_append.1 hn').2.1).1
  constructor
  · intro h
    rcases List.mem_append.1 h with q | q
    · exact ⟨List.mem_of_mem_take q, fun e => h1 y q x (by simp) e⟩
    · exact ⟨List.mem_of_mem_drop q, fun e => h2 (e ▸ q)⟩
  · rintro ⟨h, hne⟩
    rw [hl] at h
    rcases List.mem_append.1 h with q | q
    · exact List.mem_append_left _ q
    · rcases List.mem_cons.1 q with q | q
      · exact absurd q hne
      · exact List.mem_append_right _ q
theorem cut_nodup {l : List Ch} {i : Nat} (hn : l.Nodup) : (l.take i ++ l.drop (i + 1)).Nodup := by
  have : (l.take i ++ l.drop (i + 1)).Sublist l := by
    rw [← List.eraseIdx_eq_take_drop_succ]
    exact List.eraseIdx_sublist l i
  exact hn.sublist this
theorem DInv.step {l : List Ms} {cs : List Ch} {K : Ch → Prop} {d : Dr} (hm : Made l cs) (h : DInv l cs K d) {i : Nat} {x : Ch} (hx : d.hold[i]? = some x) (hr : readyD d x = true) : DInv l cs K (stepD d i x) := by
  have hxm := List.mem_of_getElem? hx
  have hxc := (h.a x hxm).1
  have hw := hm.right x hxc
  have hs := stream3 (wrong_one hw.1 hw.2).2.2.2
  have hpl : x.place = plD d x.stream := by simpa [readyD, plD] using hr
  have hstr : ∀ y ∈ cs, 0 ≤ y.stream ∧ y.stream ≤ 2 := fun y hy => by
    have := hm.right y hy
    have := stream3 (wrong_one this.1 this.2).2.2.2
    omega
  have h0 := h.p
  have hmem := cut_mem hx h.b
  have hp0 : 0 ≤ plD d x.stream := by
    unfold plD plc
    split
    · exact h0.1
    · split
      · exact h0.2.1
      · exact h0.2.2
  refine ⟨?_, fun y hy => ?_, cut_nodup h.b, fun s s0 s2 => ?_, fun z hz => ?_⟩
  · simp only [stepD]
    refine ⟨?_, ?_, ?_⟩ <;> split <;> omega
  · obtain ⟨q1, q2⟩ := (hmem y).1 hy
    obtain ⟨a1, a2⟩ := h.a y q1
    refine ⟨a1, ?_⟩
    rw [plD_step hs (hstr y a1)]
    split
    · rename_i e
      have : y.place ≠ x.place := fun e2 => q2 (hm.two y a1 x hxc e e2)
      rw [e] at a2 ⊢
      omega
    · exact a2
  · show ofS (d.told ++ [⟨x.stream, x.data⟩]) s = _
    rw [ofS_app, h.t s s0 s2, plD_step hs ⟨s0, s2⟩]
    by_cases e : s = x.stream
    · subst e
      rw [if_pos rfl, show (plD d x.stream + 1).toNat = (plD d x.stream).toNat + 1 by omega, List.take_add_one]
      have := hm.put x hxc
      rw [hpl] at this
      rw [this]
      simp [ofS]
    · rw [if_neg e]
      have : (x.stream == s) = false := by rw [beq_eq_false_iff_ne]; exact fun q => e q.symm
      simp [ofS, this]
  · rw [h.e z hz, plD_step hs (hstr z hz)]
    show _ ↔ _ ∨ z ∈ d.hold.take i ++ d.hold.drop (i + 1)
    rw [hmem z]
    by_cases ez : z = x
    · subst ez
      rw [if_pos rfl]
      constructor
      · intro _; left; omega
      · intro _; right; exact hxm
    · by_cases e : z.stream = x.stream
      · rw [if_pos e]
        have : z.place ≠ x.place := fun e2 => ez (hm.two z hz x hxc e e2)
        rw [e] at *
        constructor
        · rintro (q | q)
          · left; omega
          · right; exact ⟨q, ez⟩
        · rintro (q | q)
          · left; omega
          · right; exact q.1
      · rw [if_neg e]
        constructor
        · rintro (q | q)
          · left; exact q
          · right; exact ⟨q, ez⟩
        · rintro (q | q)
          · left; exact q
          · right; exact q.1
theorem find_some {l : List Ch} {p : Ch → Bool} {x : Ch} (h : l[l.findIdx p]? = some x) : p x = true := by
  obtain ⟨hi, he⟩ := List.getElem?_eq_some_iff.1 h
  rw [← he]
  exact List.findIdx_getElem
theorem find_none {l : List Ch} {p : Ch → Bool} (h : l[l.findIdx p]? = none) : ∀ y ∈ l, p y = false := by
  intro y hy
  have h1 := List.getElem?_eq_none_iff.1 h
  cases hp : p y with
  | false => rfl
  | true =>
    have := List.findIdx_lt_length_of_exists ⟨y, hy, hp⟩
    omega
theorem DInv.drain {l : List Ms} {cs : List Ch} {K : Ch → Prop} (hm : Made l cs) : ∀ (f : Nat) {d : Dr}, DInv l cs K d → d.hold.length ≤ f → DInv l cs K (drain f d) ∧ ∀ y ∈ (drain f d).hold, readyD (drain f d) y = false
  | 0, d, h, hf => by
    have : d.hold = [] := List.eq_nil_of_length_eq_zero (by omega)
    refine ⟨h, fun y hy => ?_⟩
    have hy : y ∈ d.hold := hy
    rw [this] at hy
    cases hy
  | f + 1, d, h, hf => by
    unfold mth.drain
    split
    · rename_i x hx
      refine DInv.drain hm f (h.step hm hx (find_some hx)) ?_
      have hi := (List.getElem?_eq_some_iff.1 hx).1
      simp only [stepD, List.length_append, List.length_take, List.length_drop]
      omega
    · rename_i hx
      exact ⟨h, find_none hx⟩
end Go.Proofs.Ytnncmddmjpocfab.mth
