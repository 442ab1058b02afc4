/-
  Several texts in one.
-/
import Derived.Test.YtnncmddmjpocfabM34
import Derived.Test.YtnncmddmjpocfabM21
import Derived.Test.YtnncmddmjpocfabProg

/-
  What lklaw6's build tells; what the functions of package recv are held to.
-/
namespace Go.Proofs.Ytnncmddmjpocfab.ab
set_option linter.unusedVariables false
set_option linter.unusedSimpArgs false
open Go Go.RowKit
open mth

/-- The receiver that all of them make. -/
def buildR (l : List Ch) : Rv := l.foldl hearR zeroR
theorem good_buildR {l : List Ch} (h : ∀ c ∈ l, wrongL c = 0) : GoodR (buildR l) := by
  have : ∀ (l : List Ch) (r : Rv), GoodR r → (∀ c ∈ l, wrongL c = 0) → GoodR (l.foldl hearR r) := by
    intro l
    induction l with
    | nil => intro r hr _; exact hr
    | cons c l ih => intro r hr hl; exact ih _ (hr.hear (hl c (by simp))) (fun x hx => hl x (by simp [hx]))
  exact this l zeroR good_zeroR h
theorem buildR_snoc (l : List Ch) (c : Ch) : buildR (l ++ [c]) = hearR (buildR l) c := by simp [buildR, List.foldl_append]
theorem good_hearly {r : Rv} (h : GoodR r) : ∀ c ∈ r.hold, c.early.length ≤ 9223372036854775807 := fun c hc => by
  have := h.h c hc
  rw [(wrong_one this.1 this.2).2.2.1]; simp
theorem good_sizes {r : Rv} (h : GoodR r) : r.early.length ≤ 3 ∧ r.hold.length ≤ 43 ∧ r.told.length ≤ 43 := by
  have := h.n; have := h.t; have := h.l
  omega
theorem sameR_told {r : Rv} (h : GoodR r) : Told Try.prog 20 [aD (encRv r), aD (encRv r)] [vB true] := by
  have := good_sizes h
  exact sameRv_told r (by omega) (by omega) (by omega) (good_hearly h)
/- What the functions of package recv are held to: number f of the program. -/
def COwnR (f : Nat) : Prop := ∀ r, GoodR r → Told Try.prog f [aD (encRv r)] [aD (encRv r)]
def CSayR (f : Nat) : Prop := ∀ r, GoodR r → Told Try.prog f [aD (encRv r)] [aD (encRv (sayR r).1), aD (encCh (sayR r).2.1), vB (sayR r).2.2]
def CHearR (f : Nat) : Prop := ∀ r c, GoodR r → wrongL c = 0 → Told Try.prog f [aD (encRv r), aD (encCh c)] [aD (encRv (hearR r c))]
/-- At the head of the loop. -/
def b6St (l : List Ch) (r : Rv) (k : Nat) : St :=
  ⟨[(2, pD 2 0), (4, pD 4 0), (7, sD 6 (encCl l)), (8, vI l.length), (9, vI k)], [(2, [vI 0, vD (.slice none 0 0), vI 0, vI 0, vI 0, vD (.slice none 0 0), vD (.slice none 0 0), vB false]), (4, encRv r)], []⟩
set_option maxHeartbeats 4000000 in
theorem build6_core (l : List Ch) (hl : l.length ≤ 9223372036854775807) (he : ∀ c ∈ l, c.early.length ≤ 9223372036854775807) (R : Rv) (b : Bool)
    (h1 : (∀ c ∈ l, wrongL c = 0) → R = buildR l ∧ b = true) (h2 : ∀ (k : Nat) (c : Ch), l[k]? = some c → wrongL c ≠ 0 → (∀ x ∈ l.take k, wrongL x = 0) → R = buildR (l.take k) ∧ b = false) :
    Told Try.prog 17 [sD 6 (encCl l)] [aD (encRv R), vB b] := by
  refine told_w6_build rfl ?_
  repeat (first | refine aw_seq ?_ | refine aw_block ?_ | with_reducible refine aw_ret ?_ | with_reducible refine aw_skip ?_ | with_reducible refine aw_exit ?_ | refine thn_normal ?_ | refine thn_out ?_ | refine blk_normal ?_ | refine blk_ret ?_ | refine blk_exit ?_ | ((first | refine aw_regO ?_ | refine aw_regDO ?_ | refine aw_condO ?_ | refine fin_retO ?_); (conv => (arg 1; simp (maxSteps := 30000) only [ev0, ev1, ev2, look, lookF, cellsFrom, offT, offP, List.tail_nil, List.length_nil, Int.cast_ofNat_Int, Nat.reduceEqDiff, Nat.reduceAdd, Nat.reduceMul, Nat.reduceLeDiff, Nat.reduceLT, ↓reduceIte, reduceCtorEq, Int.reduceBEq, Int.reduceBNe, Int.reduceLT, Int.reduceLE, Int.reduceToNat, len_cl])); (first | with_reducible refine on_yes ?_ | with_reducible refine on_no ?_ | with_reducible refine on_reg ?_ | (with_reducible refine on_regD (by decide +kernel) ?_) | with_reducible refine on_fin ?_)))
  refine aw_loop (fun n st => ∃ k, k ≤ l.length ∧ n = l.length - k ∧ (∀ x ∈ l.take k, wrongL x = 0) ∧ st = b6St l (buildR (l.take k)) k) l.length (b6St l zeroR 0) ?_ ⟨0, by omega, by omega, by simp, rfl⟩ ?_
  · refine (Le.box 4 (cs' := encRv zeroR) (by decide) rfl rfl ?_).trans (Le.keep (lv := [2, 4, 7, 8, 9]) (lb := [2, 4]) (by simp only [ev0, ev1, ev2, look, lookF, cellsFrom, offT, offP, List.tail_nil, List.length_nil, Int.cast_ofNat_Int, Nat.reduceEqDiff, Nat.reduceAdd, Nat.reduceMul, Nat.reduceLeDiff, Nat.reduceLT, ↓reduceIte, reduceCtorEq, Int.reduceBEq, Int.reduceBNe, Int.reduceLT, Int.reduceLE, Int.reduceToNat]; rfl))
    exact ⟨LfLe.refl _, LfLe.nil 1, LfLe.refl _, LfLe.refl _, LfLe.refl _, LfLe.nil 6, LfLe.nil 2, LfLe.refl _, trivial⟩
  rintro n st ⟨k, hk, hn, hb, rfl⟩
  by_cases hlt : k < l.length
  · obtain ⟨c, hc⟩ : ∃ m, l[k]? = some m := ⟨l[k], List.getElem?_eq_getElem hlt⟩
    have hT := wrong_told c (he c (List.mem_of_getElem? hc))
    have g1 : (k : Int) < (l.length : Int) := by omega
    have g2 : (0 : Int) ≤ (k : Int) := by omega
    have g3 := at_cl hc
    have g4 : inR .i64 ((k : Int) + 1) = true := inR_of (by omega)
    have htk : l.take (k + 1) = l.take k ++ [c] := by rw [List.take_add_one, hc]; rfl
    have hg := good_buildR hb
    have hw2 := h2 k c hc
    have hnx : wrongL c = 0 → Next (fun n st => ∃ k, k ≤ l.length ∧ n = l.length - k ∧ (∀ x ∈ l.take k, wrongL x = 0) ∧ st = b6St l (buildR (l.take k)) k) n (b6St l (hearR (buildR (l.take k)) c) (k + 1)) := by
      intro hw
      refine ⟨l.length - (k + 1), _, by omega, Le.refl _, k + 1, by omega, rfl, fun x hx => ?_, by rw [htk, buildR_snoc]⟩
      rw [htk] at hx
      rcases List.mem_append.1 hx with q | q
      · exact hb x q
      · rw [List.mem_singleton.1 q]; exact hw
    generalize (fun n st => ∃ k, k ≤ l.length ∧ n = l.length - k ∧ (∀ x ∈ l.take k, wrongL x = 0) ∧ st = b6St l (buildR (l.take k)) k) = J at *
    have hw3 := fun q => hw2 q hb
    clear hw2 hb h1 h2 htk
    generalize buildR (l.take k) = r at *
    by_cases hw : wrongL c = 0
    · have hH := recvHear_told hg hw
      have hnx := hnx hw
      have g5 : (wrongL c != 0) = false := by rw [hw]; rfl
      generalize hearR r c = r' at *
      simp only [b6St, encRv, encCh, Int.natCast_add, Int.cast_ofNat_Int] at hT hH hnx ⊢
      repeat (first | refine aw_seq ?_ | refine aw_block ?_ | with_reducible refine aw_ret ?_ | with_reducible refine aw_skip ?_ | with_reducible refine aw_exit ?_ | refine thn_normal ?_ | refine thn_out ?_ | refine blk_normal ?_ | refine blk_ret ?_ | refine blk_exit ?_ | ((first | refine aw_regO ?_ | refine aw_regDO ?_ | refine aw_condO ?_ | refine fin_retO ?_); (conv => (arg 1; simp (maxSteps := 30000) only [ev0, ev1, ev2, look, lookF, cellsFrom, offT, offP, List.tail_nil, List.length_nil, Int.cast_ofNat_Int, Nat.reduceEqDiff, Nat.reduceAdd, Nat.reduceMul, Nat.reduceLeDiff, Nat.reduceLT, ↓reduceIte, reduceCtorEq, Int.reduceBEq, Int.reduceBNe, Int.reduceLT, Int.reduceLE, Int.reduceToNat, g1, g2, g3])); (first | with_reducible refine on_yes ?_ | with_reducible refine on_no ?_ | with_reducible refine on_reg ?_ | (with_reducible refine on_regD (by decide +kernel) ?_) | with_reducible refine on_fin ?_)))
      refine aw_reg [[vI (wrongL c)]] (by simp only [ev0, ev1, ev2, look, lookF, cellsFrom, offT, offP, List.tail_nil, List.length_nil, Int.cast_ofNat_Int, Nat.reduceEqDiff, Nat.reduceAdd, Nat.reduceMul, Nat.reduceLeDiff, Nat.reduceLT, ↓reduceIte, reduceCtorEq, Int.reduceBEq, Int.reduceBNe, Int.reduceLT, Int.reduceLE, Int.reduceToNat, g5]; first | rfl | exact ⟨rfl, rfl⟩) ?_ ?_
      · exact obl_cons hT obl_nil
      repeat (first | refine aw_seq ?_ | refine aw_block ?_ | with_reducible refine aw_ret ?_ | with_reducible refine aw_skip ?_ | with_reducible refine aw_exit ?_ | refine thn_normal ?_ | refine thn_out ?_ | refine blk_normal ?_ | refine blk_ret ?_ | refine blk_exit ?_ | ((first | refine aw_regO ?_ | refine aw_regDO ?_ | refine aw_condO ?_ | refine fin_retO ?_); (conv => (arg 1; simp (maxSteps := 30000) only [ev0, ev1, ev2, look, lookF, cellsFrom, offT, offP, List.tail_nil, List.length_nil, Int.cast_ofNat_Int, Nat.reduceEqDiff, Nat.reduceAdd, Nat.reduceMul, Nat.reduceLeDiff, Nat.reduceLT, ↓reduceIte, reduceCtorEq, Int.reduceBEq, Int.reduceBNe, Int.reduceLT, Int.reduceLE, Int.reduceToNat, g5])); (first | with_reducible refine on_yes ?_ | with_reducible refine on_no ?_ | with_reducible refine on_reg ?_ | (with_reducible refine on_regD (by decide +kernel) ?_) | with_reducible refine on_fin ?_)))
      refine aw_reg [[aD (encRv r')]] (by simp only [ev0, ev1, ev2, look, lookF, cellsFrom, offT, offP, List.tail_nil, List.length_nil, Int.cast_ofNat_Int, Nat.reduceEqDiff, Nat.reduceAdd, Nat.reduceMul, Nat.reduceLeDiff, Nat.reduceLT, ↓reduceIte, reduceCtorEq, Int.reduceBEq, Int.reduceBNe, Int.reduceLT, Int.reduceLE, Int.reduceToNat, encRv]; first | rfl | exact ⟨rfl, rfl⟩) ?_ ?_
      · exact obl_cons hH obl_nil
      repeat (first | refine aw_seq ?_ | refine aw_block ?_ | with_reducible refine aw_ret ?_ | with_reducible refine aw_skip ?_ | with_reducible refine aw_exit ?_ | refine thn_normal ?_ | refine thn_out ?_ | refine blk_normal ?_ | refine blk_ret ?_ | refine blk_exit ?_ | ((first | refine aw_regO ?_ | refine aw_regDO ?_ | refine aw_condO ?_ | refine fin_retO ?_); (conv => (arg 1; simp (maxSteps := 30000) only [ev0, ev1, ev2, look, lookF, cellsFrom, offT, offP, List.tail_nil, List.length_nil, Int.cast_ofNat_Int, Nat.reduceEqDiff, Nat.reduceAdd, Nat.reduceMul, Nat.reduceLeDiff, Nat.reduceLT, ↓reduceIte, reduceCtorEq, Int.reduceBEq, Int.reduceBNe, Int.reduceLT, Int.reduceLE, Int.reduceToNat, g4])); (first | with_reducible refine on_yes ?_ | with_reducible refine on_no ?_ | with_reducible refine on_reg ?_ | (with_reducible refine on_regD (by decide +kernel) ?_) | with_reducible refine on_fin ?_)))
      exact hnx
    · obtain ⟨rfl, rfl⟩ := hw3 hw
      have g5 : (wrongL c != 0) = true := by simpa using hw
      simp only [b6St, encRv, encCh] at hT ⊢
      repeat (first | refine aw_seq ?_ | refine aw_block ?_ | with_reducible refine aw_ret ?_ | with_reducible refine aw_skip ?_ | with_reducible refine aw_exit ?_ | refine thn_normal ?_ | refine thn_out ?_ | refine blk_normal ?_ | refine blk_ret ?_ | refine blk_exit ?_ | ((first | refine aw_regO ?_ | refine aw_regDO ?_ | refine aw_condO ?_ | refine fin_retO ?_); (conv => (arg 1; simp (maxSteps := 30000) only [ev0, ev1, ev2, look, lookF, cellsFrom, offT, offP, List.tail_nil, List.length_nil, Int.cast_ofNat_Int, Nat.reduceEqDiff, Nat.reduceAdd, Nat.reduceMul, Nat.reduceLeDiff, Nat.reduceLT, ↓reduceIte, reduceCtorEq, Int.reduceBEq, Int.reduceBNe, Int.reduceLT, Int.reduceLE, Int.reduceToNat, g1, g2, g3])); (first | with_reducible refine on_yes ?_ | with_reducible refine on_no ?_ | with_reducible refine on_reg ?_ | (with_reducible refine on_regD (by decide +kernel) ?_) | with_reducible refine on_fin ?_)))
      refine aw_reg [[vI (wrongL c)]] (by simp only [ev0, ev1, ev2, look, lookF, cellsFrom, offT, offP, List.tail_nil, List.length_nil, Int.cast_ofNat_Int, Nat.reduceEqDiff, Nat.reduceAdd, Nat.reduceMul, Nat.reduceLeDiff, Nat.reduceLT, ↓reduceIte, reduceCtorEq, Int.reduceBEq, Int.reduceBNe, Int.reduceLT, Int.reduceLE, Int.reduceToNat, g5]; first | rfl | exact ⟨rfl, rfl⟩) ?_ ?_
      · exact obl_cons hT obl_nil
      repeat (first | refine aw_seq ?_ | refine aw_block ?_ | with_reducible refine aw_ret ?_ | with_reducible refine aw_skip ?_ | with_reducible refine aw_exit ?_ | refine thn_normal ?_ | refine thn_out ?_ | refine blk_normal ?_ | refine blk_ret ?_ | refine blk_exit ?_ | ((first | refine aw_regO ?_ | refine aw_regDO ?_ | refine aw_condO ?_ | refine fin_retO ?_); (conv => (arg 1; simp (maxSteps := 30000) only [ev0, ev1, ev2, look, lookF, cellsFrom, offT, offP, List.tail_nil, List.length_nil, Int.cast_ofNat_Int, Nat.reduceEqDiff, Nat.reduceAdd, Nat.reduceMul, Nat.reduceLeDiff, Nat.reduceLT, ↓reduceIte, reduceCtorEq, Int.reduceBEq, Int.reduceBNe, Int.reduceLT, Int.reduceLE, Int.reduceToNat, g5])); (first | with_reducible refine on_yes ?_ | with_reducible refine on_no ?_ | with_reducible refine on_reg ?_ | (with_reducible refine on_regD (by decide +kernel) ?_) | with_reducible refine on_fin ?_)))
      exact ValsLe.refl _
  · have : k = l.length := by omega
    subst this
    rw [List.take_length] at hb ⊢
    obtain ⟨rfl, rfl⟩ := h1 hb
    have g1 : ¬ (l.length : Int) < (l.length : Int) := by omega
    simp only [b6St, encRv]
    repeat (first | refine aw_seq ?_ | refine aw_block ?_ | with_reducible refine aw_ret ?_ | with_reducible refine aw_skip ?_ | with_reducible refine aw_exit ?_ | refine thn_normal ?_ | refine thn_out ?_ | refine blk_normal ?_ | refine blk_ret ?_ | refine blk_exit ?_ | ((first | refine aw_regO ?_ | refine aw_regDO ?_ | refine aw_condO ?_ | refine fin_retO ?_); (conv => (arg 1; simp (maxSteps := 30000) only [ev0, ev1, ev2, look, lookF, cellsFrom, offT, offP, List.tail_nil, List.length_nil, Int.cast_ofNat_Int, Nat.reduceEqDiff, Nat.reduceAdd, Nat.reduceMul, Nat.reduceLeDiff, Nat.reduceLT, ↓reduceIte, reduceCtorEq, Int.reduceBEq, Int.reduceBNe, Int.reduceLT, Int.reduceLE, Int.reduceToNat, g1])); (first | with_reducible refine on_yes ?_ | with_reducible refine on_no ?_ | with_reducible refine on_reg ?_ | (with_reducible refine on_regD (by decide +kernel) ?_) | with_reducible refine on_fin ?_)))
    exact ValsLe.refl _
theorem build6_told (l : List Ch) (hl : l.length ≤ 9223372036854775807) (he : ∀ c ∈ l, c.early.length ≤ 9223372036854775807) (h : ∀ c ∈ l, wrongL c = 0) : Told Try.prog 17 [sD 6 (encCl l)] [aD (encRv (buildR l)), vB true] :=
  build6_core l hl he (buildR l) true (fun _ => ⟨rfl, rfl⟩) (fun k c hc hw _ => absurd (h c (List.mem_of_getElem? hc)) hw)
theorem build6_not (l : List Ch) (hl : l.length ≤ 9223372036854775807) (he : ∀ c ∈ l, c.early.length ≤ 9223372036854775807) (h : ¬ ∀ c ∈ l, wrongL c = 0) : ∃ r, Told Try.prog 17 [sD 6 (encCl l)] [aD (encRv r), vB false] :=
  ⟨buildR (l.take (l.findIdx fun c => decide (wrongL c ≠ 0))), build6_core l hl he _ false (fun q => absurd q h) (fun k c hc hw hb => by
    rw [findIdx_at (p := fun c => decide (wrongL c ≠ 0)) hc (by simpa using hw) (fun y hy => by simpa using hb y hy)]
    exact ⟨rfl, rfl⟩)⟩
end Go.Proofs.Ytnncmddmjpocfab.ab

/-
  Functions as plain code (written by wip/abs/ir.py): lklaw6.RecvTells.
-/
namespace Go.Proofs.Ytnncmddmjpocfab.ab
set_option linter.unusedSimpArgs false
set_option linter.unusedVariables false
set_option maxRecDepth 100000
open Go Go.RowKit

def w6_RecvTells_r0 : IC := cReg Try.prog [
    ⟨some 3, none, iBox 3 (.tmp 1)⟩,
    ⟨some 4, none, iMov 4 (.const (.bool false)) true⟩] [0, 3] [3]
def w6_RecvTells_r1 : IC := cReg Try.prog [
    ⟨some 13, none, iMov 13 (.tmp 0) false⟩,
    ⟨some 14, none, iCall 14 17 [(.tmp 13)]⟩,
    ⟨some 12, none, iMov 12 (.tmp 14) false⟩,
    ⟨some 15, none, iExt 15 (.tmp 12) 0⟩,
    ⟨some 16, none, iExt 16 (.tmp 12) 1⟩,
    ⟨some 5, none, iAlo 5 [vD (.int .i64 0), vD (.slice none 0 0), vD (.int .i64 0), vD (.int .i64 0), vD (.int .i64 0), vD (.slice none 0 0), vD (.slice none 0 0), vD (.bool false)]⟩,
    ⟨none, none, iStor 8 (.tmp 5) (.tmp 15)⟩,
    ⟨some 6, none, iMov 6 (.tmp 16) true⟩] [3, 5, 6] [3, 5]
def w6_RecvTells_r2 : IC := cReg Try.prog [
    ⟨some 17, none, iMov 17 (.tmp 6) false⟩,
    ⟨some 18, none, iNot 18 (.tmp 17)⟩] [3, 5, 18] [3, 5]
def w6_RecvTells_r3 : IC := cReg Try.prog [
    ⟨some 4, none, iMov 4 (.const (.bool true)) true⟩] [4] []
def w6_RecvTells_c1a : IC := (cSeq w6_RecvTells_r3 cRet)
def w6_RecvTells_c1 : IC := cCond (.tmp 18) w6_RecvTells_c1a cSkip
def w6_RecvTells_r4 : IC := cReg Try.prog [
    ⟨some 20, none, iLoad 20 8 true (.tmp 5) false⟩,
    ⟨some 21, none, iCall 21 18 [(.tmp 20)]⟩,
    ⟨some 19, none, iMov 19 (.tmp 21) false⟩,
    ⟨some 22, none, iExt 22 (.tmp 19) 0⟩,
    ⟨some 23, none, iExt 23 (.tmp 19) 1⟩,
    ⟨some 24, none, iExt 24 (.tmp 19) 2⟩,
    ⟨some 7, none, iAlo 7 [vD (.int .i64 0), vD (.slice none 0 0), vD (.int .i64 0), vD (.int .i64 0), vD (.int .i64 0), vD (.slice none 0 0), vD (.slice none 0 0), vD (.bool false)]⟩,
    ⟨some 8, none, iAlo 8 [vD (.int .i64 0), vD (.int .i64 0), vD (.int .i64 0), vD (.int .i64 0), vD (.slice none 0 0), vD (.slice none 0 0)]⟩,
    ⟨none, none, iStor 8 (.tmp 7) (.tmp 22)⟩,
    ⟨none, none, iStor 6 (.tmp 8) (.tmp 23)⟩,
    ⟨some 6, none, iMov 6 (.tmp 24) true⟩] [3, 5, 6, 7, 8] [3, 5, 7, 8]
def w6_RecvTells_r5 : IC := cReg Try.prog [
    ⟨some 26, none, iLoad 26 8 true (.tmp 5) false⟩,
    ⟨some 27, none, iCall 27 19 [(.tmp 26)]⟩,
    ⟨some 25, none, iMov 25 (.tmp 27) false⟩,
    ⟨some 28, none, iExt 28 (.tmp 25) 0⟩,
    ⟨some 29, none, iExt 29 (.tmp 25) 1⟩,
    ⟨some 30, none, iExt 30 (.tmp 25) 2⟩,
    ⟨some 9, none, iAlo 9 [vD (.int .i64 0), vD (.slice none 0 0), vD (.int .i64 0), vD (.int .i64 0), vD (.int .i64 0), vD (.slice none 0 0), vD (.slice none 0 0), vD (.bool false)]⟩,
    ⟨some 10, none, iAlo 10 [vD (.int .i64 0), vD (.int .i64 0), vD (.int .i64 0), vD (.int .i64 0), vD (.slice none 0 0), vD (.slice none 0 0)]⟩,
    ⟨none, none, iStor 8 (.tmp 9) (.tmp 28)⟩,
    ⟨none, none, iStor 6 (.tmp 10) (.tmp 29)⟩,
    ⟨some 11, none, iMov 11 (.tmp 30) true⟩] [3, 5, 6, 7, 8, 9, 10, 11] [3, 5, 7, 8, 9, 10]
def w6_RecvTells_r6 : IC := cRegD Try.prog [
    ⟨some 31, none, iMov 31 (.tmp 6) false⟩,
    ⟨some 32, none, iMov 32 (.tmp 11) false⟩,
    ⟨some 33, none, iBinB 33 false (.tmp 31) (.tmp 32)⟩,
    ⟨some 34, none, iMov 34 (.tmp 33) false⟩,
    ⟨some 35, some (34, false), iLoad 35 6 true (.tmp 8) false⟩,
    ⟨some 36, some (34, false), iLoad 36 6 true (.tmp 10) false⟩,
    ⟨some 37, some (34, false), iCall 37 15 [(.tmp 35), (.tmp 36)]⟩,
    ⟨some 38, some (34, false), iNot 38 (.tmp 37)⟩,
    ⟨some 39, none, iPick 39 (.tmp 34) (.const (.bool true)) (.tmp 38)⟩,
    ⟨some 40, none, iMov 40 (.tmp 39) false⟩,
    ⟨some 41, some (40, false), iLoad 41 8 true (.tmp 7) false⟩,
    ⟨some 42, some (40, false), iLoad 42 8 true (.tmp 9) false⟩,
    ⟨some 43, some (40, false), iCall 43 20 [(.tmp 41), (.tmp 42)]⟩,
    ⟨some 44, some (40, false), iNot 44 (.tmp 43)⟩,
    ⟨some 45, none, iPick 45 (.tmp 40) (.const (.bool true)) (.tmp 44)⟩,
    ⟨some 46, none, iMov 46 (.tmp 45) false⟩,
    ⟨some 47, some (46, false), iLoad 47 8 true (.tmp 5) false⟩,
    ⟨some 48, some (46, false), iCall 48 21 [(.tmp 47)]⟩,
    ⟨some 49, some (46, false), iLoad 49 8 true (.tmp 5) false⟩,
    ⟨some 50, some (46, false), iCall 50 20 [(.tmp 48), (.tmp 49)]⟩,
    ⟨some 51, some (46, false), iNot 51 (.tmp 50)⟩,
    ⟨some 52, none, iPick 52 (.tmp 46) (.const (.bool true)) (.tmp 51)⟩] [[], [], [0, 1], [2, 0, 1], [3, 2, 0, 1], [3, 2, 0, 1], [4, 5, 3, 2, 0, 1], [6, 3, 4, 5, 2, 0, 1], [3, 7, 2, 0, 1, 6, 4, 5], [8, 6, 3, 7, 2, 0, 1, 4, 5], [9, 8, 6, 3, 7, 2, 0, 1, 4, 5], [9, 8, 6, 3, 7, 2, 0, 1, 4, 5], [10, 11, 9, 8, 6, 3, 7, 2, 0, 1, 4, 5], [12, 9, 10, 11, 8, 6, 3, 7, 2, 0, 1, 4, 5], [9, 13, 8, 6, 3, 7, 2, 0, 1, 4, 5, 12, 10, 11], [14, 12, 9, 13, 8, 6, 3, 7, 2, 0, 1, 4, 5, 10, 11], [15, 14, 12, 9, 13, 8, 6, 3, 7, 2, 0, 1, 4, 5, 10, 11], [16, 15, 14, 12, 9, 13, 8, 6, 3, 7, 2, 0, 1, 4, 5, 10, 11], [15, 14, 12, 9, 13, 8, 6, 3, 7, 2, 0, 1, 4, 5, 10, 11], [17, 18, 15, 16, 14, 12, 9, 13, 8, 6, 3, 7, 2, 0, 1, 4, 5, 10, 11], [19, 15, 17, 18, 16, 14, 12, 9, 13, 8, 6, 3, 7, 2, 0, 1, 4, 5, 10, 11], [15, 20, 14, 12, 9, 13, 8, 6, 3, 7, 2, 0, 1, 4, 5, 10, 11, 19, 17, 18, 16]] [3, 5, 52] [3, 5]
def w6_RecvTells_r7 : IC := cReg Try.prog [
    ⟨some 4, none, iMov 4 (.const (.bool false)) true⟩] [4] []
def w6_RecvTells_c2a : IC := (cSeq w6_RecvTells_r7 cRet)
def w6_RecvTells_c2 : IC := cCond (.tmp 52) w6_RecvTells_c2a cSkip
def w6_RecvTells_r8 : IC := cRegD Try.prog [
    ⟨some 53, none, iLoad 53 6 true (.tmp 3) false⟩,
    ⟨some 54, none, iCall 54 16 [(.tmp 53)]⟩,
    ⟨some 55, none, iBin 55 .neq (.tmp 54) (.const (.int .i64 0))⟩,
    ⟨some 56, none, iMov 56 (.tmp 55) false⟩,
    ⟨some 57, some (56, false), iLoad 57 8 true (.tmp 5) false⟩,
    ⟨some 58, some (56, false), iLoad 58 6 true (.tmp 3) false⟩,
    ⟨some 59, some (56, false), iCall 59 22 [(.tmp 57), (.tmp 58)]⟩,
    ⟨some 60, some (56, false), iLoad 60 8 true (.tmp 5) false⟩,
    ⟨some 61, some (56, false), iLoad 61 6 true (.tmp 3) false⟩,
    ⟨some 62, some (56, false), iCall 62 23 [(.tmp 60), (.tmp 61)]⟩,
    ⟨some 63, some (56, false), iCall 63 20 [(.tmp 59), (.tmp 62)]⟩,
    ⟨some 64, none, iPick 64 (.tmp 56) (.const (.bool true)) (.tmp 63)⟩,
    ⟨some 4, none, iMov 4 (.tmp 64) true⟩] [[], [0], [1, 0], [2, 1, 0], [3, 2, 1, 0], [3, 2, 1, 0], [4, 5, 3, 2, 1, 0], [3, 2, 1, 0], [3, 2, 1, 0], [7, 8, 6, 3, 2, 1, 0, 4, 5], [6, 9, 3, 4, 5, 2, 1, 0, 7, 8], [3, 10, 2, 1, 0, 6, 9, 4, 5, 7, 8], [11, 10, 0, 1, 2, 3, 4, 5, 6, 7, 8, 9]] [4] []
def w6_RecvTells : IC := (cSeq w6_RecvTells_r0 (cSeq w6_RecvTells_r1 (cSeq (cSeq w6_RecvTells_r2 w6_RecvTells_c1) (cSeq w6_RecvTells_r4 (cSeq w6_RecvTells_r5 (cSeq (cSeq w6_RecvTells_r6 w6_RecvTells_c2) (cSeq w6_RecvTells_r8 cRet)))))))
theorem told_w6_RecvTells {args r : List D} (hl : args.length = 2) (h : w6_RecvTells (start args) (fin [(4, none)] r)) : Told Try.prog 4 args r :=
  told_of follows Try.func4 rfl (an := [([], [0, 3], [3], []), ([], [3, 5, 6], [3, 5], []), ([], [3, 5, 18], [3, 5], []), ([], [4], [], []), ([], [3, 5, 6, 7, 8], [3, 5, 7, 8], []), ([], [3, 5, 6, 7, 8, 9, 10, 11], [3, 5, 7, 8, 9, 10], []), ([], [3, 5, 52], [3, 5], []), ([], [4], [], []), ([], [4], [], [])]) (by kernel_rfl) (by kernel_rfl) (by rw [hl]; decide +kernel) h

end Go.Proofs.Ytnncmddmjpocfab.ab
