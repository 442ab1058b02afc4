/-
  Several texts in one.
-/
import Derived.Test.YtnncmddmjpocfabM34
import Derived.Test.YtnncmddmjpocfabM24
import Derived.Test.YtnncmddmjpocfabM21
import Derived.Test.YtnncmddmjpocfabProg

/-
  What lklaw6's build tells; what the functions of package recv are held to.
-/
namespace Go.Proofs.Ytnncmddmjpocfab.ab
set_option linter.unusedVariables false
set_option linter.unusedSimpArgs false
open Go Go.RowKit
open mth

/-- The receiver that all of them make. -/
def buildR (l : List Ch) : Rv := l.foldl hearR zeroR
theorem good_buildR {l : List Ch} (h : ∀ c ∈ l, wrongL c = 0) : GoodR (buildR l) := by
  have : ∀ (l : List Ch) (r : Rv), GoodR r → (∀ c ∈ l, wrongL c = 0) → GoodR (l.foldl hearR r) := by
    intro l
    induction l with
    | nil => intro r hr _; exact hr
    | cons c l ih => intro r hr hl; exact ih _ (hr.hear (hl c (by simp))) (fun x hx => hl x (by simp [hx]))
  exact this l zeroR good_zeroR h
theorem buildR_snoc (l : List Ch) (c : Ch) : buildR (l ++ [c]) = hearR (buildR l) c := by simp [buildR, List.foldl_append]
theorem good_hearly {r : Rv} (h : GoodR r) : ∀ c ∈ r.hold, c.early.length ≤ 9223372036854775807 := fun c hc => by
  have := h.h c hc
  rw [(wrong_one this.1 this.2).2.2.1]; simp
theorem good_sizes {r : Rv} (h : GoodR r) : r.early.length ≤ 3 ∧ r.hold.length ≤ 43 ∧ r.told.length ≤ 43 := by
  have := h.n; have := h.t; have := h.l
  omega
theorem sameR_told {r : Rv} (h : GoodR r) : Told Try.prog 20 [aD (encRv r), aD (encRv r)] [vB true] := by
  have := good_sizes h
  exact sameRv_told r (by omega) (by omega) (by omega) (good_hearly h)
/- What the functions of package recv are held to: number f of the program. -/
def COwnR (f : Nat) : Prop := ∀ r, GoodR r → Told Try.prog f [aD (encRv r)] [aD (encRv r)]
def CSayR (f : Nat) : Prop := ∀ r, GoodR r → Told Try.prog f [aD (encRv r)] [aD (encRv (sayR r).1), aD (encCh (sayR r).2.1), vB (sayR r).2.2]
def CHearR (f : Nat) : Prop := ∀ r c, GoodR r → wrongL c = 0 → Told Try.prog f [aD (encRv r), aD (encCh c)] [aD (encRv (hearR r c))]
/-- At the head of the loop. -/
def b6St (l : List Ch) (r : Rv) (k : Nat) : St :=
  ⟨[(2, pD 2 0), (4, pD 4 0), (7, sD 6 (encCl l)), (8, vI l.length), (9, vI k)], [(2, [vI 0, vD (.slice none 0 0), vI 0, vI 0, vI 0, vD (.slice none 0 0), vD (.slice none 0 0), vB false]), (4, encRv r)], []⟩
set_option maxHeartbeats 4000000 in
theorem build6_core (l : List Ch) (hl : l.length ≤ 9223372036854775807) (he : ∀ c ∈ l, c.early.length ≤ 9223372036854775807) (R : Rv) (b : Bool)
    (h1 : (∀ c ∈ l, wrongL c = 0) → R = buildR l ∧ b = true) (h2 : ∀ (k : Nat) (c : Ch), l[k]? = some c → wrongL c ≠ 0 → (∀ x ∈ l.take k, wrongL x = 0) → R = buildR (l.take k) ∧ b = false) :
    Told Try.prog 17 [sD 6 (encCl l)] [aD (encRv R), vB b] := by
  refine told_w6_build rfl ?_
  repeat (first | refine aw_seq ?_ | refine aw_block ?_ | with_reducible refine aw_ret ?_ | with_reducible refine aw_skip ?_ | with_reducible refine aw_exit ?_ | refine thn_normal ?_ | refine thn_out ?_ | refine blk_normal ?_ | refine blk_ret ?_ | refine blk_exit ?_ | ((first | refine aw_regO ?_ | refine aw_regDO ?_ | refine aw_condO ?_ | refine fin_retO ?_); (conv => (arg 1; simp (maxSteps := 30000) only [ev0, ev1, ev2, look, lookF, cellsFrom, offT, offP, List.tail_nil, List.length_nil, Int.cast_ofNat_Int, Nat.reduceEqDiff, Nat.reduceAdd, Nat.reduceMul, Nat.reduceLeDiff, Nat.reduceLT, ↓reduceIte, reduceCtorEq, Int.reduceBEq, Int.reduceBNe, Int.reduceLT, Int.reduceLE, Int.reduceToNat, len_cl])); (first | with_reducible refine on_yes ?_ | with_reducible refine on_no ?_ | with_reducible refine on_reg ?_ | (with_reducible refine on_regD (by decide +kernel) ?_) | with_reducible refine on_fin ?_)))
  refine aw_loop (fun n st => ∃ k, k ≤ l.length ∧ n = l.length - k ∧ (∀ x ∈ l.take k, wrongL x = 0) ∧ st = b6St l (buildR (l.take k)) k) l.length (b6St l zeroR 0) ?_ ⟨0, by omega, by omega, by simp, rfl⟩ ?_
  · refine (Le.box 4 (cs' := encRv zeroR) (by decide) rfl rfl ?_).trans (Le.keep (lv := [2, 4, 7, 8, 9]) (lb := [2, 4]) (by simp only [ev0, ev1, ev2, look, lookF, cellsFrom, offT, offP, List.tail_nil, List.length_nil, Int.cast_ofNat_Int, Nat.reduceEqDiff, Nat.reduceAdd, Nat.reduceMul, Nat.reduceLeDiff, Nat.reduceLT, ↓reduceIte, reduceCtorEq, Int.reduceBEq, Int.reduceBNe, Int.reduceLT, Int.reduceLE, Int.reduceToNat]; rfl))
    exact ⟨LfLe.refl _, LfLe.nil 1, LfLe.refl _, LfLe.refl _, LfLe.refl _, LfLe.nil 6, LfLe.nil 2, LfLe.refl _, trivial⟩
  rintro n st ⟨k, hk, hn, hb, rfl⟩
  by_cases hlt : k < l.length
  · obtain ⟨c, hc⟩ : ∃ m, l[k]? = some m := ⟨l[k], List.getElem?_eq_getElem hlt⟩
    have hT := wrong_told c (he c (List.mem_of_getElem? hc))
    have g1 : (k : Int) < (l.length : Int) := by omega
    have g2 : (0 : Int) ≤ (k : Int) := by omega
    have g3 := at_cl hc
    have g4 : inR .i64 ((k : Int) + 1) = true := inR_of (by omega)
    have htk : l.take (k + 1) = l.take k ++ [c] := by rw [List.take_add_one, hc]; rfl
    have hg := good_buildR hb
    have hw2 := h2 k c hc
    have hnx : wrongL c = 0 → Next (fun n st => ∃ k, k ≤ l.length ∧ n = l.length - k ∧ (∀ x ∈ l.take k, wrongL x = 0) ∧ st = b6St l (buildR (l.take k)) k) n (b6St l (hearR (buildR (l.take k)) c) (k + 1)) := by
      intro hw
      refine ⟨l.length - (k + 1), _, by omega, Le.refl _, k + 1, by omega, rfl, fun x hx => ?_, by rw [htk, buildR_snoc]⟩
      rw [htk] at hx
      rcases List.mem_append.1 hx with q | q
      · exact hb x q
      · rw [List.mem_singleton.1 q]; exact hw
    generalize (fun n st => ∃ k, k ≤ l.length ∧ n = l.length - k ∧ (∀ x ∈ l.take k, wrongL x = 0) ∧ st = b6St l (buildR (l.take k)) k) = J at *
    have hw3 := fun q => hw2 q hb
    clear hw2 hb h1 h2 htk
    generalize buildR (l.take k) = r at *
    by_cases hw : wrongL c = 0
    · have hH := recvHear_told hg hw
      have hnx := hnx hw
      have g5 : (wrongL c != 0) = false := by rw [hw]; rfl
      generalize hearR r c = r' at *
      simp only [b6St, encRv, encCh, Int.natCast_add, Int.cast_ofNat_Int] at hT hH hnx ⊢
      repeat (first | refine aw_seq ?_ | refine aw_block ?_ | with_reducible refine aw_ret ?_ | with_reducible refine aw_skip ?_ | with_reducible refine aw_exit ?_ | refine thn_normal ?_ | refine thn_out ?_ | refine blk_normal ?_ | refine blk_ret ?_ | refine blk_exit ?_ | ((first | refine aw_regO ?_ | refine aw_regDO ?_ | refine aw_condO ?_ | refine fin_retO ?_); (conv => (arg 1; simp (maxSteps := 30000) only [ev0, ev1, ev2, look, lookF, cellsFrom, offT, offP, List.tail_nil, List.length_nil, Int.cast_ofNat_Int, Nat.reduceEqDiff, Nat.reduceAdd, Nat.reduceMul, Nat.reduceLeDiff, Nat.reduceLT, ↓reduceIte, reduceCtorEq, Int.reduceBEq, Int.reduceBNe, Int.reduceLT, Int.reduceLE, Int.reduceToNat, g1, g2, g3])); (first | with_reducible refine on_yes ?_ | with_reducible refine on_no ?_ | with_reducible refine on_reg ?_ | (with_reducible refine on_regD (by decide +kernel) ?_) | with_reducible refine on_fin ?_)))
      refine aw_reg [[vI (wrongL c)]] (by simp only [ev0, ev1, ev2, look, lookF, cellsFrom, offT, offP, List.tail_nil, List.length_nil, Int.cast_ofNat_Int, Nat.reduceEqDiff, Nat.reduceAdd, Nat.reduceMul, Nat.reduceLeDiff, Nat.reduceLT, ↓reduceIte, reduceCtorEq, Int.reduceBEq, Int.reduceBNe, Int.reduceLT, Int.reduceLE, Int.reduceToNat, g5]; first | rfl | exact ⟨rfl, rfl⟩) ?_ ?_
      · exact obl_cons hT obl_nil
      repeat (first | refine aw_seq ?_ | refine aw_block ?_ | with_reducible refine aw_ret ?_ | with_reducible refine aw_skip ?_ | with_reducible refine aw_exit ?_ | refine thn_normal ?_ | refine thn_out ?_ | refine blk_normal ?_ | refine blk_ret ?_ | refine blk_exit ?_ | ((first | refine aw_regO ?_ | refine aw_regDO ?_ | refine aw_condO ?_ | refine fin_retO ?_); (conv => (arg 1; simp (maxSteps := 30000) only [ev0, ev1, ev2, look, lookF, cellsFrom, offT, offP, List.tail_nil, List.length_nil, Int.cast_ofNat_Int, Nat.reduceEqDiff, Nat.reduceAdd, Nat.reduceMul, Nat.reduceLeDiff, Nat.reduceLT, ↓reduceIte, reduceCtorEq, Int.reduceBEq, Int.reduceBNe, Int.reduceLT, Int.reduceLE, Int.reduceToNat, g5])); (first | with_reducible refine on_yes ?_ | with_reducible refine on_no ?_ | with_reducible refine on_reg ?_ | (with_reducible refine on_regD (by decide +kernel) ?_) | with_reducible refine on_fin ?_)))
      refine aw_reg [[aD (encRv r')]] (by simp only [ev0, ev1, ev2, look, lookF, cellsFrom, offT, offP, List.tail_nil, List.length_nil, Int.cast_ofNat_Int, Nat.reduceEqDiff, Nat.reduceAdd, Nat.reduceMul, Nat.reduceLeDiff, Nat.reduceLT, ↓reduceIte, reduceCtorEq, Int.reduceBEq, Int.reduceBNe, Int.reduceLT, Int.reduceLE, Int.reduceToNat, encRv]; first | rfl | exact ⟨rfl, rfl⟩) ?_ ?_
      · exact obl_cons hH obl_nil
      repeat (first | refine aw_seq ?_ | refine aw_block ?_ | with_reducible refine aw_ret ?_ | with_reducible refine aw_skip ?_ | with_reducible refine aw_exit ?_ | refine thn_normal ?_ | refine thn_out ?_ | refine blk_normal ?_ | refine blk_ret ?_ | refine blk_exit ?_ | ((first | refine aw_regO ?_ | refine aw_regDO ?_ | refine aw_condO ?_ | refine fin_retO ?_); (conv => (arg 1; simp (maxSteps := 30000) only [ev0, ev1, ev2, look, lookF, cellsFrom, offT, offP, List.tail_nil, List.length_nil, Int.cast_ofNat_Int, Nat.reduceEqDiff, Nat.reduceAdd, Nat.reduceMul, Nat.reduceLeDiff, Nat.reduceLT, ↓reduceIte, reduceCtorEq, Int.reduceBEq, Int.reduceBNe, Int.reduceLT, Int.reduceLE, Int.reduceToNat, g4])); (first | with_reducible refine on_yes ?_ | with_reducible refine on_no ?_ | with_reducible refine on_reg ?_ | (with_reducible refine on_regD (by decide +kernel) ?_) | with_reducible refine on_fin ?_)))
      exact hnx
    · obtain ⟨rfl, rfl⟩ := hw3 hw
      have g5 : (wrongL c != 0) = true := by simpa using hw
      simp only [b6St, encRv, encCh] at hT ⊢
      repeat (first | refine aw_seq ?_ | refine aw_block ?_ | with_reducible refine aw_ret ?_ | with_reducible refine aw_skip ?_ | with_reducible refine aw_exit ?_ | refine thn_normal ?_ | refine thn_out ?_ | refine blk_normal ?_ | refine blk_ret ?_ | refine blk_exit ?_ | ((first | refine aw_regO ?_ | refine aw_regDO ?_ | refine aw_condO ?_ | refine fin_retO ?_); (conv => (arg 1; simp (maxSteps := 30000) only [ev0, ev1, ev2, look, lookF, cellsFrom, offT, offP, List.tail_nil, List.length_nil, Int.cast_ofNat_Int, Nat.reduceEqDiff, Nat.reduceAdd, Nat.reduceMul, Nat.reduceLeDiff, Nat.reduceLT, ↓reduceIte, reduceCtorEq, Int.reduceBEq, Int.reduceBNe, Int.reduceLT, Int.reduceLE, Int.reduceToNat, g1, g2, g3])); (first | with_reducible refine on_yes ?_ | with_reducible refine on_no ?_ | with_reducible refine on_reg ?_ | (with_reducible refine on_regD (by decide +kernel) ?_) | with_reducible refine on_fin ?_)))
      refine aw_reg [[vI (wrongL c)]] (by simp only [ev0, ev1, ev2, look, lookF, cellsFrom, offT, offP, List.tail_nil, List.length_nil, Int.cast_ofNat_Int, Nat.reduceEqDiff, Nat.reduceAdd, Nat.reduceMul, Nat.reduceLeDiff, Nat.reduceLT, ↓reduceIte, reduceCtorEq, Int.reduceBEq, Int.reduceBNe, Int.reduceLT, Int.reduceLE, Int.reduceToNat, g5]; first | rfl | exact ⟨rfl, rfl⟩) ?_ ?_
      · exact obl_cons hT obl_nil
      repeat (first | refine aw_seq ?_ | refine aw_block ?_ | with_reducible refine aw_ret ?_ | with_reducible refine aw_skip ?_ | with_reducible refine aw_exit ?_ | refine thn_normal ?_ | refine thn_out ?_ | refine blk_normal ?_ | refine blk_ret ?_ | refine blk_exit ?_ | ((first | refine aw_regO ?_ | refine aw_regDO ?_ | refine aw_condO ?_ | refine fin_retO ?_); (conv => (arg 1; simp (maxSteps := 30000) only [ev0, ev1, ev2, look, lookF, cellsFrom, offT, offP, List.tail_nil, List.length_nil, Int.cast_ofNat_Int, Nat.reduceEqDiff, Nat.reduceAdd, Nat.reduceMul, Nat.reduceLeDiff, Nat.reduceLT, ↓reduceIte, reduceCtorEq, Int.reduceBEq, Int.reduceBNe, Int.reduceLT, Int.reduceLE, Int.reduceToNat, g5])); (first | with_reducible refine on_yes ?_ | with_reducible refine on_no ?_ | with_reducible refine on_reg ?_ | (with_reducible refine on_regD (by decide +kernel) ?_) | with_reducible refine on_fin ?_)))
      exact ValsLe.refl _
  · have : k = l.length := by omega
    subst this
    rw [List.take_length] at hb ⊢
    obtain ⟨rfl, rfl⟩ := h1 hb
    have g1 : ¬ (l.length : Int) < (l.length : Int) := by omega
    simp only [b6St, encRv]
    repeat (first | refine aw_seq ?_ | refine aw_block ?_ | with_reducible refine aw_ret ?_ | with_reducible refine aw_skip ?_ | with_reducible refine aw_exit ?_ | refine thn_normal ?_ | refine thn_out ?_ | refine blk_normal ?_ | refine blk_ret ?_ | refine blk_exit ?_ | ((first | refine aw_regO ?_ | refine aw_regDO ?_ | refine aw_condO ?_ | refine fin_retO ?_); (conv => (arg 1; simp (maxSteps := 30000) only [ev0, ev1, ev2, look, lookF, cellsFrom, offT, offP, List.tail_nil, List.length_nil, Int.cast_ofNat_Int, Nat.reduceEqDiff, Nat.reduceAdd, Nat.reduceMul, Nat.reduceLeDiff, Nat.reduceLT, ↓reduceIte, reduceCtorEq, Int.reduceBEq, Int.reduceBNe, Int.reduceLT, Int.reduceLE, Int.reduceToNat, g1])); (first | with_reducible refine on_yes ?_ | with_reducible refine on_no ?_ | with_reducible refine on_reg ?_ | (with_reducible refine on_regD (by decide +kernel) ?_) | with_reducible refine on_fin ?_)))
    exact ValsLe.refl _
theorem build6_told (l : List Ch) (hl : l.length ≤ 9223372036854775807) (he : ∀ c ∈ l, c.early.length ≤ 9223372036854775807) (h : ∀ c ∈ l, wrongL c = 0) : Told Try.prog 17 [sD 6 (encCl l)] [aD (encRv (buildR l)), vB true] :=
  build6_core l hl he (buildR l) true (fun _ => ⟨rfl, rfl⟩) (fun k c hc hw _ => absurd (h c (List.mem_of_getElem? hc)) hw)
theorem build6_not (l : List Ch) (hl : l.length ≤ 9223372036854775807) (he : ∀ c ∈ l, c.early.length ≤ 9223372036854775807) (h : ¬ ∀ c ∈ l, wrongL c = 0) : ∃ r, Told Try.prog 17 [sD 6 (encCl l)] [aD (encRv r), vB false] :=
  ⟨buildR (l.take (l.findIdx fun c => decide (wrongL c ≠ 0))), build6_core l hl he _ false (fun q => absurd q h) (fun k c hc hw hb => by
    rw [findIdx_at (p := fun c => decide (wrongL c ≠ 0)) hc (by simpa using hw) (fun y hy => by simpa using hb y hy)]
    exact ⟨rfl, rfl⟩)⟩
end Go.Proofs.Ytnncmddmjpocfab.ab

/-
  The closed fact that the statements on receivers ask first.
-/
namespace Go.Proofs.Ytnncmddmjpocfab.ab
set_option linter.unusedVariables false
set_option linter.unusedSimpArgs false
open Go Go.RowKit
open mth

def arA : Ch := ⟨1, 1, 1, 1, [98], []⟩
def arB : Ch := ⟨1, 0, 1, 0, [97], []⟩
def ar1 : Rv := ⟨0, [1], 0, 0, 0, [arA], [], true⟩
def ar2 : Rv := ⟨2, [], 0, 2, 0, [], [⟨1, [97]⟩, ⟨1, [98]⟩], true⟩
def ar3 : Rv := ⟨2, [], 0, 2, 0, [], [⟨1, [97]⟩, ⟨1, [98]⟩], false⟩
theorem ar1_eq : hearR zeroR arA = ar1 := rfl
theorem ar2_eq : hearR ar1 arB = ar2 := rfl
theorem ar3_eq : sayR ar2 = (ar3, ⟨2, 2, 0, 0, [], []⟩, true) := rfl
theorem encBar97 : [97].map encB = [vD (.int .u8 97)] := rfl
theorem encBar98 : [98].map encB = [vD (.int .u8 98)] := rfl
set_option maxHeartbeats 4000000 in
theorem alive6_told (hO : COwnR 21) (hS : CSayR 18) (hH : CHearR 22) : Told Try.prog 24 [] [vB true] := by
  refine told_w6_alive rfl ?_
  have g1 : GoodR ar1 := ar1_eq ▸ good_zeroR.hear rfl
  have g2 : GoodR ar2 := ar2_eq ▸ g1.hear rfl
  have h1 := hH zeroR arA good_zeroR rfl
  have h2 := hH ar1 arB g1 rfl
  have h3 := hS ar2 g2
  have h4 := hO ar2 g2
  rw [ar1_eq] at h1
  rw [ar2_eq] at h2
  rw [ar3_eq] at h3
  simp only [zeroR, ar1, ar2, ar3, arA, arB, encRv, encMs, encCh, encBar97, encBar98, encMl, encCl, List.map_cons, List.map_nil] at h1 h2 h3 h4
  repeat (first | refine aw_seq ?_ | refine aw_block ?_ | with_reducible refine aw_ret ?_ | with_reducible refine aw_skip ?_ | with_reducible refine aw_exit ?_ | refine thn_normal ?_ | refine thn_out ?_ | refine blk_normal ?_ | refine blk_ret ?_ | refine blk_exit ?_ | ((first | refine aw_regO ?_ | refine aw_regDO ?_ | refine aw_condO ?_ | refine fin_retO ?_); (conv => (arg 1; simp (maxSteps := 30000) only [ev0, ev1, ev2, look, lookF, cellsFrom, offT, offP, List.tail_nil, List.length_nil, Int.cast_ofNat_Int, Nat.reduceEqDiff, Nat.reduceAdd, Nat.reduceMul, Nat.reduceLeDiff, Nat.reduceLT, ↓reduceIte, reduceCtorEq, Int.reduceBEq, Int.reduceBNe, Int.reduceLT, Int.reduceLE, Int.reduceToNat])); (first | with_reducible refine on_yes ?_ | with_reducible refine on_no ?_ | with_reducible refine on_reg ?_ | (with_reducible refine on_regD (by decide +kernel) ?_) | with_reducible refine on_fin ?_)))
  refine aw_reg [[aD (encRv ar1)]] (by simp only [ev0, ev1, ev2, look, lookF, cellsFrom, offT, offP, List.tail_nil, List.length_nil, Int.cast_ofNat_Int, Nat.reduceEqDiff, Nat.reduceAdd, Nat.reduceMul, Nat.reduceLeDiff, Nat.reduceLT, ↓reduceIte, reduceCtorEq, Int.reduceBEq, Int.reduceBNe, Int.reduceLT, Int.reduceLE, Int.reduceToNat, encRv, ar1, arA, encMl, encMs, encBar97, encBar98, encCl, encCh, List.map_cons, List.map_nil]; first | rfl | exact ⟨rfl, rfl⟩) ?_ ?_
  · refine ⟨⟨_, ?_, h1⟩, trivial⟩
    repeat' (first | exact vals_nil | exact row_nil | exact es_nil | exact CVLe.refl _ | exact LfLe.refl _ | exact LfLe.nil _ | exact EsLe.refl _ | refine vals_cons ?_ ?_ | refine row_cons ?_ ?_ | refine es_cons ?_ ?_ | refine EsLe.app ?_ ?_ | refine CVLe.row ?_ | refine CVLe.leafV ?_ | refine CVLe.leafS ?_ | refine LfLe.s ?_)
  repeat (first | refine aw_seq ?_ | refine aw_block ?_ | with_reducible refine aw_ret ?_ | with_reducible refine aw_skip ?_ | with_reducible refine aw_exit ?_ | refine thn_normal ?_ | refine thn_out ?_ | refine blk_normal ?_ | refine blk_ret ?_ | refine blk_exit ?_ | ((first | refine aw_regO ?_ | refine aw_regDO ?_ | refine aw_condO ?_ | refine fin_retO ?_); (conv => (arg 1; simp (maxSteps := 30000) only [ev0, ev1, ev2, look, lookF, cellsFrom, offT, offP, List.tail_nil, List.length_nil, Int.cast_ofNat_Int, Nat.reduceEqDiff, Nat.reduceAdd, Nat.reduceMul, Nat.reduceLeDiff, Nat.reduceLT, ↓reduceIte, reduceCtorEq, Int.reduceBEq, Int.reduceBNe, Int.reduceLT, Int.reduceLE, Int.reduceToNat])); (first | with_reducible refine on_yes ?_ | with_reducible refine on_no ?_ | with_reducible refine on_reg ?_ | (with_reducible refine on_regD (by decide +kernel) ?_) | with_reducible refine on_fin ?_)))
  refine aw_reg [[aD (encRv ar2)]] (by simp only [ev0, ev1, ev2, look, lookF, cellsFrom, offT, offP, List.tail_nil, List.length_nil, Int.cast_ofNat_Int, Nat.reduceEqDiff, Nat.reduceAdd, Nat.reduceMul, Nat.reduceLeDiff, Nat.reduceLT, ↓reduceIte, reduceCtorEq, Int.reduceBEq, Int.reduceBNe, Int.reduceLT, Int.reduceLE, Int.reduceToNat, encRv, ar2, encMl, encMs, encBar97, encBar98, encCl, encCh, List.map_cons, List.map_nil]; first | rfl | exact ⟨rfl, rfl⟩) ?_ ?_
  · refine ⟨⟨_, ?_, h2⟩, trivial⟩
    repeat' (first | exact vals_nil | exact row_nil | exact es_nil | exact CVLe.refl _ | exact LfLe.refl _ | exact LfLe.nil _ | exact EsLe.refl _ | refine vals_cons ?_ ?_ | refine row_cons ?_ ?_ | refine es_cons ?_ ?_ | refine EsLe.app ?_ ?_ | refine CVLe.row ?_ | refine CVLe.leafV ?_ | refine CVLe.leafS ?_ | refine LfLe.s ?_)
  repeat (first | refine aw_seq ?_ | refine aw_block ?_ | with_reducible refine aw_ret ?_ | with_reducible refine aw_skip ?_ | with_reducible refine aw_exit ?_ | refine thn_normal ?_ | refine thn_out ?_ | refine blk_normal ?_ | refine blk_ret ?_ | refine blk_exit ?_ | ((first | refine aw_regO ?_ | refine aw_regDO ?_ | refine aw_condO ?_ | refine fin_retO ?_); (conv => (arg 1; simp (maxSteps := 30000) only [ev0, ev1, ev2, look, lookF, cellsFrom, offT, offP, List.tail_nil, List.length_nil, Int.cast_ofNat_Int, Nat.reduceEqDiff, Nat.reduceAdd, Nat.reduceMul, Nat.reduceLeDiff, Nat.reduceLT, ↓reduceIte, reduceCtorEq, Int.reduceBEq, Int.reduceBNe, Int.reduceLT, Int.reduceLE, Int.reduceToNat])); (first | with_reducible refine on_yes ?_ | with_reducible refine on_no ?_ | with_reducible refine on_reg ?_ | (with_reducible refine on_regD (by decide +kernel) ?_) | with_reducible refine on_fin ?_)))
  refine aw_reg [[aD (encRv ar3), aD (encCh ⟨2, 2, 0, 0, [], []⟩), vB true]] (by simp only [ev0, ev1, ev2, look, lookF, cellsFrom, offT, offP, List.tail_nil, List.length_nil, Int.cast_ofNat_Int, Nat.reduceEqDiff, Nat.reduceAdd, Nat.reduceMul, Nat.reduceLeDiff, Nat.reduceLT, ↓reduceIte, reduceCtorEq, Int.reduceBEq, Int.reduceBNe, Int.reduceLT, Int.reduceLE, Int.reduceToNat, encRv, ar3, encMl, encMs, encBar97, encBar98, encCl, encCh, List.map_cons, List.map_nil]; first | rfl | exact ⟨rfl, rfl⟩) ?_ ?_
  · refine ⟨⟨_, ?_, h3⟩, trivial⟩
    repeat' (first | exact vals_nil | exact row_nil | exact es_nil | exact CVLe.refl _ | exact LfLe.refl _ | exact LfLe.nil _ | exact EsLe.refl _ | refine vals_cons ?_ ?_ | refine row_cons ?_ ?_ | refine es_cons ?_ ?_ | refine EsLe.app ?_ ?_ | refine CVLe.row ?_ | refine CVLe.leafV ?_ | refine CVLe.leafS ?_ | refine LfLe.s ?_)
  repeat (first | refine aw_seq ?_ | refine aw_block ?_ | with_reducible refine aw_ret ?_ | with_reducible refine aw_skip ?_ | with_reducible refine aw_exit ?_ | refine thn_normal ?_ | refine thn_out ?_ | refine blk_normal ?_ | refine blk_ret ?_ | refine blk_exit ?_ | ((first | refine aw_regO ?_ | refine aw_regDO ?_ | refine aw_condO ?_ | refine fin_retO ?_); (conv => (arg 1; simp (maxSteps := 30000) only [ev0, ev1, ev2, look, lookF, cellsFrom, offT, offP, List.tail_nil, List.length_nil, Int.cast_ofNat_Int, Nat.reduceEqDiff, Nat.reduceAdd, Nat.reduceMul, Nat.reduceLeDiff, Nat.reduceLT, ↓reduceIte, reduceCtorEq, Int.reduceBEq, Int.reduceBNe, Int.reduceLT, Int.reduceLE, Int.reduceToNat, Bool.not_false, List.length_cons, List.length_nil])); (first | with_reducible refine on_yes ?_ | with_reducible refine on_no ?_ | with_reducible refine on_reg ?_ | (with_reducible refine on_regD (by decide +kernel) ?_) | with_reducible refine on_fin ?_)))
  refine aw_reg [[aD (encRv ar2)]] (by simp only [ev0, ev1, ev2, look, lookF, cellsFrom, offT, offP, List.tail_nil, List.length_nil, Int.cast_ofNat_Int, Nat.reduceEqDiff, Nat.reduceAdd, Nat.reduceMul, Nat.reduceLeDiff, Nat.reduceLT, ↓reduceIte, reduceCtorEq, Int.reduceBEq, Int.reduceBNe, Int.reduceLT, Int.reduceLE, Int.reduceToNat, encRv, ar2, encMl, encMs, encBar97, encBar98, encCl, Bool.not_false, List.length_cons, List.length_nil]; first | rfl | exact ⟨rfl, rfl⟩) ?_ ?_
  · refine ⟨⟨_, ?_, h4⟩, trivial⟩
    repeat' (first | exact vals_nil | exact row_nil | exact es_nil | exact CVLe.refl _ | exact LfLe.refl _ | exact LfLe.nil _ | exact EsLe.refl _ | refine vals_cons ?_ ?_ | refine row_cons ?_ ?_ | refine es_cons ?_ ?_ | refine EsLe.app ?_ ?_ | refine CVLe.row ?_ | refine CVLe.leafV ?_ | refine CVLe.leafS ?_ | refine LfLe.s ?_)
  repeat (first | refine aw_seq ?_ | refine aw_block ?_ | with_reducible refine aw_ret ?_ | with_reducible refine aw_skip ?_ | with_reducible refine aw_exit ?_ | refine thn_normal ?_ | refine thn_out ?_ | refine blk_normal ?_ | refine blk_ret ?_ | refine blk_exit ?_ | ((first | refine aw_regO ?_ | refine aw_regDO ?_ | refine aw_condO ?_ | refine fin_retO ?_); (conv => (arg 1; simp (maxSteps := 30000) only [ev0, ev1, ev2, look, lookF, cellsFrom, offT, offP, List.tail_nil, List.length_nil, Int.cast_ofNat_Int, Nat.reduceEqDiff, Nat.reduceAdd, Nat.reduceMul, Nat.reduceLeDiff, Nat.reduceLT, ↓reduceIte, reduceCtorEq, Int.reduceBEq, Int.reduceBNe, Int.reduceLT, Int.reduceLE, Int.reduceToNat])); (first | with_reducible refine on_yes ?_ | with_reducible refine on_no ?_ | with_reducible refine on_reg ?_ | (with_reducible refine on_regD (by decide +kernel) ?_) | with_reducible refine on_fin ?_)))
  exact ValsLe.refl _
end Go.Proofs.Ytnncmddmjpocfab.ab

/-
  Plain mathematics for receivers: twice is once. Nothing of the program.
-/
namespace Go.Proofs.Ytnncmddmjpocfab.mth
set_option linter.unusedSimpArgs false
set_option linter.unusedVariables false
theorem take_seen {r : Rv} (h : GoodR r) {c : Ch} (hn : 0 ≤ c.number ∧ c.number < 40) (hs : seenR r c.number = false) : seenR (takeR r c) c.number = true := by
  obtain ⟨t1, t2, t3, t4, t5⟩ := take_numbers h hn hs
  show ((earlyR (c.number :: r.early) (climb 41 (c.number :: r.early) r.next)).contains c.number || (decide (c.number < climb 41 (c.number :: r.early) r.next) || _)) = true
  by_cases q : c.number < climb 41 (c.number :: r.early) r.next
  · rw [decide_eq_true q, Bool.true_or, Bool.or_true]
  · rw [earlyR_has (by omega) hn.2, List.contains_cons, beq_self_eq_true]; rfl
theorem hear_twice {r : Rv} (h : GoodR r) {c : Ch} (hc : wrongL c = 0) : hearR (hearR r c) c = hearR r c := by
  by_cases hk : c.kind = 1
  · have hw := wrong_one hk hc
    have e : ∀ x, hearR x c = if seenR x c.number = true then { x with owes := true } else takeR x c := fun x => by unfold hearR; rw [if_pos hk]
    rw [e r]
    cases hs : seenR r c.number with
    | true =>
      rw [if_pos rfl, e, if_pos (by exact hs)]
    | false =>
      rw [if_neg (by simp), e, if_pos (take_seen h hw.1 hs)]
      rfl
  · unfold hearR
    rw [if_neg hk, if_neg hk]
end Go.Proofs.Ytnncmddmjpocfab.mth

/-
  Functions as plain code (written by wip/abs/ir.py): lklaw6.RecvTwice.
-/
namespace Go.Proofs.Ytnncmddmjpocfab.ab
set_option linter.unusedSimpArgs false
set_option linter.unusedVariables false
set_option maxRecDepth 100000
open Go Go.RowKit

def w6_RecvTwice_r0 : IC := cReg Try.prog [
    ⟨some 3, none, iBox 3 (.tmp 1)⟩,
    ⟨some 4, none, iMov 4 (.const (.bool false)) true⟩] [0, 3] [3]
def w6_RecvTwice_r1 : IC := cReg Try.prog [
    ⟨some 8, none, iCall 8 24 []⟩,
    ⟨some 9, none, iNot 9 (.tmp 8)⟩] [0, 3, 9] [3]
def w6_RecvTwice_r2 : IC := cReg Try.prog [
    ⟨some 4, none, iMov 4 (.const (.bool false)) true⟩] [4] []
def w6_RecvTwice_c1a : IC := (cSeq w6_RecvTwice_r2 cRet)
def w6_RecvTwice_c1 : IC := cCond (.tmp 9) w6_RecvTwice_c1a cSkip
def w6_RecvTwice_r3 : IC := cReg Try.prog [
    ⟨some 11, none, iMov 11 (.tmp 0) false⟩,
    ⟨some 12, none, iCall 12 17 [(.tmp 11)]⟩,
    ⟨some 10, none, iMov 10 (.tmp 12) false⟩,
    ⟨some 13, none, iExt 13 (.tmp 10) 0⟩,
    ⟨some 14, none, iExt 14 (.tmp 10) 1⟩,
    ⟨some 5, none, iAlo 5 [vD (.int .i64 0), vD (.slice none 0 0), vD (.int .i64 0), vD (.int .i64 0), vD (.int .i64 0), vD (.slice none 0 0), vD (.slice none 0 0), vD (.bool false)]⟩,
    ⟨none, none, iStor 8 (.tmp 5) (.tmp 13)⟩,
    ⟨some 6, none, iMov 6 (.tmp 14) true⟩] [3, 5, 6] [3, 5]
def w6_RecvTwice_r4 : IC := cReg Try.prog [
    ⟨some 15, none, iMov 15 (.tmp 6) false⟩,
    ⟨some 16, none, iNot 16 (.tmp 15)⟩,
    ⟨some 17, none, iMov 17 (.tmp 16) false⟩,
    ⟨some 18, some (17, false), iLoad 18 6 true (.tmp 3) false⟩,
    ⟨some 19, some (17, false), iCall 19 16 [(.tmp 18)]⟩,
    ⟨some 20, some (17, false), iBin 20 .neq (.tmp 19) (.const (.int .i64 0))⟩,
    ⟨some 21, none, iPick 21 (.tmp 17) (.const (.bool true)) (.tmp 20)⟩] [3, 5, 21] [3, 5]
def w6_RecvTwice_r5 : IC := cReg Try.prog [
    ⟨some 4, none, iMov 4 (.const (.bool true)) true⟩] [4] []
def w6_RecvTwice_c2a : IC := (cSeq w6_RecvTwice_r5 cRet)
def w6_RecvTwice_c2 : IC := cCond (.tmp 21) w6_RecvTwice_c2a cSkip
def w6_RecvTwice_r6 : IC := cReg Try.prog [
    ⟨some 22, none, iLoad 22 8 true (.tmp 5) false⟩,
    ⟨some 23, none, iLoad 23 6 true (.tmp 3) false⟩,
    ⟨some 24, none, iCall 24 22 [(.tmp 22), (.tmp 23)]⟩,
    ⟨some 7, none, iAlo 7 [vD (.int .i64 0), vD (.slice none 0 0), vD (.int .i64 0), vD (.int .i64 0), vD (.int .i64 0), vD (.slice none 0 0), vD (.slice none 0 0), vD (.bool false)]⟩,
    ⟨none, none, iStor 8 (.tmp 7) (.tmp 24)⟩] [3, 7] [3, 7]
def w6_RecvTwice_r7 : IC := cRegD Try.prog [
    ⟨some 25, none, iLoad 25 8 true (.tmp 7) false⟩,
    ⟨some 26, none, iLoad 26 6 true (.tmp 3) false⟩,
    ⟨some 27, none, iCall 27 22 [(.tmp 25), (.tmp 26)]⟩,
    ⟨some 28, none, iLoad 28 8 true (.tmp 7) false⟩,
    ⟨some 29, none, iCall 29 20 [(.tmp 27), (.tmp 28)]⟩,
    ⟨some 4, none, iMov 4 (.tmp 29) true⟩] [[], [], [0, 1], [], [2, 3, 0, 1], [4, 0, 1, 2, 3]] [4] []
def w6_RecvTwice : IC := (cSeq w6_RecvTwice_r0 (cSeq (cSeq w6_RecvTwice_r1 w6_RecvTwice_c1) (cSeq w6_RecvTwice_r3 (cSeq (cSeq w6_RecvTwice_r4 w6_RecvTwice_c2) (cSeq w6_RecvTwice_r6 (cSeq w6_RecvTwice_r7 cRet))))))
theorem told_w6_RecvTwice {args r : List D} (hl : args.length = 2) (h : w6_RecvTwice (start args) (fin [(4, none)] r)) : Told Try.prog 6 args r :=
  told_of follows Try.func6 rfl (an := [([], [0, 3], [3], []), ([], [0, 3, 9], [3], []), ([], [4], [], []), ([], [3, 5, 6], [3, 5], []), ([], [3, 5, 21], [3, 5], []), ([], [4], [], []), ([], [3, 7], [3, 7], []), ([], [4], [], [])]) (by kernel_rfl) (by kernel_rfl) (by rw [hl]; decide +kernel) h

end Go.Proofs.Ytnncmddmjpocfab.ab
