/-
  What the statement ViewTells tells, out of what the functions of package view tell.
-/
import Derived.Test.YtngfedhffehkaacM44
import Derived.Test.YtngfedhffehkaacM44
import Derived.Test.YtngfedhffehkaacM44
import Derived.Test.YtngfedhffehkaacM44
namespace Go.Proofs.Ytngfedhffehkaac.ab
set_option linter.unusedVariables false
set_option linter.unusedSimpArgs false
open Go Go.RowKit
open mth

set_option maxHeartbeats 8000000 in
theorem viewTells_not (n : Int) (hn : n < 1 ∨ 3 < n) (l : List Sp) (t : Int) : Told Try.prog 5 [vI n, sD 7 (encSl l), vI t] [vB true] := by
  refine told_w10_ViewTells rfl ?_
  by_cases n1 : n < 1
  · refine wk @n1 ?_
    exact ValsLe.refl _
  have n2 : 3 < n := by omega
  refine wk (an2 @n1 @n2) ?_
  exact ValsLe.refl _
theorem only_mine {l : List Sp} {i : Nat} {s : Sp} {t : Int} (hs : l[i]? = some s) (hm : mineB t s = true) : (onlyW l t)[(onlyW (l.take i) t).length]? = some s ∧ (onlyW (l.take (i + 1)) t).length = (onlyW (l.take i) t).length + 1 := by
  obtain ⟨hi, he⟩ := List.getElem?_eq_some_iff.1 hs
  have e : onlyW (l.take (i + 1)) t = onlyW (l.take i) t ++ [s] := by
    unfold onlyW
    rw [List.take_add_one, hs, Option.toList_some, List.filter_append, List.filter_cons_of_pos hm]
    rfl
  refine ⟨?_, by rw [e]; simp⟩
  have hd : onlyW l t = onlyW (l.take i) t ++ s :: onlyW (l.drop (i + 1)) t := by
    unfold onlyW
    rw [← List.filter_cons_of_pos hm, ← List.filter_append]
    congr 1
    rw [← he, ← List.drop_eq_getElem_cons hi, List.take_append_drop]
  rw [hd, List.getElem?_append_right (Nat.le_refl _), Nat.sub_self]
  rfl
theorem only_skip {l : List Sp} {i : Nat} {s : Sp} {t : Int} (hs : l[i]? = some s) (hm : mineB t s = false) : (onlyW (l.take (i + 1)) t).length = (onlyW (l.take i) t).length := by
  unfold onlyW
  rw [List.take_add_one, hs, Option.toList_some, List.filter_append, List.filter_cons_of_neg (by rw [hm]; simp)]
  simp
def vtSt (l : List Sp) (es : List Int) (t : Int) (i : Nat) : St :=
  ⟨[(1, sD 7 (encSl l)), (2, vI t), (8, sD 1 (es.map vI)), (11, vI (onlyW (l.take i) t).length), (12, sD 7 (encSl (onlyW l t))), (58, sD 7 (encSl l)), (59, vI l.length), (60, vI i)], [], []⟩
def vtJ (l : List Sp) (es : List Int) (t : Int) : Nat → St → Prop := fun m st => ∃ i : Nat, i ≤ l.length ∧ m = l.length - i ∧ st = vtSt l es t i
set_option maxHeartbeats 16000000 in
/-- Once the tenant's lane is looked at. -/
theorem vt_loop (l : List Sp) (es : List Int) (t : Int) (hl : l.length ≤ 1048576) (Q : AX → St → Prop)
    (hQ : Q none ⟨[(1, sD 7 (encSl l)), (2, vI t), (8, sD 1 (es.map vI)), (11, vI (onlyW l t).length), (12, sD 7 (encSl (onlyW l t))), (58, sD 7 (encSl l)), (59, vI l.length), (60, vI l.length), (61, vB false)], [], []⟩) :
    cLoop w10_ViewTells_l4a (vtSt l es t 0) (blk 0 Q) := by
  refine aw_loop (vtJ l es t) l.length _ (Le.refl _) ⟨0, by omega, by omega, rfl⟩ ?_
  rintro m st ⟨i, hi, hm, rfl⟩
  by_cases hlt : i < l.length
  · obtain ⟨s, hs⟩ : ∃ s, l[i]? = some s := ⟨l[i], List.getElem?_eq_getElem hlt⟩
    have g1 : (i : Int) < (l.length : Int) := by omega
    have g2 : (0 : Int) ≤ (i : Int) := by omega
    have g3 := at_sl hs
    have g4 : inR .i64 ((i : Int) + 1) = true := inR_of (by omega)
    have hnx : Next (vtJ l es t) m (vtSt l es t (i + 1)) := ⟨l.length - (i + 1), _, by omega, Le.refl _, i + 1, by omega, rfl, rfl⟩
    cases hb : mineB t s with
    | false =>
      have hsk := only_skip hs hb
      unfold mineB at hb
      simp only [Bool.or_eq_false_iff] at hb
      have q1 : (s.kind != 1) = true := by rw [bne, hb.1]; rfl
      have q2 : (s.tenant != t) = true := by rw [bne, hb.2]; rfl
      unfold vtSt at hnx ⊢
      rw [hsk] at hnx
      generalize vtJ l es t = J at *
      generalize (onlyW (l.take i) t).length = K at *
      generalize onlyW l t = O at *
      simp only [Int.natCast_add, Int.cast_ofNat_Int] at hnx
      refine wk (an7 @g1 @g2 @g3 @q1 @q2 @len_sl @Int.toNat_natCast) ?_
      refine wk @g4 ?_
      exact hnx
    | true =>
      obtain ⟨hk, hk2⟩ := only_mine hs hb
      have g5 := at_sl hk
      have hkl := (List.getElem?_eq_some_iff.1 hk).1
      have hol := only_len l t
      unfold vtSt at hnx ⊢
      rw [hk2] at hnx
      generalize (onlyW (l.take i) t).length = K at *
      have g6 : ¬ ((onlyW l t).length : Int) ≤ (K : Int) := by omega
      have g7 : (K : Int) < ((onlyW l t).length : Int) := by omega
      have g8 : (0 : Int) ≤ (K : Int) := by omega
      have g9 : inR .i64 ((K : Int) + 1) = true := inR_of (by omega)
      have s1 := sameMsg_told s.msg s.msg
      rw [show sameM s.msg s.msg = true by rw [sameM_iff]] at s1
      generalize vtJ l es t = J at *
      generalize onlyW l t = O at *
      simp only [encMs, Int.natCast_add, Int.cast_ofNat_Int] at s1 hnx ⊢
      by_cases h1 : s.kind = 1
      · have q1 : (s.kind != 1) = false := by simpa using h1
        repeat (first | refine aw_seq ?_ | refine aw_block ?_ | with_reducible refine aw_ret ?_ | with_reducible refine aw_skip ?_ | with_reducible refine aw_exit ?_ | refine thn_normal ?_ | refine thn_out ?_ | refine blk_normal ?_ | refine blk_ret ?_ | refine blk_exit ?_ | ((first | refine aw_regO ?_ | refine aw_condO ?_ | refine fin_retO ?_); (conv => (arg 1; simp (maxSteps := 30000) only [ev0, ev1, ev2, look, lookF, cellsFrom, offT, offP, List.tail_nil, List.length_nil, Int.cast_ofNat_Int, Nat.reduceEqDiff, Nat.reduceAdd, Nat.reduceMul, Nat.reduceLeDiff, Nat.reduceLT, ↓reduceIte, reduceCtorEq, Int.reduceBEq, Int.reduceBNe, Int.reduceLT, Int.reduceLE, Int.reduceToNat, g1, g2, g3, q1, len_sl, Int.toNat_natCast])); (first | with_reducible refine on_yes ?_ | with_reducible refine on_no ?_ | with_reducible refine on_reg ?_ | (with_reducible refine on_regD (by decide +kernel) ?_) | with_reducible refine on_fin ?_)))
        refine aw_oneC [[vB true]] ?_; (repeat (refine goC_op ?_; (conv => (arg 1; simp only [ev0, ev1, ev2, look, lookF, cellsFrom, offT, offP, List.tail_nil, List.length_nil, Int.cast_ofNat_Int, Nat.reduceEqDiff, Nat.reduceAdd, Nat.reduceMul, Nat.reduceLeDiff, Nat.reduceLT, ↓reduceIte, reduceCtorEq, Int.reduceBEq, Int.reduceBNe, Int.reduceLT, Int.reduceLE, Int.reduceToNat, List.headD_cons, List.headD_nil, List.tail_cons, g5, g6, g7, g8, len_sl, Int.toNat_natCast, bne_self_eq_false])); with_reducible refine on_s ?_; (conv => (arg 1; simp only [ev0, ev1, ev2, look, lookF, cellsFrom, offT, offP, List.tail_nil, List.length_nil, Int.cast_ofNat_Int, Nat.reduceEqDiff, Nat.reduceAdd, Nat.reduceMul, Nat.reduceLeDiff, Nat.reduceLT, ↓reduceIte, reduceCtorEq, Int.reduceBEq, Int.reduceBNe, Int.reduceLT, Int.reduceLE, Int.reduceToNat])); (conv => (arg 2; simp only [ev0, ev1, ev2, look, lookF, cellsFrom, offT, offP, List.tail_nil, List.length_nil, Int.cast_ofNat_Int, Nat.reduceEqDiff, Nat.reduceAdd, Nat.reduceMul, Nat.reduceLeDiff, Nat.reduceLT, ↓reduceIte, reduceCtorEq, Int.reduceBEq, Int.reduceBNe, Int.reduceLT, Int.reduceLE, Int.reduceToNat])); with_reducible refine on_e ?_))
        refine goC_call ?_; (conv => (arg 1; simp only [ev0, ev1, ev2, look, lookF, cellsFrom, offT, offP, List.tail_nil, List.length_nil, Int.cast_ofNat_Int, Nat.reduceEqDiff, Nat.reduceAdd, Nat.reduceMul, Nat.reduceLeDiff, Nat.reduceLT, ↓reduceIte, reduceCtorEq, Int.reduceBEq, Int.reduceBNe, Int.reduceLT, Int.reduceLE, Int.reduceToNat, List.headD_cons, List.headD_nil, List.tail_cons, g5, g6, g7, g8, len_sl, Int.toNat_natCast, bne_self_eq_false])); with_reducible refine on_c ⟨?_, ?_⟩
        · exact obl_cons s1 obl_nil
        (conv => (arg 1; simp only [ev0, ev1, ev2, look, lookF, cellsFrom, offT, offP, List.tail_nil, List.length_nil, Int.cast_ofNat_Int, Nat.reduceEqDiff, Nat.reduceAdd, Nat.reduceMul, Nat.reduceLeDiff, Nat.reduceLT, ↓reduceIte, reduceCtorEq, Int.reduceBEq, Int.reduceBNe, Int.reduceLT, Int.reduceLE, Int.reduceToNat])); (conv => (arg 2; simp only [ev0, ev1, ev2, look, lookF, cellsFrom, offT, offP, List.tail_nil, List.length_nil, Int.cast_ofNat_Int, Nat.reduceEqDiff, Nat.reduceAdd, Nat.reduceMul, Nat.reduceLeDiff, Nat.reduceLT, ↓reduceIte, reduceCtorEq, Int.reduceBEq, Int.reduceBNe, Int.reduceLT, Int.reduceLE, Int.reduceToNat])); with_reducible refine on_e ?_; (repeat (refine goC_op ?_; (conv => (arg 1; simp only [ev0, ev1, ev2, look, lookF, cellsFrom, offT, offP, List.tail_nil, List.length_nil, Int.cast_ofNat_Int, Nat.reduceEqDiff, Nat.reduceAdd, Nat.reduceMul, Nat.reduceLeDiff, Nat.reduceLT, ↓reduceIte, reduceCtorEq, Int.reduceBEq, Int.reduceBNe, Int.reduceLT, Int.reduceLE, Int.reduceToNat, List.headD_cons, List.headD_nil, List.tail_cons, Bool.not_true])); with_reducible refine on_s ?_; (conv => (arg 1; simp only [ev0, ev1, ev2, look, lookF, cellsFrom, offT, offP, List.tail_nil, List.length_nil, Int.cast_ofNat_Int, Nat.reduceEqDiff, Nat.reduceAdd, Nat.reduceMul, Nat.reduceLeDiff, Nat.reduceLT, ↓reduceIte, reduceCtorEq, Int.reduceBEq, Int.reduceBNe, Int.reduceLT, Int.reduceLE, Int.reduceToNat])); (conv => (arg 2; simp only [ev0, ev1, ev2, look, lookF, cellsFrom, offT, offP, List.tail_nil, List.length_nil, Int.cast_ofNat_Int, Nat.reduceEqDiff, Nat.reduceAdd, Nat.reduceMul, Nat.reduceLeDiff, Nat.reduceLT, ↓reduceIte, reduceCtorEq, Int.reduceBEq, Int.reduceBNe, Int.reduceLT, Int.reduceLE, Int.reduceToNat])); with_reducible refine on_e ?_)); refine goC_end (by decide +kernel) ?_; (conv => (arg 1; simp only [ev0, ev1, ev2, look, lookF, cellsFrom, offT, offP, List.tail_nil, List.length_nil, Int.cast_ofNat_Int, Nat.reduceEqDiff, Nat.reduceAdd, Nat.reduceMul, Nat.reduceLeDiff, Nat.reduceLT, ↓reduceIte, reduceCtorEq, Int.reduceBEq, Int.reduceBNe, Int.reduceLT, Int.reduceLE, Int.reduceToNat])); with_reducible refine on_k ?_
        refine wk (an2 @g9 @g4) ?_
        exact hnx
      · have q1 : (s.kind != 1) = true := by simpa using h1
        have q2 : (s.tenant != t) = false := by
          unfold mineB at hb
          have : (s.kind == 1) = false := by simpa using h1
          rw [this, Bool.false_or] at hb
          simpa using hb
        repeat (first | refine aw_seq ?_ | refine aw_block ?_ | with_reducible refine aw_ret ?_ | with_reducible refine aw_skip ?_ | with_reducible refine aw_exit ?_ | refine thn_normal ?_ | refine thn_out ?_ | refine blk_normal ?_ | refine blk_ret ?_ | refine blk_exit ?_ | ((first | refine aw_regO ?_ | refine aw_condO ?_ | refine fin_retO ?_); (conv => (arg 1; simp (maxSteps := 30000) only [ev0, ev1, ev2, look, lookF, cellsFrom, offT, offP, List.tail_nil, List.length_nil, Int.cast_ofNat_Int, Nat.reduceEqDiff, Nat.reduceAdd, Nat.reduceMul, Nat.reduceLeDiff, Nat.reduceLT, ↓reduceIte, reduceCtorEq, Int.reduceBEq, Int.reduceBNe, Int.reduceLT, Int.reduceLE, Int.reduceToNat, g1, g2, g3, q1, q2, len_sl, Int.toNat_natCast])); (first | with_reducible refine on_yes ?_ | with_reducible refine on_no ?_ | with_reducible refine on_reg ?_ | (with_reducible refine on_regD (by decide +kernel) ?_) | with_reducible refine on_fin ?_)))
        refine aw_oneC [[vB true]] ?_; (repeat (refine goC_op ?_; (conv => (arg 1; simp only [ev0, ev1, ev2, look, lookF, cellsFrom, offT, offP, List.tail_nil, List.length_nil, Int.cast_ofNat_Int, Nat.reduceEqDiff, Nat.reduceAdd, Nat.reduceMul, Nat.reduceLeDiff, Nat.reduceLT, ↓reduceIte, reduceCtorEq, Int.reduceBEq, Int.reduceBNe, Int.reduceLT, Int.reduceLE, Int.reduceToNat, List.headD_cons, List.headD_nil, List.tail_cons, g5, g6, g7, g8, len_sl, Int.toNat_natCast, bne_self_eq_false])); with_reducible refine on_s ?_; (conv => (arg 1; simp only [ev0, ev1, ev2, look, lookF, cellsFrom, offT, offP, List.tail_nil, List.length_nil, Int.cast_ofNat_Int, Nat.reduceEqDiff, Nat.reduceAdd, Nat.reduceMul, Nat.reduceLeDiff, Nat.reduceLT, ↓reduceIte, reduceCtorEq, Int.reduceBEq, Int.reduceBNe, Int.reduceLT, Int.reduceLE, Int.reduceToNat])); (conv => (arg 2; simp only [ev0, ev1, ev2, look, lookF, cellsFrom, offT, offP, List.tail_nil, List.length_nil, Int.cast_ofNat_Int, Nat.reduceEqDiff, Nat.reduceAdd, Nat.reduceMul, Nat.reduceLeDiff, Nat.reduceLT, ↓reduceIte, reduceCtorEq, Int.reduceBEq, Int.reduceBNe, Int.reduceLT, Int.reduceLE, Int.reduceToNat])); with_reducible refine on_e ?_))
        refine goC_call ?_; (conv => (arg 1; simp only [ev0, ev1, ev2, look, lookF, cellsFrom, offT, offP, List.tail_nil, List.length_nil, Int.cast_ofNat_Int, Nat.reduceEqDiff, Nat.reduceAdd, Nat.reduceMul, Nat.reduceLeDiff, Nat.reduceLT, ↓reduceIte, reduceCtorEq, Int.reduceBEq, Int.reduceBNe, Int.reduceLT, Int.reduceLE, Int.reduceToNat, List.headD_cons, List.headD_nil, List.tail_cons, g5, g6, g7, g8, len_sl, Int.toNat_natCast, bne_self_eq_false])); with_reducible refine on_c ⟨?_, ?_⟩
        · exact obl_cons s1 obl_nil
        (conv => (arg 1; simp only [ev0, ev1, ev2, look, lookF, cellsFrom, offT, offP, List.tail_nil, List.length_nil, Int.cast_ofNat_Int, Nat.reduceEqDiff, Nat.reduceAdd, Nat.reduceMul, Nat.reduceLeDiff, Nat.reduceLT, ↓reduceIte, reduceCtorEq, Int.reduceBEq, Int.reduceBNe, Int.reduceLT, Int.reduceLE, Int.reduceToNat])); (conv => (arg 2; simp only [ev0, ev1, ev2, look, lookF, cellsFrom, offT, offP, List.tail_nil, List.length_nil, Int.cast_ofNat_Int, Nat.reduceEqDiff, Nat.reduceAdd, Nat.reduceMul, Nat.reduceLeDiff, Nat.reduceLT, ↓reduceIte, reduceCtorEq, Int.reduceBEq, Int.reduceBNe, Int.reduceLT, Int.reduceLE, Int.reduceToNat])); with_reducible refine on_e ?_; (repeat (refine goC_op ?_; (conv => (arg 1; simp only [ev0, ev1, ev2, look, lookF, cellsFrom, offT, offP, List.tail_nil, List.length_nil, Int.cast_ofNat_Int, Nat.reduceEqDiff, Nat.reduceAdd, Nat.reduceMul, Nat.reduceLeDiff, Nat.reduceLT, ↓reduceIte, reduceCtorEq, Int.reduceBEq, Int.reduceBNe, Int.reduceLT, Int.reduceLE, Int.reduceToNat, List.headD_cons, List.headD_nil, List.tail_cons, Bool.not_true])); with_reducible refine on_s ?_; (conv => (arg 1; simp only [ev0, ev1, ev2, look, lookF, cellsFrom, offT, offP, List.tail_nil, List.length_nil, Int.cast_ofNat_Int, Nat.reduceEqDiff, Nat.reduceAdd, Nat.reduceMul, Nat.reduceLeDiff, Nat.reduceLT, ↓reduceIte, reduceCtorEq, Int.reduceBEq, Int.reduceBNe, Int.reduceLT, Int.reduceLE, Int.reduceToNat])); (conv => (arg 2; simp only [ev0, ev1, ev2, look, lookF, cellsFrom, offT, offP, List.tail_nil, List.length_nil, Int.cast_ofNat_Int, Nat.reduceEqDiff, Nat.reduceAdd, Nat.reduceMul, Nat.reduceLeDiff, Nat.reduceLT, ↓reduceIte, reduceCtorEq, Int.reduceBEq, Int.reduceBNe, Int.reduceLT, Int.reduceLE, Int.reduceToNat])); with_reducible refine on_e ?_)); refine goC_end (by decide +kernel) ?_; (conv => (arg 1; simp only [ev0, ev1, ev2, look, lookF, cellsFrom, offT, offP, List.tail_nil, List.length_nil, Int.cast_ofNat_Int, Nat.reduceEqDiff, Nat.reduceAdd, Nat.reduceMul, Nat.reduceLeDiff, Nat.reduceLT, ↓reduceIte, reduceCtorEq, Int.reduceBEq, Int.reduceBNe, Int.reduceLT, Int.reduceLE, Int.reduceToNat])); with_reducible refine on_k ?_
        refine wk (an2 @g9 @g4) ?_
        exact hnx
  · have hin : i = l.length := by omega
    subst hin
    have g1 : ¬ (l.length : Int) < (l.length : Int) := by omega
    generalize vtJ l es t = J at *
    simp only [vtSt, List.take_length]
    refine wk @g1 ?_
    exact hQ
set_option maxHeartbeats 16000000 in
theorem viewTells_in (hS : CSpoilR 34) (hO : CVOf 13) (hL : CVOnly 14) (hP : CVPuts 17) (n : Nat) (hn : 1 ≤ n ∧ n ≤ 3) (l : List Sp) (hl : l.length ≤ 1048576) (hd : SmallD l) (t : Nat) (ht : t < n) : Told Try.prog 5 [vI n, sD 7 (encSl l), vI t] [vB true] := by
  refine told_w10_ViewTells rfl ?_
  have p1 := play_told hS n hn l (by omega)
  obtain ⟨hw, _, hel⟩ := good_run (good_new hn) l 160
  have hwn : (runW (newW n) (l.take 160)).1.lanes.length = n := by rw [lenW_run]; simp [newW]
  generalize (runW (newW n) (l.take 160)).2 = es at *
  generalize (runW (newW n) (l.take 160)).1 = w at *
  have o1 := hO w t hw
  rw [of_in (by omega)] at o1
  obtain ⟨a, ha⟩ : ∃ a, w.lanes[t]? = some a := ⟨_, List.getElem?_eq_getElem (by omega)⟩
  have ea : w.lanes.getD t zeroL = a := by rw [List.getD_eq_getElem?_getD, ha]; rfl
  rw [ea] at o1
  have g5 := at_ll ha
  have s1 := sameLn_good (hw.l a (List.mem_of_getElem? ha))
  have hL' := hL l t hl hd
  have p2 := hP l es t hl hd (by omega)
  have p3 := puts_told l es t (by omega) (by omega)
  have p4 := sameMsgs_told (putsW l es t) (putsW l es t) (by
    have := putsK_len l es t l.length
    rw [putsK_all] at this
    omega)
  rw [show sameL (putsW l es t) (putsW l es t) = true by rw [sameL_iff]] at p4
  have n1 : ¬ (n : Int) < 1 := by omega
  have n2 : ¬ 3 < (n : Int) := by omega
  have n3 : (0 : Int) ≤ (t : Int) := by omega
  have n4 : (t : Int) < (n : Int) := by omega
  have n5 : (t : Int) < (w.lanes.length : Int) := by omega
  have hvt := fun Q => vt_loop l es t hl Q
  have z1 : (((onlyW l t).length : Int) == ((onlyW l t).length : Int)) = true := beq_self_eq_true _
  have e0 : onlyW (l.take 0) t = [] := rfl
  simp only [vtSt, e0, List.length_nil] at hvt
  generalize putsW l es t = P at *
  generalize onlyW l t = O at *
  simp only [encWd, encLn] at p1 o1 s1 g5 ⊢
  refine wk (an2 @n1 @n2) ?_
  refine cg [[aD (encWd w), sD 1 (es.map vI)]] @encWd.eq_1 ?_ ?_
  · exact obl_cons p1 obl_nil
  refine wk0 ?_
  refine cg [[aD (encLn a), vB true]] @encLn.eq_1 ?_ ?_
  · exact obl_cons o1 obl_nil
  repeat (first | refine aw_seq ?_ | refine aw_block ?_ | with_reducible refine aw_ret ?_ | with_reducible refine aw_skip ?_ | with_reducible refine aw_exit ?_ | refine thn_normal ?_ | refine thn_out ?_ | refine blk_normal ?_ | refine blk_ret ?_ | refine blk_exit ?_ | ((first | refine aw_regO ?_ | refine aw_condO ?_ | refine fin_retO ?_); (conv => (arg 1; simp (maxSteps := 30000) only [ev0, ev1, ev2, look, lookF, cellsFrom, offT, offP, List.tail_nil, List.length_nil, Int.cast_ofNat_Int, Nat.reduceEqDiff, Nat.reduceAdd, Nat.reduceMul, Nat.reduceLeDiff, Nat.reduceLT, ↓reduceIte, reduceCtorEq, Int.reduceBEq, Int.reduceBNe, Int.reduceLT, Int.reduceLE, Int.reduceToNat])); (first | with_reducible refine on_yes ?_ | with_reducible refine on_no ?_ | with_reducible refine on_reg ?_ | (with_reducible refine on_regD (by decide +kernel) ?_) | with_reducible refine on_fin ?_)))
  refine aw_oneC [[vB true]] ?_; (repeat (refine goC_op ?_; (conv => (arg 1; simp only [ev0, ev1, ev2, look, lookF, cellsFrom, offT, offP, List.tail_nil, List.length_nil, Int.cast_ofNat_Int, Nat.reduceEqDiff, Nat.reduceAdd, Nat.reduceMul, Nat.reduceLeDiff, Nat.reduceLT, ↓reduceIte, reduceCtorEq, Int.reduceBEq, Int.reduceBNe, Int.reduceLT, Int.reduceLE, Int.reduceToNat, List.headD_cons, List.headD_nil, List.tail_cons, n3, n4, n5, g5, len_ll, Int.toNat_natCast, bne_self_eq_false, Bool.not_true, Bool.not_false])); with_reducible refine on_s ?_; (conv => (arg 1; simp only [ev0, ev1, ev2, look, lookF, cellsFrom, offT, offP, List.tail_nil, List.length_nil, Int.cast_ofNat_Int, Nat.reduceEqDiff, Nat.reduceAdd, Nat.reduceMul, Nat.reduceLeDiff, Nat.reduceLT, ↓reduceIte, reduceCtorEq, Int.reduceBEq, Int.reduceBNe, Int.reduceLT, Int.reduceLE, Int.reduceToNat])); (conv => (arg 2; simp only [ev0, ev1, ev2, look, lookF, cellsFrom, offT, offP, List.tail_nil, List.length_nil, Int.cast_ofNat_Int, Nat.reduceEqDiff, Nat.reduceAdd, Nat.reduceMul, Nat.reduceLeDiff, Nat.reduceLT, ↓reduceIte, reduceCtorEq, Int.reduceBEq, Int.reduceBNe, Int.reduceLT, Int.reduceLE, Int.reduceToNat])); with_reducible refine on_e ?_))
  refine goC_call ?_; (conv => (arg 1; simp only [ev0, ev1, ev2, look, lookF, cellsFrom, offT, offP, List.tail_nil, List.length_nil, Int.cast_ofNat_Int, Nat.reduceEqDiff, Nat.reduceAdd, Nat.reduceMul, Nat.reduceLeDiff, Nat.reduceLT, ↓reduceIte, reduceCtorEq, Int.reduceBEq, Int.reduceBNe, Int.reduceLT, Int.reduceLE, Int.reduceToNat, List.headD_cons, List.headD_nil, List.tail_cons, n3, n4, n5, g5, len_ll, Int.toNat_natCast])); with_reducible refine on_c ⟨?_, ?_⟩
  · exact obl_cons s1 obl_nil
  (conv => (arg 1; simp only [ev0, ev1, ev2, look, lookF, cellsFrom, offT, offP, List.tail_nil, List.length_nil, Int.cast_ofNat_Int, Nat.reduceEqDiff, Nat.reduceAdd, Nat.reduceMul, Nat.reduceLeDiff, Nat.reduceLT, ↓reduceIte, reduceCtorEq, Int.reduceBEq, Int.reduceBNe, Int.reduceLT, Int.reduceLE, Int.reduceToNat])); (conv => (arg 2; simp only [ev0, ev1, ev2, look, lookF, cellsFrom, offT, offP, List.tail_nil, List.length_nil, Int.cast_ofNat_Int, Nat.reduceEqDiff, Nat.reduceAdd, Nat.reduceMul, Nat.reduceLeDiff, Nat.reduceLT, ↓reduceIte, reduceCtorEq, Int.reduceBEq, Int.reduceBNe, Int.reduceLT, Int.reduceLE, Int.reduceToNat])); with_reducible refine on_e ?_; (repeat (refine goC_op ?_; (conv => (arg 1; simp only [ev0, ev1, ev2, look, lookF, cellsFrom, offT, offP, List.tail_nil, List.length_nil, Int.cast_ofNat_Int, Nat.reduceEqDiff, Nat.reduceAdd, Nat.reduceMul, Nat.reduceLeDiff, Nat.reduceLT, ↓reduceIte, reduceCtorEq, Int.reduceBEq, Int.reduceBNe, Int.reduceLT, Int.reduceLE, Int.reduceToNat, List.headD_cons, List.headD_nil, List.tail_cons, Bool.not_true])); with_reducible refine on_s ?_; (conv => (arg 1; simp only [ev0, ev1, ev2, look, lookF, cellsFrom, offT, offP, List.tail_nil, List.length_nil, Int.cast_ofNat_Int, Nat.reduceEqDiff, Nat.reduceAdd, Nat.reduceMul, Nat.reduceLeDiff, Nat.reduceLT, ↓reduceIte, reduceCtorEq, Int.reduceBEq, Int.reduceBNe, Int.reduceLT, Int.reduceLE, Int.reduceToNat])); (conv => (arg 2; simp only [ev0, ev1, ev2, look, lookF, cellsFrom, offT, offP, List.tail_nil, List.length_nil, Int.cast_ofNat_Int, Nat.reduceEqDiff, Nat.reduceAdd, Nat.reduceMul, Nat.reduceLeDiff, Nat.reduceLT, ↓reduceIte, reduceCtorEq, Int.reduceBEq, Int.reduceBNe, Int.reduceLT, Int.reduceLE, Int.reduceToNat])); with_reducible refine on_e ?_)); refine goC_end (by decide +kernel) ?_; (conv => (arg 1; simp only [ev0, ev1, ev2, look, lookF, cellsFrom, offT, offP, List.tail_nil, List.length_nil, Int.cast_ofNat_Int, Nat.reduceEqDiff, Nat.reduceAdd, Nat.reduceMul, Nat.reduceLeDiff, Nat.reduceLT, ↓reduceIte, reduceCtorEq, Int.reduceBEq, Int.reduceBNe, Int.reduceLT, Int.reduceLE, Int.reduceToNat])); with_reducible refine on_k ?_
  refine wk0 ?_
  refine cg0 [[sD 7 (encSl O)]] ?_ ?_
  · exact obl_cons hL' obl_nil
  refine wk @len_sl ?_
  refine hvt _ ?_
  refine wk (an2 @z1 @len_sl) ?_
  refine cg [[sD 2 (encMl P)]] (an2 @z1 @len_sl) ?_ ?_
  · exact obl_cons p2 obl_nil
  refine wk0 ?_
  refine cg0 [[sD 2 (encMl P)], [vB true]] ?_ ?_
  · exact obl_cons p3 (obl_cons p4 obl_nil)
  refine wk0 ?_
  exact ValsLe.refl _
set_option maxHeartbeats 16000000 in
theorem viewTells_out (hS : CSpoilR 34) (hO : CVOf 13) (hL : CVOnly 14) (hP : CVPuts 17) (n : Nat) (hn : 1 ≤ n ∧ n ≤ 3) (l : List Sp) (hl : l.length ≤ 1048576) (hd : SmallD l) (t : Int) (ht : t < 0 ∨ (n : Int) ≤ t) : Told Try.prog 5 [vI n, sD 7 (encSl l), vI t] [vB true] := by
  refine told_w10_ViewTells rfl ?_
  have p1 := play_told hS n hn l (by omega)
  obtain ⟨hw, _, hel⟩ := good_run (good_new hn) l 160
  have hwn : (runW (newW n) (l.take 160)).1.lanes.length = n := by rw [lenW_run]; simp [newW]
  generalize (runW (newW n) (l.take 160)).2 = es at *
  generalize (runW (newW n) (l.take 160)).1 = w at *
  have o1 := hO w t hw
  rw [of_out (by omega)] at o1
  generalize zeroL = a at *
  have hL' := hL l t hl hd
  have p2 := hP l es t hl hd (by omega)
  have p3 := puts_told l es t (by omega) (by omega)
  have p4 := sameMsgs_told (putsW l es t) (putsW l es t) (by
    have := putsK_len l es t l.length
    rw [putsK_all] at this
    omega)
  rw [show sameL (putsW l es t) (putsW l es t) = true by rw [sameL_iff]] at p4
  have n1 : ¬ (n : Int) < 1 := by omega
  have n2 : ¬ 3 < (n : Int) := by omega
  have hvt := fun Q => vt_loop l es t hl Q
  have z1 : (((onlyW l t).length : Int) == ((onlyW l t).length : Int)) = true := beq_self_eq_true _
  have e0 : onlyW (l.take 0) t = [] := rfl
  simp only [vtSt, e0, List.length_nil] at hvt
  generalize putsW l es t = P at *
  generalize onlyW l t = O at *
  simp only [encWd, encLn] at p1 o1 ⊢
  refine wk (an2 @n1 @n2) ?_
  refine cg [[aD (encWd w), sD 1 (es.map vI)]] @encWd.eq_1 ?_ ?_
  · exact obl_cons p1 obl_nil
  refine wk0 ?_
  refine cg [[aD (encLn a), vB false]] @encLn.eq_1 ?_ ?_
  · exact obl_cons o1 obl_nil
  by_cases n3 : (0 : Int) ≤ t
  · have n4 : ¬ t < (n : Int) := by omega
    repeat (first | refine aw_seq ?_ | refine aw_block ?_ | with_reducible refine aw_ret ?_ | with_reducible refine aw_skip ?_ | with_reducible refine aw_exit ?_ | refine thn_normal ?_ | refine thn_out ?_ | refine blk_normal ?_ | refine blk_ret ?_ | refine blk_exit ?_ | ((first | refine aw_regO ?_ | refine aw_condO ?_ | refine fin_retO ?_); (conv => (arg 1; simp (maxSteps := 30000) only [ev0, ev1, ev2, look, lookF, cellsFrom, offT, offP, List.tail_nil, List.length_nil, Int.cast_ofNat_Int, Nat.reduceEqDiff, Nat.reduceAdd, Nat.reduceMul, Nat.reduceLeDiff, Nat.reduceLT, ↓reduceIte, reduceCtorEq, Int.reduceBEq, Int.reduceBNe, Int.reduceLT, Int.reduceLE, Int.reduceToNat])); (first | with_reducible refine on_yes ?_ | with_reducible refine on_no ?_ | with_reducible refine on_reg ?_ | (with_reducible refine on_regD (by decide +kernel) ?_) | with_reducible refine on_fin ?_)))
    refine aw_one ?_; (repeat (refine go_op ?_; (conv => (arg 1; simp only [ev0, ev1, ev2, look, lookF, cellsFrom, offT, offP, List.tail_nil, List.length_nil, Int.cast_ofNat_Int, Nat.reduceEqDiff, Nat.reduceAdd, Nat.reduceMul, Nat.reduceLeDiff, Nat.reduceLT, ↓reduceIte, reduceCtorEq, Int.reduceBEq, Int.reduceBNe, Int.reduceLT, Int.reduceLE, Int.reduceToNat, n3, n4, bne_self_eq_false, Bool.not_true, Bool.not_false])); with_reducible refine on_s ?_; (conv => (arg 1; simp only [ev0, ev1, ev2, look, lookF, cellsFrom, offT, offP, List.tail_nil, List.length_nil, Int.cast_ofNat_Int, Nat.reduceEqDiff, Nat.reduceAdd, Nat.reduceMul, Nat.reduceLeDiff, Nat.reduceLT, ↓reduceIte, reduceCtorEq, Int.reduceBEq, Int.reduceBNe, Int.reduceLT, Int.reduceLE, Int.reduceToNat])); (conv => (arg 2; simp only [ev0, ev1, ev2, look, lookF, cellsFrom, offT, offP, List.tail_nil, List.length_nil, Int.cast_ofNat_Int, Nat.reduceEqDiff, Nat.reduceAdd, Nat.reduceMul, Nat.reduceLeDiff, Nat.reduceLT, ↓reduceIte, reduceCtorEq, Int.reduceBEq, Int.reduceBNe, Int.reduceLT, Int.reduceLE, Int.reduceToNat])); with_reducible refine on_e ?_)); refine go_end (by decide +kernel) ?_; (conv => (arg 1; simp only [ev0, ev1, ev2, look, lookF, cellsFrom, offT, offP, List.tail_nil, List.length_nil, Int.cast_ofNat_Int, Nat.reduceEqDiff, Nat.reduceAdd, Nat.reduceMul, Nat.reduceLeDiff, Nat.reduceLT, ↓reduceIte, reduceCtorEq, Int.reduceBEq, Int.reduceBNe, Int.reduceLT, Int.reduceLE, Int.reduceToNat])); with_reducible refine on_k ?_
    refine wk0 ?_
    refine cg0 [[sD 7 (encSl O)]] ?_ ?_
    · exact obl_cons hL' obl_nil
    refine wk @len_sl ?_
    refine hvt _ ?_
    refine wk (an2 @z1 @len_sl) ?_
    refine cg [[sD 2 (encMl P)]] (an2 @z1 @len_sl) ?_ ?_
    · exact obl_cons p2 obl_nil
    refine wk0 ?_
    refine cg0 [[sD 2 (encMl P)], [vB true]] ?_ ?_
    · exact obl_cons p3 (obl_cons p4 obl_nil)
    refine wk0 ?_
    exact ValsLe.refl _
  · repeat (first | refine aw_seq ?_ | refine aw_block ?_ | with_reducible refine aw_ret ?_ | with_reducible refine aw_skip ?_ | with_reducible refine aw_exit ?_ | refine thn_normal ?_ | refine thn_out ?_ | refine blk_normal ?_ | refine blk_ret ?_ | refine blk_exit ?_ | ((first | refine aw_regO ?_ | refine aw_condO ?_ | refine fin_retO ?_); (conv => (arg 1; simp (maxSteps := 30000) only [ev0, ev1, ev2, look, lookF, cellsFrom, offT, offP, List.tail_nil, List.length_nil, Int.cast_ofNat_Int, Nat.reduceEqDiff, Nat.reduceAdd, Nat.reduceMul, Nat.reduceLeDiff, Nat.reduceLT, ↓reduceIte, reduceCtorEq, Int.reduceBEq, Int.reduceBNe, Int.reduceLT, Int.reduceLE, Int.reduceToNat])); (first | with_reducible refine on_yes ?_ | with_reducible refine on_no ?_ | with_reducible refine on_reg ?_ | (with_reducible refine on_regD (by decide +kernel) ?_) | with_reducible refine on_fin ?_)))
    refine aw_one ?_; (repeat (refine go_op ?_; (conv => (arg 1; simp only [ev0, ev1, ev2, look, lookF, cellsFrom, offT, offP, List.tail_nil, List.length_nil, Int.cast_ofNat_Int, Nat.reduceEqDiff, Nat.reduceAdd, Nat.reduceMul, Nat.reduceLeDiff, Nat.reduceLT, ↓reduceIte, reduceCtorEq, Int.reduceBEq, Int.reduceBNe, Int.reduceLT, Int.reduceLE, Int.reduceToNat, n3, bne_self_eq_false, Bool.not_true, Bool.not_false])); with_reducible refine on_s ?_; (conv => (arg 1; simp only [ev0, ev1, ev2, look, lookF, cellsFrom, offT, offP, List.tail_nil, List.length_nil, Int.cast_ofNat_Int, Nat.reduceEqDiff, Nat.reduceAdd, Nat.reduceMul, Nat.reduceLeDiff, Nat.reduceLT, ↓reduceIte, reduceCtorEq, Int.reduceBEq, Int.reduceBNe, Int.reduceLT, Int.reduceLE, Int.reduceToNat])); (conv => (arg 2; simp only [ev0, ev1, ev2, look, lookF, cellsFrom, offT, offP, List.tail_nil, List.length_nil, Int.cast_ofNat_Int, Nat.reduceEqDiff, Nat.reduceAdd, Nat.reduceMul, Nat.reduceLeDiff, Nat.reduceLT, ↓reduceIte, reduceCtorEq, Int.reduceBEq, Int.reduceBNe, Int.reduceLT, Int.reduceLE, Int.reduceToNat])); with_reducible refine on_e ?_)); refine go_end (by decide +kernel) ?_; (conv => (arg 1; simp only [ev0, ev1, ev2, look, lookF, cellsFrom, offT, offP, List.tail_nil, List.length_nil, Int.cast_ofNat_Int, Nat.reduceEqDiff, Nat.reduceAdd, Nat.reduceMul, Nat.reduceLeDiff, Nat.reduceLT, ↓reduceIte, reduceCtorEq, Int.reduceBEq, Int.reduceBNe, Int.reduceLT, Int.reduceLE, Int.reduceToNat])); with_reducible refine on_k ?_
    refine wk0 ?_
    refine cg0 [[sD 7 (encSl O)]] ?_ ?_
    · exact obl_cons hL' obl_nil
    refine wk @len_sl ?_
    refine hvt _ ?_
    refine wk (an2 @z1 @len_sl) ?_
    refine cg [[sD 2 (encMl P)]] (an2 @z1 @len_sl) ?_ ?_
    · exact obl_cons p2 obl_nil
    refine wk0 ?_
    refine cg0 [[sD 2 (encMl P)], [vB true]] ?_ ?_
    · exact obl_cons p3 (obl_cons p4 obl_nil)
    refine wk0 ?_
    exact ValsLe.refl _
theorem viewTells_told (hS : CSpoilR 34) (hO : CVOf 13) (hL : CVOnly 14) (hP : CVPuts 17) (n : Int) (l : List Sp) (hl : l.length ≤ 1048576) (hd : SmallD l) (t : Int) : Told Try.prog 5 [vI n, sD 7 (encSl l), vI t] [vB true] := by
  by_cases h : n < 1 ∨ 3 < n
  · exact viewTells_not n h l t
  · obtain ⟨q, rfl⟩ : ∃ q : Nat, n = q := ⟨n.toNat, by omega⟩
    by_cases ht : t < 0 ∨ (q : Int) ≤ t
    · exact viewTells_out hS hO hL hP q (by omega) l hl hd t ht
    · obtain ⟨u, rfl⟩ : ∃ u : Nat, t = u := ⟨t.toNat, by omega⟩
      exact viewTells_in hS hO hL hP q (by omega) l hl hd u (by omega)
end Go.Proofs.Ytngfedhffehkaac.ab
