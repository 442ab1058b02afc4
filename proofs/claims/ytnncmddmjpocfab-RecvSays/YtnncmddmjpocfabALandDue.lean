/-
  What the landed package recv tells: what is due is told.
-/
import Derived.Test.YtnncmddmjpocfabALandCame
namespace Go.Proofs.Ytnncmddmjpocfab.ab
set_option linter.unusedVariables false
set_option linter.unusedSimpArgs false
open Go Go.RowKit
open mth

def igSt (l : List Ch) (f : Nat) (E : List D) (k : Nat) : St := ⟨[(0, sD 6 (encCl l)), (1, jD 1 f E), (7, vI l.length), (8, vI k)], [], []⟩
set_option maxHeartbeats 2000000 in
theorem indexG_told (l : List Ch) (f : Nat) (E : List D) (p : Ch → Bool) (hl : l.length ≤ 1048576) (hc : callableB Try.prog f = true) (hS : ∀ x ∈ l, Told Try.prog f [aD (encCh x), jD 0 0 E] [vB (p x)]) : Told Try.prog 86 [sD 6 (encCl l), jD 1 f E] [vI (idxG p l)] := by
  refine told_slices_IndexFunc rfl ?_
  repeat (first | refine aw_seq ?_ | refine aw_block ?_ | with_reducible refine aw_ret ?_ | with_reducible refine aw_skip ?_ | with_reducible refine aw_exit ?_ | refine thn_normal ?_ | refine thn_out ?_ | refine blk_normal ?_ | refine blk_ret ?_ | refine blk_exit ?_ | ((first | refine aw_regO ?_ | refine aw_regDO ?_ | refine aw_condO ?_ | refine fin_retO ?_); (conv => (arg 1; simp (maxSteps := 30000) only [ev0, ev1, ev2, look, lookF, cellsFrom, offT, offP, List.tail_nil, List.length_nil, Int.cast_ofNat_Int, Nat.reduceEqDiff, Nat.reduceAdd, Nat.reduceMul, Nat.reduceLeDiff, Nat.reduceLT, ↓reduceIte, reduceCtorEq, Int.reduceBEq, Int.reduceBNe, Int.reduceLT, Int.reduceLE, Int.reduceToNat, len_cl])); (first | with_reducible refine on_yes ?_ | with_reducible refine on_no ?_ | with_reducible refine on_reg ?_ | (with_reducible refine on_regD (by decide +kernel) ?_) | with_reducible refine on_fin ?_)))
  refine aw_loop (fun m st => ∃ k : Nat, k ≤ l.length ∧ m = l.length - k ∧ (∀ i y, i < k → l[i]? = some y → p y = false) ∧ st = igSt l f E k) l.length (igSt l f E 0) (Le.keep (lv := [0, 1, 7, 8]) (lb := []) (by simp only [ev0, ev1, ev2, look, lookF, cellsFrom, offT, offP, List.tail_nil, List.length_nil, Int.cast_ofNat_Int, Nat.reduceEqDiff, Nat.reduceAdd, Nat.reduceMul, Nat.reduceLeDiff, Nat.reduceLT, ↓reduceIte, reduceCtorEq, Int.reduceBEq, Int.reduceBNe, Int.reduceLT, Int.reduceLE, Int.reduceToNat]; rfl)) ⟨0, by omega, by omega, (fun i y hi => by omega), rfl⟩ ?_
  rintro m st ⟨k, hk, hm, hb, rfl⟩
  by_cases hlt : k < l.length
  · obtain ⟨x, hx⟩ : ∃ m, l[k]? = some m := ⟨l[k], List.getElem?_eq_getElem hlt⟩
    have g1 : (k : Int) < (l.length : Int) := by omega
    have g2 : (0 : Int) ≤ (k : Int) := by omega
    have g3 := at_cl hx
    have g4 : inR .i64 ((k : Int) + 1) = true := inR_of (by omega)
    have hS := hS x (List.mem_of_getElem? hx)
    cases hp : p x with
    | true =>
      rw [idxG_at hx hp hb]
      rw [hp] at hS
      generalize (fun m st => ∃ k : Nat, k ≤ l.length ∧ m = l.length - k ∧ (∀ i y, i < k → l[i]? = some y → p y = false) ∧ st = igSt l f E k) = J at *
      simp only [igSt]
      simp only [encCh] at hS
      repeat (first | refine aw_seq ?_ | refine aw_block ?_ | with_reducible refine aw_ret ?_ | with_reducible refine aw_skip ?_ | with_reducible refine aw_exit ?_ | refine thn_normal ?_ | refine thn_out ?_ | refine blk_normal ?_ | refine blk_ret ?_ | refine blk_exit ?_ | ((first | refine aw_regO ?_ | refine aw_regDO ?_ | refine aw_condO ?_ | refine fin_retO ?_); (conv => (arg 1; simp (maxSteps := 30000) only [ev0, ev1, ev2, look, lookF, cellsFrom, offT, offP, List.tail_nil, List.length_nil, Int.cast_ofNat_Int, Nat.reduceEqDiff, Nat.reduceAdd, Nat.reduceMul, Nat.reduceLeDiff, Nat.reduceLT, ↓reduceIte, reduceCtorEq, Int.reduceBEq, Int.reduceBNe, Int.reduceLT, Int.reduceLE, Int.reduceToNat, g1, g2, g3, hc])); (first | with_reducible refine on_yes ?_ | with_reducible refine on_no ?_ | with_reducible refine on_reg ?_ | (with_reducible refine on_regD (by decide +kernel) ?_) | with_reducible refine on_fin ?_)))
      refine aw_reg [[vB true]] (by simp only [ev0, ev1, ev2, look, lookF, cellsFrom, offT, offP, List.tail_nil, List.length_nil, Int.cast_ofNat_Int, Nat.reduceEqDiff, Nat.reduceAdd, Nat.reduceMul, Nat.reduceLeDiff, Nat.reduceLT, ↓reduceIte, reduceCtorEq, Int.reduceBEq, Int.reduceBNe, Int.reduceLT, Int.reduceLE, Int.reduceToNat, g2, g3, hc]; first | rfl | exact ⟨rfl, rfl⟩) ?_ ?_
      · exact obl_cons hS obl_nil
      repeat (first | refine aw_seq ?_ | refine aw_block ?_ | with_reducible refine aw_ret ?_ | with_reducible refine aw_skip ?_ | with_reducible refine aw_exit ?_ | refine thn_normal ?_ | refine thn_out ?_ | refine blk_normal ?_ | refine blk_ret ?_ | refine blk_exit ?_ | ((first | refine aw_regO ?_ | refine aw_regDO ?_ | refine aw_condO ?_ | refine fin_retO ?_); (conv => (arg 1; simp (maxSteps := 30000) only [ev0, ev1, ev2, look, lookF, cellsFrom, offT, offP, List.tail_nil, List.length_nil, Int.cast_ofNat_Int, Nat.reduceEqDiff, Nat.reduceAdd, Nat.reduceMul, Nat.reduceLeDiff, Nat.reduceLT, ↓reduceIte, reduceCtorEq, Int.reduceBEq, Int.reduceBNe, Int.reduceLT, Int.reduceLE, Int.reduceToNat])); (first | with_reducible refine on_yes ?_ | with_reducible refine on_no ?_ | with_reducible refine on_reg ?_ | (with_reducible refine on_regD (by decide +kernel) ?_) | with_reducible refine on_fin ?_)))
      exact ValsLe.refl _
    | false =>
      rw [hp] at hS
      have hnx : Next (fun m st => ∃ k : Nat, k ≤ l.length ∧ m = l.length - k ∧ (∀ i y, i < k → l[i]? = some y → p y = false) ∧ st = igSt l f E k) m ⟨[(0, sD 6 (encCl l)), (1, jD 1 f E), (7, vI l.length), (8, vI ((k : Int) + 1))], [], []⟩ := by
        refine ⟨l.length - (k + 1), _, by omega, Le.refl _, k + 1, by omega, rfl, fun i y hi hy => ?_, by simp only [igSt, Int.natCast_add, Int.cast_ofNat_Int]⟩
        by_cases hik : i = k
        · subst hik; rw [hx] at hy; cases hy; exact hp
        · exact hb i y (by omega) hy
      generalize (fun m st => ∃ k : Nat, k ≤ l.length ∧ m = l.length - k ∧ (∀ i y, i < k → l[i]? = some y → p y = false) ∧ st = igSt l f E k) = J at *
      simp only [igSt]
      simp only [encCh] at hS
      repeat (first | refine aw_seq ?_ | refine aw_block ?_ | with_reducible refine aw_ret ?_ | with_reducible refine aw_skip ?_ | with_reducible refine aw_exit ?_ | refine thn_normal ?_ | refine thn_out ?_ | refine blk_normal ?_ | refine blk_ret ?_ | refine blk_exit ?_ | ((first | refine aw_regO ?_ | refine aw_regDO ?_ | refine aw_condO ?_ | refine fin_retO ?_); (conv => (arg 1; simp (maxSteps := 30000) only [ev0, ev1, ev2, look, lookF, cellsFrom, offT, offP, List.tail_nil, List.length_nil, Int.cast_ofNat_Int, Nat.reduceEqDiff, Nat.reduceAdd, Nat.reduceMul, Nat.reduceLeDiff, Nat.reduceLT, ↓reduceIte, reduceCtorEq, Int.reduceBEq, Int.reduceBNe, Int.reduceLT, Int.reduceLE, Int.reduceToNat, g1, g2, g3, hc])); (first | with_reducible refine on_yes ?_ | with_reducible refine on_no ?_ | with_reducible refine on_reg ?_ | (with_reducible refine on_regD (by decide +kernel) ?_) | with_reducible refine on_fin ?_)))
      refine aw_reg [[vB false]] (by simp only [ev0, ev1, ev2, look, lookF, cellsFrom, offT, offP, List.tail_nil, List.length_nil, Int.cast_ofNat_Int, Nat.reduceEqDiff, Nat.reduceAdd, Nat.reduceMul, Nat.reduceLeDiff, Nat.reduceLT, ↓reduceIte, reduceCtorEq, Int.reduceBEq, Int.reduceBNe, Int.reduceLT, Int.reduceLE, Int.reduceToNat, g2, g3, hc]; first | rfl | exact ⟨rfl, rfl⟩) ?_ ?_
      · exact obl_cons hS obl_nil
      repeat (first | refine aw_seq ?_ | refine aw_block ?_ | with_reducible refine aw_ret ?_ | with_reducible refine aw_skip ?_ | with_reducible refine aw_exit ?_ | refine thn_normal ?_ | refine thn_out ?_ | refine blk_normal ?_ | refine blk_ret ?_ | refine blk_exit ?_ | ((first | refine aw_regO ?_ | refine aw_regDO ?_ | refine aw_condO ?_ | refine fin_retO ?_); (conv => (arg 1; simp (maxSteps := 30000) only [ev0, ev1, ev2, look, lookF, cellsFrom, offT, offP, List.tail_nil, List.length_nil, Int.cast_ofNat_Int, Nat.reduceEqDiff, Nat.reduceAdd, Nat.reduceMul, Nat.reduceLeDiff, Nat.reduceLT, ↓reduceIte, reduceCtorEq, Int.reduceBEq, Int.reduceBNe, Int.reduceLT, Int.reduceLE, Int.reduceToNat, g4])); (first | with_reducible refine on_yes ?_ | with_reducible refine on_no ?_ | with_reducible refine on_reg ?_ | (with_reducible refine on_regD (by decide +kernel) ?_) | with_reducible refine on_fin ?_)))
      exact hnx
  · have hk' : k = l.length := by omega
    subst hk'
    have g1 : ¬ (l.length : Int) < (l.length : Int) := by omega
    rw [idxG_no (fun i y hy => hb i y (List.getElem?_eq_some_iff.1 hy).1 hy)]
    simp only [igSt]
    repeat (first | refine aw_seq ?_ | refine aw_block ?_ | with_reducible refine aw_ret ?_ | with_reducible refine aw_skip ?_ | with_reducible refine aw_exit ?_ | refine thn_normal ?_ | refine thn_out ?_ | refine blk_normal ?_ | refine blk_ret ?_ | refine blk_exit ?_ | ((first | refine aw_regO ?_ | refine aw_regDO ?_ | refine aw_condO ?_ | refine fin_retO ?_); (conv => (arg 1; simp (maxSteps := 30000) only [ev0, ev1, ev2, look, lookF, cellsFrom, offT, offP, List.tail_nil, List.length_nil, Int.cast_ofNat_Int, Nat.reduceEqDiff, Nat.reduceAdd, Nat.reduceMul, Nat.reduceLeDiff, Nat.reduceLT, ↓reduceIte, reduceCtorEq, Int.reduceBEq, Int.reduceBNe, Int.reduceLT, Int.reduceLE, Int.reduceToNat, g1])); (first | with_reducible refine on_yes ?_ | with_reducible refine on_no ?_ | with_reducible refine on_reg ?_ | (with_reducible refine on_regD (by decide +kernel) ?_) | with_reducible refine on_fin ?_)))
    exact ValsLe.refl _
theorem obl_upd {P : Program} {f : Nat} {cs es es' : List D} {z : Nat} {l : List (Nat × List D × List D)} (h : ToldU P f cs z es es') (hl : Obl P l) : Obl P ((f, cs, [mU z es es']) :: l) := ⟨⟨cs, ValsLe.refl _, h⟩, hl⟩

/-- At the head of the loop. -/
def tdSt (nx : Int) (early : List Int) (ow : Bool) (d : Dr) : St :=
  ⟨[(1, pD 1 0), (2, pD 2 0), (3, fD 1 85), (4, vI (idxG (dueP d.p0 d.p1 d.p2) d.hold))], [(1, [vI nx, sD 1 (early.map vI), vI d.p0, vI d.p1, vI d.p2, oD 100001 d.hold.length, sD 2 (encMl d.told), vB ow]), (2, [vI 0, vD (.slice none 0 0), vI 0, vI 0, vI 0, vD (.slice none 0 0), vD (.slice none 0 0), vB false]), (100001, [sD 6 (encCl d.hold)]), (100001, [sD 6 (encCl d.hold)])], [((1, some 6), (53, (2, none)))]⟩
theorem due_index (nx p0 p1 p2 : Int) (c1 c5 c6 : D) (ow : Bool) (hold : List Ch) (hl : hold.length ≤ 1000) (hs : ∀ x ∈ hold, x.stream = 0 ∨ x.stream = 1 ∨ x.stream = 2) :
    Told Try.prog 86 [sD 6 (encCl hold), jD 1 85 [vI nx, c1, vI p0, vI p1, vI p2, c5, c6, vB ow]] [vI (idxG (dueP p0 p1 p2) hold)] :=
  indexG_told hold _ _ _ (by omega) callDue (fun x hx => due_told nx p0 p1 p2 c1 c5 c6 ow x (hs x hx))
theorem del_cl (l : List Ch) (k : Nat) : (encCl l).take k ++ (encCl l).drop (k + 1) = encCl (l.take k ++ l.drop (k + 1)) := by
  simp [encCl, List.map_take, List.map_drop]
set_option maxHeartbeats 8000000 in
theorem tellDue_round (nx : Int) (early : List Int) (ow : Bool) (d : Dr) (K : Nat) (h : DrOk d K) (hK : K ≤ 1000) (R : Dr) (hR : mth.drain d.hold.length d = R) (m : Nat) (hm : m = d.hold.length) :
    recv_tellDue_l2a (tdSt nx early ow d) (thn (Next (fun m st => ∃ d : Dr, DrOk d K ∧ mth.drain d.hold.length d = R ∧ m = d.hold.length ∧ st = tdSt nx early ow d) m)
      (blk 0 (thn (fun st' => cSeq recv_tellDue_r9 cRet st' (fin1 (cellFin 2 8 [vI nx, sD 1 (early.map vI), vI R.p0, vI R.p1, vI R.p2, sD 6 (encCl R.hold), sD 2 (encMl R.told), vB ow] [])))
        (fin1 (cellFin 2 8 [vI nx, sD 1 (early.map vI), vI R.p0, vI R.p1, vI R.p2, sD 6 (encCl R.hold), sD 2 (encMl R.told), vB ow] []))))) := by
  have hl := h.l
  have hp := h.p
  by_cases hlt : d.hold.findIdx (dueP d.p0 d.p1 d.p2) < d.hold.length
  · obtain ⟨k, hk⟩ : ∃ k, k = d.hold.findIdx (dueP d.p0 d.p1 d.p2) := ⟨_, rfl⟩
    rw [← hk] at hlt
    have hidx : idxG (dueP d.p0 d.p1 d.p2) d.hold = (k : Int) := by unfold idxG; rw [← hk, if_pos hlt]
    obtain ⟨x, hx⟩ : ∃ x, d.hold[k]? = some x := ⟨d.hold[k], List.getElem?_eq_getElem hlt⟩
    have hstep := h.step hx
    have hR' : mth.drain (stepD d k x).hold.length (stepD d k x) = R := by
      rw [← hR]
      obtain ⟨f, hf⟩ : ∃ f, d.hold.length = f + 1 := ⟨d.hold.length - 1, by omega⟩
      have hlen : (stepD d k x).hold.length = f := by simp only [stepD, List.length_append, List.length_take, List.length_drop]; omega
      rw [hlen, hf]
      show _ = (match d.hold[d.hold.findIdx (readyD d)]? with | some x => mth.drain f (stepD d (d.hold.findIdx (readyD d)) x) | none => d)
      have e : d.hold.findIdx (readyD d) = k := hk.symm
      rw [e, hx]
    have hs := stream3 (wrong_one (h.h x (List.mem_of_getElem? hx)).1 (h.h x (List.mem_of_getElem? hx)).2).2.2.2
    have hstr' : ∀ y ∈ (stepD d k x).hold, y.stream = 0 ∨ y.stream = 1 ∨ y.stream = 2 := fun y hy => stream3 (wrong_one (hstep.h y hy).1 (hstep.h y hy).2).2.2.2
    have hlen' : (stepD d k x).hold.length < d.hold.length := by simp only [stepD, List.length_append, List.length_take, List.length_drop]; omega
    have hnxt : Next (fun m st => ∃ d : Dr, DrOk d K ∧ mth.drain d.hold.length d = R ∧ m = d.hold.length ∧ st = tdSt nx early ow d) m (tdSt nx early ow (stepD d k x)) :=
      ⟨_, _, by omega, Le.refl _, stepD d k x, hstep, hR', rfl, rfl⟩
    have hdel := delete_told (encCl d.hold) k (by rw [len_cl]; exact hlt)
    rw [del_cl] at hdel
    have hix := due_index nx (stepD d k x).p0 (stepD d k x).p1 (stepD d k x).p2 (sD 1 (early.map vI)) xD (sD 2 (encMl (stepD d k x).told)) ow (stepD d k x).hold (by omega) hstr'
    have hhl : (d.hold.take k ++ d.hold.drop (k + 1)).length = (stepD d k x).hold.length := rfl
    generalize (fun m st => ∃ d : Dr, DrOk d K ∧ mth.drain d.hold.length d = R ∧ m = d.hold.length ∧ st = tdSt nx early ow d) = J at *
    have g1 : (0 : Int) ≤ (k : Int) := by omega
    have g2 : (k : Int) < (d.hold.length : Int) := by omega
    have g3 := at_cl hx
    have g4 : inR .i64 ((k : Int) + 1) = true := inR_of (by omega)
    have g5 : (d.told.length + 1) * 32 ≤ 140737488355328 := by omega
    have g6 : inR .i64 (d.p0 + 1) = true := inR_of (by omega)
    have g7 : inR .i64 (d.p1 + 1) = true := inR_of (by omega)
    have g8 : inR .i64 (d.p2 + 1) = true := inR_of (by omega)
    have hne : (k : Int) = k := rfl
    simp only [tdSt, hidx] at hnxt ⊢
    simp only [stepD] at hnxt hix hhl
    generalize d.hold.take k ++ d.hold.drop (k + 1) = H' at *
    repeat (first | refine aw_seq ?_ | refine aw_block ?_ | with_reducible refine aw_ret ?_ | with_reducible refine aw_skip ?_ | with_reducible refine aw_exit ?_ | refine thn_normal ?_ | refine thn_out ?_ | refine blk_normal ?_ | refine blk_ret ?_ | refine blk_exit ?_ | ((first | refine aw_regO ?_ | refine aw_regDO ?_ | refine aw_condO ?_ | refine fin_retO ?_); (conv => (arg 1; simp (maxSteps := 30000) only [ev0, ev1, ev2, look, lookF, cellsFrom, offT, offP, List.tail_nil, List.length_nil, Int.cast_ofNat_Int, Nat.reduceEqDiff, Nat.reduceAdd, Nat.reduceMul, Nat.reduceLeDiff, Nat.reduceLT, ↓reduceIte, reduceCtorEq, Int.reduceBEq, Int.reduceBNe, Int.reduceLT, Int.reduceLE, Int.reduceToNat, g1, g2, g3, g4, len_cl])); (first | with_reducible refine on_yes ?_ | with_reducible refine on_no ?_ | with_reducible refine on_reg ?_ | (with_reducible refine on_regD (by decide +kernel) ?_) | with_reducible refine on_fin ?_)))
    refine aw_reg [[sD 6 (encCl H')]] (by simp only [ev0, ev1, ev2, look, lookF, cellsFrom, offT, offP, List.tail_nil, List.length_nil, Int.cast_ofNat_Int, Nat.reduceEqDiff, Nat.reduceAdd, Nat.reduceMul, Nat.reduceLeDiff, Nat.reduceLT, ↓reduceIte, reduceCtorEq, Int.reduceBEq, Int.reduceBNe, Int.reduceLT, Int.reduceLE, Int.reduceToNat, g1, g2, g3, g4, len_cl]; first | rfl | exact ⟨rfl, rfl⟩) ?_ ?_
    · exact obl_upd hdel obl_nil
    obtain ⟨xk, xn, xs, xp, xd, xe⟩ := x
    simp only at hs hnxt hix ⊢
    clear hstr' hR' hstep hx hk g3 hhl hlen' hdel
    rcases hs with rfl | rfl | rfl
    · simp only [if_true, Int.reduceEq, if_false, ml_snoc] at hnxt hix
      repeat (first | refine aw_seq ?_ | refine aw_block ?_ | with_reducible refine aw_ret ?_ | with_reducible refine aw_skip ?_ | with_reducible refine aw_exit ?_ | refine thn_normal ?_ | refine thn_out ?_ | refine blk_normal ?_ | refine blk_ret ?_ | refine blk_exit ?_ | ((first | refine aw_regO ?_ | refine aw_regDO ?_ | refine aw_condO ?_ | refine fin_retO ?_); (conv => (arg 1; simp (maxSteps := 30000) only [ev0, ev1, ev2, look, lookF, cellsFrom, offT, offP, List.tail_nil, List.length_nil, Int.cast_ofNat_Int, Nat.reduceEqDiff, Nat.reduceAdd, Nat.reduceMul, Nat.reduceLeDiff, Nat.reduceLT, ↓reduceIte, reduceCtorEq, Int.reduceBEq, Int.reduceBNe, Int.reduceLT, Int.reduceLE, Int.reduceToNat, g5, g6, len_cl, len_ml])); (first | with_reducible refine on_yes ?_ | with_reducible refine on_no ?_ | with_reducible refine on_reg ?_ | (with_reducible refine on_regD (by decide +kernel) ?_) | with_reducible refine on_fin ?_)))
      refine aw_reg [[vI (idxG (dueP (d.p0 + 1) d.p1 d.p2) H')]] (by simp only [ev0, ev1, ev2, look, lookF, cellsFrom, offT, offP, List.tail_nil, List.length_nil, Int.cast_ofNat_Int, Nat.reduceEqDiff, Nat.reduceAdd, Nat.reduceMul, Nat.reduceLeDiff, Nat.reduceLT, ↓reduceIte, reduceCtorEq, Int.reduceBEq, Int.reduceBNe, Int.reduceLT, Int.reduceLE, Int.reduceToNat, len_cl]; first | rfl | exact ⟨rfl, rfl⟩) ?_ ?_
      · exact obl_cons hix obl_nil
      repeat (first | refine aw_seq ?_ | refine aw_block ?_ | with_reducible refine aw_ret ?_ | with_reducible refine aw_skip ?_ | with_reducible refine aw_exit ?_ | refine thn_normal ?_ | refine thn_out ?_ | refine blk_normal ?_ | refine blk_ret ?_ | refine blk_exit ?_ | ((first | refine aw_regO ?_ | refine aw_regDO ?_ | refine aw_condO ?_ | refine fin_retO ?_); (conv => (arg 1; simp (maxSteps := 30000) only [ev0, ev1, ev2, look, lookF, cellsFrom, offT, offP, List.tail_nil, List.length_nil, Int.cast_ofNat_Int, Nat.reduceEqDiff, Nat.reduceAdd, Nat.reduceMul, Nat.reduceLeDiff, Nat.reduceLT, ↓reduceIte, reduceCtorEq, Int.reduceBEq, Int.reduceBNe, Int.reduceLT, Int.reduceLE, Int.reduceToNat])); (first | with_reducible refine on_yes ?_ | with_reducible refine on_no ?_ | with_reducible refine on_reg ?_ | (with_reducible refine on_regD (by decide +kernel) ?_) | with_reducible refine on_fin ?_)))
      exact hnxt
    · simp only [if_true, Int.reduceEq, if_false, ml_snoc] at hnxt hix
      repeat (first | refine aw_seq ?_ | refine aw_block ?_ | with_reducible refine aw_ret ?_ | with_reducible refine aw_skip ?_ | with_reducible refine aw_exit ?_ | refine thn_normal ?_ | refine thn_out ?_ | refine blk_normal ?_ | refine blk_ret ?_ | refine blk_exit ?_ | ((first | refine aw_regO ?_ | refine aw_regDO ?_ | refine aw_condO ?_ | refine fin_retO ?_); (conv => (arg 1; simp (maxSteps := 30000) only [ev0, ev1, ev2, look, lookF, cellsFrom, offT, offP, List.tail_nil, List.length_nil, Int.cast_ofNat_Int, Nat.reduceEqDiff, Nat.reduceAdd, Nat.reduceMul, Nat.reduceLeDiff, Nat.reduceLT, ↓reduceIte, reduceCtorEq, Int.reduceBEq, Int.reduceBNe, Int.reduceLT, Int.reduceLE, Int.reduceToNat, g5, g7, len_cl, len_ml])); (first | with_reducible refine on_yes ?_ | with_reducible refine on_no ?_ | with_reducible refine on_reg ?_ | (with_reducible refine on_regD (by decide +kernel) ?_) | with_reducible refine on_fin ?_)))
      refine aw_reg [[vI (idxG (dueP d.p0 (d.p1 + 1) d.p2) H')]] (by simp only [ev0, ev1, ev2, look, lookF, cellsFrom, offT, offP, List.tail_nil, List.length_nil, Int.cast_ofNat_Int, Nat.reduceEqDiff, Nat.reduceAdd, Nat.reduceMul, Nat.reduceLeDiff, Nat.reduceLT, ↓reduceIte, reduceCtorEq, Int.reduceBEq, Int.reduceBNe, Int.reduceLT, Int.reduceLE, Int.reduceToNat, len_cl]; first | rfl | exact ⟨rfl, rfl⟩) ?_ ?_
      · exact obl_cons hix obl_nil
      repeat (first | refine aw_seq ?_ | refine aw_block ?_ | with_reducible refine aw_ret ?_ | with_reducible refine aw_skip ?_ | with_reducible refine aw_exit ?_ | refine thn_normal ?_ | refine thn_out ?_ | refine blk_normal ?_ | refine blk_ret ?_ | refine blk_exit ?_ | ((first | refine aw_regO ?_ | refine aw_regDO ?_ | refine aw_condO ?_ | refine fin_retO ?_); (conv => (arg 1; simp (maxSteps := 30000) only [ev0, ev1, ev2, look, lookF, cellsFrom, offT, offP, List.tail_nil, List.length_nil, Int.cast_ofNat_Int, Nat.reduceEqDiff, Nat.reduceAdd, Nat.reduceMul, Nat.reduceLeDiff, Nat.reduceLT, ↓reduceIte, reduceCtorEq, Int.reduceBEq, Int.reduceBNe, Int.reduceLT, Int.reduceLE, Int.reduceToNat])); (first | with_reducible refine on_yes ?_ | with_reducible refine on_no ?_ | with_reducible refine on_reg ?_ | (with_reducible refine on_regD (by decide +kernel) ?_) | with_reducible refine on_fin ?_)))
      exact hnxt
    · simp only [if_true, Int.reduceEq, if_false, ml_snoc] at hnxt hix
      repeat (first | refine aw_seq ?_ | refine aw_block ?_ | with_reducible refine aw_ret ?_ | with_reducible refine aw_skip ?_ | with_reducible refine aw_exit ?_ | refine thn_normal ?_ | refine thn_out ?_ | refine blk_normal ?_ | refine blk_ret ?_ | refine blk_exit ?_ | ((first | refine aw_regO ?_ | refine aw_regDO ?_ | refine aw_condO ?_ | refine fin_retO ?_); (conv => (arg 1; simp (maxSteps := 30000) only [ev0, ev1, ev2, look, lookF, cellsFrom, offT, offP, List.tail_nil, List.length_nil, Int.cast_ofNat_Int, Nat.reduceEqDiff, Nat.reduceAdd, Nat.reduceMul, Nat.reduceLeDiff, Nat.reduceLT, ↓reduceIte, reduceCtorEq, Int.reduceBEq, Int.reduceBNe, Int.reduceLT, Int.reduceLE, Int.reduceToNat, g5, g8, len_cl, len_ml])); (first | with_reducible refine on_yes ?_ | with_reducible refine on_no ?_ | with_reducible refine on_reg ?_ | (with_reducible refine on_regD (by decide +kernel) ?_) | with_reducible refine on_fin ?_)))
      refine aw_reg [[vI (idxG (dueP d.p0 d.p1 (d.p2 + 1)) H')]] (by simp only [ev0, ev1, ev2, look, lookF, cellsFrom, offT, offP, List.tail_nil, List.length_nil, Int.cast_ofNat_Int, Nat.reduceEqDiff, Nat.reduceAdd, Nat.reduceMul, Nat.reduceLeDiff, Nat.reduceLT, ↓reduceIte, reduceCtorEq, Int.reduceBEq, Int.reduceBNe, Int.reduceLT, Int.reduceLE, Int.reduceToNat, len_cl]; first | rfl | exact ⟨rfl, rfl⟩) ?_ ?_
      · exact obl_cons hix obl_nil
      repeat (first | refine aw_seq ?_ | refine aw_block ?_ | with_reducible refine aw_ret ?_ | with_reducible refine aw_skip ?_ | with_reducible refine aw_exit ?_ | refine thn_normal ?_ | refine thn_out ?_ | refine blk_normal ?_ | refine blk_ret ?_ | refine blk_exit ?_ | ((first | refine aw_regO ?_ | refine aw_regDO ?_ | refine aw_condO ?_ | refine fin_retO ?_); (conv => (arg 1; simp (maxSteps := 30000) only [ev0, ev1, ev2, look, lookF, cellsFrom, offT, offP, List.tail_nil, List.length_nil, Int.cast_ofNat_Int, Nat.reduceEqDiff, Nat.reduceAdd, Nat.reduceMul, Nat.reduceLeDiff, Nat.reduceLT, ↓reduceIte, reduceCtorEq, Int.reduceBEq, Int.reduceBNe, Int.reduceLT, Int.reduceLE, Int.reduceToNat])); (first | with_reducible refine on_yes ?_ | with_reducible refine on_no ?_ | with_reducible refine on_reg ?_ | (with_reducible refine on_regD (by decide +kernel) ?_) | with_reducible refine on_fin ?_)))
      exact hnxt
  · have hidx : idxG (dueP d.p0 d.p1 d.p2) d.hold = -1 := by unfold idxG; rw [if_neg hlt]
    have hdR : d = R := by
      rw [← hR]
      have e : d.hold[d.hold.findIdx (readyD d)]? = none := by
        rw [List.getElem?_eq_none]
        exact Nat.le_of_not_lt hlt
      cases hf : d.hold.length with
      | zero => rfl
      | succ f =>
        show d = (match d.hold[d.hold.findIdx (readyD d)]? with | some x => mth.drain f (stepD d (d.hold.findIdx (readyD d)) x) | none => d)
        rw [e]
    subst hdR
    clear hR
    generalize (fun m st => ∃ d' : Dr, DrOk d' K ∧ mth.drain d'.hold.length d' = d ∧ m = d'.hold.length ∧ st = tdSt nx early ow d') = J at *
    simp only [tdSt, hidx]
    repeat (first | refine aw_seq ?_ | refine aw_block ?_ | with_reducible refine aw_ret ?_ | with_reducible refine aw_skip ?_ | with_reducible refine aw_exit ?_ | refine thn_normal ?_ | refine thn_out ?_ | refine blk_normal ?_ | refine blk_ret ?_ | refine blk_exit ?_ | ((first | refine aw_regO ?_ | refine aw_regDO ?_ | refine aw_condO ?_ | refine fin_retO ?_); (conv => (arg 1; simp (maxSteps := 30000) only [ev0, ev1, ev2, look, lookF, cellsFrom, offT, offP, List.tail_nil, List.length_nil, Int.cast_ofNat_Int, Nat.reduceEqDiff, Nat.reduceAdd, Nat.reduceMul, Nat.reduceLeDiff, Nat.reduceLT, ↓reduceIte, reduceCtorEq, Int.reduceBEq, Int.reduceBNe, Int.reduceLT, Int.reduceLE, Int.reduceToNat, len_cl])); (first | with_reducible refine on_yes ?_ | with_reducible refine on_no ?_ | with_reducible refine on_reg ?_ | (with_reducible refine on_regD (by decide +kernel) ?_) | with_reducible refine on_fin ?_)))
    exact fin1_ret ⟨2, _, rfl, rfl, rfl, rfl, row_refl _, fun x hx => by cases hx⟩
set_option maxHeartbeats 8000000 in
theorem tellDue_toldX (nx : Int) (early : List Int) (ow : Bool) (d : Dr) (K : Nat) (h : DrOk d K) (hne : d.hold ≠ []) (hK : K ≤ 1000) (R : Dr) (hR : mth.drain d.hold.length d = R) :
    ToldX Try.prog 58 [aD [vI nx, sD 1 (early.map vI), vI d.p0, vI d.p1, vI d.p2, xD, sD 2 (encMl d.told), vB ow]] (upR (rowsR2 d.hold)) [aD [vI nx, sD 1 (early.map vI), vI R.p0, vI R.p1, vI R.p2, sD 6 (encCl R.hold), sD 2 (encMl R.told), vB ow]] [] := by
  have hne' : encCl d.hold ≠ [] := by simpa [encCl] using hne
  refine toldX_recv_tellDue (ro := []) rfl (by show [5, 6].Nodup; decide) ⟨_, le_name (b := 1) (off := 5) (k := 100001) (by decide) rfl (show 5 < 8 by decide) rfl hne' ⟨by decide, by decide⟩ rfl, ?_⟩
  have hstart : ∀ st, st = (⟨[(1, pD 1 0), (0, aD [vI nx, sD 1 (early.map vI), vI d.p0, vI d.p1, vI d.p2, xD, sD 2 (encMl d.told), vB ow])], [(100001, [sD 6 (encCl d.hold)]), (1, [vI nx, sD 1 (early.map vI), vI d.p0, vI d.p1, vI d.p2, oD 100001 (encCl d.hold).length, sD 2 (encMl d.told), vB ow]), (1, [vI nx, sD 1 (early.map vI), vI d.p0, vI d.p1, vI d.p2, xD, sD 2 (encMl d.told), vB ow])], [((1, some 6), (53, (2, none)))]⟩ : St) → recv_tellDue st (fin1 (cellFin 2 8 [vI nx, sD 1 (early.map vI), vI R.p0, vI R.p1, vI R.p2, sD 6 (encCl R.hold), sD 2 (encMl R.told), vB ow] [])) := by
    rintro st rfl
    have hstr : ∀ x ∈ d.hold, x.stream = 0 ∨ x.stream = 1 ∨ x.stream = 2 := fun x hx => stream3 (wrong_one (h.h x hx).1 (h.h x hx).2).2.2.2
    repeat (first | refine aw_seq ?_ | refine aw_block ?_ | with_reducible refine aw_ret ?_ | with_reducible refine aw_skip ?_ | with_reducible refine aw_exit ?_ | refine thn_normal ?_ | refine thn_out ?_ | refine blk_normal ?_ | refine blk_ret ?_ | refine blk_exit ?_ | ((first | refine aw_regO ?_ | refine aw_regDO ?_ | refine aw_condO ?_ | refine fin_retO ?_); (conv => (arg 1; simp (maxSteps := 30000) only [ev0, ev1, ev2, look, lookF, cellsFrom, offT, offP, List.tail_nil, List.length_nil, Int.cast_ofNat_Int, Nat.reduceEqDiff, Nat.reduceAdd, Nat.reduceMul, Nat.reduceLeDiff, Nat.reduceLT, ↓reduceIte, reduceCtorEq, Int.reduceBEq, Int.reduceBNe, Int.reduceLT, Int.reduceLE, Int.reduceToNat, len_cl])); (first | with_reducible refine on_yes ?_ | with_reducible refine on_no ?_ | with_reducible refine on_reg ?_ | (with_reducible refine on_regD (by decide +kernel) ?_) | with_reducible refine on_fin ?_)))
    refine aw_reg [[vI (idxG (dueP d.p0 d.p1 d.p2) d.hold)]] (by simp only [ev0, ev1, ev2, look, lookF, cellsFrom, offT, offP, List.tail_nil, List.length_nil, Int.cast_ofNat_Int, Nat.reduceEqDiff, Nat.reduceAdd, Nat.reduceMul, Nat.reduceLeDiff, Nat.reduceLT, ↓reduceIte, reduceCtorEq, Int.reduceBEq, Int.reduceBNe, Int.reduceLT, Int.reduceLE, Int.reduceToNat, len_cl]; first | rfl | exact ⟨rfl, rfl⟩) ?_ ?_
    · exact obl_cons (due_index nx d.p0 d.p1 d.p2 _ _ _ ow d.hold (by have := h.l; omega) hstr) obl_nil
    repeat (first | refine aw_seq ?_ | refine aw_block ?_ | with_reducible refine aw_ret ?_ | with_reducible refine aw_skip ?_ | with_reducible refine aw_exit ?_ | refine thn_normal ?_ | refine thn_out ?_ | refine blk_normal ?_ | refine blk_ret ?_ | refine blk_exit ?_ | ((first | refine aw_regO ?_ | refine aw_regDO ?_ | refine aw_condO ?_ | refine fin_retO ?_); (conv => (arg 1; simp (maxSteps := 30000) only [ev0, ev1, ev2, look, lookF, cellsFrom, offT, offP, List.tail_nil, List.length_nil, Int.cast_ofNat_Int, Nat.reduceEqDiff, Nat.reduceAdd, Nat.reduceMul, Nat.reduceLeDiff, Nat.reduceLT, ↓reduceIte, reduceCtorEq, Int.reduceBEq, Int.reduceBNe, Int.reduceLT, Int.reduceLE, Int.reduceToNat])); (first | with_reducible refine on_yes ?_ | with_reducible refine on_no ?_ | with_reducible refine on_reg ?_ | (with_reducible refine on_regD (by decide +kernel) ?_) | with_reducible refine on_fin ?_)))
    refine aw_loop (fun m st => ∃ d : Dr, DrOk d K ∧ mth.drain d.hold.length d = R ∧ m = d.hold.length ∧ st = tdSt nx early ow d) d.hold.length (tdSt nx early ow d) (Le.keep (lv := [1, 2, 3, 4]) (lb := [1, 2, 100001]) (by simp only [ev0, ev1, ev2, look, lookF, cellsFrom, offT, offP, List.tail_nil, List.length_nil, Int.cast_ofNat_Int, Nat.reduceEqDiff, Nat.reduceAdd, Nat.reduceMul, Nat.reduceLeDiff, Nat.reduceLT, ↓reduceIte, reduceCtorEq, Int.reduceBEq, Int.reduceBNe, Int.reduceLT, Int.reduceLE, Int.reduceToNat]; rfl)) ⟨d, h, hR, rfl, rfl⟩ ?_
    clear hstr h hne hne' hR
    rintro m st ⟨d, h, hR, hm, rfl⟩
    exact tellDue_round nx early ow d K h hK R hR m hm
  exact hstart _ rfl
end Go.Proofs.Ytnncmddmjpocfab.ab
