/-
  What the answer's RecvHear tells: what waits is told as long as some of it is its stream's next.
-/
import Derived.Test.YtnncmddmjpocfabM29
import Derived.Test.YtnncmddmjpocfabASend
namespace Go.Proofs.Ytnncmddmjpocfab.ab
set_option linter.unusedVariables false
set_option linter.unusedSimpArgs false
open Go Go.RowKit
open mth

theorem ml_snoc (l : List Ms) (m : Ms) : encMl (l ++ [m]) = encMl l ++ [aD [vI m.stream, sD 1 (m.data.map encB)]] := by simp [encMl, encMs]
theorem cl_cut (l : List Ch) (i j : Nat) : encCl (l.take i ++ l.drop j) = (encCl l).take i ++ (encCl l).drop j := by simp [encCl]
/-- At the head of the outer loop. -/
def rdSt (next : Int) (E H : List D) (d : Dr) (a : Bool) : St := ⟨[(2, pD 2 0), (4, pD 4 0), (9, sD 6 (encCl d.hold)), (10, vB a)], [(2, [vI next, sD 1 E, vI d.p0, vI d.p1, vI d.p2, sD 6 H, sD 2 (encMl d.told), vB true]), (4, [vI 0, vD (.slice none 0 0), vI 0, vI 0, vI 0, vD (.slice none 0 0), vD (.slice none 0 0), vB false])], []⟩
/-- At the head of the inner one. -/
def riSt (next : Int) (E H : List D) (d : Dr) (i : Nat) : St := ⟨[(2, pD 2 0), (4, pD 4 0), (9, sD 6 (encCl d.hold)), (10, vB false), (88, sD 6 (encCl d.hold)), (89, vI d.hold.length), (90, vI i)], [(2, [vI next, sD 1 E, vI d.p0, vI d.p1, vI d.p2, sD 6 H, sD 2 (encMl d.told), vB true]), (4, [vI 0, vD (.slice none 0 0), vI 0, vI 0, vI 0, vD (.slice none 0 0), vD (.slice none 0 0), vB false])], []⟩
def roSt (next : Int) (E H : List D) (d : Dr) : St := ⟨[(2, pD 2 0), (4, pD 4 0), (9, sD 6 (encCl d.hold)), (10, vB true)], [(2, [vI next, sD 1 E, vI d.p0, vI d.p1, vI d.p2, sD 6 H, sD 2 (encMl d.told), vB true]), (4, [vI 0, vD (.slice none 0 0), vI 0, vI 0, vI 0, vD (.slice none 0 0), vD (.slice none 0 0), vB false])], [((9, none), (32, 6, none)), ((2, some 6), (53, 2, none))]⟩
theorem roSt_le (next : Int) (E H : List D) (d : Dr) : Le (roSt next E H d) (rdSt next E H d true) := Le.look (fun s v h => h) (fun b => rfl) (fun p x h => by simp [rdSt, lookF] at h)

set_option maxHeartbeats 4000000 in
theorem rh_one0t (next p0 p1 p2 : Int) (E H : List D) (hold : List Ch) (told : List Ms) (i : Nat) (kind number place : Int) (data : List UInt8) (early : List Int) (hx : hold[i]? = some ⟨kind, number, 0, place, data, early⟩) (hr : (place == p0) = true) (hp : 0 ≤ p0 ∧ p0 ≤ 1000) (hT : told.length ≤ 1000) (hc : hold.length ≤ 1000) (Q : AX → St → Prop)
    (hQ : Q (some (some 8)) (roSt next E H ⟨p0 + 1, p1, p2, hold.take i ++ hold.drop (i + 1), told ++ [⟨0, data⟩]⟩)) :
    r1_RecvHear_l22a (riSt next E H ⟨p0, p1, p2, hold, told⟩ i) Q := by
  have hi : i < hold.length := (List.getElem?_eq_some_iff.1 hx).1
  have g0 : (0 : Int) ≤ (i : Int) := by omega
  have g1 : (i : Int) ≤ (hold.length : Int) := by omega
  have g2 : inR .i64 ((i : Int) + 1) = true := inR_of (by omega)
  have g3 : (i : Int) + 1 ≤ (hold.length : Int) := by omega
  have g4 : (0 : Int) ≤ (i : Int) + 1 := by omega
  have g5 : inR .i64 (p0 + 1) = true := inR_of (by omega)
  have g6 : (hold.length : Int) ≤ (hold.length : Int) := by omega
  have g7 : (i : Int) < (hold.length : Int) := by omega
  have g8 := at_cl hx
  have b1 : told.length * 32 ≤ 140737488355328 := by omega
  have b2 : (told.length + 1) * 32 ≤ 140737488355328 := by omega
  have q1 : ((i : Int) + 1).toNat = i + 1 := by omega
  have q2 : (encCl hold).take hold.length = encCl hold := List.take_of_length_le (by rw [len_cl]; exact Nat.le_refl _)
  have b3 : ((encCl hold).take i).length * 80 ≤ 140737488355328 := by rw [List.length_take, len_cl]; omega
  have b4 : (((encCl hold).take i).length + ((encCl hold).drop (i + 1)).length) * 80 ≤ 140737488355328 := by rw [List.length_take, List.length_drop, len_cl]; omega
  simp only [roSt, riSt, cl_cut, ml_snoc, Int.natCast_add, Int.cast_ofNat_Int] at hQ ⊢
  repeat (first | refine aw_seq ?_ | refine aw_block ?_ | with_reducible refine aw_ret ?_ | with_reducible refine aw_skip ?_ | with_reducible refine aw_exit ?_ | refine thn_normal ?_ | refine thn_out ?_ | refine blk_normal ?_ | refine blk_ret ?_ | refine blk_exit ?_ | ((first | refine aw_regO ?_ | refine aw_regDO ?_ | refine aw_condO ?_ | refine fin_retO ?_); (conv => (arg 1; simp (maxSteps := 30000) only [ev0, ev1, ev2, look, lookF, cellsFrom, offT, offP, List.tail_nil, List.length_nil, Int.cast_ofNat_Int, Nat.reduceEqDiff, Nat.reduceAdd, Nat.reduceMul, Nat.reduceLeDiff, Nat.reduceLT, ↓reduceIte, reduceCtorEq, Int.reduceBEq, Int.reduceBNe, Int.reduceLT, Int.reduceLE, Int.reduceToNat, g0, g1, g2, g3, g4, g5, g6, g7, g8, hr, len_cl, len_ml, q1, q2, b1, b2, b3, b4, List.length_append, Int.toNat_natCast, List.drop_zero, Int.toNat_zero])); (first | with_reducible refine on_yes ?_ | with_reducible refine on_no ?_ | with_reducible refine on_reg ?_ | (with_reducible refine on_regD (by decide +kernel) ?_) | with_reducible refine on_fin ?_)))
  exact hQ
set_option maxHeartbeats 4000000 in
theorem rh_one0f (next p0 p1 p2 : Int) (E H : List D) (hold : List Ch) (told : List Ms) (i : Nat) (kind number place : Int) (data : List UInt8) (early : List Int) (hx : hold[i]? = some ⟨kind, number, 0, place, data, early⟩) (hr : (place == p0) = false) (hp : 0 ≤ p0 ∧ p0 ≤ 1000) (hT : told.length ≤ 1000) (hc : hold.length ≤ 1000) (Q : AX → St → Prop)
    (hQ : Q none (riSt next E H ⟨p0, p1, p2, hold, told⟩ (i + 1))) :
    r1_RecvHear_l22a (riSt next E H ⟨p0, p1, p2, hold, told⟩ i) Q := by
  have hi : i < hold.length := (List.getElem?_eq_some_iff.1 hx).1
  have g0 : (0 : Int) ≤ (i : Int) := by omega
  have g1 : (i : Int) ≤ (hold.length : Int) := by omega
  have g2 : inR .i64 ((i : Int) + 1) = true := inR_of (by omega)
  have g3 : (i : Int) + 1 ≤ (hold.length : Int) := by omega
  have g4 : (0 : Int) ≤ (i : Int) + 1 := by omega
  have g5 : inR .i64 (p0 + 1) = true := inR_of (by omega)
  have g6 : (hold.length : Int) ≤ (hold.length : Int) := by omega
  have g7 : (i : Int) < (hold.length : Int) := by omega
  have g8 := at_cl hx
  have b1 : told.length * 32 ≤ 140737488355328 := by omega
  have b2 : (told.length + 1) * 32 ≤ 140737488355328 := by omega
  have q1 : ((i : Int) + 1).toNat = i + 1 := by omega
  have q2 : (encCl hold).take hold.length = encCl hold := List.take_of_length_le (by rw [len_cl]; exact Nat.le_refl _)
  have b3 : ((encCl hold).take i).length * 80 ≤ 140737488355328 := by rw [List.length_take, len_cl]; omega
  have b4 : (((encCl hold).take i).length + ((encCl hold).drop (i + 1)).length) * 80 ≤ 140737488355328 := by rw [List.length_take, List.length_drop, len_cl]; omega
  simp only [roSt, riSt, cl_cut, ml_snoc, Int.natCast_add, Int.cast_ofNat_Int] at hQ ⊢
  repeat (first | refine aw_seq ?_ | refine aw_block ?_ | with_reducible refine aw_ret ?_ | with_reducible refine aw_skip ?_ | with_reducible refine aw_exit ?_ | refine thn_normal ?_ | refine thn_out ?_ | refine blk_normal ?_ | refine blk_ret ?_ | refine blk_exit ?_ | ((first | refine aw_regO ?_ | refine aw_regDO ?_ | refine aw_condO ?_ | refine fin_retO ?_); (conv => (arg 1; simp (maxSteps := 30000) only [ev0, ev1, ev2, look, lookF, cellsFrom, offT, offP, List.tail_nil, List.length_nil, Int.cast_ofNat_Int, Nat.reduceEqDiff, Nat.reduceAdd, Nat.reduceMul, Nat.reduceLeDiff, Nat.reduceLT, ↓reduceIte, reduceCtorEq, Int.reduceBEq, Int.reduceBNe, Int.reduceLT, Int.reduceLE, Int.reduceToNat, g0, g1, g2, g3, g4, g5, g6, g7, g8, hr, len_cl, len_ml, q1, q2, b1, b2, b3, b4, List.length_append, Int.toNat_natCast, List.drop_zero, Int.toNat_zero])); (first | with_reducible refine on_yes ?_ | with_reducible refine on_no ?_ | with_reducible refine on_reg ?_ | (with_reducible refine on_regD (by decide +kernel) ?_) | with_reducible refine on_fin ?_)))
  exact hQ
set_option maxHeartbeats 4000000 in
theorem rh_one1t (next p0 p1 p2 : Int) (E H : List D) (hold : List Ch) (told : List Ms) (i : Nat) (kind number place : Int) (data : List UInt8) (early : List Int) (hx : hold[i]? = some ⟨kind, number, 1, place, data, early⟩) (hr : (place == p1) = true) (hp : 0 ≤ p1 ∧ p1 ≤ 1000) (hT : told.length ≤ 1000) (hc : hold.length ≤ 1000) (Q : AX → St → Prop)
    (hQ : Q (some (some 8)) (roSt next E H ⟨p0, p1 + 1, p2, hold.take i ++ hold.drop (i + 1), told ++ [⟨1, data⟩]⟩)) :
    r1_RecvHear_l22a (riSt next E H ⟨p0, p1, p2, hold, told⟩ i) Q := by
  have hi : i < hold.length := (List.getElem?_eq_some_iff.1 hx).1
  have g0 : (0 : Int) ≤ (i : Int) := by omega
  have g1 : (i : Int) ≤ (hold.length : Int) := by omega
  have g2 : inR .i64 ((i : Int) + 1) = true := inR_of (by omega)
  have g3 : (i : Int) + 1 ≤ (hold.length : Int) := by omega
  have g4 : (0 : Int) ≤ (i : Int) + 1 := by omega
  have g5 : inR .i64 (p1 + 1) = true := inR_of (by omega)
  have g6 : (hold.length : Int) ≤ (hold.length : Int) := by omega
  have g7 : (i : Int) < (hold.length : Int) := by omega
  have g8 := at_cl hx
  have b1 : told.length * 32 ≤ 140737488355328 := by omega
  have b2 : (told.length + 1) * 32 ≤ 140737488355328 := by omega
  have q1 : ((i : Int) + 1).toNat = i + 1 := by omega
  have q2 : (encCl hold).take hold.length = encCl hold := List.take_of_length_le (by rw [len_cl]; exact Nat.le_refl _)
  have b3 : ((encCl hold).take i).length * 80 ≤ 140737488355328 := by rw [List.length_take, len_cl]; omega
  have b4 : (((encCl hold).take i).length + ((encCl hold).drop (i + 1)).length) * 80 ≤ 140737488355328 := by rw [List.length_take, List.length_drop, len_cl]; omega
  simp only [roSt, riSt, cl_cut, ml_snoc, Int.natCast_add, Int.cast_ofNat_Int] at hQ ⊢
  repeat (first | refine aw_seq ?_ | refine aw_block ?_ | with_reducible refine aw_ret ?_ | with_reducible refine aw_skip ?_ | with_reducible refine aw_exit ?_ | refine thn_normal ?_ | refine thn_out ?_ | refine blk_normal ?_ | refine blk_ret ?_ | refine blk_exit ?_ | ((first | refine aw_regO ?_ | refine aw_regDO ?_ | refine aw_condO ?_ | refine fin_retO ?_); (conv => (arg 1; simp (maxSteps := 30000) only [ev0, ev1, ev2, look, lookF, cellsFrom, offT, offP, List.tail_nil, List.length_nil, Int.cast_ofNat_Int, Nat.reduceEqDiff, Nat.reduceAdd, Nat.reduceMul, Nat.reduceLeDiff, Nat.reduceLT, ↓reduceIte, reduceCtorEq, Int.reduceBEq, Int.reduceBNe, Int.reduceLT, Int.reduceLE, Int.reduceToNat, g0, g1, g2, g3, g4, g5, g6, g7, g8, hr, len_cl, len_ml, q1, q2, b1, b2, b3, b4, List.length_append, Int.toNat_natCast, List.drop_zero, Int.toNat_zero])); (first | with_reducible refine on_yes ?_ | with_reducible refine on_no ?_ | with_reducible refine on_reg ?_ | (with_reducible refine on_regD (by decide +kernel) ?_) | with_reducible refine on_fin ?_)))
  exact hQ
set_option maxHeartbeats 4000000 in
theorem rh_one1f (next p0 p1 p2 : Int) (E H : List D) (hold : List Ch) (told : List Ms) (i : Nat) (kind number place : Int) (data : List UInt8) (early : List Int) (hx : hold[i]? = some ⟨kind, number, 1, place, data, early⟩) (hr : (place == p1) = false) (hp : 0 ≤ p1 ∧ p1 ≤ 1000) (hT : told.length ≤ 1000) (hc : hold.length ≤ 1000) (Q : AX → St → Prop)
    (hQ : Q none (riSt next E H ⟨p0, p1, p2, hold, told⟩ (i + 1))) :
    r1_RecvHear_l22a (riSt next E H ⟨p0, p1, p2, hold, told⟩ i) Q := by
  have hi : i < hold.length := (List.getElem?_eq_some_iff.1 hx).1
  have g0 : (0 : Int) ≤ (i : Int) := by omega
  have g1 : (i : Int) ≤ (hold.length : Int) := by omega
  have g2 : inR .i64 ((i : Int) + 1) = true := inR_of (by omega)
  have g3 : (i : Int) + 1 ≤ (hold.length : Int) := by omega
  have g4 : (0 : Int) ≤ (i : Int) + 1 := by omega
  have g5 : inR .i64 (p1 + 1) = true := inR_of (by omega)
  have g6 : (hold.length : Int) ≤ (hold.length : Int) := by omega
  have g7 : (i : Int) < (hold.length : Int) := by omega
  have g8 := at_cl hx
  have b1 : told.length * 32 ≤ 140737488355328 := by omega
  have b2 : (told.length + 1) * 32 ≤ 140737488355328 := by omega
  have q1 : ((i : Int) + 1).toNat = i + 1 := by omega
  have q2 : (encCl hold).take hold.length = encCl hold := List.take_of_length_le (by rw [len_cl]; exact Nat.le_refl _)
  have b3 : ((encCl hold).take i).length * 80 ≤ 140737488355328 := by rw [List.length_take, len_cl]; omega
  have b4 : (((encCl hold).take i).length + ((encCl hold).drop (i + 1)).length) * 80 ≤ 140737488355328 := by rw [List.length_take, List.length_drop, len_cl]; omega
  simp only [roSt, riSt, cl_cut, ml_snoc, Int.natCast_add, Int.cast_ofNat_Int] at hQ ⊢
  repeat (first | refine aw_seq ?_ | refine aw_block ?_ | with_reducible refine aw_ret ?_ | with_reducible refine aw_skip ?_ | with_reducible refine aw_exit ?_ | refine thn_normal ?_ | refine thn_out ?_ | refine blk_normal ?_ | refine blk_ret ?_ | refine blk_exit ?_ | ((first | refine aw_regO ?_ | refine aw_regDO ?_ | refine aw_condO ?_ | refine fin_retO ?_); (conv => (arg 1; simp (maxSteps := 30000) only [ev0, ev1, ev2, look, lookF, cellsFrom, offT, offP, List.tail_nil, List.length_nil, Int.cast_ofNat_Int, Nat.reduceEqDiff, Nat.reduceAdd, Nat.reduceMul, Nat.reduceLeDiff, Nat.reduceLT, ↓reduceIte, reduceCtorEq, Int.reduceBEq, Int.reduceBNe, Int.reduceLT, Int.reduceLE, Int.reduceToNat, g0, g1, g2, g3, g4, g5, g6, g7, g8, hr, len_cl, len_ml, q1, q2, b1, b2, b3, b4, List.length_append, Int.toNat_natCast, List.drop_zero, Int.toNat_zero])); (first | with_reducible refine on_yes ?_ | with_reducible refine on_no ?_ | with_reducible refine on_reg ?_ | (with_reducible refine on_regD (by decide +kernel) ?_) | with_reducible refine on_fin ?_)))
  exact hQ
set_option maxHeartbeats 4000000 in
theorem rh_one2t (next p0 p1 p2 : Int) (E H : List D) (hold : List Ch) (told : List Ms) (i : Nat) (kind number place : Int) (data : List UInt8) (early : List Int) (hx : hold[i]? = some ⟨kind, number, 2, place, data, early⟩) (hr : (place == p2) = true) (hp : 0 ≤ p2 ∧ p2 ≤ 1000) (hT : told.length ≤ 1000) (hc : hold.length ≤ 1000) (Q : AX → St → Prop)
    (hQ : Q (some (some 8)) (roSt next E H ⟨p0, p1, p2 + 1, hold.take i ++ hold.drop (i + 1), told ++ [⟨2, data⟩]⟩)) :
    r1_RecvHear_l22a (riSt next E H ⟨p0, p1, p2, hold, told⟩ i) Q := by
  have hi : i < hold.length := (List.getElem?_eq_some_iff.1 hx).1
  have g0 : (0 : Int) ≤ (i : Int) := by omega
  have g1 : (i : Int) ≤ (hold.length : Int) := by omega
  have g2 : inR .i64 ((i : Int) + 1) = true := inR_of (by omega)
  have g3 : (i : Int) + 1 ≤ (hold.length : Int) := by omega
  have g4 : (0 : Int) ≤ (i : Int) + 1 := by omega
  have g5 : inR .i64 (p2 + 1) = true := inR_of (by omega)
  have g6 : (hold.length : Int) ≤ (hold.length : Int) := by omega
  have g7 : (i : Int) < (hold.length : Int) := by omega
  have g8 := at_cl hx
  have b1 : told.length * 32 ≤ 140737488355328 := by omega
  have b2 : (told.length + 1) * 32 ≤ 140737488355328 := by omega
  have q1 : ((i : Int) + 1).toNat = i + 1 := by omega
  have q2 : (encCl hold).take hold.length = encCl hold := List.take_of_length_le (by rw [len_cl]; exact Nat.le_refl _)
  have b3 : ((encCl hold).take i).length * 80 ≤ 140737488355328 := by rw [List.length_take, len_cl]; omega
  have b4 : (((encCl hold).take i).length + ((encCl hold).drop (i + 1)).length) * 80 ≤ 140737488355328 := by rw [List.length_take, List.length_drop, len_cl]; omega
  simp only [roSt, riSt, cl_cut, ml_snoc, Int.natCast_add, Int.cast_ofNat_Int] at hQ ⊢
  repeat (first | refine aw_seq ?_ | refine aw_block ?_ | with_reducible refine aw_ret ?_ | with_reducible refine aw_skip ?_ | with_reducible refine aw_exit ?_ | refine thn_normal ?_ | refine thn_out ?_ | refine blk_normal ?_ | refine blk_ret ?_ | refine blk_exit ?_ | ((first | refine aw_regO ?_ | refine aw_regDO ?_ | refine aw_condO ?_ | refine fin_retO ?_); (conv => (arg 1; simp (maxSteps := 30000) only [ev0, ev1, ev2, look, lookF, cellsFrom, offT, offP, List.tail_nil, List.length_nil, Int.cast_ofNat_Int, Nat.reduceEqDiff, Nat.reduceAdd, Nat.reduceMul, Nat.reduceLeDiff, Nat.reduceLT, ↓reduceIte, reduceCtorEq, Int.reduceBEq, Int.reduceBNe, Int.reduceLT, Int.reduceLE, Int.reduceToNat, g0, g1, g2, g3, g4, g5, g6, g7, g8, hr, len_cl, len_ml, q1, q2, b1, b2, b3, b4, List.length_append, Int.toNat_natCast, List.drop_zero, Int.toNat_zero])); (first | with_reducible refine on_yes ?_ | with_reducible refine on_no ?_ | with_reducible refine on_reg ?_ | (with_reducible refine on_regD (by decide +kernel) ?_) | with_reducible refine on_fin ?_)))
  exact hQ
set_option maxHeartbeats 4000000 in
theorem rh_one2f (next p0 p1 p2 : Int) (E H : List D) (hold : List Ch) (told : List Ms) (i : Nat) (kind number place : Int) (data : List UInt8) (early : List Int) (hx : hold[i]? = some ⟨kind, number, 2, place, data, early⟩) (hr : (place == p2) = false) (hp : 0 ≤ p2 ∧ p2 ≤ 1000) (hT : told.length ≤ 1000) (hc : hold.length ≤ 1000) (Q : AX → St → Prop)
    (hQ : Q none (riSt next E H ⟨p0, p1, p2, hold, told⟩ (i + 1))) :
    r1_RecvHear_l22a (riSt next E H ⟨p0, p1, p2, hold, told⟩ i) Q := by
  have hi : i < hold.length := (List.getElem?_eq_some_iff.1 hx).1
  have g0 : (0 : Int) ≤ (i : Int) := by omega
  have g1 : (i : Int) ≤ (hold.length : Int) := by omega
  have g2 : inR .i64 ((i : Int) + 1) = true := inR_of (by omega)
  have g3 : (i : Int) + 1 ≤ (hold.length : Int) := by omega
  have g4 : (0 : Int) ≤ (i : Int) + 1 := by omega
  have g5 : inR .i64 (p2 + 1) = true := inR_of (by omega)
  have g6 : (hold.length : Int) ≤ (hold.length : Int) := by omega
  have g7 : (i : Int) < (hold.length : Int) := by omega
  have g8 := at_cl hx
  have b1 : told.length * 32 ≤ 140737488355328 := by omega
  have b2 : (told.length + 1) * 32 ≤ 140737488355328 := by omega
  have q1 : ((i : Int) + 1).toNat = i + 1 := by omega
  have q2 : (encCl hold).take hold.length = encCl hold := List.take_of_length_le (by rw [len_cl]; exact Nat.le_refl _)
  have b3 : ((encCl hold).take i).length * 80 ≤ 140737488355328 := by rw [List.length_take, len_cl]; omega
  have b4 : (((encCl hold).take i).length + ((encCl hold).drop (i + 1)).length) * 80 ≤ 140737488355328 := by rw [List.length_take, List.length_drop, len_cl]; omega
  simp only [roSt, riSt, cl_cut, ml_snoc, Int.natCast_add, Int.cast_ofNat_Int] at hQ ⊢
  repeat (first | refine aw_seq ?_ | refine aw_block ?_ | with_reducible refine aw_ret ?_ | with_reducible refine aw_skip ?_ | with_reducible refine aw_exit ?_ | refine thn_normal ?_ | refine thn_out ?_ | refine blk_normal ?_ | refine blk_ret ?_ | refine blk_exit ?_ | ((first | refine aw_regO ?_ | refine aw_regDO ?_ | refine aw_condO ?_ | refine fin_retO ?_); (conv => (arg 1; simp (maxSteps := 30000) only [ev0, ev1, ev2, look, lookF, cellsFrom, offT, offP, List.tail_nil, List.length_nil, Int.cast_ofNat_Int, Nat.reduceEqDiff, Nat.reduceAdd, Nat.reduceMul, Nat.reduceLeDiff, Nat.reduceLT, ↓reduceIte, reduceCtorEq, Int.reduceBEq, Int.reduceBNe, Int.reduceLT, Int.reduceLE, Int.reduceToNat, g0, g1, g2, g3, g4, g5, g6, g7, g8, hr, len_cl, len_ml, q1, q2, b1, b2, b3, b4, List.length_append, Int.toNat_natCast, List.drop_zero, Int.toNat_zero])); (first | with_reducible refine on_yes ?_ | with_reducible refine on_no ?_ | with_reducible refine on_reg ?_ | (with_reducible refine on_regD (by decide +kernel) ?_) | with_reducible refine on_fin ?_)))
  exact hQ
end Go.Proofs.Ytnncmddmjpocfab.ab
