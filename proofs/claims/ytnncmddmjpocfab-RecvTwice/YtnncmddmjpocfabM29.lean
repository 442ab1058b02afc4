/-
  Several texts in one.
-/
import Derived.Test.YtnncmddmjpocfabIrRecv
import Derived.Test.YtnncmddmjpocfabM24
import Derived.Test.YtnncmddmjpocfabAWrong

/-
  What the answer's RecvHear tells: its loops, one by one.
-/
namespace Go.Proofs.Ytnncmddmjpocfab.ab
set_option linter.unusedVariables false
set_option linter.unusedSimpArgs false
open Go Go.RowKit
open mth

def encRv (r : Rv) : List D := [vI r.next, sD 1 (r.early.map vI), vI r.p0, vI r.p1, vI r.p2, sD 6 (encCl r.hold), sD 2 (encMl r.told), vB r.owes]
/-- The entries of the map of those that came. -/
def encS (l : List Int) : List D := l.map fun n => aD [vI n, vB true]
theorem encS_look (l : List Int) (n : Int) : (mlk (encS l) n).getD (.bool false) = .bool (l.contains n) := by
  induction l with
  | nil => rfl
  | cons x r ih =>
    show (mlk (aD [vI x, vB true] :: encS r) n).getD (.bool false) = _
    rw [List.contains_cons]
    unfold mlk
    by_cases h : x = n
    · subst h; simp
    · have h1 : (n == x) = false := by rw [beq_eq_false_iff_ne]; exact fun e => h e.symm
      rw [h1, Bool.false_or, ← ih]
      simp [h]
theorem encS_cons (x : Int) (l : List Int) : aD [vI x, vB true] :: encS l = encS (x :: l) := rfl
theorem len_encS (l : List Int) : (encS l).length = l.length := List.length_map _
/-- At the head of the first loop. -/
def raSt (B2 B3 B4 : List D) (early : List Int) (n : Int) (k : Nat) : St :=
  ⟨[(2, pD 2 0), (3, pD 3 0), (4, pD 4 0), (5, hD 200018), (23, sD 1 (early.map vI)), (24, vI early.length), (25, vI k)], [(2, B2), (3, B3), (4, B4), (200018, encS ((early.take k).reverse ++ [n]))], []⟩
theorem raSt_def (B2 B3 B4 : List D) (early : List Int) (n : Int) (k : Nat) : raSt B2 B3 B4 early n k = ⟨[(2, pD 2 0), (3, pD 3 0), (4, pD 4 0), (5, hD 200018), (23, sD 1 (early.map vI)), (24, vI early.length), (25, vI k)], [(2, B2), (3, B3), (4, B4), (200018, encS ((early.take k).reverse ++ [n]))], []⟩ := rfl
set_option maxHeartbeats 4000000 in
theorem rh_early (next p0 p1 p2 : Int) (H T : List D) (c : Ch) (early : List Int) (hl : early.length ≤ 3) (h40 : ∀ n ∈ early, 0 ≤ n ∧ n < 40) (hn : 0 ≤ c.number ∧ c.number < 40) (Q : AX → St → Prop)
    (hyes : early.contains c.number = true → Q (some none) ⟨[(4, pD 4 0)], [(4, [vI next, sD 1 (early.map vI), vI p0, vI p1, vI p2, sD 6 H, sD 2 T, vB true])], []⟩)
    (hno : early.contains c.number = false → Q none ⟨[(2, pD 2 0), (3, pD 3 0), (4, pD 4 0), (5, hD 200018), (23, sD 1 (early.map vI)), (24, vI early.length), (25, vI early.length), (26, vB false)], [(2, [vI next, sD 1 (early.map vI), vI p0, vI p1, vI p2, sD 6 H, sD 2 T, vB true]), (3, encCh c), (4, [vI 0, vD (.slice none 0 0), vI 0, vI 0, vI 0, vD (.slice none 0 0), vD (.slice none 0 0), vB false]), (200018, encS (early.reverse ++ [c.number]))], []⟩) :
    r1_RecvHear_b2 (raSt [vI next, sD 1 (early.map vI), vI p0, vI p1, vI p2, sD 6 H, sD 2 T, vB true] (encCh c) [vI 0, vD (.slice none 0 0), vI 0, vI 0, vI 0, vD (.slice none 0 0), vD (.slice none 0 0), vB false] early c.number 0) Q := by
  refine aw_block ?_
  refine aw_loop (fun m st => ∃ k : Nat, k ≤ early.length ∧ m = early.length - k ∧ (early.take k).contains c.number = false ∧ st = raSt [vI next, sD 1 (early.map vI), vI p0, vI p1, vI p2, sD 6 H, sD 2 T, vB true] (encCh c) [vI 0, vD (.slice none 0 0), vI 0, vI 0, vI 0, vD (.slice none 0 0), vD (.slice none 0 0), vB false] early c.number k) early.length _ (Le.refl _) ⟨0, by omega, by omega, by simp, rfl⟩ ?_
  rintro m st ⟨k, hk, hm, hb, rfl⟩
  by_cases hlt : k < early.length
  · obtain ⟨y, hy⟩ : ∃ m, early[k]? = some m := ⟨early[k], List.getElem?_eq_getElem hlt⟩
    have hyr := h40 y (List.mem_of_getElem? hy)
    have g1 : (k : Int) < (early.length : Int) := by omega
    have g2 : (0 : Int) ≤ (k : Int) := by omega
    have g3 := at_il hy
    have g4 : inR .i64 ((k : Int) + 1) = true := inR_of (by omega)
    have g5 : inR .i64 y = true := inR_of (by omega)
    have htk : early.take (k + 1) = early.take k ++ [y] := by rw [List.take_add_one, hy]; rfl
    cases hp : (y == c.number) with
    | true =>
      have hc : early.contains c.number = true := by
        have e : y = c.number := by simpa using hp
        rw [List.contains_iff_mem, ← e]; exact List.mem_of_getElem? hy
      have hq := hyes hc
      generalize (fun m st => ∃ k : Nat, k ≤ early.length ∧ m = early.length - k ∧ (early.take k).contains c.number = false ∧ st = raSt [vI next, sD 1 (early.map vI), vI p0, vI p1, vI p2, sD 6 H, sD 2 T, vB true] (encCh c) [vI 0, vD (.slice none 0 0), vI 0, vI 0, vI 0, vD (.slice none 0 0), vD (.slice none 0 0), vB false] early c.number k) = J at *
      simp only [raSt_def, encCh]
      repeat (first | refine aw_seq ?_ | refine aw_block ?_ | with_reducible refine aw_ret ?_ | with_reducible refine aw_skip ?_ | with_reducible refine aw_exit ?_ | refine thn_normal ?_ | refine thn_out ?_ | refine blk_normal ?_ | refine blk_ret ?_ | refine blk_exit ?_ | ((first | refine aw_regO ?_ | refine aw_regDO ?_ | refine aw_condO ?_ | refine fin_retO ?_); (conv => (arg 1; simp (maxSteps := 30000) only [ev0, ev1, ev2, look, lookF, cellsFrom, offT, offP, List.tail_nil, List.length_nil, Int.cast_ofNat_Int, Nat.reduceEqDiff, Nat.reduceAdd, Nat.reduceMul, Nat.reduceLeDiff, Nat.reduceLT, ↓reduceIte, reduceCtorEq, Int.reduceBEq, Int.reduceBNe, Int.reduceLT, Int.reduceLE, Int.reduceToNat, g1, g2, g3, hp])); (first | with_reducible refine on_yes ?_ | with_reducible refine on_no ?_ | with_reducible refine on_reg ?_ | (with_reducible refine on_regD (by decide +kernel) ?_) | with_reducible refine on_fin ?_)))
      exact hq
    | false =>
      have hnx : Next (fun m st => ∃ k : Nat, k ≤ early.length ∧ m = early.length - k ∧ (early.take k).contains c.number = false ∧ st = raSt [vI next, sD 1 (early.map vI), vI p0, vI p1, vI p2, sD 6 H, sD 2 T, vB true] (encCh c) [vI 0, vD (.slice none 0 0), vI 0, vI 0, vI 0, vD (.slice none 0 0), vD (.slice none 0 0), vB false] early c.number k) m
          ⟨[(2, pD 2 0), (3, pD 3 0), (4, pD 4 0), (5, hD 200018), (23, sD 1 (early.map vI)), (24, vI early.length), (25, vI ((k : Int) + 1))], [(2, [vI next, sD 1 (early.map vI), vI p0, vI p1, vI p2, sD 6 H, sD 2 T, vB true]), (3, encCh c), (4, [vI 0, vD (.slice none 0 0), vI 0, vI 0, vI 0, vD (.slice none 0 0), vD (.slice none 0 0), vB false]), (200018, aD [vI y, vB true] :: encS ((early.take k).reverse ++ [c.number]))], []⟩ := by
        refine ⟨early.length - (k + 1), _, by omega, Le.refl _, k + 1, by omega, rfl, ?_, ?_⟩
        · rw [htk]
          cases hcc : (early.take k ++ [y]).contains c.number with
          | false => rfl
          | true =>
            rcases List.mem_append.1 (List.contains_iff_mem.1 hcc) with q | q
            · rw [List.contains_iff_mem.2 q] at hb; cases hb
            · rw [List.mem_singleton.1 q] at hp; simp at hp
        · rw [raSt_def, htk, List.reverse_append, Int.natCast_add, Int.cast_ofNat_Int, encS_cons]; rfl
      generalize (fun m st => ∃ k : Nat, k ≤ early.length ∧ m = early.length - k ∧ (early.take k).contains c.number = false ∧ st = raSt [vI next, sD 1 (early.map vI), vI p0, vI p1, vI p2, sD 6 H, sD 2 T, vB true] (encCh c) [vI 0, vD (.slice none 0 0), vI 0, vI 0, vI 0, vD (.slice none 0 0), vD (.slice none 0 0), vB false] early c.number k) = J at *
      simp only [raSt_def, encCh] at hnx ⊢
      have g6 : ((early.take k).reverse ++ [c.number]).length ≤ 9 := by
        rw [List.length_append, List.length_reverse, List.length_take]; simp; omega
      generalize (early.take k).reverse ++ [c.number] = L at *
      have g7 : (encS L).length < 140737488355328 := by rw [len_encS]; omega
      repeat (first | refine aw_seq ?_ | refine aw_block ?_ | with_reducible refine aw_ret ?_ | with_reducible refine aw_skip ?_ | with_reducible refine aw_exit ?_ | refine thn_normal ?_ | refine thn_out ?_ | refine blk_normal ?_ | refine blk_ret ?_ | refine blk_exit ?_ | ((first | refine aw_regO ?_ | refine aw_regDO ?_ | refine aw_condO ?_ | refine fin_retO ?_); (conv => (arg 1; simp (maxSteps := 30000) only [ev0, ev1, ev2, look, lookF, cellsFrom, offT, offP, List.tail_nil, List.length_nil, Int.cast_ofNat_Int, Nat.reduceEqDiff, Nat.reduceAdd, Nat.reduceMul, Nat.reduceLeDiff, Nat.reduceLT, ↓reduceIte, reduceCtorEq, Int.reduceBEq, Int.reduceBNe, Int.reduceLT, Int.reduceLE, Int.reduceToNat, g1, g2, g3, g4, g5, g7, hp])); (first | with_reducible refine on_yes ?_ | with_reducible refine on_no ?_ | with_reducible refine on_reg ?_ | (with_reducible refine on_regD (by decide +kernel) ?_) | with_reducible refine on_fin ?_)))
      exact hnx
  · have hk' : k = early.length := by omega
    subst hk'
    have g1 : ¬ (early.length : Int) < (early.length : Int) := by omega
    rw [List.take_length] at hb
    have hq := hno hb
    simp only [raSt_def, List.take_length]
    repeat (first | refine aw_seq ?_ | refine aw_block ?_ | with_reducible refine aw_ret ?_ | with_reducible refine aw_skip ?_ | with_reducible refine aw_exit ?_ | refine thn_normal ?_ | refine thn_out ?_ | refine blk_normal ?_ | refine blk_ret ?_ | refine blk_exit ?_ | ((first | refine aw_regO ?_ | refine aw_regDO ?_ | refine aw_condO ?_ | refine fin_retO ?_); (conv => (arg 1; simp (maxSteps := 30000) only [ev0, ev1, ev2, look, lookF, cellsFrom, offT, offP, List.tail_nil, List.length_nil, Int.cast_ofNat_Int, Nat.reduceEqDiff, Nat.reduceAdd, Nat.reduceMul, Nat.reduceLeDiff, Nat.reduceLT, ↓reduceIte, reduceCtorEq, Int.reduceBEq, Int.reduceBNe, Int.reduceLT, Int.reduceLE, Int.reduceToNat, g1])); (first | with_reducible refine on_yes ?_ | with_reducible refine on_no ?_ | with_reducible refine on_reg ?_ | (with_reducible refine on_regD (by decide +kernel) ?_) | with_reducible refine on_fin ?_)))
    exact hq
end Go.Proofs.Ytnncmddmjpocfab.ab

/-
  What the answer's RecvHear tells: up to the next that has not come, and what came early.
-/
namespace Go.Proofs.Ytnncmddmjpocfab.ab
set_option linter.unusedVariables false
set_option linter.unusedSimpArgs false
open Go Go.RowKit
open mth

/-- At the head of the second loop. -/
def rbSt (B3 B4 : List D) (early : List Int) (p0 p1 p2 : Int) (H T : List D) (L : List Int) (n : Int) : St :=
  ⟨[(2, pD 2 0), (3, pD 3 0), (4, pD 4 0), (5, hD 200018)], [(2, [vI n, sD 1 (early.map vI), vI p0, vI p1, vI p2, sD 6 H, sD 2 T, vB true]), (3, B3), (4, B4), (200018, encS L)], []⟩
theorem rbSt_def (B3 B4 : List D) (early : List Int) (p0 p1 p2 : Int) (H T : List D) (L : List Int) (n : Int) : rbSt B3 B4 early p0 p1 p2 H T L n = ⟨[(2, pD 2 0), (3, pD 3 0), (4, pD 4 0), (5, hD 200018)], [(2, [vI n, sD 1 (early.map vI), vI p0, vI p1, vI p2, sD 6 H, sD 2 T, vB true]), (3, B3), (4, B4), (200018, encS L)], []⟩ := rfl
set_option maxHeartbeats 4000000 in
theorem rh_climb (next nx p0 p1 p2 : Int) (H T : List D) (c : Ch) (early L : List Int) (h0 : 0 ≤ next) (h1 : next ≤ nx) (h2 : nx ≤ 40) (h3 : L.contains nx = false) (h4 : ∀ m, next ≤ m → m < nx → L.contains m = true) (Q : AX → St → Prop)
    (hQ : Q none ⟨[(2, pD 2 0), (3, pD 3 0), (4, pD 4 0), (5, hD 200018), (59, vB false)], [(2, [vI nx, sD 1 (early.map vI), vI p0, vI p1, vI p2, sD 6 H, sD 2 T, vB true]), (3, encCh c), (4, [vI 0, vD (.slice none 0 0), vI 0, vI 0, vI 0, vD (.slice none 0 0), vD (.slice none 0 0), vB false]), (200018, encS L)], []⟩) :
    r1_RecvHear_b8 (rbSt (encCh c) [vI 0, vD (.slice none 0 0), vI 0, vI 0, vI 0, vD (.slice none 0 0), vD (.slice none 0 0), vB false] early p0 p1 p2 H T L next) Q := by
  refine aw_block ?_
  refine aw_loop (fun m st => ∃ n : Int, next ≤ n ∧ n ≤ nx ∧ m = (nx - n).toNat ∧ st = rbSt (encCh c) [vI 0, vD (.slice none 0 0), vI 0, vI 0, vI 0, vD (.slice none 0 0), vD (.slice none 0 0), vB false] early p0 p1 p2 H T L n) (nx - next).toNat _ (Le.refl _) ⟨next, by omega, by omega, rfl, rfl⟩ ?_
  rintro m st ⟨n, hn1, hn2, hm, rfl⟩
  have hlk := encS_look L n
  have g1 : inR .i64 n = true := inR_of (by omega)
  by_cases hlt : n < nx
  · rw [h4 n hn1 hlt] at hlk
    have g2 : inR .i64 (n + 1) = true := inR_of (by omega)
    have hnx : Next (fun m st => ∃ n : Int, next ≤ n ∧ n ≤ nx ∧ m = (nx - n).toNat ∧ st = rbSt (encCh c) [vI 0, vD (.slice none 0 0), vI 0, vI 0, vI 0, vD (.slice none 0 0), vD (.slice none 0 0), vB false] early p0 p1 p2 H T L n) m (rbSt (encCh c) [vI 0, vD (.slice none 0 0), vI 0, vI 0, vI 0, vD (.slice none 0 0), vD (.slice none 0 0), vB false] early p0 p1 p2 H T L (n + 1)) :=
      ⟨(nx - (n + 1)).toNat, _, by omega, Le.refl _, n + 1, by omega, by omega, rfl, rfl⟩
    generalize (fun m st => ∃ n : Int, next ≤ n ∧ n ≤ nx ∧ m = (nx - n).toNat ∧ st = rbSt (encCh c) [vI 0, vD (.slice none 0 0), vI 0, vI 0, vI 0, vD (.slice none 0 0), vD (.slice none 0 0), vB false] early p0 p1 p2 H T L n) = J at *
    simp only [rbSt_def, encCh] at hnx ⊢
    repeat (first | refine aw_seq ?_ | refine aw_block ?_ | with_reducible refine aw_ret ?_ | with_reducible refine aw_skip ?_ | with_reducible refine aw_exit ?_ | refine thn_normal ?_ | refine thn_out ?_ | refine blk_normal ?_ | refine blk_ret ?_ | refine blk_exit ?_ | ((first | refine aw_regO ?_ | refine aw_regDO ?_ | refine aw_condO ?_ | refine fin_retO ?_); (conv => (arg 1; simp (maxSteps := 30000) only [ev0, ev1, ev2, look, lookF, cellsFrom, offT, offP, List.tail_nil, List.length_nil, Int.cast_ofNat_Int, Nat.reduceEqDiff, Nat.reduceAdd, Nat.reduceMul, Nat.reduceLeDiff, Nat.reduceLT, ↓reduceIte, reduceCtorEq, Int.reduceBEq, Int.reduceBNe, Int.reduceLT, Int.reduceLE, Int.reduceToNat, g1, g2, hlk])); (first | with_reducible refine on_yes ?_ | with_reducible refine on_no ?_ | with_reducible refine on_reg ?_ | (with_reducible refine on_regD (by decide +kernel) ?_) | with_reducible refine on_fin ?_)))
    exact hnx
  · have : n = nx := by omega
    subst this
    rw [h3] at hlk
    simp only [rbSt_def]
    repeat (first | refine aw_seq ?_ | refine aw_block ?_ | with_reducible refine aw_ret ?_ | with_reducible refine aw_skip ?_ | with_reducible refine aw_exit ?_ | refine thn_normal ?_ | refine thn_out ?_ | refine blk_normal ?_ | refine blk_ret ?_ | refine blk_exit ?_ | ((first | refine aw_regO ?_ | refine aw_regDO ?_ | refine aw_condO ?_ | refine fin_retO ?_); (conv => (arg 1; simp (maxSteps := 30000) only [ev0, ev1, ev2, look, lookF, cellsFrom, offT, offP, List.tail_nil, List.length_nil, Int.cast_ofNat_Int, Nat.reduceEqDiff, Nat.reduceAdd, Nat.reduceMul, Nat.reduceLeDiff, Nat.reduceLT, ↓reduceIte, reduceCtorEq, Int.reduceBEq, Int.reduceBNe, Int.reduceLT, Int.reduceLE, Int.reduceToNat, g1, hlk])); (first | with_reducible refine on_yes ?_ | with_reducible refine on_no ?_ | with_reducible refine on_reg ?_ | (with_reducible refine on_regD (by decide +kernel) ?_) | with_reducible refine on_fin ?_)))
    exact hQ

/-- At the head of the third loop. -/
def rcSt (B3 B4 : List D) (next p0 p1 p2 : Int) (H T : List D) (L : List Int) (n : Int) : St :=
  ⟨[(2, pD 2 0), (3, pD 3 0), (4, pD 4 0), (5, hD 200018), (8, vI n)], [(2, [vI next, sD 1 (((rangeI next n).filter fun m => L.contains m).map vI), vI p0, vI p1, vI p2, sD 6 H, sD 2 T, vB true]), (3, B3), (4, B4), (200018, encS L)], [((2, some 1), (3, 1, none))]⟩
theorem rcSt_def (B3 B4 : List D) (next p0 p1 p2 : Int) (H T : List D) (L : List Int) (n : Int) : rcSt B3 B4 next p0 p1 p2 H T L n = ⟨[(2, pD 2 0), (3, pD 3 0), (4, pD 4 0), (5, hD 200018), (8, vI n)], [(2, [vI next, sD 1 (((rangeI next n).filter fun m => L.contains m).map vI), vI p0, vI p1, vI p2, sD 6 H, sD 2 T, vB true]), (3, B3), (4, B4), (200018, encS L)], [((2, some 1), (3, 1, none))]⟩ := rfl
set_option maxHeartbeats 4000000 in
theorem rh_over (next p0 p1 p2 : Int) (H T : List D) (c : Ch) (L : List Int) (h0 : 0 ≤ next) (h1 : next ≤ 40) (Q : AX → St → Prop)
    (hQ : Q none ⟨[(2, pD 2 0), (3, pD 3 0), (4, pD 4 0), (5, hD 200018), (8, vI 40), (68, vB false)], [(2, [vI next, sD 1 ((earlyR L next).map vI), vI p0, vI p1, vI p2, sD 6 H, sD 2 T, vB true]), (3, encCh c), (4, [vI 0, vD (.slice none 0 0), vI 0, vI 0, vI 0, vD (.slice none 0 0), vD (.slice none 0 0), vB false]), (200018, encS L)], [((2, some 1), (3, 1, none))]⟩) :
    r1_RecvHear_b12 (rcSt (encCh c) [vI 0, vD (.slice none 0 0), vI 0, vI 0, vI 0, vD (.slice none 0 0), vD (.slice none 0 0), vB false] next p0 p1 p2 H T L next) Q := by
  refine aw_block ?_
  refine aw_loop (fun m st => ∃ n : Int, next ≤ n ∧ n ≤ 40 ∧ m = (40 - n).toNat ∧ st = rcSt (encCh c) [vI 0, vD (.slice none 0 0), vI 0, vI 0, vI 0, vD (.slice none 0 0), vD (.slice none 0 0), vB false] next p0 p1 p2 H T L n) (40 - next).toNat _ (Le.refl _) ⟨next, by omega, by omega, rfl, rfl⟩ ?_
  rintro m st ⟨n, hn1, hn2, hm, rfl⟩
  have hlk := encS_look L n
  have g1 : inR .i64 n = true := inR_of (by omega)
  have hnx : n < 40 → Next (fun m st => ∃ n : Int, next ≤ n ∧ n ≤ 40 ∧ m = (40 - n).toNat ∧ st = rcSt (encCh c) [vI 0, vD (.slice none 0 0), vI 0, vI 0, vI 0, vD (.slice none 0 0), vD (.slice none 0 0), vB false] next p0 p1 p2 H T L n) m (rcSt (encCh c) [vI 0, vD (.slice none 0 0), vI 0, vI 0, vI 0, vD (.slice none 0 0), vD (.slice none 0 0), vB false] next p0 p1 p2 H T L (n + 1)) :=
    fun hlt => ⟨(40 - (n + 1)).toNat, _, by omega, Le.refl _, n + 1, by omega, by omega, rfl, rfl⟩
  have hsz : (((rangeI next n).filter fun m => L.contains m).map vI).length ≤ 40 := by
    rw [List.length_map]
    refine Nat.le_trans (List.length_filter_le _ _) ?_
    rw [rangeI_len]; omega
  by_cases hlt : n < 40
  · have g2 : inR .i64 (n + 1) = true := inR_of (by omega)
    have hnx := hnx hlt
    generalize (fun m st => ∃ n : Int, next ≤ n ∧ n ≤ 40 ∧ m = (40 - n).toNat ∧ st = rcSt (encCh c) [vI 0, vD (.slice none 0 0), vI 0, vI 0, vI 0, vD (.slice none 0 0), vD (.slice none 0 0), vB false] next p0 p1 p2 H T L n) = J at *
    cases hc : L.contains n with
    | true =>
      rw [hc] at hlk
      have he : ((rangeI next (n + 1)).filter fun m => L.contains m).map vI = ((rangeI next n).filter fun m => L.contains m).map vI ++ [vI n] := by
        rw [rangeI_snoc hn1, List.filter_append, List.map_append, List.filter_cons_of_pos (by exact hc), List.filter_nil]; rfl
      simp only [rcSt_def, encCh, he] at hnx ⊢
      generalize ((rangeI next n).filter fun m => L.contains m).map vI = E at *
      have g3 : E.length * 8 ≤ 140737488355328 := by omega
      have g4 : (E.length + 1) * 8 ≤ 140737488355328 := by omega
      repeat (first | refine aw_seq ?_ | refine aw_block ?_ | with_reducible refine aw_ret ?_ | with_reducible refine aw_skip ?_ | with_reducible refine aw_exit ?_ | refine thn_normal ?_ | refine thn_out ?_ | refine blk_normal ?_ | refine blk_ret ?_ | refine blk_exit ?_ | ((first | refine aw_regO ?_ | refine aw_regDO ?_ | refine aw_condO ?_ | refine fin_retO ?_); (conv => (arg 1; simp (maxSteps := 30000) only [ev0, ev1, ev2, look, lookF, cellsFrom, offT, offP, List.tail_nil, List.length_nil, Int.cast_ofNat_Int, Nat.reduceEqDiff, Nat.reduceAdd, Nat.reduceMul, Nat.reduceLeDiff, Nat.reduceLT, ↓reduceIte, reduceCtorEq, Int.reduceBEq, Int.reduceBNe, Int.reduceLT, Int.reduceLE, Int.reduceToNat, hlt, g1, g2, g3, g4, hlk, List.length_append])); (first | with_reducible refine on_yes ?_ | with_reducible refine on_no ?_ | with_reducible refine on_reg ?_ | (with_reducible refine on_regD (by decide +kernel) ?_) | with_reducible refine on_fin ?_)))
      exact hnx
    | false =>
      rw [hc] at hlk
      have he : ((rangeI next (n + 1)).filter fun m => L.contains m).map vI = ((rangeI next n).filter fun m => L.contains m).map vI := by
        rw [rangeI_snoc hn1, List.filter_append, List.map_append, List.filter_cons_of_neg (by rw [hc]; simp), List.filter_nil]
        exact List.append_nil _
      simp only [rcSt_def, encCh, he] at hnx ⊢
      generalize ((rangeI next n).filter fun m => L.contains m).map vI = E at *
      repeat (first | refine aw_seq ?_ | refine aw_block ?_ | with_reducible refine aw_ret ?_ | with_reducible refine aw_skip ?_ | with_reducible refine aw_exit ?_ | refine thn_normal ?_ | refine thn_out ?_ | refine blk_normal ?_ | refine blk_ret ?_ | refine blk_exit ?_ | ((first | refine aw_regO ?_ | refine aw_regDO ?_ | refine aw_condO ?_ | refine fin_retO ?_); (conv => (arg 1; simp (maxSteps := 30000) only [ev0, ev1, ev2, look, lookF, cellsFrom, offT, offP, List.tail_nil, List.length_nil, Int.cast_ofNat_Int, Nat.reduceEqDiff, Nat.reduceAdd, Nat.reduceMul, Nat.reduceLeDiff, Nat.reduceLT, ↓reduceIte, reduceCtorEq, Int.reduceBEq, Int.reduceBNe, Int.reduceLT, Int.reduceLE, Int.reduceToNat, hlt, g1, g2, hlk])); (first | with_reducible refine on_yes ?_ | with_reducible refine on_no ?_ | with_reducible refine on_reg ?_ | (with_reducible refine on_regD (by decide +kernel) ?_) | with_reducible refine on_fin ?_)))
      exact hnx
  · have : n = 40 := by omega
    subst this
    simp only [rcSt_def]
    repeat (first | refine aw_seq ?_ | refine aw_block ?_ | with_reducible refine aw_ret ?_ | with_reducible refine aw_skip ?_ | with_reducible refine aw_exit ?_ | refine thn_normal ?_ | refine thn_out ?_ | refine blk_normal ?_ | refine blk_ret ?_ | refine blk_exit ?_ | ((first | refine aw_regO ?_ | refine aw_regDO ?_ | refine aw_condO ?_ | refine fin_retO ?_); (conv => (arg 1; simp (maxSteps := 30000) only [ev0, ev1, ev2, look, lookF, cellsFrom, offT, offP, List.tail_nil, List.length_nil, Int.cast_ofNat_Int, Nat.reduceEqDiff, Nat.reduceAdd, Nat.reduceMul, Nat.reduceLeDiff, Nat.reduceLT, ↓reduceIte, reduceCtorEq, Int.reduceBEq, Int.reduceBNe, Int.reduceLT, Int.reduceLE, Int.reduceToNat])); (first | with_reducible refine on_yes ?_ | with_reducible refine on_no ?_ | with_reducible refine on_reg ?_ | (with_reducible refine on_regD (by decide +kernel) ?_) | with_reducible refine on_fin ?_)))
    exact hQ
end Go.Proofs.Ytnncmddmjpocfab.ab
