/-
  What the library's IndexFunc and DeleteFunc tell of chunks in flight; what the landed Hear tells.
-/
import Derived.Test.YtficfkeifcnbmabALandHear
namespace Go.Proofs.Ytficfkeifcnbmab.ab
set_option linter.unusedVariables false
set_option linter.unusedSimpArgs false
open Go Go.RowKit
open mth

def ifSt (l : List Ch) (c : Ch) (k : Nat) : St := ⟨[(0, sD 6 (encCl l)), (1, jD 1 32 (encCh c)), (7, vI l.length), (8, vI k)], [], []⟩
set_option maxHeartbeats 2000000 in
theorem indexF_told (l : List Ch) (c : Ch) (hl : l.length ≤ 1048576) (he : c.early.length ≤ 9223372036854775807) : Told Try.prog 31 [sD 6 (encCl l), jD 1 32 (encCh c)] [vI (idxG (goneP c) l)] := by
  refine told_slices_IndexFunc rfl ?_
  repeat (first | refine aw_seq ?_ | refine aw_block ?_ | with_reducible refine aw_ret ?_ | with_reducible refine aw_skip ?_ | with_reducible refine aw_exit ?_ | refine thn_normal ?_ | refine thn_out ?_ | refine blk_normal ?_ | refine blk_ret ?_ | refine blk_exit ?_ | ((first | refine aw_regO ?_ | refine aw_regDO ?_ | refine aw_condO ?_ | refine fin_retO ?_); (conv => (arg 1; simp (maxSteps := 30000) only [ev0, ev1, ev2, look, lookF, cellsFrom, offT, offP, List.tail_nil, List.length_nil, Int.cast_ofNat_Int, Nat.reduceEqDiff, Nat.reduceAdd, Nat.reduceMul, Nat.reduceLeDiff, Nat.reduceLT, ↓reduceIte, reduceCtorEq, Int.reduceBEq, Int.reduceBNe, Int.reduceLT, Int.reduceLE, Int.reduceToNat, len_cl])); (first | with_reducible refine on_yes ?_ | with_reducible refine on_no ?_ | with_reducible refine on_reg ?_ | (with_reducible refine on_regD (by decide +kernel) ?_) | with_reducible refine on_fin ?_)))
  refine aw_loop (fun m st => ∃ k : Nat, k ≤ l.length ∧ m = l.length - k ∧ (∀ i y, i < k → l[i]? = some y → goneP c y = false) ∧ st = ifSt l c k) l.length (ifSt l c 0) (Le.keep (lv := [0, 1, 7, 8]) (lb := []) (by simp only [ev0, ev1, ev2, look, lookF, cellsFrom, offT, offP, List.tail_nil, List.length_nil, Int.cast_ofNat_Int, Nat.reduceEqDiff, Nat.reduceAdd, Nat.reduceMul, Nat.reduceLeDiff, Nat.reduceLT, ↓reduceIte, reduceCtorEq, Int.reduceBEq, Int.reduceBNe, Int.reduceLT, Int.reduceLE, Int.reduceToNat]; rfl)) ⟨0, by omega, by omega, (fun i y hi => by omega), rfl⟩ ?_
  rintro m st ⟨k, hk, hm, hb, rfl⟩
  by_cases hlt : k < l.length
  · obtain ⟨x, hx⟩ : ∃ m, l[k]? = some m := ⟨l[k], List.getElem?_eq_getElem hlt⟩
    have g1 : (k : Int) < (l.length : Int) := by omega
    have g2 : (0 : Int) ≤ (k : Int) := by omega
    have g3 := at_cl hx
    have g4 : inR .i64 ((k : Int) + 1) = true := inR_of (by omega)
    have hS := cameS_told c x he
    cases hp : goneP c x with
    | true =>
      rw [idxG_at hx hp hb]
      rw [hp] at hS
      generalize (fun m st => ∃ k : Nat, k ≤ l.length ∧ m = l.length - k ∧ (∀ i y, i < k → l[i]? = some y → goneP c y = false) ∧ st = ifSt l c k) = J at *
      simp only [ifSt]
      generalize encCh c = E at *
      simp only [encCh] at hS
      repeat (first | refine aw_seq ?_ | refine aw_block ?_ | with_reducible refine aw_ret ?_ | with_reducible refine aw_skip ?_ | with_reducible refine aw_exit ?_ | refine thn_normal ?_ | refine thn_out ?_ | refine blk_normal ?_ | refine blk_ret ?_ | refine blk_exit ?_ | ((first | refine aw_regO ?_ | refine aw_regDO ?_ | refine aw_condO ?_ | refine fin_retO ?_); (conv => (arg 1; simp (maxSteps := 30000) only [ev0, ev1, ev2, look, lookF, cellsFrom, offT, offP, List.tail_nil, List.length_nil, Int.cast_ofNat_Int, Nat.reduceEqDiff, Nat.reduceAdd, Nat.reduceMul, Nat.reduceLeDiff, Nat.reduceLT, ↓reduceIte, reduceCtorEq, Int.reduceBEq, Int.reduceBNe, Int.reduceLT, Int.reduceLE, Int.reduceToNat, g1, g2, g3, callS])); (first | with_reducible refine on_yes ?_ | with_reducible refine on_no ?_ | with_reducible refine on_reg ?_ | (with_reducible refine on_regD (by decide +kernel) ?_) | with_reducible refine on_fin ?_)))
      refine aw_reg [[vB true]] (by simp only [ev0, ev1, ev2, look, lookF, cellsFrom, offT, offP, List.tail_nil, List.length_nil, Int.cast_ofNat_Int, Nat.reduceEqDiff, Nat.reduceAdd, Nat.reduceMul, Nat.reduceLeDiff, Nat.reduceLT, ↓reduceIte, reduceCtorEq, Int.reduceBEq, Int.reduceBNe, Int.reduceLT, Int.reduceLE, Int.reduceToNat, g2, g3, callS]; first | rfl | exact ⟨rfl, rfl⟩) ?_ ?_
      · exact obl_cons hS obl_nil
      repeat (first | refine aw_seq ?_ | refine aw_block ?_ | with_reducible refine aw_ret ?_ | with_reducible refine aw_skip ?_ | with_reducible refine aw_exit ?_ | refine thn_normal ?_ | refine thn_out ?_ | refine blk_normal ?_ | refine blk_ret ?_ | refine blk_exit ?_ | ((first | refine aw_regO ?_ | refine aw_regDO ?_ | refine aw_condO ?_ | refine fin_retO ?_); (conv => (arg 1; simp (maxSteps := 30000) only [ev0, ev1, ev2, look, lookF, cellsFrom, offT, offP, List.tail_nil, List.length_nil, Int.cast_ofNat_Int, Nat.reduceEqDiff, Nat.reduceAdd, Nat.reduceMul, Nat.reduceLeDiff, Nat.reduceLT, ↓reduceIte, reduceCtorEq, Int.reduceBEq, Int.reduceBNe, Int.reduceLT, Int.reduceLE, Int.reduceToNat])); (first | with_reducible refine on_yes ?_ | with_reducible refine on_no ?_ | with_reducible refine on_reg ?_ | (with_reducible refine on_regD (by decide +kernel) ?_) | with_reducible refine on_fin ?_)))
      exact ValsLe.refl _
    | false =>
      rw [hp] at hS
      have hnx : Next (fun m st => ∃ k : Nat, k ≤ l.length ∧ m = l.length - k ∧ (∀ i y, i < k → l[i]? = some y → goneP c y = false) ∧ st = ifSt l c k) m ⟨[(0, sD 6 (encCl l)), (1, jD 1 32 (encCh c)), (7, vI l.length), (8, vI ((k : Int) + 1))], [], []⟩ := by
        refine ⟨l.length - (k + 1), _, by omega, Le.refl _, k + 1, by omega, rfl, fun i y hi hy => ?_, by simp only [ifSt, Int.natCast_add, Int.cast_ofNat_Int]⟩
        by_cases hik : i = k
        · subst hik; rw [hx] at hy; cases hy; exact hp
        · exact hb i y (by omega) hy
      generalize (fun m st => ∃ k : Nat, k ≤ l.length ∧ m = l.length - k ∧ (∀ i y, i < k → l[i]? = some y → goneP c y = false) ∧ st = ifSt l c k) = J at *
      simp only [ifSt]
      generalize encCh c = E at *
      simp only [encCh] at hS
      repeat (first | refine aw_seq ?_ | refine aw_block ?_ | with_reducible refine aw_ret ?_ | with_reducible refine aw_skip ?_ | with_reducible refine aw_exit ?_ | refine thn_normal ?_ | refine thn_out ?_ | refine blk_normal ?_ | refine blk_ret ?_ | refine blk_exit ?_ | ((first | refine aw_regO ?_ | refine aw_regDO ?_ | refine aw_condO ?_ | refine fin_retO ?_); (conv => (arg 1; simp (maxSteps := 30000) only [ev0, ev1, ev2, look, lookF, cellsFrom, offT, offP, List.tail_nil, List.length_nil, Int.cast_ofNat_Int, Nat.reduceEqDiff, Nat.reduceAdd, Nat.reduceMul, Nat.reduceLeDiff, Nat.reduceLT, ↓reduceIte, reduceCtorEq, Int.reduceBEq, Int.reduceBNe, Int.reduceLT, Int.reduceLE, Int.reduceToNat, g1, g2, g3, callS])); (first | with_reducible refine on_yes ?_ | with_reducible refine on_no ?_ | with_reducible refine on_reg ?_ | (with_reducible refine on_regD (by decide +kernel) ?_) | with_reducible refine on_fin ?_)))
      refine aw_reg [[vB false]] (by simp only [ev0, ev1, ev2, look, lookF, cellsFrom, offT, offP, List.tail_nil, List.length_nil, Int.cast_ofNat_Int, Nat.reduceEqDiff, Nat.reduceAdd, Nat.reduceMul, Nat.reduceLeDiff, Nat.reduceLT, ↓reduceIte, reduceCtorEq, Int.reduceBEq, Int.reduceBNe, Int.reduceLT, Int.reduceLE, Int.reduceToNat, g2, g3, callS]; first | rfl | exact ⟨rfl, rfl⟩) ?_ ?_
      · exact obl_cons hS obl_nil
      repeat (first | refine aw_seq ?_ | refine aw_block ?_ | with_reducible refine aw_ret ?_ | with_reducible refine aw_skip ?_ | with_reducible refine aw_exit ?_ | refine thn_normal ?_ | refine thn_out ?_ | refine blk_normal ?_ | refine blk_ret ?_ | refine blk_exit ?_ | ((first | refine aw_regO ?_ | refine aw_regDO ?_ | refine aw_condO ?_ | refine fin_retO ?_); (conv => (arg 1; simp (maxSteps := 30000) only [ev0, ev1, ev2, look, lookF, cellsFrom, offT, offP, List.tail_nil, List.length_nil, Int.cast_ofNat_Int, Nat.reduceEqDiff, Nat.reduceAdd, Nat.reduceMul, Nat.reduceLeDiff, Nat.reduceLT, ↓reduceIte, reduceCtorEq, Int.reduceBEq, Int.reduceBNe, Int.reduceLT, Int.reduceLE, Int.reduceToNat, g4])); (first | with_reducible refine on_yes ?_ | with_reducible refine on_no ?_ | with_reducible refine on_reg ?_ | (with_reducible refine on_regD (by decide +kernel) ?_) | with_reducible refine on_fin ?_)))
      exact hnx
  · have hk' : k = l.length := by omega
    subst hk'
    have g1 : ¬ (l.length : Int) < (l.length : Int) := by omega
    rw [idxG_no (fun i y hy => hb i y (List.getElem?_eq_some_iff.1 hy).1 hy)]
    simp only [ifSt]
    repeat (first | refine aw_seq ?_ | refine aw_block ?_ | with_reducible refine aw_ret ?_ | with_reducible refine aw_skip ?_ | with_reducible refine aw_exit ?_ | refine thn_normal ?_ | refine thn_out ?_ | refine blk_normal ?_ | refine blk_ret ?_ | refine blk_exit ?_ | ((first | refine aw_regO ?_ | refine aw_regDO ?_ | refine aw_condO ?_ | refine fin_retO ?_); (conv => (arg 1; simp (maxSteps := 30000) only [ev0, ev1, ev2, look, lookF, cellsFrom, offT, offP, List.tail_nil, List.length_nil, Int.cast_ofNat_Int, Nat.reduceEqDiff, Nat.reduceAdd, Nat.reduceMul, Nat.reduceLeDiff, Nat.reduceLT, ↓reduceIte, reduceCtorEq, Int.reduceBEq, Int.reduceBNe, Int.reduceLT, Int.reduceLE, Int.reduceToNat, g1])); (first | with_reducible refine on_yes ?_ | with_reducible refine on_no ?_ | with_reducible refine on_reg ?_ | (with_reducible refine on_regD (by decide +kernel) ?_) | with_reducible refine on_fin ?_)))
    exact ValsLe.refl _

theorem no_filter {c : Ch} {l : List Ch} (h : idxG (goneP c) l = -1) : l.filter (fun x => !goneP c x) = l := by
  unfold idxG at h
  split at h
  · omega
  · rename_i hlt
    have h' : l.findIdx (goneP c) = l.length := by have := List.findIdx_le_length (p := goneP c) (xs := l); omega
    have := List.findIdx_eq_length.1 h'
    exact List.filter_eq_self.2 (fun x hx => by rw [this x hx]; rfl)
/-- At the head of the loop: what is kept so far lies in front. -/
def dlSt (arr : List Ch) (c : Ch) (i j : Nat) : St := ⟨[(0, oD 100000 arr.length), (1, jD 1 32 (encCh c)), (5, vI i), (6, vI j)], [(100000, [sD 6 (encCl arr)]), (100000, [sD 6 (encCl arr)])], []⟩
theorem dlSt_def (arr : List Ch) (c : Ch) (i j : Nat) : dlSt arr c i j = ⟨[(0, oD 100000 arr.length), (1, jD 1 32 (encCh c)), (5, vI i), (6, vI j)], [(100000, [sD 6 (encCl arr)]), (100000, [sD 6 (encCl arr)])], []⟩ := rfl
structure DlOk (l arr : List Ch) (c : Ch) (i j : Nat) : Prop where
  len : arr.length = l.length
  le : j ≤ l.length
  lt : i < j
  front : arr.take i = (l.take j).filter (fun x => !goneP c x)
  back : arr.drop j = l.drop j
theorem cl_set (l : List Ch) (i : Nat) (x : Ch) : (encCl l).set i (aD [vI x.kind, vI x.number, vI x.stream, vI x.place, sD 1 (x.data.map encB), sD 1 (x.early.map vI)]) = encCl (l.set i x) := by
  simp [encCl, encCh, List.map_set]
theorem DlOk.gone {l arr : List Ch} {c x : Ch} {i j : Nat} (h : DlOk l arr c i j) (hx : l[j]? = some x) (hp : goneP c x = true) : DlOk l arr c i (j + 1) := by
  have hj : j < l.length := (List.getElem?_eq_some_iff.1 hx).1
  refine ⟨h.len, by omega, by have := h.lt; omega, ?_, ?_⟩
  · rw [h.front, List.take_add_one, hx]
    simp [hp]
  · have := congrArg List.tail h.back
    simpa using this
theorem DlOk.kept {l arr : List Ch} {c x : Ch} {i j : Nat} (h : DlOk l arr c i j) (hx : l[j]? = some x) (hp : goneP c x = false) : DlOk l (arr.set i x) c (i + 1) (j + 1) := by
  have hj : j < l.length := (List.getElem?_eq_some_iff.1 hx).1
  have hi := h.lt
  refine ⟨by rw [List.length_set, h.len], by omega, by omega, ?_, ?_⟩
  · rw [List.take_add_one (l := l), hx, List.filter_append, ← h.front]
    rw [List.take_add_one, List.getElem?_set_self (by rw [h.len]; omega), List.take_set_of_le (Nat.le_refl _)]
    simp [hp]
  · rw [List.drop_set_of_lt (by omega)]
    have := congrArg List.tail h.back
    simpa using this

set_option maxHeartbeats 8000000 in
theorem deleteF_core (l : List Ch) (c : Ch) (hl : l.length ≤ 1048576) (hne : l ≠ []) (he : c.early.length ≤ 9223372036854775807) :
    slices_DeleteFunc ⟨startT (oD 100000 (encCl l).length :: [jD 1 32 (encCh c)]) 0, [(100000, [sD 6 (encCl l)])], []⟩ (fin [(4, none)] [sD 6 (encCl (l.filter fun x => !goneP c x))]) := by
  have hI := indexF_told l c hl he
  have hl0 : 0 < l.length := List.length_pos_iff.2 hne
  by_cases hno : idxG (goneP c) l = -1
  · rw [no_filter hno]
    rw [hno] at hI
    generalize encCh c = E at *
    repeat (first | refine aw_seq ?_ | refine aw_block ?_ | with_reducible refine aw_ret ?_ | with_reducible refine aw_skip ?_ | with_reducible refine aw_exit ?_ | refine thn_normal ?_ | refine thn_out ?_ | refine blk_normal ?_ | refine blk_ret ?_ | refine blk_exit ?_ | ((first | refine aw_regO ?_ | refine aw_regDO ?_ | refine aw_condO ?_ | refine fin_retO ?_); (conv => (arg 1; simp (maxSteps := 30000) only [ev0, ev1, ev2, look, lookF, cellsFrom, offT, offP, List.tail_nil, List.length_nil, Int.cast_ofNat_Int, Nat.reduceEqDiff, Nat.reduceAdd, Nat.reduceMul, Nat.reduceLeDiff, Nat.reduceLT, ↓reduceIte, reduceCtorEq, Int.reduceBEq, Int.reduceBNe, Int.reduceLT, Int.reduceLE, Int.reduceToNat, len_cl])); (first | with_reducible refine on_yes ?_ | with_reducible refine on_no ?_ | with_reducible refine on_reg ?_ | (with_reducible refine on_regD (by decide +kernel) ?_) | with_reducible refine on_fin ?_)))
    refine aw_reg [[vI (-1)]] (by simp only [ev0, ev1, ev2, look, lookF, cellsFrom, offT, offP, List.tail_nil, List.length_nil, Int.cast_ofNat_Int, Nat.reduceEqDiff, Nat.reduceAdd, Nat.reduceMul, Nat.reduceLeDiff, Nat.reduceLT, ↓reduceIte, reduceCtorEq, Int.reduceBEq, Int.reduceBNe, Int.reduceLT, Int.reduceLE, Int.reduceToNat, len_cl, hl0]; first | rfl | exact ⟨rfl, rfl⟩) ?_ ?_
    · exact obl_cons hI obl_nil
    repeat (first | refine aw_seq ?_ | refine aw_block ?_ | with_reducible refine aw_ret ?_ | with_reducible refine aw_skip ?_ | with_reducible refine aw_exit ?_ | refine thn_normal ?_ | refine thn_out ?_ | refine blk_normal ?_ | refine blk_ret ?_ | refine blk_exit ?_ | ((first | refine aw_regO ?_ | refine aw_regDO ?_ | refine aw_condO ?_ | refine fin_retO ?_); (conv => (arg 1; simp (maxSteps := 30000) only [ev0, ev1, ev2, look, lookF, cellsFrom, offT, offP, List.tail_nil, List.length_nil, Int.cast_ofNat_Int, Nat.reduceEqDiff, Nat.reduceAdd, Nat.reduceMul, Nat.reduceLeDiff, Nat.reduceLT, ↓reduceIte, reduceCtorEq, Int.reduceBEq, Int.reduceBNe, Int.reduceLT, Int.reduceLE, Int.reduceToNat, len_cl])); (first | with_reducible refine on_yes ?_ | with_reducible refine on_no ?_ | with_reducible refine on_reg ?_ | (with_reducible refine on_regD (by decide +kernel) ?_) | with_reducible refine on_fin ?_)))
    exact ValsLe.refl _
  · obtain ⟨i0, hi0, hix⟩ : ∃ i0 : Nat, i0 < l.length ∧ idxG (goneP c) l = i0 := by
      unfold idxG at hno ⊢
      split
      · rename_i q; exact ⟨_, q, rfl⟩
      · rename_i q; rw [if_neg q] at hno; exact absurd rfl hno
    have hfi : l.findIdx (goneP c) = i0 := by
      unfold idxG at hix
      split at hix
      · omega
      · omega
    have hpi := List.findIdx_eq hi0 |>.1 hfi
    rw [hix] at hI
    have hne1 : ((i0 : Int) == -1) = false := by
      have : ¬ (i0 : Int) = -1 := by omega
      rw [beq_eq_false_iff_ne]; exact this
    have hr0 : inR .i64 ((i0 : Int) + 1) = true := inR_of (by omega)
    have hst0 : DlOk l l c i0 (i0 + 1) := by
      refine ⟨rfl, by omega, by omega, ?_, rfl⟩
      rw [List.take_add_one, List.getElem?_eq_getElem hi0, List.filter_append]
      have h1 : (l.take i0).filter (fun x => !goneP c x) = l.take i0 := List.filter_eq_self.2 (fun x hx => by
        obtain ⟨j, hj, rfl⟩ := List.mem_iff_getElem.1 hx
        rw [List.getElem_take]
        have hj' : j < i0 := by rw [List.length_take] at hj; omega
        rw [hpi.2 j hj']; rfl)
      rw [h1]
      simp [hpi.1]
    have hle : Le ⟨[(0, oD 100000 l.length), (1, jD 1 32 (encCh c)), (5, vI i0), (6, vI ((i0 : Int) + 1))], [(100000, [sD 6 (encCl l)]), (100000, [sD 6 (encCl l)])], []⟩ (dlSt l c i0 (i0 + 1)) := by
      rw [dlSt_def, Int.natCast_add, Int.cast_ofNat_Int]; exact Le.refl _
    have hbody : ∀ Q : AX → St → Prop, (∀ arr i, DlOk l arr c i l.length → Q (some (some 0)) (⟨[(0, oD 100000 arr.length), (1, jD 1 32 (encCh c)), (5, vI i), (6, vI l.length), (19, vB false)], [(100000, [sD 6 (encCl arr)]), (100000, [sD 6 (encCl arr)])], []⟩ : St)) →
        ∀ n st, (∃ arr i j, DlOk l arr c i j ∧ n = l.length - j ∧ st = dlSt arr c i j) → slices_DeleteFunc_l3a st (thn (Next (fun n st => ∃ arr i j, DlOk l arr c i j ∧ n = l.length - j ∧ st = dlSt arr c i j) n) Q) := by
      rintro Q hQ n st ⟨arr, i, j, hok, hn, rfl⟩
      have hlen := hok.len
      by_cases hlt : j < l.length
      · obtain ⟨x, hx⟩ : ∃ m, l[j]? = some m := ⟨l[j], List.getElem?_eq_getElem hlt⟩
        have hxa : arr[j]? = some x := by
          have := congrArg (fun t => t[0]?) hok.back
          simp only [List.getElem?_drop, Nat.add_zero] at this
          rw [this]; exact hx
        have hij := hok.lt
        obtain ⟨y, hy⟩ : ∃ y, arr[i]? = some y := ⟨arr[i]'(by omega), List.getElem?_eq_getElem (by omega)⟩
        have g1 : (j : Int) < (arr.length : Int) := by omega
        have g2 : (0 : Int) ≤ (j : Int) := by omega
        have g3 := at_cl hxa
        have g4 : inR .i64 ((j : Int) + 1) = true := inR_of (by omega)
        have g5 : (0 : Int) ≤ (i : Int) := by omega
        have g6 : (i : Int) < (arr.length : Int) := by omega
        have g7 := at_cl hy
        have g8 : inR .i64 ((i : Int) + 1) = true := inR_of (by omega)
        have hS := cameS_told c x he
        cases hp : goneP c x with
        | true =>
          rw [hp] at hS
          have hnx : Next (fun n st => ∃ arr i j, DlOk l arr c i j ∧ n = l.length - j ∧ st = dlSt arr c i j) n ⟨[(0, oD 100000 arr.length), (1, jD 1 32 (encCh c)), (5, vI i), (6, vI ((j : Int) + 1))], [(100000, [sD 6 (encCl arr)]), (100000, [sD 6 (encCl arr)])], []⟩ :=
            ⟨l.length - (j + 1), _, by omega, Le.refl _, arr, i, j + 1, hok.gone hx hp, rfl, by rw [dlSt_def, Int.natCast_add, Int.cast_ofNat_Int]⟩
          generalize (fun n st => ∃ arr i j, DlOk l arr c i j ∧ n = l.length - j ∧ st = dlSt arr c i j) = J at *
          simp only [dlSt_def]
          generalize encCh c = E at *
          simp only [encCh] at hS
          repeat (first | refine aw_seq ?_ | refine aw_block ?_ | with_reducible refine aw_ret ?_ | with_reducible refine aw_skip ?_ | with_reducible refine aw_exit ?_ | refine thn_normal ?_ | refine thn_out ?_ | refine blk_normal ?_ | refine blk_ret ?_ | refine blk_exit ?_ | ((first | refine aw_regO ?_ | refine aw_regDO ?_ | refine aw_condO ?_ | refine fin_retO ?_); (conv => (arg 1; simp (maxSteps := 30000) only [ev0, ev1, ev2, look, lookF, cellsFrom, offT, offP, List.tail_nil, List.length_nil, Int.cast_ofNat_Int, Nat.reduceEqDiff, Nat.reduceAdd, Nat.reduceMul, Nat.reduceLeDiff, Nat.reduceLT, ↓reduceIte, reduceCtorEq, Int.reduceBEq, Int.reduceBNe, Int.reduceLT, Int.reduceLE, Int.reduceToNat, g1, g2, g3, callS, len_cl])); (first | with_reducible refine on_yes ?_ | with_reducible refine on_no ?_ | with_reducible refine on_reg ?_ | (with_reducible refine on_regD (by decide +kernel) ?_) | with_reducible refine on_fin ?_)))
          refine aw_reg [[vB true]] (by simp only [ev0, ev1, ev2, look, lookF, cellsFrom, offT, offP, List.tail_nil, List.length_nil, Int.cast_ofNat_Int, Nat.reduceEqDiff, Nat.reduceAdd, Nat.reduceMul, Nat.reduceLeDiff, Nat.reduceLT, ↓reduceIte, reduceCtorEq, Int.reduceBEq, Int.reduceBNe, Int.reduceLT, Int.reduceLE, Int.reduceToNat, callS]; first | rfl | exact ⟨rfl, rfl⟩) ?_ ?_
          · exact obl_cons hS obl_nil
          repeat (first | refine aw_seq ?_ | refine aw_block ?_ | with_reducible refine aw_ret ?_ | with_reducible refine aw_skip ?_ | with_reducible refine aw_exit ?_ | refine thn_normal ?_ | refine thn_out ?_ | refine blk_normal ?_ | refine blk_ret ?_ | refine blk_exit ?_ | ((first | refine aw_regO ?_ | refine aw_regDO ?_ | refine aw_condO ?_ | refine fin_retO ?_); (conv => (arg 1; simp (maxSteps := 30000) only [ev0, ev1, ev2, look, lookF, cellsFrom, offT, offP, List.tail_nil, List.length_nil, Int.cast_ofNat_Int, Nat.reduceEqDiff, Nat.reduceAdd, Nat.reduceMul, Nat.reduceLeDiff, Nat.reduceLT, ↓reduceIte, reduceCtorEq, Int.reduceBEq, Int.reduceBNe, Int.reduceLT, Int.reduceLE, Int.reduceToNat, g4])); (first | with_reducible refine on_yes ?_ | with_reducible refine on_no ?_ | with_reducible refine on_reg ?_ | (with_reducible refine on_regD (by decide +kernel) ?_) | with_reducible refine on_fin ?_)))
          exact hnx
        | false =>
          rw [hp] at hS
          have hnx : Next (fun n st => ∃ arr i j, DlOk l arr c i j ∧ n = l.length - j ∧ st = dlSt arr c i j) n ⟨[(0, oD 100000 arr.length), (1, jD 1 32 (encCh c)), (5, vI ((i : Int) + 1)), (6, vI ((j : Int) + 1))], [(100000, [sD 6 ((encCl arr).set i (aD [vI x.kind, vI x.number, vI x.stream, vI x.place, sD 1 (x.data.map encB), sD 1 (x.early.map vI)]))]), (100000, [sD 6 ((encCl arr).set i (aD [vI x.kind, vI x.number, vI x.stream, vI x.place, sD 1 (x.data.map encB), sD 1 (x.early.map vI)]))])], []⟩ :=
            ⟨l.length - (j + 1), _, by omega, Le.refl _, arr.set i x, i + 1, j + 1, hok.kept hx hp, rfl, by rw [dlSt_def, List.length_set, ← cl_set, Int.natCast_add, Int.natCast_add, Int.cast_ofNat_Int]⟩
          generalize (fun n st => ∃ arr i j, DlOk l arr c i j ∧ n = l.length - j ∧ st = dlSt arr c i j) = J at *
          simp only [dlSt_def]
          generalize encCh c = E at *
          simp only [encCh] at hS
          repeat (first | refine aw_seq ?_ | refine aw_block ?_ | with_reducible refine aw_ret ?_ | with_reducible refine aw_skip ?_ | with_reducible refine aw_exit ?_ | refine thn_normal ?_ | refine thn_out ?_ | refine blk_normal ?_ | refine blk_ret ?_ | refine blk_exit ?_ | ((first | refine aw_regO ?_ | refine aw_regDO ?_ | refine aw_condO ?_ | refine fin_retO ?_); (conv => (arg 1; simp (maxSteps := 30000) only [ev0, ev1, ev2, look, lookF, cellsFrom, offT, offP, List.tail_nil, List.length_nil, Int.cast_ofNat_Int, Nat.reduceEqDiff, Nat.reduceAdd, Nat.reduceMul, Nat.reduceLeDiff, Nat.reduceLT, ↓reduceIte, reduceCtorEq, Int.reduceBEq, Int.reduceBNe, Int.reduceLT, Int.reduceLE, Int.reduceToNat, g1, g2, g3, callS, len_cl])); (first | with_reducible refine on_yes ?_ | with_reducible refine on_no ?_ | with_reducible refine on_reg ?_ | (with_reducible refine on_regD (by decide +kernel) ?_) | with_reducible refine on_fin ?_)))
          refine aw_reg [[vB false]] (by simp only [ev0, ev1, ev2, look, lookF, cellsFrom, offT, offP, List.tail_nil, List.length_nil, Int.cast_ofNat_Int, Nat.reduceEqDiff, Nat.reduceAdd, Nat.reduceMul, Nat.reduceLeDiff, Nat.reduceLT, ↓reduceIte, reduceCtorEq, Int.reduceBEq, Int.reduceBNe, Int.reduceLT, Int.reduceLE, Int.reduceToNat, callS]; first | rfl | exact ⟨rfl, rfl⟩) ?_ ?_
          · exact obl_cons hS obl_nil
          repeat (first | refine aw_seq ?_ | refine aw_block ?_ | with_reducible refine aw_ret ?_ | with_reducible refine aw_skip ?_ | with_reducible refine aw_exit ?_ | refine thn_normal ?_ | refine thn_out ?_ | refine blk_normal ?_ | refine blk_ret ?_ | refine blk_exit ?_ | ((first | refine aw_regO ?_ | refine aw_regDO ?_ | refine aw_condO ?_ | refine fin_retO ?_); (conv => (arg 1; simp (maxSteps := 30000) only [ev0, ev1, ev2, look, lookF, cellsFrom, offT, offP, List.tail_nil, List.length_nil, Int.cast_ofNat_Int, Nat.reduceEqDiff, Nat.reduceAdd, Nat.reduceMul, Nat.reduceLeDiff, Nat.reduceLT, ↓reduceIte, reduceCtorEq, Int.reduceBEq, Int.reduceBNe, Int.reduceLT, Int.reduceLE, Int.reduceToNat, g4, g5, g6, g7, g8, len_cl])); (first | with_reducible refine on_yes ?_ | with_reducible refine on_no ?_ | with_reducible refine on_reg ?_ | (with_reducible refine on_regD (by decide +kernel) ?_) | with_reducible refine on_fin ?_)))
          exact hnx
      · have hj : j = l.length := by have := hok.le; omega
        subst hj
        have g1 : ¬ (l.length : Int) < (arr.length : Int) := by omega
        generalize (fun n st => ∃ arr i j, DlOk l arr c i j ∧ n = l.length - j ∧ st = dlSt arr c i j) = J at *
        simp only [dlSt_def]
        repeat (first | refine aw_seq ?_ | refine aw_block ?_ | with_reducible refine aw_ret ?_ | with_reducible refine aw_skip ?_ | with_reducible refine aw_exit ?_ | refine thn_normal ?_ | refine thn_out ?_ | refine blk_normal ?_ | refine blk_ret ?_ | refine blk_exit ?_ | ((first | refine aw_regO ?_ | refine aw_regDO ?_ | refine aw_condO ?_ | refine fin_retO ?_); (conv => (arg 1; simp (maxSteps := 30000) only [ev0, ev1, ev2, look, lookF, cellsFrom, offT, offP, List.tail_nil, List.length_nil, Int.cast_ofNat_Int, Nat.reduceEqDiff, Nat.reduceAdd, Nat.reduceMul, Nat.reduceLeDiff, Nat.reduceLT, ↓reduceIte, reduceCtorEq, Int.reduceBEq, Int.reduceBNe, Int.reduceLT, Int.reduceLE, Int.reduceToNat, g1, len_cl])); (first | with_reducible refine on_yes ?_ | with_reducible refine on_no ?_ | with_reducible refine on_reg ?_ | (with_reducible refine on_regD (by decide +kernel) ?_) | with_reducible refine on_fin ?_)))
        exact hQ arr i hok
    generalize hEE : encCh c = E at *
    repeat (first | refine aw_seq ?_ | refine aw_block ?_ | with_reducible refine aw_ret ?_ | with_reducible refine aw_skip ?_ | with_reducible refine aw_exit ?_ | refine thn_normal ?_ | refine thn_out ?_ | refine blk_normal ?_ | refine blk_ret ?_ | refine blk_exit ?_ | ((first | refine aw_regO ?_ | refine aw_regDO ?_ | refine aw_condO ?_ | refine fin_retO ?_); (conv => (arg 1; simp (maxSteps := 30000) only [ev0, ev1, ev2, look, lookF, cellsFrom, offT, offP, List.tail_nil, List.length_nil, Int.cast_ofNat_Int, Nat.reduceEqDiff, Nat.reduceAdd, Nat.reduceMul, Nat.reduceLeDiff, Nat.reduceLT, ↓reduceIte, reduceCtorEq, Int.reduceBEq, Int.reduceBNe, Int.reduceLT, Int.reduceLE, Int.reduceToNat, len_cl])); (first | with_reducible refine on_yes ?_ | with_reducible refine on_no ?_ | with_reducible refine on_reg ?_ | (with_reducible refine on_regD (by decide +kernel) ?_) | with_reducible refine on_fin ?_)))
    refine aw_reg [[vI i0]] (by simp only [ev0, ev1, ev2, look, lookF, cellsFrom, offT, offP, List.tail_nil, List.length_nil, Int.cast_ofNat_Int, Nat.reduceEqDiff, Nat.reduceAdd, Nat.reduceMul, Nat.reduceLeDiff, Nat.reduceLT, ↓reduceIte, reduceCtorEq, Int.reduceBEq, Int.reduceBNe, Int.reduceLT, Int.reduceLE, Int.reduceToNat, len_cl, hl0]; first | rfl | exact ⟨rfl, rfl⟩) ?_ ?_
    · exact obl_cons hI obl_nil
    repeat (first | refine aw_seq ?_ | refine aw_block ?_ | with_reducible refine aw_ret ?_ | with_reducible refine aw_skip ?_ | with_reducible refine aw_exit ?_ | refine thn_normal ?_ | refine thn_out ?_ | refine blk_normal ?_ | refine blk_ret ?_ | refine blk_exit ?_ | ((first | refine aw_regO ?_ | refine aw_regDO ?_ | refine aw_condO ?_ | refine fin_retO ?_); (conv => (arg 1; simp (maxSteps := 30000) only [ev0, ev1, ev2, look, lookF, cellsFrom, offT, offP, List.tail_nil, List.length_nil, Int.cast_ofNat_Int, Nat.reduceEqDiff, Nat.reduceAdd, Nat.reduceMul, Nat.reduceLeDiff, Nat.reduceLT, ↓reduceIte, reduceCtorEq, Int.reduceBEq, Int.reduceBNe, Int.reduceLT, Int.reduceLE, Int.reduceToNat, hne1, hr0])); (first | with_reducible refine on_yes ?_ | with_reducible refine on_no ?_ | with_reducible refine on_reg ?_ | (with_reducible refine on_regD (by decide +kernel) ?_) | with_reducible refine on_fin ?_)))
    refine aw_loop (fun n st => ∃ arr i j, DlOk l arr c i j ∧ n = l.length - j ∧ st = dlSt arr c i j) (l.length - (i0 + 1)) (dlSt l c i0 (i0 + 1)) hle ⟨l, i0, i0 + 1, hst0, rfl, rfl⟩ ?_
    refine hbody _ ?_
    intro arr i hok
    have hlen := hok.len
    have hil := hok.lt
    have g5 : (0 : Int) ≤ (i : Int) := by omega
    have g6 : (i : Int) < (arr.length : Int) := by omega
    have g7 : i + (arr.length - i) = arr.length := by omega
    have g8 : 0 < arr.length - i := by omega
    have g9 : arr.length = (List.take i (encCl arr) ++ List.replicate (arr.length - i) (aD (List.replicate 6 xD))).length := by
      rw [List.length_append, List.length_take, List.length_replicate, len_cl]; omega
    have g10 : (i : Int) ≤ ((List.take i (encCl arr) ++ List.replicate (arr.length - i) (aD (List.replicate 6 xD))).length : Nat) := by rw [← g9]; omega
    have g11 : (List.take i (encCl arr) ++ List.replicate (arr.length - i) (aD (List.replicate 6 xD))).take i = encCl (l.filter fun x => !goneP c x) := by
      rw [List.take_append_of_le_length (by rw [List.length_take, len_cl]; omega), List.take_take, Nat.min_self]
      have := hok.front
      rw [List.take_length] at this
      rw [← this]
      simp [encCl, List.map_take]
    repeat (first | refine aw_seq ?_ | refine aw_block ?_ | with_reducible refine aw_ret ?_ | with_reducible refine aw_skip ?_ | with_reducible refine aw_exit ?_ | refine thn_normal ?_ | refine thn_out ?_ | refine blk_normal ?_ | refine blk_ret ?_ | refine blk_exit ?_ | ((first | refine aw_regO ?_ | refine aw_regDO ?_ | refine aw_condO ?_ | refine fin_retO ?_); (conv => (arg 1; simp (maxSteps := 30000) only [ev0, ev1, ev2, look, lookF, cellsFrom, offT, offP, List.tail_nil, List.length_nil, Int.cast_ofNat_Int, Nat.reduceEqDiff, Nat.reduceAdd, Nat.reduceMul, Nat.reduceLeDiff, Nat.reduceLT, ↓reduceIte, reduceCtorEq, Int.reduceBEq, Int.reduceBNe, Int.reduceLT, Int.reduceLE, Int.reduceToNat, g5, g6, g7, g8, len_cl])); (first | with_reducible refine on_yes ?_ | with_reducible refine on_no ?_ | with_reducible refine on_reg ?_ | (with_reducible refine on_regD (by decide +kernel) ?_) | with_reducible refine on_fin ?_)))
    rw [if_pos g9]
    simp only
    generalize (List.take i (encCl arr) ++ List.replicate (arr.length - i) (aD (List.replicate 6 xD))) = es at *
    have g12 : (0 : Int) ≤ 0 ∧ (0 : Int) ≤ (i : Int) ∧ (i : Int) ≤ (es.length : Nat) := ⟨by omega, g5, g10⟩
    repeat (first | refine aw_seq ?_ | refine aw_block ?_ | with_reducible refine aw_ret ?_ | with_reducible refine aw_skip ?_ | with_reducible refine aw_exit ?_ | refine thn_normal ?_ | refine thn_out ?_ | refine blk_normal ?_ | refine blk_ret ?_ | refine blk_exit ?_ | ((first | refine aw_regO ?_ | refine aw_regDO ?_ | refine aw_condO ?_ | refine fin_retO ?_); (conv => (arg 1; simp (maxSteps := 30000) only [ev0, ev1, ev2, look, lookF, cellsFrom, offT, offP, List.tail_nil, List.length_nil, Int.cast_ofNat_Int, Nat.reduceEqDiff, Nat.reduceAdd, Nat.reduceMul, Nat.reduceLeDiff, Nat.reduceLT, ↓reduceIte, reduceCtorEq, Int.reduceBEq, Int.reduceBNe, Int.reduceLT, Int.reduceLE, Int.reduceToNat, g12, g11])); (first | with_reducible refine on_yes ?_ | with_reducible refine on_no ?_ | with_reducible refine on_reg ?_ | (with_reducible refine on_regD (by decide +kernel) ?_) | with_reducible refine on_fin ?_)))
    exact ValsLe.refl _
theorem deleteF_told (l : List Ch) (c : Ch) (hl : l.length ≤ 1048576) (he : c.early.length ≤ 9223372036854775807) {e : Nat} :
    ToldI Try.prog 25 [xD, jD 1 32 (encCh c)] 0 none e (6, some (encCl l)) [sD 6 (encCl (l.filter fun x => !goneP c x))] := by
  refine toldI_slices_DeleteFunc rfl (by decide) (fun h0 => ?_) (fun hne => deleteF_core l c hl (fun e => hne (by rw [e]; rfl)) he)
  have hl0 : l = [] := by
    cases l with
    | nil => rfl
    | cons x r => cases h0
  subst hl0
  have hI := indexF_told [] c (by simp) he
  have hno : idxG (goneP c) [] = -1 := rfl
  rw [hno] at hI
  refine told_slices_DeleteFunc rfl ?_
  simp only [cl_nil, List.filter_nil] at hI ⊢
  generalize encCh c = E at *
  repeat (first | refine aw_seq ?_ | refine aw_block ?_ | with_reducible refine aw_ret ?_ | with_reducible refine aw_skip ?_ | with_reducible refine aw_exit ?_ | refine thn_normal ?_ | refine thn_out ?_ | refine blk_normal ?_ | refine blk_ret ?_ | refine blk_exit ?_ | ((first | refine aw_regO ?_ | refine aw_regDO ?_ | refine aw_condO ?_ | refine fin_retO ?_); (conv => (arg 1; simp (maxSteps := 30000) only [ev0, ev1, ev2, look, lookF, cellsFrom, offT, offP, List.tail_nil, List.length_nil, Int.cast_ofNat_Int, Nat.reduceEqDiff, Nat.reduceAdd, Nat.reduceMul, Nat.reduceLeDiff, Nat.reduceLT, ↓reduceIte, reduceCtorEq, Int.reduceBEq, Int.reduceBNe, Int.reduceLT, Int.reduceLE, Int.reduceToNat])); (first | with_reducible refine on_yes ?_ | with_reducible refine on_no ?_ | with_reducible refine on_reg ?_ | (with_reducible refine on_regD (by decide +kernel) ?_) | with_reducible refine on_fin ?_)))
  refine aw_reg [[vI (-1)]] (by simp only [ev0, ev1, ev2, look, lookF, cellsFrom, offT, offP, List.tail_nil, List.length_nil, Int.cast_ofNat_Int, Nat.reduceEqDiff, Nat.reduceAdd, Nat.reduceMul, Nat.reduceLeDiff, Nat.reduceLT, ↓reduceIte, reduceCtorEq, Int.reduceBEq, Int.reduceBNe, Int.reduceLT, Int.reduceLE, Int.reduceToNat]; first | rfl | exact ⟨rfl, rfl⟩) ?_ ?_
  · exact obl_cons hI obl_nil
  repeat (first | refine aw_seq ?_ | refine aw_block ?_ | with_reducible refine aw_ret ?_ | with_reducible refine aw_skip ?_ | with_reducible refine aw_exit ?_ | refine thn_normal ?_ | refine thn_out ?_ | refine blk_normal ?_ | refine blk_ret ?_ | refine blk_exit ?_ | ((first | refine aw_regO ?_ | refine aw_regDO ?_ | refine aw_condO ?_ | refine fin_retO ?_); (conv => (arg 1; simp (maxSteps := 30000) only [ev0, ev1, ev2, look, lookF, cellsFrom, offT, offP, List.tail_nil, List.length_nil, Int.cast_ofNat_Int, Nat.reduceEqDiff, Nat.reduceAdd, Nat.reduceMul, Nat.reduceLeDiff, Nat.reduceLT, ↓reduceIte, reduceCtorEq, Int.reduceBEq, Int.reduceBNe, Int.reduceLT, Int.reduceLE, Int.reduceToNat])); (first | with_reducible refine on_yes ?_ | with_reducible refine on_no ?_ | with_reducible refine on_reg ?_ | (with_reducible refine on_regD (by decide +kernel) ?_) | with_reducible refine on_fin ?_)))
  exact ValsLe.refl _
theorem hearS_eq (s : Sd) (c : Ch) : hearS s c = { s with flight := s.flight.filter fun x => !goneP c x } := by
  unfold hearS goneP
  by_cases h : c.kind = 2
  · rw [if_pos h, h]
    rfl
  · rw [if_neg h]
    have h' : (c.kind == 2) = false := by simpa using h
    have hf : s.flight.filter (fun x => !(c.kind == 2 && cameL c x.number)) = s.flight := List.filter_eq_self.2 (fun x _ => by rw [h']; rfl)
    rw [hf]
set_option maxHeartbeats 4000000 in
theorem lhear_told (s : Sd) (c : Ch) (h : GoodS s) (hc : wrongL c = 0) : Told Try.prog 11 [aD (encSd s), aD (encCh c)] [aD (encSd (hearS s c))] := by
  refine told_send_Hear rfl ?_
  have hown := ownS_toldH s (good_small h)
  have he := early_right hc
  have hdel := deleteF_told s.flight c (good_small h).f (by omega) (e := 32)
  have hcb := cameBy_told c
  rw [hearS_eq]
  simp only [encSd] at hown ⊢
  generalize s.flight.filter (fun x => !goneP c x) = F at *
  simp only [encCh] at hdel hcb ⊢
  repeat (first | refine aw_seq ?_ | refine aw_block ?_ | with_reducible refine aw_ret ?_ | with_reducible refine aw_skip ?_ | with_reducible refine aw_exit ?_ | refine thn_normal ?_ | refine thn_out ?_ | refine blk_normal ?_ | refine blk_ret ?_ | refine blk_exit ?_ | ((first | refine aw_regO ?_ | refine aw_regDO ?_ | refine aw_condO ?_ | refine fin_retO ?_); (conv => (arg 1; simp (maxSteps := 30000) only [ev0, ev1, ev2, look, lookF, cellsFrom, offT, offP, List.tail_nil, List.length_nil, Int.cast_ofNat_Int, Nat.reduceEqDiff, Nat.reduceAdd, Nat.reduceMul, Nat.reduceLeDiff, Nat.reduceLT, ↓reduceIte, reduceCtorEq, Int.reduceBEq, Int.reduceBNe, Int.reduceLT, Int.reduceLE, Int.reduceToNat])); (first | with_reducible refine on_yes ?_ | with_reducible refine on_no ?_ | with_reducible refine on_reg ?_ | (with_reducible refine on_regD (by decide +kernel) ?_) | with_reducible refine on_fin ?_)))
  refine ⟨2, _, _, _, 5, _, _, rfl, rfl, rfl, rfl, row_refl _, hown, rfl, ?_⟩
  repeat (first | refine aw_seq ?_ | refine aw_block ?_ | with_reducible refine aw_ret ?_ | with_reducible refine aw_skip ?_ | with_reducible refine aw_exit ?_ | refine thn_normal ?_ | refine thn_out ?_ | refine blk_normal ?_ | refine blk_ret ?_ | refine blk_exit ?_ | ((first | refine aw_regO ?_ | refine aw_regDO ?_ | refine aw_condO ?_ | refine fin_retO ?_); (conv => (arg 1; simp (maxSteps := 30000) only [ev0, ev1, ev2, look, lookF, cellsFrom, offT, offP, List.tail_nil, List.length_nil, Int.cast_ofNat_Int, Nat.reduceEqDiff, Nat.reduceAdd, Nat.reduceMul, Nat.reduceLeDiff, Nat.reduceLT, ↓reduceIte, reduceCtorEq, Int.reduceBEq, Int.reduceBNe, Int.reduceLT, Int.reduceLE, Int.reduceToNat])); (first | with_reducible refine on_yes ?_ | with_reducible refine on_no ?_ | with_reducible refine on_reg ?_ | (with_reducible refine on_regD (by decide +kernel) ?_) | with_reducible refine on_fin ?_)))
  refine aw_regD [[jD 1 32 [vI c.kind, vI c.number, vI c.stream, vI c.place, sD 1 (c.data.map encB), sD 1 (c.early.map vI)]], [mI 0 32 6 (aD (encCl s.flight)), sD 6 (encCl F)]] (by simp only [ev0, ev1, ev2, look, lookF, cellsFrom, offT, offP, List.tail_nil, List.length_nil, Int.cast_ofNat_Int, Nat.reduceEqDiff, Nat.reduceAdd, Nat.reduceMul, Nat.reduceLeDiff, Nat.reduceLT, ↓reduceIte, reduceCtorEq, Int.reduceBEq, Int.reduceBNe, Int.reduceLT, Int.reduceLE, Int.reduceToNat]; first | exact ⟨rfl, rfl⟩ | exact ⟨rfl, rfl, rfl⟩) (by decide +kernel) ?_ ?_
  · exact obl_cons hcb (obl_in hdel obl_nil)
  repeat (first | refine aw_seq ?_ | refine aw_block ?_ | with_reducible refine aw_ret ?_ | with_reducible refine aw_skip ?_ | with_reducible refine aw_exit ?_ | refine thn_normal ?_ | refine thn_out ?_ | refine blk_normal ?_ | refine blk_ret ?_ | refine blk_exit ?_ | ((first | refine aw_regO ?_ | refine aw_regDO ?_ | refine aw_condO ?_ | refine fin_retO ?_); (conv => (arg 1; simp (maxSteps := 30000) only [ev0, ev1, ev2, look, lookF, cellsFrom, offT, offP, List.tail_nil, List.length_nil, Int.cast_ofNat_Int, Nat.reduceEqDiff, Nat.reduceAdd, Nat.reduceMul, Nat.reduceLeDiff, Nat.reduceLT, ↓reduceIte, reduceCtorEq, Int.reduceBEq, Int.reduceBNe, Int.reduceLT, Int.reduceLE, Int.reduceToNat])); (first | with_reducible refine on_yes ?_ | with_reducible refine on_no ?_ | with_reducible refine on_reg ?_ | (with_reducible refine on_regD (by decide +kernel) ?_) | with_reducible refine on_fin ?_)))
  exact ValsLe.refl _
end Go.Proofs.Ytficfkeifcnbmab.ab
