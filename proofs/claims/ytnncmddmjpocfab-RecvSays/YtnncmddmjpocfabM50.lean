/-
  Several texts in one.
-/
import Derived.Test.YtnncmddmjpocfabALandDue
import Derived.Test.YtnncmddmjpocfabM21
import Derived.Test.YtnncmddmjpocfabM37
import Derived.Test.YtnncmddmjpocfabProg
import Derived.Test.YtnncmddmjpocfabM44

/-
  What the landed package recv tells: what is heard.
-/
namespace Go.Proofs.Ytnncmddmjpocfab.ab
set_option linter.unusedVariables false
set_option linter.unusedSimpArgs false
open Go Go.RowKit
open mth

theorem all0 {α : Type} {p : α → Prop} : ∀ x ∈ ([] : List α), p x := fun x hx => by cases hx
theorem at3 {R : Nat → D → D → Prop} {a0 a1 a2 a3 a4 a5 a6 a7 b0 b1 b2 b3 b4 b5 b6 b7 : D} (h0 : R 0 a0 b0) (h1 : R 1 a1 b1) (h2 : R 2 a2 b2) (h3 : R 3 a3 b3) (h4 : R 4 a4 b4) (h5 : R 5 a5 b5) (h6 : R 6 a6 b6) (h7 : R 7 a7 b7) :
    ∀ (j : Nat) c c', [a0, a1, a2, a3, a4, a5, a6, a7][j]? = some c → [b0, b1, b2, b3, b4, b5, b6, b7][j]? = some c' → R j c c' := by
  intro j c c' hc hc'
  match j with
  | 0 => simp at hc hc'; subst hc hc'; exact h0
  | 1 => simp at hc hc'; subst hc hc'; exact h1
  | 2 => simp at hc hc'; subst hc hc'; exact h2
  | 3 => simp at hc hc'; subst hc hc'; exact h3
  | 4 => simp at hc hc'; subst hc hc'; exact h4
  | 5 => simp at hc hc'; subst hc hc'; exact h5
  | 6 => simp at hc hc'; subst hc hc'; exact h6
  | 7 => simp at hc hc'; subst hc hc'; exact h7
  | j + 8 => simp at hc
theorem frz_two {st : St} {early : List D} {hold : List D} {e1 e2 : Nat} {x0 x1 x2 x3 x4 x5 x6 x7 : D} (hb : look st.bx 2 = some [x0, x1, x2, x3, x4, x5, x6, x7]) (h1 : lookF st.fl (2, some 1) = some (e1, 1, some early)) (h5 : lookF st.fl (2, some 5) = some (e2, 6, some hold)) :
    Le st ⟨st.tm, (2, [x0, sD 1 early, x2, x3, x4, sD 6 hold, x6, x7]) :: (2, [x0, sD 1 early, x2, x3, x4, x5, x6, x7]) :: st.bx, offP (offP st.fl [(2, some 1)]) [(2, some 5)]⟩ := by
  refine (le_frzH (b := 2) (off := 1) (by decide) hb (show 1 < 8 by decide) h1).trans ?_
  exact le_frzH (st := ⟨st.tm, (2, [x0, sD 1 early, x2, x3, x4, x5, x6, x7]) :: st.bx, offP st.fl [(2, some 1)]⟩) (b := 2) (off := 5) (by decide) rfl (show 5 < 8 by decide) (by rw [lookF_off, if_neg (by decide)]; exact h5)
set_option maxHeartbeats 8000000 in
theorem lhearR_told : CHearR 22 := by
  intro r c h hc
  refine told_recv_Hear rfl ?_
  obtain ⟨R, hR⟩ : ∃ R, R = hearR r c := ⟨_, rfl⟩
  rw [← hR]
  have hsm := good_smallR h
  have hOwn := ownR_toldX r hsm
  simp only [encRv, encCh]
  repeat (first | refine aw_seq ?_ | refine aw_block ?_ | with_reducible refine aw_ret ?_ | with_reducible refine aw_skip ?_ | with_reducible refine aw_exit ?_ | refine thn_normal ?_ | refine thn_out ?_ | refine blk_normal ?_ | refine blk_ret ?_ | refine blk_exit ?_ | ((first | refine aw_regO ?_ | refine aw_regDO ?_ | refine aw_condO ?_ | refine fin_retO ?_); (conv => (arg 1; simp (maxSteps := 30000) only [ev0, ev1, ev2, look, lookF, cellsFrom, offT, offP, List.tail_nil, List.length_nil, Int.cast_ofNat_Int, Nat.reduceEqDiff, Nat.reduceAdd, Nat.reduceMul, Nat.reduceLeDiff, Nat.reduceLT, ↓reduceIte, reduceCtorEq, Int.reduceBEq, Int.reduceBNe, Int.reduceLT, Int.reduceLE, Int.reduceToNat])); (first | with_reducible refine on_yes ?_ | with_reducible refine on_no ?_ | with_reducible refine on_reg ?_ | (with_reducible refine on_regD (by decide +kernel) ?_) | with_reducible refine on_fin ?_)))
  refine ⟨2, _, _, [], [], _, rowsR r.early r.hold, ⟨rfl, rfl, rfl, rfl, row_refl _, all0⟩, rfl, hOwn, rfl, by show [1, 5, 6].Nodup; decide, ?_⟩
  simp only [flOf, rowsR, ownCells, preP, preOff, List.map_cons, List.map_nil, List.cons_append, List.nil_append]
  by_cases hk : c.kind = 1
  · have k1 : (c.kind != 1) = false := by simpa using hk
    obtain ⟨hn, hpl, hce, hw⟩ := wrong_one hk hc
    have hTk : Told Try.prog 56 [aD [vI r.next, sD 1 (r.early.map vI), vI r.p0, vI r.p1, vI r.p2, xD, sD 2 (encMl r.told), vB true], vI c.number] [vB (!seenR r c.number)] := takes_told r.next r.early r.p0 r.p1 r.p2 xD (sD 2 (encMl r.told)) true c.number (by have := h.l; omega)
    rw [hearR, if_pos hk] at hR
    repeat (first | refine aw_seq ?_ | refine aw_block ?_ | with_reducible refine aw_ret ?_ | with_reducible refine aw_skip ?_ | with_reducible refine aw_exit ?_ | refine thn_normal ?_ | refine thn_out ?_ | refine blk_normal ?_ | refine blk_ret ?_ | refine blk_exit ?_ | ((first | refine aw_regO ?_ | refine aw_regDO ?_ | refine aw_condO ?_ | refine fin_retO ?_); (conv => (arg 1; simp (maxSteps := 30000) only [ev0, ev1, ev2, look, lookF, cellsFrom, offT, offP, List.tail_nil, List.length_nil, Int.cast_ofNat_Int, Nat.reduceEqDiff, Nat.reduceAdd, Nat.reduceMul, Nat.reduceLeDiff, Nat.reduceLT, ↓reduceIte, reduceCtorEq, Int.reduceBEq, Int.reduceBNe, Int.reduceLT, Int.reduceLE, Int.reduceToNat, k1])); (first | with_reducible refine on_yes ?_ | with_reducible refine on_no ?_ | with_reducible refine on_reg ?_ | (with_reducible refine on_regD (by decide +kernel) ?_) | with_reducible refine on_fin ?_)))
    refine ⟨2, _, [vI r.next, sD 1 (r.early.map vI), vI r.p0, vI r.p1, vI r.p2, xD, sD 2 (encMl r.told), vB true], _, _, rfl, rfl, rfl, rfl, ⟨rfl, at3 (.inl (LfLe.refl _)) (.inr ⟨_, _, _, rfl, rfl⟩) (.inl (LfLe.refl _)) (.inl (LfLe.refl _)) (.inl (LfLe.refl _)) (.inl (LfLe.refl _)) (.inl (LfLe.refl _)) (.inl (LfLe.refl _))⟩, ⟨3, _, _, rfl, rfl, rfl, rfl⟩, hTk, ?_⟩
    simp only [preP, preOff, List.cons_append, List.nil_append]
    cases hs : seenR r c.number with
    | true =>
      rw [hs, if_pos rfl] at hR
      subst hR
      repeat (first | refine aw_seq ?_ | refine aw_block ?_ | with_reducible refine aw_ret ?_ | with_reducible refine aw_skip ?_ | with_reducible refine aw_exit ?_ | refine thn_normal ?_ | refine thn_out ?_ | refine blk_normal ?_ | refine blk_ret ?_ | refine blk_exit ?_ | ((first | refine aw_regO ?_ | refine aw_regDO ?_ | refine aw_condO ?_ | refine fin_retO ?_); (conv => (arg 1; simp (maxSteps := 30000) only [ev0, ev1, ev2, look, lookF, cellsFrom, offT, offP, List.tail_nil, List.length_nil, Int.cast_ofNat_Int, Nat.reduceEqDiff, Nat.reduceAdd, Nat.reduceMul, Nat.reduceLeDiff, Nat.reduceLT, ↓reduceIte, reduceCtorEq, Int.reduceBEq, Int.reduceBNe, Int.reduceLT, Int.reduceLE, Int.reduceToNat])); (first | with_reducible refine on_yes ?_ | with_reducible refine on_no ?_ | with_reducible refine on_reg ?_ | (with_reducible refine on_regD (by decide +kernel) ?_) | with_reducible refine on_fin ?_)))
      refine ⟨_, frz_two rfl rfl rfl, ?_⟩
      repeat (first | refine aw_seq ?_ | refine aw_block ?_ | with_reducible refine aw_ret ?_ | with_reducible refine aw_skip ?_ | with_reducible refine aw_exit ?_ | refine thn_normal ?_ | refine thn_out ?_ | refine blk_normal ?_ | refine blk_ret ?_ | refine blk_exit ?_ | ((first | refine aw_regO ?_ | refine aw_regDO ?_ | refine aw_condO ?_ | refine fin_retO ?_); (conv => (arg 1; simp (maxSteps := 30000) only [ev0, ev1, ev2, look, lookF, cellsFrom, offT, offP, List.tail_nil, List.length_nil, Int.cast_ofNat_Int, Nat.reduceEqDiff, Nat.reduceAdd, Nat.reduceMul, Nat.reduceLeDiff, Nat.reduceLT, ↓reduceIte, reduceCtorEq, Int.reduceBEq, Int.reduceBNe, Int.reduceLT, Int.reduceLE, Int.reduceToNat])); (first | with_reducible refine on_yes ?_ | with_reducible refine on_no ?_ | with_reducible refine on_reg ?_ | (with_reducible refine on_regD (by decide +kernel) ?_) | with_reducible refine on_fin ?_)))
      exact ValsLe.refl _
    | false =>
      rw [hs, if_neg (by simp)] at hR
      have hst := take_strip h hn hs
      have hse : r.early.Pairwise (· ≤ ·) := by rw [h.e]; exact (earlyR_sorted _ _).imp (fun h => by omega)
      have hCame := came_toldX r.early r.next r.p0 r.p1 r.p2 r.hold r.told true c.number (by have := h.l; omega) hse (fun x hx => by
        have hse' : r.early.Pairwise (· < ·) := by rw [h.e]; exact earlyR_sorted _ _
        have hne : c.number ∉ r.early := fun q => by
          unfold seenR at hs
          rw [List.contains_iff_mem.2 q] at hs
          simp at hs
        rcases ((layIn_ok hse' hne).2 x).1 hx with rfl | q
        · exact hn
        · have := h.in40 x q; have := h.n; omega) h.n
      rw [hst] at hCame
      obtain ⟨K, hK⟩ : ∃ K, K = r.told.length + (r.hold.length + 1) := ⟨_, rfl⟩
      have hz := good_sizes h
      have hD : DrOk ⟨r.p0, r.p1, r.p2, r.hold ++ [c], r.told⟩ K := ⟨h.p, fun x hx => by
        rcases List.mem_append.1 hx with q | q
        · exact h.h x q
        · rw [List.mem_singleton.1 q]; exact ⟨hk, hc⟩, h.m, by simp [hK]⟩
      obtain ⟨nx', hnx'⟩ : ∃ n, n = climb 41 (c.number :: r.early) r.next := ⟨_, rfl⟩
      have hDue := fun Rd hRd => tellDue_toldX nx' (earlyR (c.number :: r.early) nx') true ⟨r.p0, r.p1, r.p2, r.hold ++ [c], r.told⟩ K hD (by simp) (by omega) Rd hRd
      have hDue := hDue _ rfl
      rw [show (⟨r.p0, r.p1, r.p2, r.hold ++ [c], r.told⟩ : Dr).hold.length = r.hold.length + 1 by simp] at hDue
      rw [← hnx'] at hCame
      have hRR : R = ⟨nx', earlyR (c.number :: r.early) nx', (mth.drain (r.hold.length + 1) ⟨r.p0, r.p1, r.p2, r.hold ++ [c], r.told⟩).p0, (mth.drain (r.hold.length + 1) ⟨r.p0, r.p1, r.p2, r.hold ++ [c], r.told⟩).p1, (mth.drain (r.hold.length + 1) ⟨r.p0, r.p1, r.p2, r.hold ++ [c], r.told⟩).p2, (mth.drain (r.hold.length + 1) ⟨r.p0, r.p1, r.p2, r.hold ++ [c], r.told⟩).hold, (mth.drain (r.hold.length + 1) ⟨r.p0, r.p1, r.p2, r.hold ++ [c], r.told⟩).told, true⟩ := by
        rw [hR, hnx']; rfl
      generalize mth.drain (r.hold.length + 1) ⟨r.p0, r.p1, r.p2, r.hold ++ [c], r.told⟩ = RD at *
      generalize earlyR (c.number :: r.early) nx' = E' at *
      subst hRR
      clear hR
      have hOc := ownCh_told c (by have := wrongMsg_small hw; omega) (by rw [hce]; simp)
      have hb1 : (r.hold.length + 1) * 80 ≤ 140737488355328 := by omega
      simp only [encCh] at hOc
      repeat (first | refine aw_seq ?_ | refine aw_block ?_ | with_reducible refine aw_ret ?_ | with_reducible refine aw_skip ?_ | with_reducible refine aw_exit ?_ | refine thn_normal ?_ | refine thn_out ?_ | refine blk_normal ?_ | refine blk_ret ?_ | refine blk_exit ?_ | ((first | refine aw_regO ?_ | refine aw_regDO ?_ | refine aw_condO ?_ | refine fin_retO ?_); (conv => (arg 1; simp (maxSteps := 30000) only [ev0, ev1, ev2, look, lookF, cellsFrom, offT, offP, List.tail_nil, List.length_nil, Int.cast_ofNat_Int, Nat.reduceEqDiff, Nat.reduceAdd, Nat.reduceMul, Nat.reduceLeDiff, Nat.reduceLT, ↓reduceIte, reduceCtorEq, Int.reduceBEq, Int.reduceBNe, Int.reduceLT, Int.reduceLE, Int.reduceToNat])); (first | with_reducible refine on_yes ?_ | with_reducible refine on_no ?_ | with_reducible refine on_reg ?_ | (with_reducible refine on_regD (by decide +kernel) ?_) | with_reducible refine on_fin ?_)))
      refine ⟨2, _, _, _, rowsR r.early r.hold, _, rowsR2 r.hold, ⟨rfl, rfl, rfl, rfl, row_refl _, all3 ⟨(by decide : 1 < 8), rfl⟩ ⟨(by decide : 5 < 8), rfl⟩ ⟨(by decide : 6 < 8), rfl⟩⟩, ⟨3, _, _, rfl, rfl, rfl, rfl⟩, hCame, rfl, by show [5, 6].Nodup; decide, ?_⟩
      simp only [flOf, rowsR2, preP, preOff, List.map_cons, List.map_nil, List.cons_append, List.nil_append]
      repeat (first | refine aw_seq ?_ | refine aw_block ?_ | with_reducible refine aw_ret ?_ | with_reducible refine aw_skip ?_ | with_reducible refine aw_exit ?_ | refine thn_normal ?_ | refine thn_out ?_ | refine blk_normal ?_ | refine blk_ret ?_ | refine blk_exit ?_ | ((first | refine aw_regO ?_ | refine aw_regDO ?_ | refine aw_condO ?_ | refine fin_retO ?_); (conv => (arg 1; simp (maxSteps := 30000) only [ev0, ev1, ev2, look, lookF, cellsFrom, offT, offP, List.tail_nil, List.length_nil, Int.cast_ofNat_Int, Nat.reduceEqDiff, Nat.reduceAdd, Nat.reduceMul, Nat.reduceLeDiff, Nat.reduceLT, ↓reduceIte, reduceCtorEq, Int.reduceBEq, Int.reduceBNe, Int.reduceLT, Int.reduceLE, Int.reduceToNat, hb1, len_cl])); (first | with_reducible refine on_yes ?_ | with_reducible refine on_no ?_ | with_reducible refine on_reg ?_ | (with_reducible refine on_regD (by decide +kernel) ?_) | with_reducible refine on_fin ?_)))
      refine aw_regD [[aD [vI c.kind, vI c.number, vI c.stream, vI c.place, sD 1 (c.data.map encB), sD 1 (c.early.map vI)]]] (by simp only [ev0, ev1, ev2, look, lookF, cellsFrom, offT, offP, List.tail_nil, List.length_nil, Int.cast_ofNat_Int, Nat.reduceEqDiff, Nat.reduceAdd, Nat.reduceMul, Nat.reduceLeDiff, Nat.reduceLT, ↓reduceIte, reduceCtorEq, Int.reduceBEq, Int.reduceBNe, Int.reduceLT, Int.reduceLE, Int.reduceToNat, hb1, len_cl]; first | exact ⟨rfl, rfl⟩ | exact ⟨rfl, rfl, rfl⟩) (by decide +kernel) ?_ ?_
      · exact obl_cons hOc obl_nil
      repeat (first | refine aw_seq ?_ | refine aw_block ?_ | with_reducible refine aw_ret ?_ | with_reducible refine aw_skip ?_ | with_reducible refine aw_exit ?_ | refine thn_normal ?_ | refine thn_out ?_ | refine blk_normal ?_ | refine blk_ret ?_ | refine blk_exit ?_ | ((first | refine aw_regO ?_ | refine aw_regDO ?_ | refine aw_condO ?_ | refine fin_retO ?_); (conv => (arg 1; simp (maxSteps := 30000) only [ev0, ev1, ev2, look, lookF, cellsFrom, offT, offP, List.tail_nil, List.length_nil, Int.cast_ofNat_Int, Nat.reduceEqDiff, Nat.reduceAdd, Nat.reduceMul, Nat.reduceLeDiff, Nat.reduceLT, ↓reduceIte, reduceCtorEq, Int.reduceBEq, Int.reduceBNe, Int.reduceLT, Int.reduceLE, Int.reduceToNat])); (first | with_reducible refine on_yes ?_ | with_reducible refine on_no ?_ | with_reducible refine on_reg ?_ | (with_reducible refine on_regD (by decide +kernel) ?_) | with_reducible refine on_fin ?_)))
      rw [← cl_snoc']
      refine ⟨2, _, _, [], rowsR2 (r.hold ++ [c]), _, ⟨rfl, rfl, rfl, rfl, row_refl _, all2 ⟨(by decide : 5 < 8), rfl⟩ ⟨(by decide : 6 < 8), rfl⟩⟩, rfl, hDue, ?_⟩
      simp only [preP, preOff, rowsR2, res, List.map_cons, List.map_nil, List.cons_append, List.nil_append]
      repeat (first | refine aw_seq ?_ | refine aw_block ?_ | with_reducible refine aw_ret ?_ | with_reducible refine aw_skip ?_ | with_reducible refine aw_exit ?_ | refine thn_normal ?_ | refine thn_out ?_ | refine blk_normal ?_ | refine blk_ret ?_ | refine blk_exit ?_ | ((first | refine aw_regO ?_ | refine aw_regDO ?_ | refine aw_condO ?_ | refine fin_retO ?_); (conv => (arg 1; simp (maxSteps := 30000) only [ev0, ev1, ev2, look, lookF, cellsFrom, offT, offP, List.tail_nil, List.length_nil, Int.cast_ofNat_Int, Nat.reduceEqDiff, Nat.reduceAdd, Nat.reduceMul, Nat.reduceLeDiff, Nat.reduceLT, ↓reduceIte, reduceCtorEq, Int.reduceBEq, Int.reduceBNe, Int.reduceLT, Int.reduceLE, Int.reduceToNat])); (first | with_reducible refine on_yes ?_ | with_reducible refine on_no ?_ | with_reducible refine on_reg ?_ | (with_reducible refine on_regD (by decide +kernel) ?_) | with_reducible refine on_fin ?_)))
      exact ValsLe.refl _
  · have k1 : (c.kind != 1) = true := by simpa using hk
    rw [hearR, if_neg hk] at hR
    subst hR
    repeat (first | refine aw_seq ?_ | refine aw_block ?_ | with_reducible refine aw_ret ?_ | with_reducible refine aw_skip ?_ | with_reducible refine aw_exit ?_ | refine thn_normal ?_ | refine thn_out ?_ | refine blk_normal ?_ | refine blk_ret ?_ | refine blk_exit ?_ | ((first | refine aw_regO ?_ | refine aw_regDO ?_ | refine aw_condO ?_ | refine fin_retO ?_); (conv => (arg 1; simp (maxSteps := 30000) only [ev0, ev1, ev2, look, lookF, cellsFrom, offT, offP, List.tail_nil, List.length_nil, Int.cast_ofNat_Int, Nat.reduceEqDiff, Nat.reduceAdd, Nat.reduceMul, Nat.reduceLeDiff, Nat.reduceLT, ↓reduceIte, reduceCtorEq, Int.reduceBEq, Int.reduceBNe, Int.reduceLT, Int.reduceLE, Int.reduceToNat, k1])); (first | with_reducible refine on_yes ?_ | with_reducible refine on_no ?_ | with_reducible refine on_reg ?_ | (with_reducible refine on_regD (by decide +kernel) ?_) | with_reducible refine on_fin ?_)))
    refine ⟨_, frz_two rfl rfl rfl, ?_⟩
    repeat (first | refine aw_seq ?_ | refine aw_block ?_ | with_reducible refine aw_ret ?_ | with_reducible refine aw_skip ?_ | with_reducible refine aw_exit ?_ | refine thn_normal ?_ | refine thn_out ?_ | refine blk_normal ?_ | refine blk_ret ?_ | refine blk_exit ?_ | ((first | refine aw_regO ?_ | refine aw_regDO ?_ | refine aw_condO ?_ | refine fin_retO ?_); (conv => (arg 1; simp (maxSteps := 30000) only [ev0, ev1, ev2, look, lookF, cellsFrom, offT, offP, List.tail_nil, List.length_nil, Int.cast_ofNat_Int, Nat.reduceEqDiff, Nat.reduceAdd, Nat.reduceMul, Nat.reduceLeDiff, Nat.reduceLT, ↓reduceIte, reduceCtorEq, Int.reduceBEq, Int.reduceBNe, Int.reduceLT, Int.reduceLE, Int.reduceToNat])); (first | with_reducible refine on_yes ?_ | with_reducible refine on_no ?_ | with_reducible refine on_reg ?_ | (with_reducible refine on_regD (by decide +kernel) ?_) | with_reducible refine on_fin ?_)))
    exact ValsLe.refl _
end Go.Proofs.Ytnncmddmjpocfab.ab

/-
  Functions as plain code (written by wip/abs/ir.py): recv.Say.
-/
namespace Go.Proofs.Ytnncmddmjpocfab.ab
set_option linter.unusedSimpArgs false
set_option linter.unusedVariables false
set_option maxRecDepth 100000
open Go Go.RowKit

def recv_Say_r0 : IC := cReg Try.prog [
    ⟨some 1, none, iBox 1 (.tmp 0)⟩,
    ⟨some 2, none, iAlo 2 [vD (.int .i64 0), vD (.slice none 0 0), vD (.int .i64 0), vD (.int .i64 0), vD (.int .i64 0), vD (.slice none 0 0), vD (.slice none 0 0), vD (.bool false)]⟩,
    ⟨some 3, none, iAlo 3 [vD (.int .i64 0), vD (.int .i64 0), vD (.int .i64 0), vD (.int .i64 0), vD (.slice none 0 0), vD (.slice none 0 0)]⟩,
    ⟨some 4, none, iMov 4 (.const (.bool false)) true⟩] [1, 2, 3] [1, 2, 3]
def recv_Say_r1 : IC := cReg Try.prog [
    ⟨some 5, none, iLoad 5 8 true (.tmp 1) false⟩,
    ⟨some 6, none, iCall 6 21 [(.tmp 5)]⟩,
    ⟨none, none, iStor 8 (.tmp 1) (.tmp 6)⟩] [1, 2, 3] [1, 2, 3]
def recv_Say_r2 : IC := cReg Try.prog [
    ⟨some 7, none, iFad 7 7 (.tmp 1)⟩,
    ⟨some 8, none, iLoad 8 1 false (.tmp 7) false⟩,
    ⟨some 9, none, iNot 9 (.tmp 8)⟩] [1, 2, 3, 9] [1, 2, 3]
def recv_Say_r3 : IC := cReg Try.prog [
    ⟨some 10, none, iLoad 10 8 true (.tmp 1) false⟩,
    ⟨some 11, none, iBld 11 [vD (.int .i64 0), vD (.int .i64 0), vD (.int .i64 0), vD (.int .i64 0), vD (.slice none 0 0), vD (.slice none 0 0)] [] []⟩,
    ⟨none, none, iStor 8 (.tmp 2) (.tmp 10)⟩,
    ⟨none, none, iStor 6 (.tmp 3) (.tmp 11)⟩,
    ⟨some 4, none, iMov 4 (.const (.bool false)) true⟩] [2, 3, 4] [2, 3]
def recv_Say_c1a : IC := (cSeq recv_Say_r3 cRet)
def recv_Say_c1 : IC := cCond (.tmp 9) recv_Say_c1a cSkip
def recv_Say_r4 : IC := cReg Try.prog [
    ⟨some 12, none, iFad 12 7 (.tmp 1)⟩,
    ⟨none, none, iStor 1 (.tmp 12) (.const (.bool false))⟩] [1, 2, 3] [1, 2, 3]
def recv_Say_r5 : IC := cRegD Try.prog [
    ⟨some 13, none, iLoad 13 8 true (.tmp 1) false⟩,
    ⟨some 14, none, iFad 14 0 (.tmp 1)⟩,
    ⟨some 15, none, iLoad 15 1 false (.tmp 14) false⟩,
    ⟨some 16, none, iFad 16 1 (.tmp 1)⟩,
    ⟨some 17, none, iLoad 17 1 false (.tmp 16) false⟩,
    ⟨some 18, none, iBld 18 [vD (.int .i64 0), vD (.int .i64 0), vD (.int .i64 0), vD (.int .i64 0), vD (.slice none 0 0), vD (.slice none 0 0)] [(0, 1), (1, 1), (5, 1)] [(.const (.int .i64 2)), (.tmp 15), (.tmp 17)]⟩,
    ⟨some 19, none, iCall 19 48 [(.tmp 18)]⟩,
    ⟨none, none, iStor 8 (.tmp 2) (.tmp 13)⟩,
    ⟨none, none, iStor 6 (.tmp 3) (.tmp 19)⟩,
    ⟨some 4, none, iMov 4 (.const (.bool true)) true⟩] [[], [], [1], [], [3], [2, 4, 1, 3], [5, 2, 4, 1, 3], [0, 6, 5, 2, 4, 1, 3], [6, 7, 0, 1, 2, 3, 4, 5], [8, 0, 1, 2, 3, 4, 5, 6, 7]] [2, 3, 4] [2, 3]
def recv_Say : IC := (cSeq recv_Say_r0 (cSeq recv_Say_r1 (cSeq (cSeq recv_Say_r2 recv_Say_c1) (cSeq recv_Say_r4 (cSeq recv_Say_r5 cRet)))))
theorem told_recv_Say {args r : List D} (hl : args.length = 1) (h : recv_Say (start args) (fin [(2, some (8, true)), (3, some (6, true)), (4, none)] r)) : Told Try.prog 18 args r :=
  told_of follows Try.func18 rfl (an := [([], [1, 2, 3], [1, 2, 3], []), ([], [1, 2, 3], [1, 2, 3], []), ([], [1, 2, 3, 9], [1, 2, 3], []), ([], [2, 3, 4], [2, 3], []), ([], [1, 2, 3], [1, 2, 3], []), ([], [2, 3, 4], [2, 3], [])]) (by kernel_rfl) (by kernel_rfl) (by rw [hl]; decide +kernel) h

end Go.Proofs.Ytnncmddmjpocfab.ab

/-
  What the landed package recv tells: copies, answers.
-/
namespace Go.Proofs.Ytnncmddmjpocfab.ab
set_option linter.unusedVariables false
set_option linter.unusedSimpArgs false
open Go Go.RowKit
open mth

theorem lownR_told : COwnR 21 := fun r h => ownR_told r (good_smallR h)
set_option maxHeartbeats 8000000 in
theorem lsayR_told : CSayR 18 := by
  intro r h
  refine told_recv_Say rfl ?_
  have hOwn := ownR_told r (good_smallR h)
  have hOc := ownCh_told ⟨2, r.next, 0, 0, [], r.early⟩ (by simp) (by have := h.l; show r.early.length ≤ 1048576; omega)
  simp only [encRv, encCh, List.map_nil] at hOwn hOc ⊢
  cases ho : r.owes with
  | true =>
    rw [ho] at hOwn
    rw [sayR, if_pos ho]
    simp only [encCh, List.map_nil]
    repeat (first | refine aw_seq ?_ | refine aw_block ?_ | with_reducible refine aw_ret ?_ | with_reducible refine aw_skip ?_ | with_reducible refine aw_exit ?_ | refine thn_normal ?_ | refine thn_out ?_ | refine blk_normal ?_ | refine blk_ret ?_ | refine blk_exit ?_ | ((first | refine aw_regO ?_ | refine aw_regDO ?_ | refine aw_condO ?_ | refine fin_retO ?_); (conv => (arg 1; simp (maxSteps := 30000) only [ev0, ev1, ev2, look, lookF, cellsFrom, offT, offP, List.tail_nil, List.length_nil, Int.cast_ofNat_Int, Nat.reduceEqDiff, Nat.reduceAdd, Nat.reduceMul, Nat.reduceLeDiff, Nat.reduceLT, ↓reduceIte, reduceCtorEq, Int.reduceBEq, Int.reduceBNe, Int.reduceLT, Int.reduceLE, Int.reduceToNat])); (first | with_reducible refine on_yes ?_ | with_reducible refine on_no ?_ | with_reducible refine on_reg ?_ | (with_reducible refine on_regD (by decide +kernel) ?_) | with_reducible refine on_fin ?_)))
    refine aw_reg [[aD [vI r.next, sD 1 (r.early.map vI), vI r.p0, vI r.p1, vI r.p2, sD 6 (encCl r.hold), sD 2 (encMl r.told), vB true]]] (by simp only [ev0, ev1, ev2, look, lookF, cellsFrom, offT, offP, List.tail_nil, List.length_nil, Int.cast_ofNat_Int, Nat.reduceEqDiff, Nat.reduceAdd, Nat.reduceMul, Nat.reduceLeDiff, Nat.reduceLT, ↓reduceIte, reduceCtorEq, Int.reduceBEq, Int.reduceBNe, Int.reduceLT, Int.reduceLE, Int.reduceToNat]; first | rfl | exact ⟨rfl, rfl⟩) ?_ ?_
    · exact obl_cons hOwn obl_nil
    repeat (first | refine aw_seq ?_ | refine aw_block ?_ | with_reducible refine aw_ret ?_ | with_reducible refine aw_skip ?_ | with_reducible refine aw_exit ?_ | refine thn_normal ?_ | refine thn_out ?_ | refine blk_normal ?_ | refine blk_ret ?_ | refine blk_exit ?_ | ((first | refine aw_regO ?_ | refine aw_regDO ?_ | refine aw_condO ?_ | refine fin_retO ?_); (conv => (arg 1; simp (maxSteps := 30000) only [ev0, ev1, ev2, look, lookF, cellsFrom, offT, offP, List.tail_nil, List.length_nil, Int.cast_ofNat_Int, Nat.reduceEqDiff, Nat.reduceAdd, Nat.reduceMul, Nat.reduceLeDiff, Nat.reduceLT, ↓reduceIte, reduceCtorEq, Int.reduceBEq, Int.reduceBNe, Int.reduceLT, Int.reduceLE, Int.reduceToNat])); (first | with_reducible refine on_yes ?_ | with_reducible refine on_no ?_ | with_reducible refine on_reg ?_ | (with_reducible refine on_regD (by decide +kernel) ?_) | with_reducible refine on_fin ?_)))
    refine aw_regD [[aD [vI 2, vI r.next, vI 0, vI 0, sD 1 [], sD 1 (r.early.map vI)]]] (by simp only [ev0, ev1, ev2, look, lookF, cellsFrom, offT, offP, List.tail_nil, List.length_nil, Int.cast_ofNat_Int, Nat.reduceEqDiff, Nat.reduceAdd, Nat.reduceMul, Nat.reduceLeDiff, Nat.reduceLT, ↓reduceIte, reduceCtorEq, Int.reduceBEq, Int.reduceBNe, Int.reduceLT, Int.reduceLE, Int.reduceToNat]; first | exact ⟨rfl, rfl⟩ | exact ⟨rfl, rfl, rfl⟩) (by decide +kernel) ?_ ?_
    · refine obl_cons (hOc.less ?_ (ValsLe.refl _)) obl_nil
      repeat' (first | exact vals_nil | exact row_nil | exact es_nil | exact CVLe.refl _ | exact LfLe.refl _ | exact LfLe.nil _ | exact EsLe.refl _ | refine vals_cons ?_ ?_ | refine row_cons ?_ ?_ | refine es_cons ?_ ?_ | refine EsLe.app ?_ ?_ | refine CVLe.row ?_ | refine CVLe.leafV ?_ | refine CVLe.leafS ?_ | refine LfLe.s ?_)
    repeat (first | refine aw_seq ?_ | refine aw_block ?_ | with_reducible refine aw_ret ?_ | with_reducible refine aw_skip ?_ | with_reducible refine aw_exit ?_ | refine thn_normal ?_ | refine thn_out ?_ | refine blk_normal ?_ | refine blk_ret ?_ | refine blk_exit ?_ | ((first | refine aw_regO ?_ | refine aw_regDO ?_ | refine aw_condO ?_ | refine fin_retO ?_); (conv => (arg 1; simp (maxSteps := 30000) only [ev0, ev1, ev2, look, lookF, cellsFrom, offT, offP, List.tail_nil, List.length_nil, Int.cast_ofNat_Int, Nat.reduceEqDiff, Nat.reduceAdd, Nat.reduceMul, Nat.reduceLeDiff, Nat.reduceLT, ↓reduceIte, reduceCtorEq, Int.reduceBEq, Int.reduceBNe, Int.reduceLT, Int.reduceLE, Int.reduceToNat])); (first | with_reducible refine on_yes ?_ | with_reducible refine on_no ?_ | with_reducible refine on_reg ?_ | (with_reducible refine on_regD (by decide +kernel) ?_) | with_reducible refine on_fin ?_)))
    exact ValsLe.refl _
  | false =>
    rw [ho] at hOwn
    rw [sayR, if_neg (by simp [ho])]
    simp only [zeroC, encCh, List.map_nil, ho]
    repeat (first | refine aw_seq ?_ | refine aw_block ?_ | with_reducible refine aw_ret ?_ | with_reducible refine aw_skip ?_ | with_reducible refine aw_exit ?_ | refine thn_normal ?_ | refine thn_out ?_ | refine blk_normal ?_ | refine blk_ret ?_ | refine blk_exit ?_ | ((first | refine aw_regO ?_ | refine aw_regDO ?_ | refine aw_condO ?_ | refine fin_retO ?_); (conv => (arg 1; simp (maxSteps := 30000) only [ev0, ev1, ev2, look, lookF, cellsFrom, offT, offP, List.tail_nil, List.length_nil, Int.cast_ofNat_Int, Nat.reduceEqDiff, Nat.reduceAdd, Nat.reduceMul, Nat.reduceLeDiff, Nat.reduceLT, ↓reduceIte, reduceCtorEq, Int.reduceBEq, Int.reduceBNe, Int.reduceLT, Int.reduceLE, Int.reduceToNat])); (first | with_reducible refine on_yes ?_ | with_reducible refine on_no ?_ | with_reducible refine on_reg ?_ | (with_reducible refine on_regD (by decide +kernel) ?_) | with_reducible refine on_fin ?_)))
    refine aw_reg [[aD [vI r.next, sD 1 (r.early.map vI), vI r.p0, vI r.p1, vI r.p2, sD 6 (encCl r.hold), sD 2 (encMl r.told), vB false]]] (by simp only [ev0, ev1, ev2, look, lookF, cellsFrom, offT, offP, List.tail_nil, List.length_nil, Int.cast_ofNat_Int, Nat.reduceEqDiff, Nat.reduceAdd, Nat.reduceMul, Nat.reduceLeDiff, Nat.reduceLT, ↓reduceIte, reduceCtorEq, Int.reduceBEq, Int.reduceBNe, Int.reduceLT, Int.reduceLE, Int.reduceToNat]; first | rfl | exact ⟨rfl, rfl⟩) ?_ ?_
    · exact obl_cons hOwn obl_nil
    repeat (first | refine aw_seq ?_ | refine aw_block ?_ | with_reducible refine aw_ret ?_ | with_reducible refine aw_skip ?_ | with_reducible refine aw_exit ?_ | refine thn_normal ?_ | refine thn_out ?_ | refine blk_normal ?_ | refine blk_ret ?_ | refine blk_exit ?_ | ((first | refine aw_regO ?_ | refine aw_regDO ?_ | refine aw_condO ?_ | refine fin_retO ?_); (conv => (arg 1; simp (maxSteps := 30000) only [ev0, ev1, ev2, look, lookF, cellsFrom, offT, offP, List.tail_nil, List.length_nil, Int.cast_ofNat_Int, Nat.reduceEqDiff, Nat.reduceAdd, Nat.reduceMul, Nat.reduceLeDiff, Nat.reduceLT, ↓reduceIte, reduceCtorEq, Int.reduceBEq, Int.reduceBNe, Int.reduceLT, Int.reduceLE, Int.reduceToNat])); (first | with_reducible refine on_yes ?_ | with_reducible refine on_no ?_ | with_reducible refine on_reg ?_ | (with_reducible refine on_regD (by decide +kernel) ?_) | with_reducible refine on_fin ?_)))
    repeat' (first | exact vals_nil | exact row_nil | exact es_nil | exact CVLe.refl _ | exact LfLe.refl _ | exact LfLe.nil _ | exact EsLe.refl _ | refine vals_cons ?_ ?_ | refine row_cons ?_ ?_ | refine es_cons ?_ ?_ | refine EsLe.app ?_ ?_ | refine CVLe.row ?_ | refine CVLe.leafV ?_ | refine CVLe.leafS ?_ | refine LfLe.s ?_)
end Go.Proofs.Ytnncmddmjpocfab.ab

/-
  The landed package recv keeps what it is held to.
-/
namespace Go.Proofs.Ytnncmddmjpocfab.ab
set_option linter.unusedSimpArgs false
open Go mth
theorem landR_own : COwnR 21 := lownR_told
theorem landR_say : CSayR 18 := lsayR_told
theorem landR_hear : CHearR 22 := lhearR_told
end Go.Proofs.Ytnncmddmjpocfab.ab
