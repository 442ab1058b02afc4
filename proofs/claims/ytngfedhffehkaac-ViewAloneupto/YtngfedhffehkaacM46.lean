/-
  Several texts in one.
-/
import Derived.Test.YtngfedhffehkaacM23
import Derived.Test.YtngfedhffehkaacProg
import Derived.Test.YtngfedhffehkaacM34
import Derived.Test.YtngfedhffehkaacM32

/-
  Functions as plain code (written by wip/abs/ir.py): chunk.OwnMsg, chunk.Own, list.Own[lanekeeper/api.Msg]=list_OwnM;O, list.Own[lanekeeper/api.Chunk]=list_OwnC;O, send.Own, send.Own=send_OwnO;C.
-/
namespace Go.Proofs.Ytngfedhffehkaac.ab
set_option linter.unusedSimpArgs false
set_option linter.unusedVariables false
set_option maxRecDepth 100000
open Go Go.RowKit

def chunk_OwnMsg_r0 : IC := cReg Try.prog [
    ⟨some 1, none, iBox 1 (.tmp 0)⟩,
    ⟨some 2, none, iAlo 2 [vD (.int .i64 0), vD (.slice none 0 0)]⟩] [1, 2] [1, 2]
def chunk_OwnMsg_r1 : IC := cReg Try.prog [
    ⟨some 3, none, iFad 3 1 (.tmp 1)⟩,
    ⟨some 4, none, iLoad 4 1 false (.tmp 3) false⟩,
    ⟨some 5, none, iApp 5 5 1 1 (.const (.slice none 0 0)) (.tmp 4)⟩,
    ⟨some 6, none, iFad 6 1 (.tmp 1)⟩,
    ⟨none, none, iStor 1 (.tmp 6) (.tmp 5)⟩] [1, 2] [1, 2]
def chunk_OwnMsg_r2 : IC := cReg Try.prog [
    ⟨some 7, none, iLoad 7 2 true (.tmp 1) false⟩,
    ⟨none, none, iStor 2 (.tmp 2) (.tmp 7)⟩] [2] [2]
def chunk_OwnMsg : IC := (cSeq chunk_OwnMsg_r0 (cSeq chunk_OwnMsg_r1 (cSeq chunk_OwnMsg_r2 cRet)))
theorem told_chunk_OwnMsg {args r : List D} (hl : args.length = 1) (h : chunk_OwnMsg (start args) (fin [(2, some (2, true))] r)) : Told Try.prog 30 args r :=
  told_of follows Try.func30 rfl (an := [([], [1, 2], [1, 2], []), ([], [1, 2], [1, 2], []), ([], [2], [2], [])]) (by kernel_rfl) (by kernel_rfl) (by rw [hl]; decide +kernel) h

def chunk_Own_r0 : IC := cReg Try.prog [
    ⟨some 1, none, iBox 1 (.tmp 0)⟩,
    ⟨some 2, none, iAlo 2 [vD (.int .i64 0), vD (.int .i64 0), vD (.int .i64 0), vD (.int .i64 0), vD (.slice none 0 0), vD (.slice none 0 0)]⟩] [1, 2] [1, 2]
def chunk_Own_r1 : IC := cReg Try.prog [
    ⟨some 3, none, iFad 3 4 (.tmp 1)⟩,
    ⟨some 4, none, iLoad 4 1 false (.tmp 3) false⟩,
    ⟨some 5, none, iApp 5 5 1 1 (.const (.slice none 0 0)) (.tmp 4)⟩,
    ⟨some 6, none, iFad 6 4 (.tmp 1)⟩,
    ⟨none, none, iStor 1 (.tmp 6) (.tmp 5)⟩] [1, 2] [1, 2]
def chunk_Own_r2 : IC := cReg Try.prog [
    ⟨some 7, none, iFad 7 5 (.tmp 1)⟩,
    ⟨some 8, none, iLoad 8 1 false (.tmp 7) false⟩,
    ⟨some 9, none, iApp 9 3 1 8 (.const (.slice none 0 0)) (.tmp 8)⟩,
    ⟨some 10, none, iFad 10 5 (.tmp 1)⟩,
    ⟨none, none, iStor 1 (.tmp 10) (.tmp 9)⟩] [1, 2] [1, 2]
def chunk_Own_r3 : IC := cReg Try.prog [
    ⟨some 11, none, iLoad 11 6 true (.tmp 1) false⟩,
    ⟨none, none, iStor 6 (.tmp 2) (.tmp 11)⟩] [2] [2]
def chunk_Own : IC := (cSeq chunk_Own_r0 (cSeq chunk_Own_r1 (cSeq chunk_Own_r2 (cSeq chunk_Own_r3 cRet))))
theorem told_chunk_Own {args r : List D} (hl : args.length = 1) (h : chunk_Own (start args) (fin [(2, some (6, true))] r)) : Told Try.prog 74 args r :=
  told_of follows Try.func74 rfl (an := [([], [1, 2], [1, 2], []), ([], [1, 2], [1, 2], []), ([], [1, 2], [1, 2], []), ([], [2], [2], [])]) (by kernel_rfl) (by kernel_rfl) (by rw [hl]; decide +kernel) h

def list_OwnM_r0 : IC := cReg Try.prog [
    ⟨some 4, none, iMov 4 (.const (.slice none 0 0)) true⟩] [0, 1] []
def list_OwnM_r1 : IC := cReg Try.prog [
    ⟨some 5, none, iMov 5 (.const (.slice none 0 0)) true⟩] [0, 1, 5] []
def list_OwnM_r2 : IC := cReg Try.prog [
    ⟨some 8, none, iMov 8 (.tmp 0) false⟩,
    ⟨some 9, none, iLen 9 false (.tmp 8)⟩,
    ⟨some 10, none, iMov 10 (.const (.int .i64 0)) false⟩] [1, 5, 8, 9, 10] []
def list_OwnM_r3 : IC := cReg Try.prog [
    ⟨some 11, none, iBin 11 .lss (.tmp 10) (.tmp 9)⟩] [1, 5, 8, 9, 10, 11] []
def list_OwnM_c3 : IC := cCond (.tmp 11) cSkip (cExit 0)
def list_OwnM_r4 : IC := cReg Try.prog [
    ⟨some 12, none, iIaS 12 2 (.tmp 8) (.tmp 10)⟩,
    ⟨some 13, none, iLoad 13 2 true (.tmp 12) false⟩,
    ⟨some 7, none, iAlo 7 [vD (.int .i64 0), vD (.slice none 0 0)]⟩,
    ⟨none, none, iStor 2 (.tmp 7) (.tmp 13)⟩] [1, 5, 7, 8, 9, 10] [7]
def list_OwnM_r5 : IC := cReg Try.prog [
    ⟨some 14, none, iMov 14 (.tmp 5) true⟩,
    ⟨some 15, none, iMov 15 (.tmp 1) false⟩,
    ⟨some 16, none, iLoad 16 2 true (.tmp 7) false⟩,
    ⟨some 17, none, iCallV 17 Try.prog 15 [(.tmp 16)]⟩,
    ⟨some 18, none, iRow 18 25 2 [(.tmp 17)]⟩,
    ⟨some 19, none, iApp 19 25 2 32 (.tmp 14) (.tmp 18)⟩,
    ⟨some 5, none, iMov 5 (.tmp 19) true⟩] [1, 5, 8, 9, 10] []
def list_OwnM_b4 : IC := cBlock 1 (cSeq list_OwnM_r4 list_OwnM_r5)
def list_OwnM_r6 : IC := cReg Try.prog [
    ⟨some 20, none, iBin 20 .add (.tmp 10) (.const (.int .i64 1))⟩,
    ⟨some 10, none, iMov 10 (.tmp 20) false⟩] [1, 5, 8, 9, 10] []
def list_OwnM_l2a : IC := (cSeq list_OwnM_r3 (cSeq list_OwnM_c3 (cSeq list_OwnM_b4 list_OwnM_r6)))
def list_OwnM_l2 : IC := cLoop list_OwnM_l2a
def list_OwnM_b1 : IC := cBlock 0 list_OwnM_l2
def list_OwnM_r7 : IC := cReg Try.prog [
    ⟨some 21, none, iMov 21 (.tmp 5) true⟩,
    ⟨some 4, none, iMov 4 (.tmp 21) true⟩] [4] []
def list_OwnM : IC := (cSeq list_OwnM_r0 (cSeq list_OwnM_r1 (cSeq (cSeq list_OwnM_r2 list_OwnM_b1) (cSeq list_OwnM_r7 cRet))))
theorem told_list_OwnM {args r : List D} (hl : args.length = 2) (h : list_OwnM (start args) (fin [(4, none)] r)) : Told Try.prog 72 args r :=
  told_of follows Try.func72 rfl (an := [([], [0, 1], [], []), ([], [0, 1, 5], [], []), ([], [1, 5, 8, 9, 10], [], []), ([], [1, 5, 8, 9, 10, 11], [], []), ([], [1, 5, 7, 8, 9, 10], [7], []), ([], [1, 5, 8, 9, 10], [], []), ([], [1, 5, 8, 9, 10], [], []), ([], [4], [], [21])]) (by kernel_rfl) (by kernel_rfl) (by rw [hl]; decide +kernel) h

def list_OwnC_r0 : IC := cReg Try.prog [
    ⟨some 4, none, iMov 4 (.const (.slice none 0 0)) true⟩] [0, 1] []
def list_OwnC_r1 : IC := cReg Try.prog [
    ⟨some 5, none, iMov 5 (.const (.slice none 0 0)) true⟩] [0, 1, 5] []
def list_OwnC_r2 : IC := cReg Try.prog [
    ⟨some 8, none, iMov 8 (.tmp 0) false⟩,
    ⟨some 9, none, iLen 9 false (.tmp 8)⟩,
    ⟨some 10, none, iMov 10 (.const (.int .i64 0)) false⟩] [1, 5, 8, 9, 10] []
def list_OwnC_r3 : IC := cReg Try.prog [
    ⟨some 11, none, iBin 11 .lss (.tmp 10) (.tmp 9)⟩] [1, 5, 8, 9, 10, 11] []
def list_OwnC_c3 : IC := cCond (.tmp 11) cSkip (cExit 0)
def list_OwnC_r4 : IC := cReg Try.prog [
    ⟨some 12, none, iIaS 12 6 (.tmp 8) (.tmp 10)⟩,
    ⟨some 13, none, iLoad 13 6 true (.tmp 12) false⟩,
    ⟨some 7, none, iAlo 7 [vD (.int .i64 0), vD (.int .i64 0), vD (.int .i64 0), vD (.int .i64 0), vD (.slice none 0 0), vD (.slice none 0 0)]⟩,
    ⟨none, none, iStor 6 (.tmp 7) (.tmp 13)⟩] [1, 5, 7, 8, 9, 10] [7]
def list_OwnC_r5 : IC := cReg Try.prog [
    ⟨some 14, none, iMov 14 (.tmp 5) true⟩,
    ⟨some 15, none, iMov 15 (.tmp 1) false⟩,
    ⟨some 16, none, iLoad 16 6 true (.tmp 7) false⟩,
    ⟨some 17, none, iCallV 17 Try.prog 15 [(.tmp 16)]⟩,
    ⟨some 18, none, iRow 18 86 6 [(.tmp 17)]⟩,
    ⟨some 19, none, iApp 19 86 6 80 (.tmp 14) (.tmp 18)⟩,
    ⟨some 5, none, iMov 5 (.tmp 19) true⟩] [1, 5, 8, 9, 10] []
def list_OwnC_b4 : IC := cBlock 1 (cSeq list_OwnC_r4 list_OwnC_r5)
def list_OwnC_r6 : IC := cReg Try.prog [
    ⟨some 20, none, iBin 20 .add (.tmp 10) (.const (.int .i64 1))⟩,
    ⟨some 10, none, iMov 10 (.tmp 20) false⟩] [1, 5, 8, 9, 10] []
def list_OwnC_l2a : IC := (cSeq list_OwnC_r3 (cSeq list_OwnC_c3 (cSeq list_OwnC_b4 list_OwnC_r6)))
def list_OwnC_l2 : IC := cLoop list_OwnC_l2a
def list_OwnC_b1 : IC := cBlock 0 list_OwnC_l2
def list_OwnC_r7 : IC := cReg Try.prog [
    ⟨some 21, none, iMov 21 (.tmp 5) true⟩,
    ⟨some 4, none, iMov 4 (.tmp 21) true⟩] [4] []
def list_OwnC : IC := (cSeq list_OwnC_r0 (cSeq list_OwnC_r1 (cSeq (cSeq list_OwnC_r2 list_OwnC_b1) (cSeq list_OwnC_r7 cRet))))
theorem told_list_OwnC {args r : List D} (hl : args.length = 2) (h : list_OwnC (start args) (fin [(4, none)] r)) : Told Try.prog 73 args r :=
  told_of follows Try.func73 rfl (an := [([], [0, 1], [], []), ([], [0, 1, 5], [], []), ([], [1, 5, 8, 9, 10], [], []), ([], [1, 5, 8, 9, 10, 11], [], []), ([], [1, 5, 7, 8, 9, 10], [7], []), ([], [1, 5, 8, 9, 10], [], []), ([], [1, 5, 8, 9, 10], [], []), ([], [4], [], [21])]) (by kernel_rfl) (by kernel_rfl) (by rw [hl]; decide +kernel) h

def send_Own_r0 : IC := cReg Try.prog [
    ⟨some 1, none, iBox 1 (.tmp 0)⟩,
    ⟨some 2, none, iAlo 2 [vD (.slice none 0 0), vD (.int .i64 0), vD (.int .i64 0), vD (.int .i64 0), vD (.int .i64 0), vD (.slice none 0 0), vD (.int .i64 0)]⟩] [1, 2] [1, 2]
def send_Own_r1 : IC := cReg Try.prog [
    ⟨some 3, none, iFad 3 0 (.tmp 1)⟩,
    ⟨some 4, none, iLoad 4 1 false (.tmp 3) false⟩,
    ⟨some 5, none, iCall 5 72 [(.tmp 4), (.func 30)]⟩,
    ⟨some 6, none, iFad 6 0 (.tmp 1)⟩,
    ⟨none, none, iStor 1 (.tmp 6) (.tmp 5)⟩] [1, 2] [1, 2]
def send_Own_r2 : IC := cReg Try.prog [
    ⟨some 7, none, iFad 7 5 (.tmp 1)⟩,
    ⟨some 8, none, iLoad 8 1 false (.tmp 7) false⟩,
    ⟨some 9, none, iCall 9 73 [(.tmp 8), (.func 74)]⟩,
    ⟨some 10, none, iFad 10 5 (.tmp 1)⟩,
    ⟨none, none, iStor 1 (.tmp 10) (.tmp 9)⟩] [1, 2] [1, 2]
def send_Own_r3 : IC := cReg Try.prog [
    ⟨some 11, none, iLoad 11 7 true (.tmp 1) false⟩,
    ⟨none, none, iStor 7 (.tmp 2) (.tmp 11)⟩] [2] [2]
def send_Own : IC := (cSeq send_Own_r0 (cSeq send_Own_r1 (cSeq send_Own_r2 (cSeq send_Own_r3 cRet))))
theorem told_send_Own {args r : List D} (hl : args.length = 1) (h : send_Own (start args) (fin [(2, some (7, true))] r)) : Told Try.prog 44 args r :=
  told_of follows Try.func44 rfl (an := [([], [1, 2], [1, 2], []), ([], [1, 2], [1, 2], []), ([], [1, 2], [1, 2], []), ([], [2], [2], [])]) (by kernel_rfl) (by kernel_rfl) (by rw [hl]; decide +kernel) h

end Go.Proofs.Ytngfedhffehkaac.ab

/-
  What the landed functions that copy tell: messages, chunks, lists of them, senders.
-/
namespace Go.Proofs.Ytngfedhffehkaac.ab
set_option linter.unusedVariables false
set_option linter.unusedSimpArgs false
open Go Go.RowKit
open mth

theorem ownMsg_told (m : Ms) (h : m.data.length ≤ 1048576) : Told Try.prog 30 [aD (encMs m)] [aD (encMs m)] := by
  refine told_chunk_OwnMsg rfl ?_
  simp only [encMs]
  have h1 : m.data.length * 1 ≤ 140737488355328 := by omega
  refine wk (an2 @h1 @zmap) ?_
  exact ValsLe.refl _
theorem ownCh_told (c : Ch) (h : c.data.length ≤ 1048576) (h' : c.early.length ≤ 1048576) : Told Try.prog 74 [aD (encCh c)] [aD (encCh c)] := by
  refine told_chunk_Own rfl ?_
  simp only [encCh]
  have h1 : c.data.length * 1 ≤ 140737488355328 := by omega
  have h2 : c.early.length * 8 ≤ 140737488355328 := by omega
  refine wk (an3 @h1 @h2 @zmap) ?_
  exact ValsLe.refl _
theorem callM : callableB Try.prog 30 = true := by kernel_rfl
theorem callC : callableB Try.prog 74 = true := by kernel_rfl

/-- At the head of the loop: what was made so far; frozen. -/
def omSt (l : List Ms) (k : Nat) : St := ⟨[(1, vD (.func (.func 30) #[] #[])), (5, sD 2 (encMl (l.take k))), (8, sD 2 (encMl l)), (9, vI l.length), (10, vI k)], [], [((5, none), (25, 2, none))]⟩
theorem ml_snoc (l : List Ms) (m : Ms) : encMl (l ++ [m]) = encMl l ++ [aD [vI m.stream, sD 1 (m.data.map encB)]] := by simp [encMl, encMs]
set_option maxHeartbeats 4000000 in
theorem ownM_core (l : List Ms) (hl : l.length ≤ 1048576) (hm : ∀ m ∈ l, m.data.length ≤ 1048576) (Q : AX → St → Prop) (hQ : Q (some none) ⟨[(4, sD 2 (encMl l))], [], [((4, none), (25, 2, none))]⟩) : list_OwnM (start [sD 2 (encMl l), vD (.func (.func 30) #[] #[])]) Q := by
  refine wk @len_ml ?_
  refine aw_loop (fun n st => ∃ k, k ≤ l.length ∧ n = l.length - k ∧ st = omSt l k) l.length (omSt l 0) ((Le.nilS 5 25 2 rfl).trans (Le.keep (lv := [1, 5, 8, 9, 10]) (lb := []) (by simp only [ev0, ev1, ev2, look, lookF, cellsFrom, offT, offP, List.tail_nil, List.length_nil, Int.cast_ofNat_Int, Nat.reduceEqDiff, Nat.reduceAdd, Nat.reduceMul, Nat.reduceLeDiff, Nat.reduceLT, ↓reduceIte, reduceCtorEq, Int.reduceBEq, Int.reduceBNe, Int.reduceLT, Int.reduceLE, Int.reduceToNat]; rfl))) ⟨0, by omega, by omega, rfl⟩ ?_
  rintro n st ⟨k, hk', hn, rfl⟩
  by_cases hlt : k < l.length
  · obtain ⟨x, hx⟩ : ∃ m, l[k]? = some m := ⟨l[k], List.getElem?_eq_getElem hlt⟩
    have g1 : (k : Int) < (l.length : Int) := by omega
    have g2 : (0 : Int) ≤ (k : Int) := by omega
    have g3 := at_ml hx
    have g4 : inR .i64 ((k : Int) + 1) = true := inR_of (by omega)
    have hlen : (l.take k).length = k := by rw [List.length_take]; omega
    have hb1 : ((l.take k).length + 1) * 32 ≤ 140737488355328 := by omega
    have hnx : Next (fun n st => ∃ k, k ≤ l.length ∧ n = l.length - k ∧ st = omSt l k) n
        ⟨[(1, vD (.func (.func 30) #[] #[])), (5, sD 2 (encMl (l.take k) ++ [aD [vI x.stream, sD 1 (x.data.map encB)]])), (8, sD 2 (encMl l)), (9, vI l.length), (10, vI ((k : Int) + 1))], [], [((5, none), (25, 2, none))]⟩ := by
      rw [← ml_snoc, show l.take k ++ [x] = l.take (k + 1) by rw [List.take_add_one, hx]; rfl]
      exact ⟨l.length - (k + 1), _, by omega, Le.refl _, k + 1, by omega, rfl, by simp only [omSt, Int.natCast_add, Int.cast_ofNat_Int]⟩
    generalize (fun n st => ∃ k, k ≤ l.length ∧ n = l.length - k ∧ st = omSt l k) = J at *
    simp only [omSt]
    generalize l.take k = G at *
    refine wk (an6 @g1 @g2 @g3 @callM @hb1 @len_ml) ?_
    refine cg [[aD [vI x.stream, sD 1 (x.data.map encB)]]] (an3 @callM @hb1 @len_ml) ?_ ?_
    · exact obl_cons (ownMsg_told x (hm x (List.mem_of_getElem? hx))) obl_nil
    refine wk @g4 ?_
    exact hnx
  · have hk'' : k = l.length := by omega
    subst hk''
    have g1 : ¬ (l.length : Int) < (l.length : Int) := by omega
    simp only [omSt, List.take_length]
    refine wk @g1 ?_
    exact hQ
theorem ownM_told (l : List Ms) (hl : l.length ≤ 1048576) (hm : ∀ m ∈ l, m.data.length ≤ 1048576) : Told Try.prog 72 [sD 2 (encMl l), vD (.func (.func 30) #[] #[])] [sD 2 (encMl l)] :=
  told_list_OwnM rfl (ownM_core l hl hm _ ⟨[sD 2 (encMl l)], rfl, ValsLe.refl _⟩)
theorem cl_snoc' (l : List Ch) (c : Ch) : encCl (l ++ [c]) = encCl l ++ [aD [vI c.kind, vI c.number, vI c.stream, vI c.place, sD 1 (c.data.map encB), sD 1 (c.early.map vI)]] := by simp [encCl, encCh]
/-- At the head of the loop: what was made so far; frozen. -/
def ocSt (l : List Ch) (k : Nat) : St := ⟨[(1, vD (.func (.func 74) #[] #[])), (5, sD 6 (encCl (l.take k))), (8, sD 6 (encCl l)), (9, vI l.length), (10, vI k)], [], [((5, none), (86, 6, none))]⟩
set_option maxHeartbeats 4000000 in
theorem ownC_core (l : List Ch) (hl : l.length ≤ 1048576) (hm : ∀ m ∈ l, m.data.length ≤ 1048576 ∧ m.early.length ≤ 1048576) (Q : AX → St → Prop) (hQ : Q (some none) ⟨[(4, sD 6 (encCl l))], [], [((4, none), (86, 6, none))]⟩) : list_OwnC (start [sD 6 (encCl l), vD (.func (.func 74) #[] #[])]) Q := by
  refine wk @len_cl ?_
  refine aw_loop (fun n st => ∃ k, k ≤ l.length ∧ n = l.length - k ∧ st = ocSt l k) l.length (ocSt l 0) ((Le.nilS 5 86 6 rfl).trans (Le.keep (lv := [1, 5, 8, 9, 10]) (lb := []) (by simp only [ev0, ev1, ev2, look, lookF, cellsFrom, offT, offP, List.tail_nil, List.length_nil, Int.cast_ofNat_Int, Nat.reduceEqDiff, Nat.reduceAdd, Nat.reduceMul, Nat.reduceLeDiff, Nat.reduceLT, ↓reduceIte, reduceCtorEq, Int.reduceBEq, Int.reduceBNe, Int.reduceLT, Int.reduceLE, Int.reduceToNat]; rfl))) ⟨0, by omega, by omega, rfl⟩ ?_
  rintro n st ⟨k, hk', hn, rfl⟩
  by_cases hlt : k < l.length
  · obtain ⟨x, hx⟩ : ∃ m, l[k]? = some m := ⟨l[k], List.getElem?_eq_getElem hlt⟩
    have g1 : (k : Int) < (l.length : Int) := by omega
    have g2 : (0 : Int) ≤ (k : Int) := by omega
    have g3 := at_cl hx
    have g4 : inR .i64 ((k : Int) + 1) = true := inR_of (by omega)
    have hlen : (l.take k).length = k := by rw [List.length_take]; omega
    have hb1 : ((l.take k).length + 1) * 80 ≤ 140737488355328 := by omega
    have hnx : Next (fun n st => ∃ k, k ≤ l.length ∧ n = l.length - k ∧ st = ocSt l k) n
        ⟨[(1, vD (.func (.func 74) #[] #[])), (5, sD 6 (encCl (l.take k) ++ [aD [vI x.kind, vI x.number, vI x.stream, vI x.place, sD 1 (x.data.map encB), sD 1 (x.early.map vI)]])), (8, sD 6 (encCl l)), (9, vI l.length), (10, vI ((k : Int) + 1))], [], [((5, none), (86, 6, none))]⟩ := by
      rw [← cl_snoc', show l.take k ++ [x] = l.take (k + 1) by rw [List.take_add_one, hx]; rfl]
      exact ⟨l.length - (k + 1), _, by omega, Le.refl _, k + 1, by omega, rfl, by simp only [ocSt, Int.natCast_add, Int.cast_ofNat_Int]⟩
    generalize (fun n st => ∃ k, k ≤ l.length ∧ n = l.length - k ∧ st = ocSt l k) = J at *
    simp only [ocSt]
    generalize l.take k = G at *
    refine wk (an6 @g1 @g2 @g3 @callC @hb1 @len_cl) ?_
    refine cg [[aD [vI x.kind, vI x.number, vI x.stream, vI x.place, sD 1 (x.data.map encB), sD 1 (x.early.map vI)]]] (an3 @callC @hb1 @len_cl) ?_ ?_
    · exact obl_cons (ownCh_told x (hm x (List.mem_of_getElem? hx)).1 (hm x (List.mem_of_getElem? hx)).2) obl_nil
    refine wk @g4 ?_
    exact hnx
  · have hk'' : k = l.length := by omega
    subst hk''
    have g1 : ¬ (l.length : Int) < (l.length : Int) := by omega
    simp only [ocSt, List.take_length]
    refine wk @g1 ?_
    exact hQ
theorem ownC_told (l : List Ch) (hl : l.length ≤ 1048576) (hm : ∀ m ∈ l, m.data.length ≤ 1048576 ∧ m.early.length ≤ 1048576) : Told Try.prog 73 [sD 6 (encCl l), vD (.func (.func 74) #[] #[])] [sD 6 (encCl l)] :=
  told_list_OwnC rfl (ownC_core l hl hm _ ⟨[sD 6 (encCl l)], rfl, ValsLe.refl _⟩)
/-- No list of it is too long to be copied. -/
structure SmallS (s : Sd) : Prop where
  q : s.queue.length ≤ 1048576
  m : ∀ m ∈ s.queue, m.data.length ≤ 1048576
  f : s.flight.length ≤ 1048576
  c : ∀ c ∈ s.flight, c.data.length ≤ 1048576 ∧ c.early.length ≤ 1048576
set_option maxHeartbeats 4000000 in
theorem ownS_told (s : Sd) (h : SmallS s) : Told Try.prog 44 [aD (encSd s)] [aD (encSd s)] := by
  refine told_send_Own rfl ?_
  simp only [encSd]
  refine wk0 ?_
  refine cg0 [[sD 2 (encMl s.queue)]] ?_ ?_
  · exact obl_cons (ownM_told s.queue h.q h.m) obl_nil
  refine wk0 ?_
  refine cg0 [[sD 6 (encCl s.flight)]] ?_ ?_
  · exact obl_cons (ownC_told s.flight h.f h.c) obl_nil
  refine wk0 ?_
  exact ValsLe.refl _
end Go.Proofs.Ytngfedhffehkaac.ab
