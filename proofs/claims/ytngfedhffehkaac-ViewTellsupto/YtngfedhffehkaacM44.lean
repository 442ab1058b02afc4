/-
  Several texts in one.
-/
import Derived.Test.YtngfedhffehkaacM41
import Derived.Test.YtngfedhffehkaacM42
import Derived.Test.YtngfedhffehkaacPLane3
import Derived.Test.YtngfedhffehkaacM23
import Derived.Test.YtngfedhffehkaacProg
import Derived.Test.YtngfedhffehkaacAbsEval

/-
  What the functions of package view are held to.
-/
namespace Go.Proofs.Ytngfedhffehkaac.ab
set_option linter.unusedVariables false
set_option linter.unusedSimpArgs false
open Go Go.RowKit
open mth

def CVOf (f : Nat) : Prop := ∀ (w : Wd) (t : Int), GoodW w → Told Try.prog f [aD (encWd w), vI t] [aD (encLn (ofW w t).1), vB (ofW w t).2]
/-- Messages of steps, no longer than a copy may be. -/
def SmallD (l : List Sp) : Prop := ∀ s ∈ l, s.msg.data.length ≤ 1048576
def CVOnly (f : Nat) : Prop := ∀ (l : List Sp) (t : Int), l.length ≤ 1048576 → SmallD l → Told Try.prog f [sD 7 (encSl l), vI t] [sD 7 (encSl (onlyW l t))]
def CVPuts (f : Nat) : Prop := ∀ (l : List Sp) (es : List Int) (t : Int), l.length ≤ 1048576 → SmallD l → es.length ≤ 9223372036854775807 → Told Try.prog f [sD 7 (encSl l), sD 1 (es.map vI), vI t] [sD 2 (encMl (putsW l es t))]
theorem of_in {w : Wd} {t : Nat} (h : t < w.lanes.length) : ofW w t = (w.lanes.getD t zeroL, true) := by
  unfold ofW
  rw [if_neg (by omega)]
  rfl
theorem of_out {w : Wd} {t : Int} (h : t < 0 ∨ (w.lanes.length : Int) ≤ t) : ofW w t = (zeroL, false) := by
  unfold ofW
  rw [if_pos h]
theorem only_snoc (l : List Sp) (s : Sp) (t : Int) : onlyW (l ++ [s]) t = onlyW l t ++ (if mineB t s = true then [s] else []) := by
  unfold onlyW
  rw [List.filter_append]
  congr 1
  cases h : mineB t s with
  | true => rw [List.filter_cons_of_pos h]; rfl
  | false => rw [List.filter_cons_of_neg (by rw [h]; simp)]; rfl
end Go.Proofs.Ytngfedhffehkaac.ab

/-
  Functions as plain code (written by wip/abs/ir.py): lkref6.Puts.
-/
namespace Go.Proofs.Ytngfedhffehkaac.ab
set_option linter.unusedSimpArgs false
set_option linter.unusedVariables false
set_option maxRecDepth 100000
open Go Go.RowKit

def r6_Puts_r0 : IC := cReg Try.prog [
    ⟨some 6, none, iMov 6 (.const (.slice none 0 0)) true⟩] [0, 1, 2] []
def r6_Puts_r1 : IC := cReg Try.prog [
    ⟨some 7, none, iMov 7 (.const (.slice none 0 0)) true⟩] [0, 1, 2, 7] []
def r6_Puts_r2 : IC := cReg Try.prog [
    ⟨some 10, none, iMov 10 (.tmp 0) false⟩,
    ⟨some 11, none, iLen 11 false (.tmp 10)⟩,
    ⟨some 12, none, iMov 12 (.const (.int .i64 0)) false⟩] [1, 2, 7, 10, 11, 12] []
def r6_Puts_r3 : IC := cReg Try.prog [
    ⟨some 13, none, iBin 13 .lss (.tmp 12) (.tmp 11)⟩] [1, 2, 7, 10, 11, 12, 13] []
def r6_Puts_c3 : IC := cCond (.tmp 13) cSkip (cExit 0)
def r6_Puts_r4 : IC := cReg Try.prog [
    ⟨some 14, none, iMov 14 (.tmp 12) false⟩,
    ⟨some 15, none, iIaS 15 7 (.tmp 10) (.tmp 12)⟩,
    ⟨some 16, none, iLoad 16 7 true (.tmp 15) false⟩,
    ⟨some 9, none, iAlo 9 [vD (.int .i64 0), vD (.int .i64 0), vD (.int .i64 0), vD (.int .i64 0), vD (.bool false), vD (.int .i64 0), vD (.slice none 0 0)]⟩,
    ⟨some 8, none, iMov 8 (.tmp 14) true⟩,
    ⟨none, none, iStor 7 (.tmp 9) (.tmp 16)⟩] [1, 2, 7, 8, 9, 10, 11, 12] [9]
def r6_Puts_r5_0 : IC := cReg Try.prog [
    ⟨some 17, none, iMov 17 (.tmp 8) false⟩,
    ⟨some 18, none, iMov 18 (.tmp 1) false⟩,
    ⟨some 19, none, iLen 19 false (.tmp 18)⟩,
    ⟨some 20, none, iBin 20 .lss (.tmp 17) (.tmp 19)⟩,
    ⟨some 21, none, iMov 21 (.tmp 20) false⟩,
    ⟨some 22, some (21, true), iMov 22 (.tmp 1) false⟩,
    ⟨some 23, some (21, true), iMov 23 (.tmp 8) false⟩,
    ⟨some 24, some (21, true), iIaS 24 1 (.tmp 22) (.tmp 23)⟩,
    ⟨some 25, some (21, true), iLoad 25 1 false (.tmp 24) false⟩,
    ⟨some 26, some (21, true), iBin 26 .eql (.tmp 25) (.const (.int .i64 0))⟩] [1, 2, 7, 9, 10, 11, 12, 21, 26] [9]
def r6_Puts_r5_1 : IC := cReg Try.prog [
    ⟨some 27, none, iPick 27 (.tmp 21) (.tmp 26) (.const (.bool false))⟩,
    ⟨some 28, none, iMov 28 (.tmp 27) false⟩,
    ⟨some 29, some (28, true), iFad 29 0 (.tmp 9)⟩,
    ⟨some 30, some (28, true), iLoad 30 1 false (.tmp 29) false⟩,
    ⟨some 31, some (28, true), iBin 31 .eql (.tmp 30) (.const (.int .i64 2))⟩,
    ⟨some 32, none, iPick 32 (.tmp 28) (.tmp 31) (.const (.bool false))⟩,
    ⟨some 33, none, iMov 33 (.tmp 32) false⟩,
    ⟨some 34, some (33, true), iFad 34 1 (.tmp 9)⟩,
    ⟨some 35, some (33, true), iLoad 35 1 false (.tmp 34) false⟩,
    ⟨some 36, some (33, true), iMov 36 (.tmp 2) false⟩,
    ⟨some 37, some (33, true), iBin 37 .eql (.tmp 35) (.tmp 36)⟩,
    ⟨some 38, none, iPick 38 (.tmp 33) (.tmp 37) (.const (.bool false))⟩] [1, 2, 7, 9, 10, 11, 12, 38] [9]
def r6_Puts_r5 : IC := (cSeq r6_Puts_r5_0 r6_Puts_r5_1)
def r6_Puts_r6 : IC := cReg Try.prog [
    ⟨some 39, none, iMov 39 (.tmp 7) true⟩,
    ⟨some 40, none, iFad 40 5 (.tmp 9)⟩,
    ⟨some 41, none, iLoad 41 2 true (.tmp 40) false⟩,
    ⟨some 42, none, iRow 42 25 2 [(.tmp 41)]⟩,
    ⟨some 43, none, iApp 43 25 2 32 (.tmp 39) (.tmp 42)⟩,
    ⟨some 7, none, iMov 7 (.tmp 43) true⟩] [1, 2, 7, 10, 11, 12] []
def r6_Puts_c5 : IC := cCond (.tmp 38) r6_Puts_r6 cSkip
def r6_Puts_b4 : IC := cBlock 1 (cSeq r6_Puts_r4 (cSeq r6_Puts_r5 r6_Puts_c5))
def r6_Puts_r7 : IC := cReg Try.prog [
    ⟨some 44, none, iBin 44 .add (.tmp 12) (.const (.int .i64 1))⟩,
    ⟨some 12, none, iMov 12 (.tmp 44) false⟩] [1, 2, 7, 10, 11, 12] []
def r6_Puts_l2a : IC := (cSeq r6_Puts_r3 (cSeq r6_Puts_c3 (cSeq r6_Puts_b4 r6_Puts_r7)))
def r6_Puts_l2 : IC := cLoop r6_Puts_l2a
def r6_Puts_b1 : IC := cBlock 0 r6_Puts_l2
def r6_Puts_r8 : IC := cReg Try.prog [
    ⟨some 45, none, iMov 45 (.tmp 7) false⟩,
    ⟨some 6, none, iMov 6 (.tmp 45) true⟩] [6] []
def r6_Puts : IC := (cSeq r6_Puts_r0 (cSeq r6_Puts_r1 (cSeq (cSeq r6_Puts_r2 r6_Puts_b1) (cSeq r6_Puts_r8 cRet))))
theorem told_r6_Puts {args r : List D} (hl : args.length = 3) (h : r6_Puts (start args) (fin [(6, none)] r)) : Told Try.prog 18 args r :=
  told_of follows Try.func18 rfl (an := [([], [0, 1, 2], [], []), ([], [0, 1, 2, 7], [], []), ([], [1, 2, 7, 10, 11, 12], [], []), ([], [1, 2, 7, 10, 11, 12, 13], [], []), ([], [1, 2, 7, 8, 9, 10, 11, 12], [9], []), ([(10, [1, 2, 7, 9, 10, 11, 12, 21, 26], [9])], [1, 2, 7, 9, 10, 11, 12, 38], [9], []), ([], [1, 2, 7, 10, 11, 12], [], []), ([], [1, 2, 7, 10, 11, 12], [], []), ([], [6], [], [])]) (by kernel_rfl) (by kernel_rfl) (by rw [hl]; decide +kernel) h

end Go.Proofs.Ytngfedhffehkaac.ab

/-
  What the answer's Puts tells.
-/
namespace Go.Proofs.Ytngfedhffehkaac.ab
set_option linter.unusedVariables false
set_option linter.unusedSimpArgs false
open Go Go.RowKit
open mth

/-- What was put, as far as one has come. -/
def putsK (l : List Sp) (es : List Int) (t : Int) (k : Nat) : List Ms := (((l.zip es).take k).filter (fun x => x.2 == 0 && (x.1.kind == 2 && x.1.tenant == t))).map (fun x => x.1.msg)
theorem putsK_all (l : List Sp) (es : List Int) (t : Int) : putsK l es t l.length = putsW l es t := by
  unfold putsK putsW
  rw [List.take_of_length_le (by rw [List.length_zip]; omega)]
theorem putsK_len (l : List Sp) (es : List Int) (t : Int) (k : Nat) : (putsK l es t k).length ≤ es.length := by
  unfold putsK
  rw [List.length_map]
  refine Nat.le_trans (List.length_filter_le _ _) ?_
  rw [List.length_take, List.length_zip]; omega
theorem putsK_no {l : List Sp} {es : List Int} (t : Int) {k : Nat} (h : es.length ≤ k) : putsK l es t (k + 1) = putsK l es t k := by
  unfold putsK
  rw [List.take_of_length_le (i := k) (by rw [List.length_zip]; omega), List.take_of_length_le (by rw [List.length_zip]; omega)]
theorem putsK_at {l : List Sp} {es : List Int} (t : Int) {k : Nat} {s : Sp} {e : Int} (hs : l[k]? = some s) (he : es[k]? = some e) : putsK l es t (k + 1) = putsK l es t k ++ (if e = 0 ∧ s.kind = 2 ∧ s.tenant = t then [s.msg] else []) := by
  have hz : (l.zip es)[k]? = some (s, e) := List.getElem?_zip_eq_some.2 ⟨hs, he⟩
  unfold putsK
  rw [List.take_add_one, hz, Option.toList_some, List.filter_append, List.map_append]
  congr 1
  by_cases h1 : e = 0 ∧ s.kind = 2 ∧ s.tenant = t
  · rw [if_pos h1]; simp [h1]
  · rw [if_neg h1, List.filter_cons_of_neg]
    · rfl
    · simp only [Bool.and_eq_true, beq_iff_eq]; exact h1
def puSt (l : List Sp) (es : List Int) (t : Int) (p : List Ms) (k : Nat) : St :=
  ⟨[(1, sD 1 (es.map vI)), (2, vI t), (7, sD 2 (encMl p)), (10, sD 7 (encSl l)), (11, vI l.length), (12, vI k)], [], [((7, none), (25, 2, none))]⟩
def puJ (l : List Sp) (es : List Int) (t : Int) : Nat → St → Prop := fun m st => ∃ k : Nat, k ≤ l.length ∧ m = l.length - k ∧ st = puSt l es t (putsK l es t k) k
theorem at_es {es : List Int} {i : Nat} {x : Int} (h : es[i]? = some x) : (es.map vI)[i]? = some (vI x) := by simp [h]
set_option maxHeartbeats 16000000 in
theorem puts_told (l : List Sp) (es : List Int) (t : Int) (hl : l.length ≤ 9223372036854775807) (he : es.length ≤ 1048576) : Told Try.prog 18 [sD 7 (encSl l), sD 1 (es.map vI), vI t] [sD 2 (encMl (putsW l es t))] := by
  refine told_r6_Puts rfl ?_
  refine wk @len_sl ?_
  refine aw_loop (puJ l es t) l.length (puSt l es t [] 0) ?_ ⟨0, by omega, by omega, rfl⟩ ?_
  · exact (Le.nilS 7 25 2 rfl).trans (Le.keep (lv := [1, 2, 7, 10, 11, 12]) (lb := []) (by simp only [ev0, ev1, ev2, look, lookF, cellsFrom, offT, offP, List.tail_nil, List.length_nil, Int.cast_ofNat_Int, Nat.reduceEqDiff, Nat.reduceAdd, Nat.reduceMul, Nat.reduceLeDiff, Nat.reduceLT, ↓reduceIte, reduceCtorEq, Int.reduceBEq, Int.reduceBNe, Int.reduceLT, Int.reduceLE, Int.reduceToNat]; rfl))
  rintro m st ⟨k, hk, hm, rfl⟩
  have hpl := putsK_len l es t k
  by_cases hlt : k < l.length
  · obtain ⟨s, hs⟩ : ∃ s, l[k]? = some s := ⟨l[k], List.getElem?_eq_getElem hlt⟩
    have g1 : (k : Int) < (l.length : Int) := by omega
    have g2 : (0 : Int) ≤ (k : Int) := by omega
    have g3 := at_sl hs
    have g4 : inR .i64 ((k : Int) + 1) = true := inR_of (by omega)
    have hnx : ∀ p, p = putsK l es t (k + 1) → Next (puJ l es t) m (puSt l es t p (k + 1)) := fun p hp => ⟨l.length - (k + 1), _, by omega, Le.refl _, k + 1, by omega, rfl, by rw [hp]⟩
    by_cases hke : k < es.length
    · obtain ⟨e, hee⟩ : ∃ e, es[k]? = some e := ⟨es[k], List.getElem?_eq_getElem hke⟩
      have g5 : (k : Int) < (es.length : Int) := by omega
      have g6 := at_es hee
      have hstep := putsK_at t hs hee
      by_cases c1 : e = 0
      · have f1 : (e == 0) = true := by simpa using c1
        by_cases c2 : s.kind = 2
        · have f2 : (s.kind == 2) = true := by simpa using c2
          by_cases c3 : s.tenant = t
          · have f3 : (s.tenant == t) = true := by simpa using c3
            rw [if_pos ⟨c1, c2, c3⟩] at hstep
            have hnx := hnx _ hstep.symm
            generalize puJ l es t = J at *
            generalize putsK l es t k = p at *
            have b1 : (p.length + 1) * 32 ≤ 140737488355328 := by omega
            simp only [puSt, Int.natCast_add, Int.cast_ofNat_Int, ml_snoc3] at hnx ⊢
            refine wk (an13 @g1 @g2 @g3 @g4 @g5 @g6 @f1 @f2 @f3 @b1 @len_ml @zmap @Int.toNat_natCast) ?_
            exact hnx
          · have f3 : (s.tenant == t) = false := by simpa using c3
            rw [if_neg (fun w => c3 w.2.2), List.append_nil] at hstep
            have hnx := hnx _ hstep.symm
            generalize puJ l es t = J at *
            generalize putsK l es t k = p at *
            simp only [puSt, Int.natCast_add, Int.cast_ofNat_Int] at hnx ⊢
            refine wk (an11 @g1 @g2 @g3 @g4 @g5 @g6 @f1 @f2 @f3 @zmap @Int.toNat_natCast) ?_
            exact hnx
        · have f2 : (s.kind == 2) = false := by simpa using c2
          rw [if_neg (fun w => c2 w.2.1), List.append_nil] at hstep
          have hnx := hnx _ hstep.symm
          generalize puJ l es t = J at *
          generalize putsK l es t k = p at *
          simp only [puSt, Int.natCast_add, Int.cast_ofNat_Int] at hnx ⊢
          refine wk (an10 @g1 @g2 @g3 @g4 @g5 @g6 @f1 @f2 @zmap @Int.toNat_natCast) ?_
          exact hnx
      · have f1 : (e == 0) = false := by simpa using c1
        rw [if_neg (fun w => c1 w.1), List.append_nil] at hstep
        have hnx := hnx _ hstep.symm
        generalize puJ l es t = J at *
        generalize putsK l es t k = p at *
        simp only [puSt, Int.natCast_add, Int.cast_ofNat_Int] at hnx ⊢
        refine wk (an9 @g1 @g2 @g3 @g4 @g5 @g6 @f1 @zmap @Int.toNat_natCast) ?_
        exact hnx
    · have g5 : ¬ (k : Int) < (es.length : Int) := by omega
      have hnx := hnx _ (putsK_no t (by omega)).symm
      generalize puJ l es t = J at *
      generalize putsK l es t k = p at *
      simp only [puSt, Int.natCast_add, Int.cast_ofNat_Int] at hnx ⊢
      refine wk (an7 @g1 @g2 @g3 @g4 @g5 @zmap @Int.toNat_natCast) ?_
      exact hnx
  · have : k = l.length := by omega
    subst this
    have g1 : ¬ (l.length : Int) < (l.length : Int) := by omega
    rw [putsK_all]
    generalize puJ l es t = J at *
    generalize putsW l es t = p at *
    simp only [puSt]
    refine wk @g1 ?_
    exact ValsLe.refl _
end Go.Proofs.Ytngfedhffehkaac.ab

/-
  A drawn region, one operation after another.
-/
namespace Go.Proofs.Ytngfedhffehkaac.ab
set_option linter.unusedSimpArgs false
open Go Go.RowKit

/-- What is left of a region; `fs` is what the operations behind have looked at. -/
def goD (fs : List Foot) (ops : List IOp) (anc : List (List Nat)) (lv lb : List Nat) (st : St) (K : St → Prop) : Prop := ∃ st' fs' st'', evalD ops [] st = some (st', fs', []) ∧ st'.keep lv lb = some st'' ∧ pairsOk anc (fs ++ fs') = true ∧ K st''
/-- An operation, reckoned out first. -/
def onS (x : Option (Ev × Option (Nat × List D × List D))) (K : Ev → Prop) : Prop := ∃ ev, x = some (ev, none) ∧ K ev
/-- A state and what was looked at, reckoned out first. -/
def onE (x : St) (f : Foot) (K : St → Foot → Prop) : Prop := K x f
def onK (x : Option St) (K : St → Prop) : Prop := ∃ st, x = some st ∧ K st

section
variable {P : Program} {st st' : St} {Q : AX → St → Prop} {K : St → Prop} {ops : List IOp} {anc : List (List Nat)} {lv lb : List Nat} {fs : List Foot}
theorem aw_one (h : goD [] ops anc lv lb st (Q none)) : cRegD P ops anc lv lb st Q := by
  obtain ⟨st1, fs1, st2, h1, h2, h3, h4⟩ := h
  refine ⟨[], st2, [], ?_, trivial, h4⟩
  rw [List.nil_append] at h3
  simp only [evalRD, h1, h2, h3]
theorem go_op {o : IOp} (h : onS (stepI o st []) fun ev => onE (st.app ev) ev.fp fun st' f => goD (fs ++ [f]) ops anc lv lb st' K) : goD fs (o :: ops) anc lv lb st K := by
  obtain ⟨ev, he, st1, fs1, st2, h1, h2, h3, h4⟩ := h
  refine ⟨st1, ev.fp :: fs1, st2, ?_, h2, ?_, h4⟩
  · simp only [evalD, List.headD_nil, he, h1]
  · rw [List.append_assoc] at h3
    exact h3
theorem go_end (hp : pairsOk anc fs = true) (h : onK (st.keep lv lb) K) : goD fs [] anc lv lb st K := by
  obtain ⟨st2, h2, h4⟩ := h
  exact ⟨st, [], st2, rfl, h2, by rw [List.append_nil]; exact hp, h4⟩
theorem on_s {ev : Ev} {K : Ev → Prop} (h : K ev) : onS (some (ev, none)) K := ⟨ev, rfl, h⟩
theorem on_e {f : Foot} {K : St → Foot → Prop} (h : K st f) : onE st f K := h
theorem on_k (h : K st) : onK (some st) K := ⟨st, rfl, h⟩
end
end Go.Proofs.Ytngfedhffehkaac.ab

/-
  A drawn region, one operation after another, calls among them.
-/
namespace Go.Proofs.Ytngfedhffehkaac.ab
set_option linter.unusedSimpArgs false
open Go Go.RowKit

/-- What is left of a region; `fs` is what the operations behind have looked at, `rs` what the calls ahead tell. -/
def goC (P : Program) (fs : List Foot) (rs : List (List D)) (ops : List IOp) (anc : List (List Nat)) (lv lb : List Nat) (st : St) (K : St → Prop) : Prop := ∃ st' fs' st'' q, evalD ops rs st = some (st', fs', q) ∧ st'.keep lv lb = some st'' ∧ pairsOk anc (fs ++ fs') = true ∧ Obl P q ∧ K st''
/-- A call, reckoned out first. -/
def onC (x : Option (Ev × Option (Nat × List D × List D))) (K : Ev → Nat → List D → List D → Prop) : Prop := ∃ ev f cs ro, x = some (ev, some (f, cs, ro)) ∧ K ev f cs ro

section
variable {P : Program} {st st' : St} {Q : AX → St → Prop} {K : St → Prop} {ops : List IOp} {anc : List (List Nat)} {lv lb : List Nat} {fs : List Foot}
theorem aw_oneC (rs : List (List D)) (h : goC P [] rs ops anc lv lb st (Q none)) : cRegD P ops anc lv lb st Q := by
  obtain ⟨st1, fs1, st2, q, h1, h2, h3, h5, h4⟩ := h
  refine ⟨rs, st2, q, ?_, h5, h4⟩
  rw [List.nil_append] at h3
  simp only [evalRD, h1, h2, h3]
theorem goC_op {rs : List (List D)} {o : IOp} (h : onS (stepI o st (rs.headD [])) fun ev => onE (st.app ev) ev.fp fun st' f => goC P (fs ++ [f]) rs ops anc lv lb st' K) : goC P fs rs (o :: ops) anc lv lb st K := by
  obtain ⟨ev, he, st1, fs1, st2, q, h1, h2, h3, h5, h4⟩ := h
  refine ⟨st1, ev.fp :: fs1, st2, q, ?_, h2, ?_, h5, h4⟩
  · simp only [evalD, he, h1]
  · rw [List.append_assoc] at h3
    exact h3
theorem goC_call {rs : List (List D)} {o : IOp} (h : onC (stepI o st (rs.headD [])) fun ev f cs ro => Obl P [(f, cs, ro)] ∧ onE (st.app ev) ev.fp fun st' f => goC P (fs ++ [f]) rs.tail ops anc lv lb st' K) : goC P fs rs (o :: ops) anc lv lb st K := by
  obtain ⟨ev, f, cs, ro, he, hO, st1, fs1, st2, q, h1, h2, h3, h5, h4⟩ := h
  refine ⟨st1, ev.fp :: fs1, st2, (f, cs, ro) :: q, ?_, h2, ?_, ⟨hO.1, h5⟩, h4⟩
  · simp only [evalD, he, h1]
  · rw [List.append_assoc] at h3
    exact h3
theorem goC_end {rs : List (List D)} (hp : pairsOk anc fs = true) (h : onK (st.keep lv lb) K) : goC P fs rs [] anc lv lb st K := by
  obtain ⟨st2, h2, h4⟩ := h
  exact ⟨st, [], st2, [], rfl, h2, by rw [List.append_nil]; exact hp, trivial, h4⟩
theorem on_c {ev : Ev} {f : Nat} {cs ro : List D} {K : Ev → Nat → List D → List D → Prop} (h : K ev f cs ro) : onC (some (ev, some (f, cs, ro))) K := ⟨ev, f, cs, ro, rfl, h⟩
end
end Go.Proofs.Ytngfedhffehkaac.ab

/-
  Functions as plain code (written by wip/abs/ir.py): lklaw10.ViewTells.
-/
namespace Go.Proofs.Ytngfedhffehkaac.ab
set_option linter.unusedSimpArgs false
set_option linter.unusedVariables false
set_option maxRecDepth 100000
open Go Go.RowKit

def w10_ViewTells_r0 : IC := cReg Try.prog [
    ⟨some 6, none, iMov 6 (.const (.bool false)) true⟩] [0, 1, 2] []
def w10_ViewTells_r1 : IC := cReg Try.prog [
    ⟨some 15, none, iMov 15 (.tmp 0) false⟩,
    ⟨some 16, none, iBin 16 .lss (.tmp 15) (.const (.int .i64 1))⟩,
    ⟨some 17, none, iMov 17 (.tmp 16) false⟩,
    ⟨some 18, some (17, false), iMov 18 (.tmp 0) false⟩,
    ⟨some 19, some (17, false), iBin 19 .gtr (.tmp 18) (.const (.int .i64 3))⟩,
    ⟨some 20, none, iPick 20 (.tmp 17) (.const (.bool true)) (.tmp 19)⟩] [0, 1, 2, 20] []
def w10_ViewTells_r2 : IC := cReg Try.prog [
    ⟨some 6, none, iMov 6 (.const (.bool true)) true⟩] [6] []
def w10_ViewTells_c1a : IC := (cSeq w10_ViewTells_r2 cRet)
def w10_ViewTells_c1 : IC := cCond (.tmp 20) w10_ViewTells_c1a cSkip
def w10_ViewTells_r3 : IC := cReg Try.prog [
    ⟨some 22, none, iMov 22 (.tmp 0) false⟩,
    ⟨some 23, none, iMov 23 (.tmp 1) false⟩,
    ⟨some 24, none, iCall 24 9 [(.tmp 22), (.tmp 23)]⟩,
    ⟨some 21, none, iMov 21 (.tmp 24) false⟩,
    ⟨some 25, none, iExt 25 (.tmp 21) 0⟩,
    ⟨some 26, none, iExt 26 (.tmp 21) 1⟩,
    ⟨some 7, none, iAlo 7 [vD (.slice none 0 0), vD (.int .i64 0)]⟩,
    ⟨none, none, iStor 2 (.tmp 7) (.tmp 25)⟩,
    ⟨some 8, none, iMov 8 (.tmp 26) true⟩] [0, 1, 2, 7, 8] [7]
def w10_ViewTells_r4 : IC := cReg Try.prog [
    ⟨some 28, none, iLoad 28 2 true (.tmp 7) false⟩,
    ⟨some 29, none, iMov 29 (.tmp 2) false⟩,
    ⟨some 30, none, iCall 30 13 [(.tmp 28), (.tmp 29)]⟩,
    ⟨some 27, none, iMov 27 (.tmp 30) false⟩,
    ⟨some 31, none, iExt 31 (.tmp 27) 0⟩,
    ⟨some 32, none, iExt 32 (.tmp 27) 1⟩,
    ⟨some 9, none, iAlo 9 [vD (.slice none 0 0), vD (.int .i64 0), vD (.int .i64 0), vD (.int .i64 0), vD (.int .i64 0), vD (.slice none 0 0), vD (.int .i64 0), vD (.int .i64 0), vD (.slice none 0 0), vD (.int .i64 0), vD (.int .i64 0), vD (.int .i64 0), vD (.slice none 0 0), vD (.slice none 0 0), vD (.bool false), vD (.slice none 0 0), vD (.slice none 0 0)]⟩,
    ⟨none, none, iStor 17 (.tmp 9) (.tmp 31)⟩,
    ⟨some 10, none, iMov 10 (.tmp 32) true⟩] [0, 1, 2, 7, 8, 9, 10] [7, 9]
def w10_ViewTells_r5 : IC := cRegD Try.prog [
    ⟨some 33, none, iMov 33 (.tmp 10) false⟩,
    ⟨some 34, none, iMov 34 (.tmp 2) false⟩,
    ⟨some 35, none, iBin 35 .geq (.tmp 34) (.const (.int .i64 0))⟩,
    ⟨some 36, none, iMov 36 (.tmp 35) false⟩,
    ⟨some 37, some (36, true), iMov 37 (.tmp 2) false⟩,
    ⟨some 38, some (36, true), iMov 38 (.tmp 0) false⟩,
    ⟨some 39, some (36, true), iBin 39 .lss (.tmp 37) (.tmp 38)⟩,
    ⟨some 40, none, iPick 40 (.tmp 36) (.tmp 39) (.const (.bool false))⟩,
    ⟨some 41, none, iBinB 41 false (.tmp 33) (.tmp 40)⟩,
    ⟨some 42, none, iMov 42 (.tmp 41) false⟩,
    ⟨some 43, some (42, false), iMov 43 (.tmp 10) false⟩,
    ⟨some 44, some (42, false), iMov 44 (.tmp 43) false⟩,
    ⟨some 45, some (44, true), iLoad 45 17 true (.tmp 9) false⟩,
    ⟨some 46, some (44, true), iFad 46 0 (.tmp 7)⟩,
    ⟨some 47, some (44, true), iLoad 47 1 false (.tmp 46) false⟩,
    ⟨some 48, some (44, true), iMov 48 (.tmp 2) false⟩,
    ⟨some 49, some (44, true), iIaS 49 17 (.tmp 47) (.tmp 48)⟩,
    ⟨some 50, some (44, true), iLoad 50 17 true (.tmp 49) false⟩,
    ⟨some 51, some (44, true), iCall 51 12 [(.tmp 45), (.tmp 50)]⟩,
    ⟨some 52, some (44, true), iNot 52 (.tmp 51)⟩,
    ⟨some 53, some (42, false), iPick 53 (.tmp 44) (.tmp 52) (.const (.bool false))⟩,
    ⟨some 54, none, iPick 54 (.tmp 42) (.const (.bool true)) (.tmp 53)⟩] [[], [], [1], [2, 1], [3, 2, 1], [3, 2, 1], [4, 5, 3, 2, 1], [3, 6, 2, 1, 4, 5], [0, 7, 3, 6, 2, 1, 4, 5], [8, 3, 0, 7, 6, 2, 1, 4, 5], [9, 8, 3, 0, 7, 6, 2, 1, 4, 5], [10, 9, 8, 3, 0, 7, 6, 2, 1, 4, 5], [11, 10, 9, 8, 3, 0, 7, 6, 2, 1, 4, 5], [11, 10, 9, 8, 3, 0, 7, 6, 2, 1, 4, 5], [13, 11, 10, 9, 8, 3, 0, 7, 6, 2, 1, 4, 5], [11, 10, 9, 8, 3, 0, 7, 6, 2, 1, 4, 5], [14, 15, 11, 13, 10, 9, 8, 3, 0, 7, 6, 2, 1, 4, 5], [16, 11, 14, 15, 13, 10, 9, 8, 3, 0, 7, 6, 2, 1, 4, 5], [12, 17, 11, 10, 9, 8, 3, 0, 7, 6, 2, 1, 4, 5, 16, 14, 15, 13], [18, 11, 12, 17, 10, 9, 8, 3, 0, 7, 6, 2, 1, 4, 5, 16, 14, 15, 13], [11, 19, 9, 10, 8, 3, 0, 7, 6, 2, 1, 4, 5, 18, 12, 17, 16, 14, 15, 13], [9, 20, 8, 3, 0, 7, 6, 2, 1, 4, 5, 11, 19, 10, 18, 12, 17, 16, 14, 15, 13]] [1, 2, 8, 54] []
def w10_ViewTells_r6 : IC := cReg Try.prog [
    ⟨some 6, none, iMov 6 (.const (.bool false)) true⟩] [6] []
def w10_ViewTells_c2a : IC := (cSeq w10_ViewTells_r6 cRet)
def w10_ViewTells_c2 : IC := cCond (.tmp 54) w10_ViewTells_c2a cSkip
def w10_ViewTells_r7 : IC := cReg Try.prog [
    ⟨some 11, none, iMov 11 (.const (.int .i64 0)) true⟩] [1, 2, 8, 11] []
def w10_ViewTells_r8 : IC := cReg Try.prog [
    ⟨some 55, none, iMov 55 (.tmp 1) false⟩,
    ⟨some 56, none, iMov 56 (.tmp 2) false⟩,
    ⟨some 57, none, iCall 57 14 [(.tmp 55), (.tmp 56)]⟩,
    ⟨some 12, none, iMov 12 (.tmp 57) true⟩] [1, 2, 8, 11, 12] []
def w10_ViewTells_r9 : IC := cReg Try.prog [
    ⟨some 58, none, iMov 58 (.tmp 1) false⟩,
    ⟨some 59, none, iLen 59 false (.tmp 58)⟩,
    ⟨some 60, none, iMov 60 (.const (.int .i64 0)) false⟩] [1, 2, 8, 11, 12, 58, 59, 60] []
def w10_ViewTells_r10 : IC := cReg Try.prog [
    ⟨some 61, none, iBin 61 .lss (.tmp 60) (.tmp 59)⟩] [1, 2, 8, 11, 12, 58, 59, 60, 61] []
def w10_ViewTells_c5 : IC := cCond (.tmp 61) cSkip (cExit 0)
def w10_ViewTells_r11 : IC := cReg Try.prog [
    ⟨some 62, none, iIaS 62 7 (.tmp 58) (.tmp 60)⟩,
    ⟨some 63, none, iLoad 63 7 true (.tmp 62) false⟩,
    ⟨some 14, none, iAlo 14 [vD (.int .i64 0), vD (.int .i64 0), vD (.int .i64 0), vD (.int .i64 0), vD (.bool false), vD (.int .i64 0), vD (.slice none 0 0)]⟩,
    ⟨none, none, iStor 7 (.tmp 14) (.tmp 63)⟩] [1, 2, 8, 11, 12, 14, 58, 59, 60] [14]
def w10_ViewTells_r12 : IC := cReg Try.prog [
    ⟨some 64, none, iFad 64 0 (.tmp 14)⟩,
    ⟨some 65, none, iLoad 65 1 false (.tmp 64) false⟩,
    ⟨some 66, none, iBin 66 .neq (.tmp 65) (.const (.int .i64 1))⟩,
    ⟨some 67, none, iMov 67 (.tmp 66) false⟩,
    ⟨some 68, some (67, true), iFad 68 1 (.tmp 14)⟩,
    ⟨some 69, some (67, true), iLoad 69 1 false (.tmp 68) false⟩,
    ⟨some 70, some (67, true), iMov 70 (.tmp 2) false⟩,
    ⟨some 71, some (67, true), iBin 71 .neq (.tmp 69) (.tmp 70)⟩,
    ⟨some 72, none, iPick 72 (.tmp 67) (.tmp 71) (.const (.bool false))⟩] [1, 2, 8, 11, 12, 14, 58, 59, 60, 72] [14]
def w10_ViewTells_c7 : IC := cCond (.tmp 72) (cExit 1) cSkip
def w10_ViewTells_r13 : IC := cRegD Try.prog [
    ⟨some 73, none, iMov 73 (.tmp 11) false⟩,
    ⟨some 74, none, iMov 74 (.tmp 12) false⟩,
    ⟨some 75, none, iLen 75 false (.tmp 74)⟩,
    ⟨some 76, none, iBin 76 .geq (.tmp 73) (.tmp 75)⟩,
    ⟨some 77, none, iMov 77 (.tmp 76) false⟩,
    ⟨some 78, some (77, false), iMov 78 (.tmp 12) false⟩,
    ⟨some 79, some (77, false), iMov 79 (.tmp 11) false⟩,
    ⟨some 80, some (77, false), iIaS 80 7 (.tmp 78) (.tmp 79)⟩,
    ⟨some 81, some (77, false), iFad 81 0 (.tmp 80)⟩,
    ⟨some 82, some (77, false), iLoad 82 1 false (.tmp 81) false⟩,
    ⟨some 83, some (77, false), iFad 83 0 (.tmp 14)⟩,
    ⟨some 84, some (77, false), iLoad 84 1 false (.tmp 83) false⟩,
    ⟨some 85, some (77, false), iBin 85 .neq (.tmp 82) (.tmp 84)⟩,
    ⟨some 86, none, iPick 86 (.tmp 77) (.const (.bool true)) (.tmp 85)⟩,
    ⟨some 87, none, iMov 87 (.tmp 86) false⟩,
    ⟨some 88, some (87, false), iMov 88 (.tmp 12) false⟩,
    ⟨some 89, some (87, false), iMov 89 (.tmp 11) false⟩,
    ⟨some 90, some (87, false), iIaS 90 7 (.tmp 88) (.tmp 89)⟩,
    ⟨some 91, some (87, false), iFad 91 1 (.tmp 90)⟩,
    ⟨some 92, some (87, false), iLoad 92 1 false (.tmp 91) false⟩,
    ⟨some 93, some (87, false), iFad 93 1 (.tmp 14)⟩,
    ⟨some 94, some (87, false), iLoad 94 1 false (.tmp 93) false⟩,
    ⟨some 95, some (87, false), iBin 95 .neq (.tmp 92) (.tmp 94)⟩,
    ⟨some 96, none, iPick 96 (.tmp 87) (.const (.bool true)) (.tmp 95)⟩,
    ⟨some 97, none, iMov 97 (.tmp 96) false⟩,
    ⟨some 98, some (97, false), iMov 98 (.tmp 12) false⟩,
    ⟨some 99, some (97, false), iMov 99 (.tmp 11) false⟩,
    ⟨some 100, some (97, false), iIaS 100 7 (.tmp 98) (.tmp 99)⟩,
    ⟨some 101, some (97, false), iFad 101 2 (.tmp 100)⟩,
    ⟨some 102, some (97, false), iLoad 102 1 false (.tmp 101) false⟩,
    ⟨some 103, some (97, false), iFad 103 2 (.tmp 14)⟩,
    ⟨some 104, some (97, false), iLoad 104 1 false (.tmp 103) false⟩,
    ⟨some 105, some (97, false), iBin 105 .neq (.tmp 102) (.tmp 104)⟩,
    ⟨some 106, none, iPick 106 (.tmp 97) (.const (.bool true)) (.tmp 105)⟩,
    ⟨some 107, none, iMov 107 (.tmp 106) false⟩,
    ⟨some 108, some (107, false), iMov 108 (.tmp 12) false⟩,
    ⟨some 109, some (107, false), iMov 109 (.tmp 11) false⟩,
    ⟨some 110, some (107, false), iIaS 110 7 (.tmp 108) (.tmp 109)⟩,
    ⟨some 111, some (107, false), iFad 111 3 (.tmp 110)⟩,
    ⟨some 112, some (107, false), iLoad 112 1 false (.tmp 111) false⟩,
    ⟨some 113, some (107, false), iFad 113 3 (.tmp 14)⟩,
    ⟨some 114, some (107, false), iLoad 114 1 false (.tmp 113) false⟩,
    ⟨some 115, some (107, false), iBin 115 .neq (.tmp 112) (.tmp 114)⟩,
    ⟨some 116, none, iPick 116 (.tmp 107) (.const (.bool true)) (.tmp 115)⟩,
    ⟨some 117, none, iMov 117 (.tmp 116) false⟩,
    ⟨some 118, some (117, false), iMov 118 (.tmp 12) false⟩,
    ⟨some 119, some (117, false), iMov 119 (.tmp 11) false⟩,
    ⟨some 120, some (117, false), iIaS 120 7 (.tmp 118) (.tmp 119)⟩,
    ⟨some 121, some (117, false), iFad 121 4 (.tmp 120)⟩,
    ⟨some 122, some (117, false), iLoad 122 1 false (.tmp 121) false⟩,
    ⟨some 123, some (117, false), iFad 123 4 (.tmp 14)⟩,
    ⟨some 124, some (117, false), iLoad 124 1 false (.tmp 123) false⟩,
    ⟨some 125, some (117, false), iBinB 125 false (.tmp 122) (.tmp 124)⟩,
    ⟨some 126, none, iPick 126 (.tmp 117) (.const (.bool true)) (.tmp 125)⟩,
    ⟨some 127, none, iMov 127 (.tmp 126) false⟩,
    ⟨some 128, some (127, false), iMov 128 (.tmp 12) false⟩,
    ⟨some 129, some (127, false), iMov 129 (.tmp 11) false⟩,
    ⟨some 130, some (127, false), iIaS 130 7 (.tmp 128) (.tmp 129)⟩,
    ⟨some 131, some (127, false), iFad 131 5 (.tmp 130)⟩,
    ⟨some 132, some (127, false), iLoad 132 2 true (.tmp 131) false⟩,
    ⟨some 133, some (127, false), iFad 133 5 (.tmp 14)⟩,
    ⟨some 134, some (127, false), iLoad 134 2 true (.tmp 133) false⟩,
    ⟨some 135, some (127, false), iCall 135 15 [(.tmp 132), (.tmp 134)]⟩,
    ⟨some 136, some (127, false), iNot 136 (.tmp 135)⟩,
    ⟨some 137, none, iPick 137 (.tmp 127) (.const (.bool true)) (.tmp 136)⟩] [[], [], [1], [0, 2, 1], [3, 0, 2, 1], [4, 3, 0, 2, 1], [4, 3, 0, 2, 1], [5, 6, 4, 3, 0, 2, 1], [7, 4, 5, 6, 3, 0, 2, 1], [8, 4, 7, 5, 6, 3, 0, 2, 1], [4, 3, 0, 2, 1], [10, 4, 3, 0, 2, 1], [9, 11, 4, 8, 7, 5, 6, 3, 0, 2, 1, 10], [4, 12, 3, 0, 2, 1, 9, 11, 8, 7, 5, 6, 10], [13, 4, 12, 3, 0, 2, 1, 9, 11, 8, 7, 5, 6, 10], [14, 13, 4, 12, 3, 0, 2, 1, 9, 11, 8, 7, 5, 6, 10], [14, 13, 4, 12, 3, 0, 2, 1, 9, 11, 8, 7, 5, 6, 10], [15, 16, 14, 13, 4, 12, 3, 0, 2, 1, 9, 11, 8, 7, 5, 6, 10], [17, 14, 15, 16, 13, 4, 12, 3, 0, 2, 1, 9, 11, 8, 7, 5, 6, 10], [18, 14, 17, 15, 16, 13, 4, 12, 3, 0, 2, 1, 9, 11, 8, 7, 5, 6, 10], [14, 13, 4, 12, 3, 0, 2, 1, 9, 11, 8, 7, 5, 6, 10], [20, 14, 13, 4, 12, 3, 0, 2, 1, 9, 11, 8, 7, 5, 6, 10], [19, 21, 14, 18, 17, 15, 16, 13, 4, 12, 3, 0, 2, 1, 9, 11, 8, 7, 5, 6, 10, 20], [14, 22, 13, 4, 12, 3, 0, 2, 1, 9, 11, 8, 7, 5, 6, 10, 19, 21, 18, 17, 15, 16, 20], [23, 14, 22, 13, 4, 12, 3, 0, 2, 1, 9, 11, 8, 7, 5, 6, 10, 19, 21, 18, 17, 15, 16, 20], [24, 23, 14, 22, 13, 4, 12, 3, 0, 2, 1, 9, 11, 8, 7, 5, 6, 10, 19, 21, 18, 17, 15, 16, 20], [24, 23, 14, 22, 13, 4, 12, 3, 0, 2, 1, 9, 11, 8, 7, 5, 6, 10, 19, 21, 18, 17, 15, 16, 20], [25, 26, 24, 23, 14, 22, 13, 4, 12, 3, 0, 2, 1, 9, 11, 8, 7, 5, 6, 10, 19, 21, 18, 17, 15, 16, 20], [27, 24, 25, 26, 23, 14, 22, 13, 4, 12, 3, 0, 2, 1, 9, 11, 8, 7, 5, 6, 10, 19, 21, 18, 17, 15, 16, 20], [28, 24, 27, 25, 26, 23, 14, 22, 13, 4, 12, 3, 0, 2, 1, 9, 11, 8, 7, 5, 6, 10, 19, 21, 18, 17, 15, 16, 20], [24, 23, 14, 22, 13, 4, 12, 3, 0, 2, 1, 9, 11, 8, 7, 5, 6, 10, 19, 21, 18, 17, 15, 16, 20], [30, 24, 23, 14, 22, 13, 4, 12, 3, 0, 2, 1, 9, 11, 8, 7, 5, 6, 10, 19, 21, 18, 17, 15, 16, 20], [29, 31, 24, 28, 27, 25, 26, 23, 14, 22, 13, 4, 12, 3, 0, 2, 1, 9, 11, 8, 7, 5, 6, 10, 19, 21, 18, 17, 15, 16, 20, 30], [24, 32, 23, 14, 22, 13, 4, 12, 3, 0, 2, 1, 9, 11, 8, 7, 5, 6, 10, 19, 21, 18, 17, 15, 16, 20, 29, 31, 28, 27, 25, 26, 30], [33, 24, 32, 23, 14, 22, 13, 4, 12, 3, 0, 2, 1, 9, 11, 8, 7, 5, 6, 10, 19, 21, 18, 17, 15, 16, 20, 29, 31, 28, 27, 25, 26, 30], [34, 33, 24, 32, 23, 14, 22, 13, 4, 12, 3, 0, 2, 1, 9, 11, 8, 7, 5, 6, 10, 19, 21, 18, 17, 15, 16, 20, 29, 31, 28, 27, 25, 26, 30], [34, 33, 24, 32, 23, 14, 22, 13, 4, 12, 3, 0, 2, 1, 9, 11, 8, 7, 5, 6, 10, 19, 21, 18, 17, 15, 16, 20, 29, 31, 28, 27, 25, 26, 30], [35, 36, 34, 33, 24, 32, 23, 14, 22, 13, 4, 12, 3, 0, 2, 1, 9, 11, 8, 7, 5, 6, 10, 19, 21, 18, 17, 15, 16, 20, 29, 31, 28, 27, 25, 26, 30], [37, 34, 35, 36, 33, 24, 32, 23, 14, 22, 13, 4, 12, 3, 0, 2, 1, 9, 11, 8, 7, 5, 6, 10, 19, 21, 18, 17, 15, 16, 20, 29, 31, 28, 27, 25, 26, 30], [38, 34, 37, 35, 36, 33, 24, 32, 23, 14, 22, 13, 4, 12, 3, 0, 2, 1, 9, 11, 8, 7, 5, 6, 10, 19, 21, 18, 17, 15, 16, 20, 29, 31, 28, 27, 25, 26, 30], [34, 33, 24, 32, 23, 14, 22, 13, 4, 12, 3, 0, 2, 1, 9, 11, 8, 7, 5, 6, 10, 19, 21, 18, 17, 15, 16, 20, 29, 31, 28, 27, 25, 26, 30], [40, 34, 33, 24, 32, 23, 14, 22, 13, 4, 12, 3, 0, 2, 1, 9, 11, 8, 7, 5, 6, 10, 19, 21, 18, 17, 15, 16, 20, 29, 31, 28, 27, 25, 26, 30], [39, 41, 34, 38, 37, 35, 36, 33, 24, 32, 23, 14, 22, 13, 4, 12, 3, 0, 2, 1, 9, 11, 8, 7, 5, 6, 10, 19, 21, 18, 17, 15, 16, 20, 29, 31, 28, 27, 25, 26, 30, 40], [34, 42, 33, 24, 32, 23, 14, 22, 13, 4, 12, 3, 0, 2, 1, 9, 11, 8, 7, 5, 6, 10, 19, 21, 18, 17, 15, 16, 20, 29, 31, 28, 27, 25, 26, 30, 39, 41, 38, 37, 35, 36, 40], [43, 34, 42, 33, 24, 32, 23, 14, 22, 13, 4, 12, 3, 0, 2, 1, 9, 11, 8, 7, 5, 6, 10, 19, 21, 18, 17, 15, 16, 20, 29, 31, 28, 27, 25, 26, 30, 39, 41, 38, 37, 35, 36, 40], [44, 43, 34, 42, 33, 24, 32, 23, 14, 22, 13, 4, 12, 3, 0, 2, 1, 9, 11, 8, 7, 5, 6, 10, 19, 21, 18, 17, 15, 16, 20, 29, 31, 28, 27, 25, 26, 30, 39, 41, 38, 37, 35, 36, 40], [44, 43, 34, 42, 33, 24, 32, 23, 14, 22, 13, 4, 12, 3, 0, 2, 1, 9, 11, 8, 7, 5, 6, 10, 19, 21, 18, 17, 15, 16, 20, 29, 31, 28, 27, 25, 26, 30, 39, 41, 38, 37, 35, 36, 40], [45, 46, 44, 43, 34, 42, 33, 24, 32, 23, 14, 22, 13, 4, 12, 3, 0, 2, 1, 9, 11, 8, 7, 5, 6, 10, 19, 21, 18, 17, 15, 16, 20, 29, 31, 28, 27, 25, 26, 30, 39, 41, 38, 37, 35, 36, 40], [47, 44, 45, 46, 43, 34, 42, 33, 24, 32, 23, 14, 22, 13, 4, 12, 3, 0, 2, 1, 9, 11, 8, 7, 5, 6, 10, 19, 21, 18, 17, 15, 16, 20, 29, 31, 28, 27, 25, 26, 30, 39, 41, 38, 37, 35, 36, 40], [48, 44, 47, 45, 46, 43, 34, 42, 33, 24, 32, 23, 14, 22, 13, 4, 12, 3, 0, 2, 1, 9, 11, 8, 7, 5, 6, 10, 19, 21, 18, 17, 15, 16, 20, 29, 31, 28, 27, 25, 26, 30, 39, 41, 38, 37, 35, 36, 40], [44, 43, 34, 42, 33, 24, 32, 23, 14, 22, 13, 4, 12, 3, 0, 2, 1, 9, 11, 8, 7, 5, 6, 10, 19, 21, 18, 17, 15, 16, 20, 29, 31, 28, 27, 25, 26, 30, 39, 41, 38, 37, 35, 36, 40], [50, 44, 43, 34, 42, 33, 24, 32, 23, 14, 22, 13, 4, 12, 3, 0, 2, 1, 9, 11, 8, 7, 5, 6, 10, 19, 21, 18, 17, 15, 16, 20, 29, 31, 28, 27, 25, 26, 30, 39, 41, 38, 37, 35, 36, 40], [49, 51, 44, 48, 47, 45, 46, 43, 34, 42, 33, 24, 32, 23, 14, 22, 13, 4, 12, 3, 0, 2, 1, 9, 11, 8, 7, 5, 6, 10, 19, 21, 18, 17, 15, 16, 20, 29, 31, 28, 27, 25, 26, 30, 39, 41, 38, 37, 35, 36, 40, 50], [44, 52, 43, 34, 42, 33, 24, 32, 23, 14, 22, 13, 4, 12, 3, 0, 2, 1, 9, 11, 8, 7, 5, 6, 10, 19, 21, 18, 17, 15, 16, 20, 29, 31, 28, 27, 25, 26, 30, 39, 41, 38, 37, 35, 36, 40, 49, 51, 48, 47, 45, 46, 50], [53, 44, 52, 43, 34, 42, 33, 24, 32, 23, 14, 22, 13, 4, 12, 3, 0, 2, 1, 9, 11, 8, 7, 5, 6, 10, 19, 21, 18, 17, 15, 16, 20, 29, 31, 28, 27, 25, 26, 30, 39, 41, 38, 37, 35, 36, 40, 49, 51, 48, 47, 45, 46, 50], [54, 53, 44, 52, 43, 34, 42, 33, 24, 32, 23, 14, 22, 13, 4, 12, 3, 0, 2, 1, 9, 11, 8, 7, 5, 6, 10, 19, 21, 18, 17, 15, 16, 20, 29, 31, 28, 27, 25, 26, 30, 39, 41, 38, 37, 35, 36, 40, 49, 51, 48, 47, 45, 46, 50], [54, 53, 44, 52, 43, 34, 42, 33, 24, 32, 23, 14, 22, 13, 4, 12, 3, 0, 2, 1, 9, 11, 8, 7, 5, 6, 10, 19, 21, 18, 17, 15, 16, 20, 29, 31, 28, 27, 25, 26, 30, 39, 41, 38, 37, 35, 36, 40, 49, 51, 48, 47, 45, 46, 50], [55, 56, 54, 53, 44, 52, 43, 34, 42, 33, 24, 32, 23, 14, 22, 13, 4, 12, 3, 0, 2, 1, 9, 11, 8, 7, 5, 6, 10, 19, 21, 18, 17, 15, 16, 20, 29, 31, 28, 27, 25, 26, 30, 39, 41, 38, 37, 35, 36, 40, 49, 51, 48, 47, 45, 46, 50], [57, 54, 55, 56, 53, 44, 52, 43, 34, 42, 33, 24, 32, 23, 14, 22, 13, 4, 12, 3, 0, 2, 1, 9, 11, 8, 7, 5, 6, 10, 19, 21, 18, 17, 15, 16, 20, 29, 31, 28, 27, 25, 26, 30, 39, 41, 38, 37, 35, 36, 40, 49, 51, 48, 47, 45, 46, 50], [58, 54, 57, 55, 56, 53, 44, 52, 43, 34, 42, 33, 24, 32, 23, 14, 22, 13, 4, 12, 3, 0, 2, 1, 9, 11, 8, 7, 5, 6, 10, 19, 21, 18, 17, 15, 16, 20, 29, 31, 28, 27, 25, 26, 30, 39, 41, 38, 37, 35, 36, 40, 49, 51, 48, 47, 45, 46, 50], [54, 53, 44, 52, 43, 34, 42, 33, 24, 32, 23, 14, 22, 13, 4, 12, 3, 0, 2, 1, 9, 11, 8, 7, 5, 6, 10, 19, 21, 18, 17, 15, 16, 20, 29, 31, 28, 27, 25, 26, 30, 39, 41, 38, 37, 35, 36, 40, 49, 51, 48, 47, 45, 46, 50], [60, 54, 53, 44, 52, 43, 34, 42, 33, 24, 32, 23, 14, 22, 13, 4, 12, 3, 0, 2, 1, 9, 11, 8, 7, 5, 6, 10, 19, 21, 18, 17, 15, 16, 20, 29, 31, 28, 27, 25, 26, 30, 39, 41, 38, 37, 35, 36, 40, 49, 51, 48, 47, 45, 46, 50], [59, 61, 54, 58, 57, 55, 56, 53, 44, 52, 43, 34, 42, 33, 24, 32, 23, 14, 22, 13, 4, 12, 3, 0, 2, 1, 9, 11, 8, 7, 5, 6, 10, 19, 21, 18, 17, 15, 16, 20, 29, 31, 28, 27, 25, 26, 30, 39, 41, 38, 37, 35, 36, 40, 49, 51, 48, 47, 45, 46, 50, 60], [62, 54, 59, 61, 58, 57, 55, 56, 53, 44, 52, 43, 34, 42, 33, 24, 32, 23, 14, 22, 13, 4, 12, 3, 0, 2, 1, 9, 11, 8, 7, 5, 6, 10, 19, 21, 18, 17, 15, 16, 20, 29, 31, 28, 27, 25, 26, 30, 39, 41, 38, 37, 35, 36, 40, 49, 51, 48, 47, 45, 46, 50, 60], [54, 63, 53, 44, 52, 43, 34, 42, 33, 24, 32, 23, 14, 22, 13, 4, 12, 3, 0, 2, 1, 9, 11, 8, 7, 5, 6, 10, 19, 21, 18, 17, 15, 16, 20, 29, 31, 28, 27, 25, 26, 30, 39, 41, 38, 37, 35, 36, 40, 49, 51, 48, 47, 45, 46, 50, 62, 59, 61, 58, 57, 55, 56, 60]] [1, 2, 8, 11, 12, 58, 59, 60, 137] []
def w10_ViewTells_r14 : IC := cReg Try.prog [
    ⟨some 6, none, iMov 6 (.const (.bool false)) true⟩] [6] []
def w10_ViewTells_c8a : IC := (cSeq w10_ViewTells_r14 cRet)
def w10_ViewTells_c8 : IC := cCond (.tmp 137) w10_ViewTells_c8a cSkip
def w10_ViewTells_r15 : IC := cReg Try.prog [
    ⟨some 138, none, iMov 138 (.tmp 11) false⟩,
    ⟨some 139, none, iBin 139 .add (.tmp 138) (.const (.int .i64 1))⟩,
    ⟨some 11, none, iMov 11 (.tmp 139) true⟩] [1, 2, 8, 11, 12, 58, 59, 60] []
def w10_ViewTells_b6 : IC := cBlock 1 (cSeq w10_ViewTells_r11 (cSeq (cSeq w10_ViewTells_r12 w10_ViewTells_c7) (cSeq (cSeq w10_ViewTells_r13 w10_ViewTells_c8) w10_ViewTells_r15)))
def w10_ViewTells_r16 : IC := cReg Try.prog [
    ⟨some 140, none, iBin 140 .add (.tmp 60) (.const (.int .i64 1))⟩,
    ⟨some 60, none, iMov 60 (.tmp 140) false⟩] [1, 2, 8, 11, 12, 58, 59, 60] []
def w10_ViewTells_l4a : IC := (cSeq w10_ViewTells_r10 (cSeq w10_ViewTells_c5 (cSeq w10_ViewTells_b6 w10_ViewTells_r16)))
def w10_ViewTells_l4 : IC := cLoop w10_ViewTells_l4a
def w10_ViewTells_b3 : IC := cBlock 0 w10_ViewTells_l4
def w10_ViewTells_r17_0 : IC := cReg Try.prog [
    ⟨some 141, none, iMov 141 (.tmp 11) false⟩,
    ⟨some 142, none, iMov 142 (.tmp 12) false⟩,
    ⟨some 143, none, iLen 143 false (.tmp 142)⟩,
    ⟨some 144, none, iBin 144 .eql (.tmp 141) (.tmp 143)⟩,
    ⟨some 145, none, iMov 145 (.tmp 144) false⟩,
    ⟨some 146, some (145, true), iMov 146 (.tmp 1) false⟩,
    ⟨some 147, some (145, true), iMov 147 (.tmp 8) false⟩,
    ⟨some 148, some (145, true), iMov 148 (.tmp 2) false⟩,
    ⟨some 149, some (145, true), iCall 149 17 [(.tmp 146), (.tmp 147), (.tmp 148)]⟩,
    ⟨some 150, some (145, true), iMov 150 (.tmp 1) false⟩] [2, 8, 145, 149, 150] []
def w10_ViewTells_r17_1 : IC := cReg Try.prog [
    ⟨some 151, some (145, true), iMov 151 (.tmp 8) false⟩,
    ⟨some 152, some (145, true), iMov 152 (.tmp 2) false⟩,
    ⟨some 153, some (145, true), iCall 153 18 [(.tmp 150), (.tmp 151), (.tmp 152)]⟩,
    ⟨some 154, some (145, true), iCall 154 16 [(.tmp 149), (.tmp 153)]⟩,
    ⟨some 155, none, iPick 155 (.tmp 145) (.tmp 154) (.const (.bool false))⟩,
    ⟨some 6, none, iMov 6 (.tmp 155) true⟩] [6] []
def w10_ViewTells_r17 : IC := (cSeq w10_ViewTells_r17_0 w10_ViewTells_r17_1)
def w10_ViewTells : IC := (cSeq w10_ViewTells_r0 (cSeq (cSeq w10_ViewTells_r1 w10_ViewTells_c1) (cSeq w10_ViewTells_r3 (cSeq w10_ViewTells_r4 (cSeq (cSeq w10_ViewTells_r5 w10_ViewTells_c2) (cSeq w10_ViewTells_r7 (cSeq w10_ViewTells_r8 (cSeq (cSeq w10_ViewTells_r9 w10_ViewTells_b3) (cSeq w10_ViewTells_r17 cRet)))))))))
theorem told_w10_ViewTells {args r : List D} (hl : args.length = 3) (h : w10_ViewTells (start args) (fin [(6, none)] r)) : Told Try.prog 5 args r :=
  told_of follows Try.func5 rfl (an := [([], [0, 1, 2], [], []), ([], [0, 1, 2, 20], [], []), ([], [6], [], []), ([], [0, 1, 2, 7, 8], [7], []), ([], [0, 1, 2, 7, 8, 9, 10], [7, 9], []), ([], [1, 2, 8, 54], [], []), ([], [6], [], []), ([], [1, 2, 8, 11], [], []), ([], [1, 2, 8, 11, 12], [], []), ([], [1, 2, 8, 11, 12, 58, 59, 60], [], []), ([], [1, 2, 8, 11, 12, 58, 59, 60, 61], [], []), ([], [1, 2, 8, 11, 12, 14, 58, 59, 60], [14], []), ([], [1, 2, 8, 11, 12, 14, 58, 59, 60, 72], [14], []), ([], [1, 2, 8, 11, 12, 58, 59, 60, 137], [], []), ([], [6], [], []), ([], [1, 2, 8, 11, 12, 58, 59, 60], [], []), ([], [1, 2, 8, 11, 12, 58, 59, 60], [], []), ([(10, [2, 8, 145, 149, 150], [])], [6], [], [])]) (by kernel_rfl) (by kernel_rfl) (by rw [hl]; decide +kernel) h

end Go.Proofs.Ytngfedhffehkaac.ab
