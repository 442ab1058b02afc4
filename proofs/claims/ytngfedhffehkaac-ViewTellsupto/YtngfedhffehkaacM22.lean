/-
  Several texts in one.
-/
import Derived.Test.YtngfedhffehkaacAbsEval

/-
  What plain code is reckoned out by, in three bundles (written by wip/abs/pack.py). Nothing of the program.
-/
namespace Go.Proofs.Ytngfedhffehkaac.ab
set_option linter.unusedVariables false
set_option maxRecDepth 10000
open Go Go.RowKit

def evs := PLift.up <| And.intro @app_aH <| And.intro @app_o <| And.intro @app_i <| And.intro @fp_aH <| And.intro @fp_o <| And.intro @fp_i <|
  And.intro @refD_x <| And.intro @refD_j <| And.intro @refD_r <| And.intro @ab.iCallV.eq_1 <| And.intro @ab.iCallL.eq_1 <| And.intro @ab.rdL.eq_1 <|
  And.intro @ab.rdLs.eq_1 <| And.intro @ab.rdLs.eq_2 <| And.intro @ab.plainR.eq_1 <| And.intro @ab.plainR.eq_2 <| And.intro @ab.iBoxF.eq_1 <|
  And.intro @ab.iMkf.eq_1 <| And.intro @ab.iClr.eq_1 <| And.intro @funOf_p <| And.intro @funOf_j <| And.intro @ab.asB.eq_1 <|
  And.intro @ab.asB.eq_2 <| And.intro @bq_t <| And.intro @bq_f <| And.intro @ab.evalR.eq_1 <| And.intro @ab.evalRK.eq_1 <|
  And.intro @ab.evalOps.eq_1 <| And.intro @ab.evalOps.eq_2 <| And.intro @ab.evalD.eq_1 <| And.intro @ab.evalD.eq_2 <| And.intro @stepI_n <|
  And.intro @stepI_g <| And.intro @ab.iMov.eq_1 <| And.intro @ab.iPick.eq_1 <| And.intro @ab.iBin.eq_1 <| And.intro @ab.iBinB.eq_1 <|
  And.intro @ab.iEqA.eq_1 <| And.intro @ab.iNot.eq_1 <| And.intro @ab.iCvi.eq_1 <| And.intro @ab.iStr.eq_1 <| And.intro @ab.iFld.eq_1 <|
  And.intro @ab.iFad.eq_1 <| And.intro @ab.iIaA.eq_1 <| And.intro @ab.iIaS.eq_1 <| And.intro @ab.iExt.eq_1 <| And.intro @ab.iLen.eq_1 <|
  And.intro @ab.iSlc.eq_1 <| And.intro @ab.iBld.eq_1 <| And.intro @ab.iLoad.eq_1 <| And.intro @ab.iBox.eq_1 <| And.intro @ab.iAlo.eq_1 <|
  And.intro @ab.iRow.eq_1 <| And.intro @ab.iApp.eq_1 <| And.intro @ab.iCall.eq_1 <| And.intro @ab.iNil.eq_1 <| And.intro @ab.nilL.eq_1 <|
  And.intro @ab.nilL.eq_2 <| And.intro @ab.nilL.eq_3 <| And.intro @ab.nilL.eq_4 <| And.intro @ab.iBts.eq_1 <| And.intro @ab.iCst.eq_1 <|
  And.intro @app_c <| And.intro @fp_c <| And.intro @ab.iMkM.eq_1 <| And.intro @ab.iLku.eq_1 <| And.intro @ab.iUpd.eq_1 <| And.intro @ab.mlk.eq_1 <|
  And.intro @ab.mlk.eq_2 <| And.intro @ab.mlk.eq_3 <| And.intro @ab.iMkS.eq_1 <| And.intro @ab.iApr.eq_1 <| And.intro @ab.isCO.eq_1 <|
  And.intro @ab.isCO.eq_2 <| And.intro @ab.setE.eq_1 <| And.intro @ab.clR.eq_1 <| And.intro @ab.clR.eq_2 <| And.intro @ab.isL.eq_1 <|
  And.intro @ab.isL.eq_2 <| And.intro @ab.isL.eq_3 <| And.intro @ab.isL.eq_4 <| And.intro @ab.isL.eq_5 <| And.intro @app_u <| And.intro @app_k <|
  And.intro @app_ks <| And.intro @app_r <| And.intro @fp_u <| And.intro @fp_k <| And.intro @fp_ks <| And.intro @fp_r <| And.intro @refD_v <|
  And.intro @refD_s <| And.intro @refD_a <| And.intro @refD_t <| And.intro @refD_e <| And.intro @refD_p <| And.intro @refD_o <| And.intro @refD_h <|
  And.intro @refD_q <| And.intro @ab.St.keep0.eq_1 <| And.intro @ab.rowsB.eq_1 <| And.intro @ab.rowsB.eq_2 <| And.intro @ab.frzAll.eq_1 <|
  And.intro @ab.frzAll.eq_2 <| And.intro @ab.St.frz.eq_1 <| And.intro @ab.frzT.eq_1 <| And.intro @ab.frzT.eq_2 <| And.intro @ab.frzB.eq_1 <|
  And.intro @ab.frzB.eq_2 <| And.intro @ab.frzC.eq_1 <| And.intro @ab.frzC.eq_2 <| And.intro @ab.frzV.eq_1 <| And.intro @ab.frzV.eq_2 <|
  And.intro @ab.iStor.eq_1 <| And.intro @storEv.eq_def <| And.intro @app_v <| And.intro @app_b <| And.intro @app_h <| And.intro @app_a <|
  And.intro @app_a0 <| And.intro @app_s <| And.intro @app_g <| And.intro @app_m <| And.intro @fp_v <| And.intro @fp_b <| And.intro @fp_h <|
  And.intro @fp_a <| And.intro @fp_a0 <| And.intro @fp_s <| And.intro @fp_g <| And.intro @fp_m <| And.intro @mov_k <| And.intro @mov_f <|
  And.intro @mov_t <| And.intro @load_f <| And.intro @load_t <| And.intro @rds_sl <| And.intro @ab.rdsC.eq_1 <| And.intro @ab.rdsC.eq_2 <|
  And.intro @ab.osl.eq_1 <| And.intro @ab.osl.eq_2 <| And.intro @ab.rd.eq_1 <| And.intro @ab.rd.eq_2 <| And.intro @ab.rd.eq_3 <|
  And.intro @ab.rd.eq_4 <| And.intro @ab.rdC.eq_1 <| And.intro @ab.rdC.eq_2 <| And.intro @ab.lbin.eq_1 <| And.intro @ab.lbin.eq_2 <|
  And.intro @ab.lbin.eq_3 <| And.intro @ab.lbin.eq_4 <| And.intro @ab.lbin.eq_5 <| And.intro @ab.lbin.eq_6 <| And.intro @ab.lbin.eq_7 <|
  And.intro @ab.lbin.eq_8 <| And.intro @ab.lbin.eq_9 <| And.intro @ab.lbin.eq_10 <| And.intro @ab.lbin.eq_11 <| And.intro @ab.lbin.eq_12 <|
  And.intro @ab.lbin.eq_13 <| And.intro @ab.lbin.eq_14 <| And.intro @ab.lbin.eq_15 <| And.intro @ab.lbin.eq_16 <| And.intro @ab.sub.eq_1 <|
  And.intro @ab.over.eq_1 <| And.intro @ab.moveA.eq_1 <| And.intro @ab.moveA.eq_2 <| And.intro @ab.moveA.eq_3 <| And.intro @ab.moveA.eq_4 <|
  And.intro @ab.moveA.eq_5 <| And.intro @ab.asS.eq_1 <| And.intro @ab.asS.eq_2 <| And.intro @ab.asS.eq_3 <| And.intro @ab.asS.eq_4 <|
  And.intro @ab.bnd.eq_1 <| And.intro @ab.bnd.eq_2 <| And.intro @ab.fillA.eq_1 <| And.intro @ab.fillA.eq_2 <| And.intro @ab.fillA.eq_3 <|
  And.intro @ab.cellsD.eq_1 <| And.intro @ab.cellsD.eq_2 <| And.intro @ab.isC.eq_1 <| And.intro @ab.isC.eq_2 <| And.intro @ab.isC.eq_3 <|
  And.intro @ab.isC.eq_4 <| And.intro @ab.isC.eq_5 <| And.intro @ab.isC.eq_6 <| And.intro @ab.strL.eq_1 <| And.intro @ab.strL.eq_2 <|
  And.intro @ab.lenL.eq_1 <| And.intro @ab.lenL.eq_2 <| And.intro @ab.lenL.eq_3 <| And.intro @ab.lenL.eq_4 <| And.intro @ab.lenL.eq_5 <|
  And.intro @ab.lenL.eq_6 <| And.intro @ab.res.eq_1 <| And.intro @ab.res.eq_2 <| And.intro @ab.St.keep.eq_1 <| And.intro @ab.keepT.eq_1 <|
  And.intro @ab.keepT.eq_2 <| And.intro @ab.keepB.eq_1 <| And.intro @ab.keepB.eq_2 <| And.intro @ab.keepF.eq_1 <| And.intro @ab.keepF.eq_2 <|
  And.intro @ab.inL.eq_1 <| And.intro @ab.plainV.eq_1 <| And.intro @ab.plainV.eq_2 <| And.intro @ab.plainV.eq_3 <| And.intro @ab.plainV.eq_4 <|
  And.intro @ab.plainV.eq_5 <| And.intro @ab.plainV.eq_6 <| And.intro @ab.plainV.eq_7 <| And.intro @ab.plainV.eq_8 <| And.intro @ab.plainV.eq_9 <|
  And.intro @ab.ints3.eq_1 <| And.intro @ab.ints3.eq_2 <| And.intro @ab.start.eq_1 <| And.intro @ab.startT.eq_1 <| And.intro @ab.startT.eq_2 <|
  And.intro @ab.resA.eq_1 <| And.intro @ab.resA.eq_2 <| And.intro @ab.resA.eq_3 <| And.intro @Nat.zero_add <| And.intro @Nat.add_zero <|
  And.intro @and_true <| And.intro @true_and <| And.intro @and_self <| And.intro @not_true_eq_false <| And.intro @not_false_eq_true <|
  And.intro @Bool.false_eq_true <| And.intro @Bool.not_true <| And.intro @Bool.not_false <| And.intro @or_false <| And.intro @false_or <|
  And.intro @or_true <| And.intro @true_or <| And.intro @decide_true <| And.intro @decide_false <| And.intro @Bool.and_true <|
  And.intro @Int.toNat_zero <| And.intro @Int.toNat_one <| And.intro @Int.toNat_natCast <| And.intro @kindR_nil <| And.intro @kindR_v <|
  And.intro @kindR_a <| And.intro @kindR_s <| And.intro @kindR_x <| And.intro @kindR_j <| And.intro @kindR_o <| And.intro @kindR_i <|
  And.intro @unC_a <| And.intro @unC_x <| And.intro @ofC_n <| And.intro @ofC_s <| And.intro @refD_f <| And.intro @dimC_v <| And.intro @dimC_s <|
  And.intro @dimC_x <| And.intro @dimC_o <| And.intro @app_aN <| And.intro @fp_aN <| And.intro @app_cu <| And.intro @fp_cu <| And.intro @kindL_s <|
  And.intro @kindL_v <| And.intro @kindR_u <| And.intro @ab.iAppH.eq_1 <| And.intro @ab.iMm.eq_1 <| And.intro @ab.mmI.eq_1 <|
  And.intro @ab.mmI.eq_2 <| And.intro @ab.iXor.eq_1 <| And.intro @ab.iCallP.eq_1 <| And.intro @ab.iCallP.eq_2 <| And.intro @ab.iNck.eq_1 <|
  And.intro @kindR_p <| And.intro @frzP_r <| And.intro @frzP_n <| And.intro @frzP_a <| @frzP_p
theorem ev0 : type_of% evs.down := evs.down

theorem ev1.{u} :
    (∀ {α : Type u} {a b : α}, Option.getD (some a) b = a) ∧
    (∀ {α : Type u} {a : α}, Option.getD none a = a) ∧
    (∀ {α : Type u} {a : α} {l : List α} {d : α}, List.headD (a :: l) d = a) ∧
    (∀ {α : Type u} {d : α}, List.headD [] d = d) ∧
    (∀ {α : Type u} {a : α} {as : List α}, List.tail (a :: as) = as) ∧
    (∀ {α : Type u} {a : α} {as : List α} {i : Nat},
      List.take (i + 1) (a :: as) = a :: List.take i as) ∧
    (∀ {α : Type u} {l : List α}, List.take 0 l = []) ∧
    (∀ {α : Type u} {a : α} {l : List α} {i : Nat}, List.drop (i + 1) (a :: l) = List.drop i l) ∧
    (∀ {α : Type u} {l : List α}, List.drop 0 l = l) ∧
    (∀ {α : Type u} (as : List α), [] ++ as = as) ∧
    (∀ {α : Type u} {a : α} {as bs : List α}, a :: as ++ bs = a :: (as ++ bs)) ∧
    (∀ {α : Type u} (as : List α), as ++ [] = as) ∧
    (∀ {α : Type u} {a : α} {as : List α}, List.length (a :: as) = List.length as + 1) ∧
    (∀ {α : Type u} {a : α} {l : List α}, (a :: l)[0]? = some a) ∧
    (∀ {α : Type u} {a : α} {i : Nat} {l : List α}, (a :: l)[i + 1]? = l[i]?) ∧
    (∀ {α : Sort u} (a b : α), (a ≠ b) = ¬a = b) ∧
    (∀ {α : Sort u} {x : Decidable True} (t e : α), (if True then t else e) = t) ∧
    (∀ {α : Sort u} {x : Decidable False} (t e : α), (if False then t else e) = e) ∧
    (∀ {α : Type u} {b : α} {l : List α} {a : α}, a ∈ b :: l ↔ a = b ∨ a ∈ l) ∧
    (∀ {α : Type u} {a : α}, ¬a ∈ []) ∧
    (∀ {α : Type u} (val val_1 : α), (some val = some val_1) = (val = val_1)) ∧
    (∀ {α : Type u} {a : α} {l : List α} {f : α → Bool}, List.all (a :: l) f = (f a && List.all l f)) ∧
    (∀ {α : Type u} {f : α → Bool}, List.all [] f = true) ∧
    (∀ {α : Type u} [inst : BEq α] [ReflBEq α] (a : α), (a == a) = true) ∧
    (∀ {α : Type u} [inst : BEq α] [ReflBEq α] {a : α}, (a == a) = true) ∧
    (∀ {α : Type u} [inst : BEq α] [LawfulBEq α] (a : α), (a != a) = false) ∧
    (∀ {α : Type u} [inst : LT α] {x y : α}, x > y ↔ y < x) ∧
    (∀ {α : Type u} [inst : LE α] {x y : α}, x ≥ y ↔ y ≤ x) :=
  ⟨@Option.getD_some, @Option.getD_none, @List.headD_cons, @List.headD_nil, @List.tail_cons, @List.take_succ_cons, @List.take_zero, @List.drop_succ_cons, @List.drop_zero, @List.nil_append, @List.cons_append, @List.append_nil, @List.length_cons, @List.getElem?_cons_zero, @List.getElem?_cons_succ, @ne_eq, @if_true, @if_false, @List.mem_cons, @List.not_mem_nil, @Option.some.injEq, @List.all_cons, @List.all_nil, @beq_self_eq_true, @BEq.rfl, @bne_self_eq_false, @gt_iff_lt, @ge_iff_le⟩

theorem ev2.{u, v} :
    (∀ {α : Type u} {β : Type v} (a : α) (f : α → β), Option.map f (some a) = some (f a)) ∧
    (∀ {α : Type u} {β : Type v} (f : α → β), Option.map f none = none) ∧
    (∀ {α : Type u} {β : Type v} (fst : α) (snd : β) (fst_1 : α) (snd_1 : β),
      ((fst, snd) = (fst_1, snd_1)) = (fst = fst_1 ∧ snd = snd_1)) ∧
    (∀ {α : Type u} {β : Type v} {f : α → β} {a : α} {l : List α},
      List.map f (a :: l) = f a :: List.map f l) ∧
    (∀ {α : Type u} {β : Type v} {f : α → β}, List.map f [] = []) ∧
    (∀ {α : Type u} {β : Type v} {f : α → β} {l₁ l₂ : List α},
      List.map f (l₁ ++ l₂) = List.map f l₁ ++ List.map f l₂) :=
  ⟨@Option.map_some, @Option.map_none, @Prod.mk.injEq, @List.map_cons, @List.map_nil, @List.map_append⟩

end Go.Proofs.Ytngfedhffehkaac.ab

/-
  Walks over plain code (written by wip/gen/genwk.py): each finds by itself how far it comes. Nothing of the program.
-/
namespace Go.Proofs.Ytngfedhffehkaac.ab
set_option linter.unusedSimpArgs false
set_option linter.unusedVariables false
open Go Go.RowKit

theorem wk0 {p q : Prop} (hq : q) (h : q → p := by (intro h; (repeat (first | refine aw_seq ?_ | refine aw_block ?_ | with_reducible refine aw_ret ?_ | with_reducible refine aw_skip ?_ | with_reducible refine aw_exit ?_ | refine thn_normal ?_ | refine thn_out ?_ | refine blk_normal ?_ | refine blk_ret ?_ | refine blk_exit ?_ | ((first | refine aw_regO ?_ | refine aw_regDO ?_ | refine aw_condO ?_ | refine fin_retO ?_); (conv => (arg 1; simp (maxSteps := 30000) only [ev0, ev1, ev2, look, lookF, cellsFrom, offT, offP, List.tail_nil, List.length_nil, Int.cast_ofNat_Int, Nat.reduceEqDiff, Nat.reduceAdd, Nat.reduceMul, Nat.reduceLeDiff, Nat.reduceLT, ↓reduceIte, reduceCtorEq, Int.reduceBEq, Int.reduceBNe, Int.reduceLT, Int.reduceLE, Int.reduceToNat])); (first | with_reducible refine on_yes ?_ | with_reducible refine on_no ?_ | with_reducible refine on_reg ?_ | (with_reducible refine on_regD (by decide +kernel) ?_) | with_reducible refine on_fin ?_)))); exact h)) : p := h hq
theorem wk {p q F : Prop} (f : F) (hq : q) (h : F → q → p := by (intro f h; (repeat (first | refine aw_seq ?_ | refine aw_block ?_ | with_reducible refine aw_ret ?_ | with_reducible refine aw_skip ?_ | with_reducible refine aw_exit ?_ | refine thn_normal ?_ | refine thn_out ?_ | refine blk_normal ?_ | refine blk_ret ?_ | refine blk_exit ?_ | ((first | refine aw_regO ?_ | refine aw_regDO ?_ | refine aw_condO ?_ | refine fin_retO ?_); (conv => (arg 1; simp (maxSteps := 30000) only [ev0, ev1, ev2, look, lookF, cellsFrom, offT, offP, List.tail_nil, List.length_nil, Int.cast_ofNat_Int, Nat.reduceEqDiff, Nat.reduceAdd, Nat.reduceMul, Nat.reduceLeDiff, Nat.reduceLT, ↓reduceIte, reduceCtorEq, Int.reduceBEq, Int.reduceBNe, Int.reduceLT, Int.reduceLE, Int.reduceToNat, f])); (first | with_reducible refine on_yes ?_ | with_reducible refine on_no ?_ | with_reducible refine on_reg ?_ | (with_reducible refine on_regD (by decide +kernel) ?_) | with_reducible refine on_fin ?_)))); exact h)) : p := h f hq
section
variable {P : Program} {st st' : St} {Q : AX → St → Prop}
theorem cg0 {ops : List IOp} {lv lb : List Nat} (rs : List (List D)) {q : List (Nat × List D × List D)} (ho : Obl P q) (hQ : Q none st') (h : evalR ops lv lb rs st = some (st', q) := by (simp only [ev0, ev1, ev2, look, lookF, cellsFrom, offT, offP, List.tail_nil, List.length_nil, Int.cast_ofNat_Int, Nat.reduceEqDiff, Nat.reduceAdd, Nat.reduceMul, Nat.reduceLeDiff, Nat.reduceLT, ↓reduceIte, reduceCtorEq, Int.reduceBEq, Int.reduceBNe, Int.reduceLT, Int.reduceLE, Int.reduceToNat]; first | rfl | exact ⟨rfl, rfl⟩)) : cReg P ops lv lb st Q := aw_reg rs h ho hQ
theorem cg {ops : List IOp} {lv lb : List Nat} {F : Prop} (rs : List (List D)) {q : List (Nat × List D × List D)} (f : F) (ho : Obl P q) (hQ : Q none st') (h : F → evalR ops lv lb rs st = some (st', q) := by (intro f; simp only [ev0, ev1, ev2, look, lookF, cellsFrom, offT, offP, List.tail_nil, List.length_nil, Int.cast_ofNat_Int, Nat.reduceEqDiff, Nat.reduceAdd, Nat.reduceMul, Nat.reduceLeDiff, Nat.reduceLT, ↓reduceIte, reduceCtorEq, Int.reduceBEq, Int.reduceBNe, Int.reduceLT, Int.reduceLE, Int.reduceToNat, f]; first | rfl | exact ⟨rfl, rfl⟩)) : cReg P ops lv lb st Q := aw_reg rs (h f) ho hQ
theorem cd0 {ops : List IOp} {anc : List (List Nat)} {lv lb : List Nat} (rs : List (List D)) {fs : List Foot} {q : List (Nat × List D × List D)} (ho : Obl P q) (hQ : Q none st') (h : evalRK ops lv lb rs st = some (st', fs, q) := by (simp only [ev0, ev1, ev2, look, lookF, cellsFrom, offT, offP, List.tail_nil, List.length_nil, Int.cast_ofNat_Int, Nat.reduceEqDiff, Nat.reduceAdd, Nat.reduceMul, Nat.reduceLeDiff, Nat.reduceLT, ↓reduceIte, reduceCtorEq, Int.reduceBEq, Int.reduceBNe, Int.reduceLT, Int.reduceLE, Int.reduceToNat]; first | exact ⟨rfl, rfl⟩ | exact ⟨rfl, rfl, rfl⟩)) (hp : pairsOk anc fs = true := by decide +kernel) : cRegD P ops anc lv lb st Q := aw_regD rs h hp ho hQ
theorem cd {ops : List IOp} {anc : List (List Nat)} {lv lb : List Nat} {F : Prop} (rs : List (List D)) {fs : List Foot} {q : List (Nat × List D × List D)} (f : F) (ho : Obl P q) (hQ : Q none st') (h : F → evalRK ops lv lb rs st = some (st', fs, q) := by (intro f; simp only [ev0, ev1, ev2, look, lookF, cellsFrom, offT, offP, List.tail_nil, List.length_nil, Int.cast_ofNat_Int, Nat.reduceEqDiff, Nat.reduceAdd, Nat.reduceMul, Nat.reduceLeDiff, Nat.reduceLT, ↓reduceIte, reduceCtorEq, Int.reduceBEq, Int.reduceBNe, Int.reduceLT, Int.reduceLE, Int.reduceToNat, f]; first | exact ⟨rfl, rfl⟩ | exact ⟨rfl, rfl, rfl⟩)) (hp : pairsOk anc fs = true := by decide +kernel) : cRegD P ops anc lv lb st Q := aw_regD rs (h f) hp ho hQ
end
theorem an2 {a b : Prop} (ha : a) (hb : b) : a ∧ b := ⟨ha, hb⟩
theorem an3 {a b c : Prop} (ha : a) (hb : b) (hc : c) : a ∧ b ∧ c := ⟨ha, hb, hc⟩
theorem an4 {a b c d : Prop} (ha : a) (hb : b) (hc : c) (hd : d) : a ∧ b ∧ c ∧ d := ⟨ha, hb, hc, hd⟩
theorem an5 {a b c d e : Prop} (ha : a) (hb : b) (hc : c) (hd : d) (he : e) : a ∧ b ∧ c ∧ d ∧ e := ⟨ha, hb, hc, hd, he⟩
theorem an6 {a b c d e f : Prop} (ha : a) (hb : b) (hc : c) (hd : d) (he : e) (hf : f) : a ∧ b ∧ c ∧ d ∧ e ∧ f := ⟨ha, hb, hc, hd, he, hf⟩
theorem an7 {a b c d e f g : Prop} (ha : a) (hb : b) (hc : c) (hd : d) (he : e) (hf : f) (hg : g) : a ∧ b ∧ c ∧ d ∧ e ∧ f ∧ g := ⟨ha, hb, hc, hd, he, hf, hg⟩
theorem an8 {a b c d e f g h : Prop} (ha : a) (hb : b) (hc : c) (hd : d) (he : e) (hf : f) (hg : g) (hh : h) : a ∧ b ∧ c ∧ d ∧ e ∧ f ∧ g ∧ h := ⟨ha, hb, hc, hd, he, hf, hg, hh⟩
theorem an9 {a b c d e f g h i : Prop} (ha : a) (hb : b) (hc : c) (hd : d) (he : e) (hf : f) (hg : g) (hh : h) (hi : i) : a ∧ b ∧ c ∧ d ∧ e ∧ f ∧ g ∧ h ∧ i := ⟨ha, hb, hc, hd, he, hf, hg, hh, hi⟩
theorem an10 {a b c d e f g h i j : Prop} (ha : a) (hb : b) (hc : c) (hd : d) (he : e) (hf : f) (hg : g) (hh : h) (hi : i) (hj : j) : a ∧ b ∧ c ∧ d ∧ e ∧ f ∧ g ∧ h ∧ i ∧ j := ⟨ha, hb, hc, hd, he, hf, hg, hh, hi, hj⟩
theorem an11 {a b c d e f g h i j k : Prop} (ha : a) (hb : b) (hc : c) (hd : d) (he : e) (hf : f) (hg : g) (hh : h) (hi : i) (hj : j) (hk : k) : a ∧ b ∧ c ∧ d ∧ e ∧ f ∧ g ∧ h ∧ i ∧ j ∧ k := ⟨ha, hb, hc, hd, he, hf, hg, hh, hi, hj, hk⟩
theorem an12 {a b c d e f g h i j k l : Prop} (ha : a) (hb : b) (hc : c) (hd : d) (he : e) (hf : f) (hg : g) (hh : h) (hi : i) (hj : j) (hk : k) (hl : l) : a ∧ b ∧ c ∧ d ∧ e ∧ f ∧ g ∧ h ∧ i ∧ j ∧ k ∧ l := ⟨ha, hb, hc, hd, he, hf, hg, hh, hi, hj, hk, hl⟩
theorem an13 {a b c d e f g h i j k l m : Prop} (ha : a) (hb : b) (hc : c) (hd : d) (he : e) (hf : f) (hg : g) (hh : h) (hi : i) (hj : j) (hk : k) (hl : l) (hm : m) : a ∧ b ∧ c ∧ d ∧ e ∧ f ∧ g ∧ h ∧ i ∧ j ∧ k ∧ l ∧ m := ⟨ha, hb, hc, hd, he, hf, hg, hh, hi, hj, hk, hl, hm⟩
theorem an14 {a b c d e f g h i j k l m n : Prop} (ha : a) (hb : b) (hc : c) (hd : d) (he : e) (hf : f) (hg : g) (hh : h) (hi : i) (hj : j) (hk : k) (hl : l) (hm : m) (hn : n) : a ∧ b ∧ c ∧ d ∧ e ∧ f ∧ g ∧ h ∧ i ∧ j ∧ k ∧ l ∧ m ∧ n := ⟨ha, hb, hc, hd, he, hf, hg, hh, hi, hj, hk, hl, hm, hn⟩
theorem an15 {a b c d e f g h i j k l m n o : Prop} (ha : a) (hb : b) (hc : c) (hd : d) (he : e) (hf : f) (hg : g) (hh : h) (hi : i) (hj : j) (hk : k) (hl : l) (hm : m) (hn : n) (ho : o) : a ∧ b ∧ c ∧ d ∧ e ∧ f ∧ g ∧ h ∧ i ∧ j ∧ k ∧ l ∧ m ∧ n ∧ o := ⟨ha, hb, hc, hd, he, hf, hg, hh, hi, hj, hk, hl, hm, hn, ho⟩
theorem an17 {a b c d e f g h i j k l m n o r s : Prop} (ha : a) (hb : b) (hc : c) (hd : d) (he : e) (hf : f) (hg : g) (hh : h) (hi : i) (hj : j) (hk : k) (hl : l) (hm : m) (hn : n) (ho : o) (hr : r) (hs : s) : a ∧ b ∧ c ∧ d ∧ e ∧ f ∧ g ∧ h ∧ i ∧ j ∧ k ∧ l ∧ m ∧ n ∧ o ∧ r ∧ s := ⟨ha, hb, hc, hd, he, hf, hg, hh, hi, hj, hk, hl, hm, hn, ho, hr, hs⟩
theorem an22 {a b c d e f g h i j k l m n o r s t u v w x : Prop} (ha : a) (hb : b) (hc : c) (hd : d) (he : e) (hf : f) (hg : g) (hh : h) (hi : i) (hj : j) (hk : k) (hl : l) (hm : m) (hn : n) (ho : o) (hr : r) (hs : s) (ht : t) (hu : u) (hv : v) (hw : w) (hx : x) : a ∧ b ∧ c ∧ d ∧ e ∧ f ∧ g ∧ h ∧ i ∧ j ∧ k ∧ l ∧ m ∧ n ∧ o ∧ r ∧ s ∧ t ∧ u ∧ v ∧ w ∧ x := ⟨ha, hb, hc, hd, he, hf, hg, hh, hi, hj, hk, hl, hm, hn, ho, hr, hs, ht, hu, hv, hw, hx⟩
theorem an23 {a b c d e f g h i j k l m n o r s t u v w x y : Prop} (ha : a) (hb : b) (hc : c) (hd : d) (he : e) (hf : f) (hg : g) (hh : h) (hi : i) (hj : j) (hk : k) (hl : l) (hm : m) (hn : n) (ho : o) (hr : r) (hs : s) (ht : t) (hu : u) (hv : v) (hw : w) (hx : x) (hy : y) : a ∧ b ∧ c ∧ d ∧ e ∧ f ∧ g ∧ h ∧ i ∧ j ∧ k ∧ l ∧ m ∧ n ∧ o ∧ r ∧ s ∧ t ∧ u ∧ v ∧ w ∧ x ∧ y := ⟨ha, hb, hc, hd, he, hf, hg, hh, hi, hj, hk, hl, hm, hn, ho, hr, hs, ht, hu, hv, hw, hx, hy⟩
theorem zmap {α β : Type} {f : α → β} {l : List α} : (l.map f).length = l.length := List.length_map ..
theorem zset {α : Type} {l : List α} {i : Nat} {a : α} : (l.set i a).length = l.length := List.length_set ..
theorem zss {α : Type} (a : α) {b : α} {l : List α} {i : Nat} : (l.set i a).set i b = l.set i b := List.set_set ..
theorem zapp {α : Type} {l m : List α} : (l ++ m).length = l.length + m.length := List.length_append ..
theorem zcons {α : Type} {a : α} {l : List α} : (a :: l).length = l.length + 1 := List.length_cons ..
theorem znil {α : Type} : ([] : List α).length = 0 := rfl
theorem zmn {α β : Type} {f : α → β} : ([] : List α).map f = [] := rfl
theorem ztl {α : Type} {l : List α} : l.take l.length = l := List.take_length ..
theorem zd0 {α : Type} {l : List α} : l.drop 0 = l := rfl
theorem zrs {α : Type} {n : Nat} {a : α} : List.replicate (n + 1) a = a :: List.replicate n a := rfl
theorem zr0 {α : Type} {a : α} : List.replicate 0 a = [] := rfl
theorem zbeq {α : Type} [BEq α] [ReflBEq α] (a : α) : (a == a) = true := beq_self_eq_true a
end Go.Proofs.Ytngfedhffehkaac.ab

/-
  Plain mathematics for the sum of bytes: the sum, what is sealed, what is opened, and that one byte turned is found. Nothing of the program.
-/
namespace Go.Proofs.Ytngfedhffehkaac.mth
set_option linter.unusedSimpArgs false
set_option linter.unusedVariables false

def step (s : Int) (x : UInt8) : Int := (s * 139 + (x.toNat : Int) + 1) % 65521
def sumFrom (s : Int) (l : List UInt8) : Int := l.foldl step s
def sumL (l : List UInt8) : Int := sumFrom 7 l
def hiB (s : Int) : UInt8 := UInt8.ofNat (s / 256).toNat
def loB (s : Int) : UInt8 := UInt8.ofNat (s % 256).toNat
def sealL (l : List UInt8) : List UInt8 := l ++ [hiB (sumL l), loB (sumL l)]
def okL (l : List UInt8) : Bool := decide (2 ≤ l.length) && (sealL (l.take (l.length - 2)) == l)
def openL (l : List UInt8) : List UInt8 := if okL l = true then l.take (l.length - 2) else []

theorem step_bd (s : Int) (x : UInt8) : 0 ≤ step s x ∧ step s x < 65521 := by
  unfold step; omega
theorem sumFrom_bd (l : List UInt8) : ∀ s, 0 ≤ s ∧ s < 65521 → 0 ≤ sumFrom s l ∧ sumFrom s l < 65521 := by
  induction l with
  | nil => intro s h; exact h
  | cons x l ih => intro s _; exact ih _ (step_bd s x)
theorem sumL_bd (l : List UInt8) : 0 ≤ sumL l ∧ sumL l < 65521 := sumFrom_bd l 7 (by omega)
theorem sumL_snoc (l : List UInt8) (x : UInt8) : sumL (l ++ [x]) = step (sumL l) x := by simp [sumL, sumFrom]
theorem length_sealL (l : List UInt8) : (sealL l).length = l.length + 2 := by simp [sealL]

theorem step_inj {s t : Int} {x : UInt8} (hs : 0 ≤ s ∧ s < 65521) (ht : 0 ≤ t ∧ t < 65521) (h : step s x = step t x) : s = t := by
  unfold step at h; omega
theorem step_byte {s : Int} {x y : UInt8} (h : step s x = step s y) : x = y := by
  have hx := x.toNat_lt
  have hy := y.toNat_lt
  unfold step at h
  apply UInt8.toNat_inj.1
  omega
theorem sumFrom_inj (l : List UInt8) : ∀ {s t : Int}, 0 ≤ s ∧ s < 65521 → 0 ≤ t ∧ t < 65521 → sumFrom s l = sumFrom t l → s = t := by
  induction l with
  | nil => intro s t _ _ h; exact h
  | cons x l ih =>
    intro s t hs ht h
    exact step_inj hs ht (ih (step_bd s x) (step_bd t x) h)

/-- ONE BYTE TURNED, AHEAD OF THE SUM: another sum. -/
theorem sum_turned (a b : List UInt8) (x y : UInt8) (h : sumL (a ++ x :: b) = sumL (a ++ y :: b)) : x = y := by
  have h' : sumFrom (step (sumL a) x) b = sumFrom (step (sumL a) y) b := by
    simpa [sumL, sumFrom] using h
  exact step_byte (sumFrom_inj b (step_bd _ _) (step_bd _ _) h')

theorem hiB_toNat {s : Int} (h : 0 ≤ s ∧ s < 65521) : ((hiB s).toNat : Int) = s / 256 := by
  unfold hiB
  rw [UInt8.toNat_ofNat']
  omega
theorem loB_toNat {s : Int} (h : 0 ≤ s ∧ s < 65521) : ((loB s).toNat : Int) = s % 256 := by
  unfold loB
  rw [UInt8.toNat_ofNat']
  omega
theorem bytes_of {s t : Int} (hs : 0 ≤ s ∧ s < 65521) (ht : 0 ≤ t ∧ t < 65521) (h1 : hiB s = hiB t) (h2 : loB s = loB t) : s = t := by
  have a := hiB_toNat hs
  have b := hiB_toNat ht
  have c := loB_toNat hs
  have d := loB_toNat ht
  rw [h1] at a
  rw [h2] at c
  omega

theorem last_two (xs : List UInt8) (h2 : 2 ≤ xs.length) : xs = xs.take (xs.length - 2) ++ [xs[xs.length - 2], xs[xs.length - 1]] := by
  apply List.ext_getElem
  · simp; omega
  · intro i h3 h4
    rw [List.getElem_append]
    split
    · simp
    · rename_i h5
      simp at h5
      have : i = xs.length - 2 ∨ i = xs.length - 1 := by omega
      rcases this with rfl | rfl
      · simp [List.length_take, Nat.min_eq_left (Nat.sub_le _ _)]
      · have e : xs.length - 1 - (xs.length - 2) = 1 := by omega
        simp [e]

theorem ok_seal (l : List UInt8) : okL (sealL l) = true := by
  simp [okL, sealL]
theorem open_seal (l : List UInt8) : openL (sealL l) = l := by
  simp [openL, ok_seal, length_sealL]
  simp [sealL]

/-- ONE BYTE TURNED IS FOUND. -/
theorem turned (l : List UInt8) (k : Nat) (c : UInt8) (hk : k < (sealL l).length) (hne : (sealL l)[k] ≠ c) : okL ((sealL l).set k c) = false := by
  rw [Bool.eq_false_iff]
  intro h
  rw [length_sealL] at hk
  have hl : ((sealL l).set k c).length = l.length + 2 := by simp [length_sealL]
  simp only [okL, Bool.and_eq_true, decide_eq_true_eq, beq_iff_eq] at h
  obtain ⟨-, h⟩ := h
  rw [hl] at h
  have e0 : l.length + 2 - 2 = l.length := by omega
  rw [e0] at h
  by_cases hk2 : k < l.length
  · have e1 : ((sealL l).set k c).take l.length = l.set k c := by
      rw [List.take_set]; simp [sealL]
    have e2 : (sealL l).set k c = l.set k c ++ [hiB (sumL l), loB (sumL l)] := by
      unfold sealL; rw [List.set_append_left _ _ hk2]
    rw [e1, e2] at h
    unfold sealL at h
    have h' := List.append_cancel_left h
    simp at h'
    have hs := bytes_of (sumL_bd _) (sumL_bd _) h'.1 h'.2
    have hx : (sealL l)[k] = l[k] := by simp [sealL, List.getElem_append_left hk2]
    rw [hx] at hne
    have d1 : l = l.take k ++ l[k] :: l.drop (k + 1) := by simp
    have d2 : l.set k c = l.take k ++ c :: l.drop (k + 1) := by rw [List.set_eq_take_append_cons_drop]; simp [hk2]
    rw [d2] at hs
    have hs' : sumL (l.take k ++ c :: l.drop (k + 1)) = sumL (l.take k ++ l[k] :: l.drop (k + 1)) := by rw [hs, ← d1]
    exact hne (sum_turned _ _ _ _ hs').symm
  · have e1 : ((sealL l).set k c).take l.length = l := by
      rw [List.take_set]
      rw [List.set_eq_of_length_le (by simp [sealL]; omega)]
      simp [sealL]
    rw [e1] at h
    have : ((sealL l).set k c)[k]'(by rw [hl]; exact hk) = (sealL l)[k] := by
      simp only [← h]
    simp at this
    exact hne this.symm

end Go.Proofs.Ytngfedhffehkaac.mth

/-
  Plain mathematics for chunks: what is wrong with one, its bytes, and what any bytes are. Nothing of the program.
-/
namespace Go.Proofs.Ytngfedhffehkaac.mth
set_option linter.unusedSimpArgs false

structure Ch where
  kind : Int
  number : Int
  stream : Int
  place : Int
  data : List UInt8
  early : List Int

def sameC (a b : Ch) : Bool := a.kind == b.kind && (a.number == b.number && (a.stream == b.stream && (a.place == b.place && (a.data == b.data && a.early == b.early))))
theorem sameC_iff (a b : Ch) : sameC a b = true ↔ a = b := by
  cases a; cases b
  simp [sameC]

def wrongMsgL (s : Int) (d : List UInt8) : Int := if s < 0 ∨ 2 < s then 3 else if 6 < d.length then 4 else 0
def risesL : Int → List Int → Bool
  | _, [] => true
  | low, n :: r => decide (low < n) && (decide (n ≤ 39) && risesL n r)
def wrongL (c : Ch) : Int :=
  if c.kind ≠ 1 ∧ c.kind ≠ 2 then 1
  else if c.number < 0 ∨ 40 < c.number then 3
  else if c.kind = 1 then
    if 39 < c.number ∨ c.place < 0 ∨ c.number < c.place then 3
    else if c.early.length ≠ 0 then 5
    else wrongMsgL c.stream c.data
  else if c.stream ≠ 0 ∨ c.place ≠ 0 then 3
  else if c.data.length ≠ 0 ∨ 3 < c.early.length then 5
  else if risesL c.number c.early = true then 0 else 3

theorem wrongL_one (number stream place : Int) (data : List UInt8) (early : List Int) : wrongL ⟨1, number, stream, place, data, early⟩ =
    if number < 0 ∨ 40 < number then 3 else if 39 < number ∨ place < 0 ∨ number < place then 3 else if early.length ≠ 0 then 5 else wrongMsgL stream data := by
  simp [wrongL]
theorem wrongL_two (number stream place : Int) (data : List UInt8) (early : List Int) : wrongL ⟨2, number, stream, place, data, early⟩ =
    if number < 0 ∨ 40 < number then 3 else if stream ≠ 0 ∨ place ≠ 0 then 3 else if data.length ≠ 0 ∨ 3 < early.length then 5 else if risesL number early = true then 0 else 3 := by
  simp [wrongL]
theorem wrongL_kind (c : Ch) (h1 : c.kind ≠ 1) (h2 : c.kind ≠ 2) : wrongL c = 1 := by
  simp [wrongL, h1, h2]
theorem rises_drop (low : Int) (l : List Int) (k : Nat) (x : Int) (h : l[k]? = some x) : risesL low (l.drop k) = (decide (low < x) && (decide (x ≤ 39) && risesL x (l.drop (k + 1)))) := by
  obtain ⟨hk, hx⟩ := List.getElem?_eq_some_iff.1 h
  rw [List.drop_eq_getElem_cons hk, hx]
  rfl
def b8 (n : Int) : UInt8 := UInt8.ofNat n.toNat
theorem b8_toNat {n : Int} (h : 0 ≤ n ∧ n ≤ 255) : ((b8 n).toNat : Int) = n := by
  unfold b8; rw [UInt8.toNat_ofNat']; omega
def bodyL (c : Ch) : List UInt8 := if c.kind = 1 then [b8 c.kind, b8 c.number, b8 c.stream, b8 c.place] ++ c.data else [b8 c.kind, b8 c.number] ++ c.early.map b8
theorem rises_mem : ∀ (l : List Int) (low : Int), risesL low l = true → ∀ x ∈ l, low < x ∧ x ≤ 39
  | [], _, _, x, hx => by simp at hx
  | n :: r, low, h, x, hx => by
    simp only [risesL, Bool.and_eq_true, decide_eq_true_eq] at h
    rcases List.mem_cons.1 hx with rfl | hx
    · exact ⟨h.1, h.2.1⟩
    · have := rises_mem r n h.2.2 x hx
      omega
/-- The two kinds of right chunks. -/
theorem right_cases (c : Ch) (h : wrongL c = 0) :
    (c.kind = 1 ∧ (0 ≤ c.number ∧ c.number ≤ 39) ∧ (0 ≤ c.place ∧ c.place ≤ c.number) ∧ (0 ≤ c.stream ∧ c.stream ≤ 2) ∧ c.data.length ≤ 6 ∧ c.early = []) ∨
    (c.kind = 2 ∧ (0 ≤ c.number ∧ c.number ≤ 40) ∧ c.stream = 0 ∧ c.place = 0 ∧ c.data = [] ∧ c.early.length ≤ 3 ∧ risesL c.number c.early = true) := by
  obtain ⟨kind, number, stream, place, data, early⟩ := c
  by_cases h1 : kind = 1
  · subst h1
    rw [wrongL_one] at h
    left
    unfold wrongMsgL at h
    repeat' split at h
    all_goals first | omega | skip
    rename_i a1 a2 a3 a4 a5
    exact ⟨rfl, by simp only; omega, by simp only; omega, by simp only; omega, by simp only; omega, List.eq_nil_of_length_eq_zero (by simpa using a3)⟩
  · by_cases h2 : kind = 2
    · subst h2
      rw [wrongL_two] at h
      right
      repeat' split at h
      all_goals first | omega | skip
      rename_i a1 a2 a3 a4
      exact ⟨rfl, by simp only; omega, by simp only; omega, by simp only; omega, List.eq_nil_of_length_eq_zero (by simp only; omega), by simp only; omega, a4⟩
    · rw [wrongL_kind _ h1 h2] at h
      omega
end Go.Proofs.Ytngfedhffehkaac.mth

/-
  Plain mathematics: what any bytes are. Nothing of the program.
-/
namespace Go.Proofs.Ytngfedhffehkaac.mth
set_option linter.unusedSimpArgs false
def zeroC : Ch := ⟨0, 0, 0, 0, [], []⟩
def i8 (x : UInt8) : Int := (x.toNat : Int)
/-- What bytes are, field by field. -/
def fieldsL (x : List UInt8) : Ch :=
  if i8 (x.getD 0 0) = 1 then ⟨1, i8 (x.getD 1 0), i8 (x.getD 2 0), i8 (x.getD 3 0), x.drop 4, []⟩
  else ⟨i8 (x.getD 0 0), i8 (x.getD 1 0), 0, 0, [], (x.drop 2).map i8⟩
def shortL (x : List UInt8) : Bool := decide (x.length < 2) || (decide (i8 (x.getD 0 0) = 1) && decide (x.length < 4))
/-- What any bytes are: a chunk, and an error. -/
def readE (b : List UInt8) : Int := if okL b = false then 7 else if shortL (openL b) = true then 8 else wrongL (fieldsL (openL b))
def readC (b : List UInt8) : Ch := if readE b = 0 then fieldsL (openL b) else zeroC
end Go.Proofs.Ytngfedhffehkaac.mth

/-
  Plain mathematics for chunks: there, and back; what is unlike looks unlike; a spoilt one is none. Nothing of the program.
-/
namespace Go.Proofs.Ytngfedhffehkaac.mth
set_option linter.unusedSimpArgs false

theorem i8_b8 {n : Int} (h : 0 ≤ n ∧ n ≤ 255) : i8 (b8 n) = n := b8_toNat h
theorem map_i8_b8 (l : List Int) (h : ∀ x ∈ l, 0 ≤ x ∧ x ≤ 255) : (l.map b8).map i8 = l := by
  rw [List.map_map]
  exact (List.map_congr_left (fun x hx => i8_b8 (h x hx))).trans (List.map_id' l)
theorem fields_body (c : Ch) (h : wrongL c = 0) : fieldsL (bodyL c) = c ∧ shortL (bodyL c) = false := by
  have hcs := right_cases c h
  obtain ⟨kind, number, stream, place, data, early⟩ := c
  simp only at hcs
  rcases hcs with ⟨rfl, h2, h3, h4, h5, rfl⟩ | ⟨rfl, h2, rfl, rfl, rfl, h6, h7⟩
  · have e : bodyL ⟨1, number, stream, place, data, []⟩ = [b8 1, b8 number, b8 stream, b8 place] ++ data := by simp [bodyL]
    rw [e]
    have e1 : i8 (b8 1) = 1 := i8_b8 (by omega)
    constructor
    · unfold fieldsL
      simp only [List.cons_append, List.getD_cons_zero, List.getD_cons_succ, e1, if_true, List.drop_succ_cons, List.drop_zero, List.nil_append]
      rw [i8_b8 (by omega), i8_b8 (by omega), i8_b8 (by omega)]
    · simp [shortL]
  · have e : bodyL ⟨2, number, 0, 0, [], early⟩ = [b8 2, b8 number] ++ early.map b8 := by simp [bodyL]
    rw [e]
    have e1 : i8 (b8 2) = 2 := i8_b8 (by omega)
    constructor
    · unfold fieldsL
      simp only [List.cons_append, List.getD_cons_zero, List.getD_cons_succ, e1, List.drop_succ_cons, List.drop_zero, List.nil_append]
      rw [if_neg (by omega), i8_b8 (by omega), map_i8_b8 early (fun x hx => by have := rises_mem _ _ h7 x hx; omega)]
    · simp [shortL, e1]

/-- THERE, AND BACK. -/
theorem read_bytes (c : Ch) (h : wrongL c = 0) : readE (sealL (bodyL c)) = 0 ∧ readC (sealL (bodyL c)) = c := by
  obtain ⟨h1, h2⟩ := fields_body c h
  have e : readE (sealL (bodyL c)) = 0 := by
    simp [readE, ok_seal, open_seal, h2, h1, h]
  exact ⟨e, by simp [readC, e, open_seal, h1]⟩

/-- A CHUNK THAT IS SPOILT IS NONE. -/
theorem spoilt (c : Ch) (k : Nat) (y : UInt8) (hk : k < (sealL (bodyL c)).length) (hne : (sealL (bodyL c))[k] ≠ y) : readE ((sealL (bodyL c)).set k y) = 7 := by
  have := turned (bodyL c) k y hk hne
  simp [readE, this]

theorem len_body (c : Ch) (h : wrongL c = 0) : 2 ≤ (bodyL c).length ∧ (bodyL c).length ≤ 10 := by
  have hcs := right_cases c h
  obtain ⟨kind, number, stream, place, data, early⟩ := c
  simp only at hcs
  rcases hcs with ⟨rfl, h2, h3, h4, h5, rfl⟩ | ⟨rfl, h2, rfl, rfl, rfl, h6, h7⟩
  · simp [bodyL]; omega
  · simp [bodyL]; omega
end Go.Proofs.Ytngfedhffehkaac.mth
