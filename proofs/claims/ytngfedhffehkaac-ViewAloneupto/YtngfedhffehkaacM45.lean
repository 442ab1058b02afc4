/-
  Several texts in one.
-/
import Derived.Test.YtngfedhffehkaacM44
import Derived.Test.YtngfedhffehkaacM23
import Derived.Test.YtngfedhffehkaacM41
import Derived.ChangeOld
import Derived.SizedLaws
import Derived.Test.YtngfedhffehkaacProg
import Derived.Test.YtngfedhffehkaacPLane3

/-
  The closed fact that the statements on views ask first.
-/
namespace Go.Proofs.Ytngfedhffehkaac.ab
set_option linter.unusedVariables false
set_option linter.unusedSimpArgs false
open Go Go.RowKit
open mth

def av0 : Sp := ⟨1, 0, 0, 0, false, ⟨0, []⟩⟩
def av1 : Sp := ⟨2, 1, 0, 0, false, ⟨0, []⟩⟩
def av2 : Sp := ⟨2, 0, 0, 0, false, ⟨0, []⟩⟩
theorem av_only : onlyW [av0, av1, av2] 1 = [av0, av1] := rfl
theorem av_puts : putsW [av0, av1, av2] [0, 0, 9] 1 = [⟨0, []⟩] := rfl
set_option maxHeartbeats 16000000 in
theorem alive10_told (hO : CVOf 13) (hL : CVOnly 14) (hP : CVPuts 17) : Told Try.prog 19 [] [vB true] := by
  refine told_w10_alive rfl ?_
  have g0 : GoodW (newW 2) := good_new (by decide)
  have h0 := new_told 2 (by decide)
  have h1 := hO (newW 2) 1 g0
  have h2 := hO (newW 2) 2 g0
  have h3 := hL [av0, av1, av2] 1 (by decide) (by unfold SmallD; decide)
  have h4 := hP [av0, av1, av2] [0, 0, 9] 1 (by decide) (by unfold SmallD; decide) (by decide)
  rw [show ofW (newW 2) 1 = (zeroL, true) from rfl] at h1
  rw [show ofW (newW 2) 2 = (zeroL, false) from rfl] at h2
  rw [av_only] at h3
  rw [av_puts] at h4
  have cn : ((2 : Nat) : Int) = 2 := rfl
  rw [cn] at h0
  generalize newW 2 = w0 at *
  generalize zeroL = z at *
  simp only [encWd, encSl, encSp, encMl, encMs, encLn, av0, av1, av2, List.map_cons, List.map_nil] at h0 h1 h2 h3 h4
  refine wk0 ?_
  refine cg [[aD (encWd w0), vI 0]] @encWd.eq_1 ?_ ?_
  · exact obl_cons h0 obl_nil
  refine wk0 ?_
  refine cg [[aD (encLn z), vB true]] @encLn.eq_1 ?_ ?_
  · exact obl_cons h1 obl_nil
  refine wk0 ?_
  refine cg [[aD (encLn z), vB false]] @encLn.eq_1 ?_ ?_
  · exact obl_cons h2 obl_nil
  refine wk Bool.not_false ?_
  refine cg [[sD 7 [aD (encSp av0), aD (encSp av1)]]] (an7 @encSp.eq_1 @av0.eq_1 @av1.eq_1 @zmn Bool.not_false @zcons @znil) ?_ ?_
  · refine ⟨⟨_, ?_, h3⟩, trivial⟩
    repeat' (first | exact vals_nil | exact row_nil | exact es_nil | exact CVLe.refl _ | exact LfLe.refl _ | exact LfLe.nil _ | exact EsLe.refl _ | refine vals_cons ?_ ?_ | refine row_cons ?_ ?_ | refine es_cons ?_ ?_ | refine EsLe.app ?_ ?_ | refine CVLe.row ?_ | refine CVLe.leafV ?_ | refine CVLe.leafS ?_ | refine LfLe.s ?_)
  refine wk (an2 @zcons @znil) ?_
  refine cg [[sD 2 [aD (encMs ⟨0, []⟩)]]] (an4 @encMs.eq_1 @zmn @zcons @znil) ?_ ?_
  · refine ⟨⟨_, ?_, h4⟩, trivial⟩
    repeat' (first | exact vals_nil | exact row_nil | exact es_nil | exact CVLe.refl _ | exact LfLe.refl _ | exact LfLe.nil _ | exact EsLe.refl _ | refine vals_cons ?_ ?_ | refine row_cons ?_ ?_ | refine es_cons ?_ ?_ | refine EsLe.app ?_ ?_ | refine CVLe.row ?_ | refine CVLe.leafV ?_ | refine CVLe.leafS ?_ | refine LfLe.s ?_)
  refine wk (an2 @zcons @znil) ?_
  exact ValsLe.refl _
end Go.Proofs.Ytngfedhffehkaac.ab

/-
  What the statement ViewAlone tells, out of what the functions of package view tell.
-/
namespace Go.Proofs.Ytngfedhffehkaac.ab
set_option linter.unusedVariables false
set_option linter.unusedSimpArgs false
open Go Go.RowKit
open mth

set_option maxHeartbeats 8000000 in
theorem viewAlone_not (hO : CVOf 13) (hL : CVOnly 14) (hP : CVPuts 17) (n : Int) (l : List Sp) (t : Int) (h : n < 1 ∨ 3 < n ∨ t < 0 ∨ n ≤ t ∨ 160 < (l.length : Int)) : Told Try.prog 6 [vI n, sD 7 (encSl l), vI t] [vB true] := by
  refine told_w10_ViewAlone rfl ?_
  have hA := alive10_told hO hL hP
  refine wk0 ?_
  refine cg [[vB true]] Bool.not_true ?_ ?_
  · exact obl_cons hA obl_nil
  by_cases n1 : n < 1
  · refine wk @n1 ?_
    exact ValsLe.refl _
  by_cases n2 : 3 < n
  · refine wk (an2 @n1 @n2) ?_
    exact ValsLe.refl _
  by_cases n3 : t < 0
  · refine wk (an3 @n1 @n2 @n3) ?_
    exact ValsLe.refl _
  by_cases n4 : n ≤ t
  · refine wk (an4 @n1 @n2 @n3 @n4) ?_
    exact ValsLe.refl _
  have n5 : 160 < (l.length : Int) := by omega
  refine wk (an6 @n1 @n2 @n3 @n4 @n5 @len_sl) ?_
  exact ValsLe.refl _
set_option maxHeartbeats 8000000 in
theorem viewAlone_good (hS : CSpoilR 34) (hO : CVOf 13) (hL : CVOnly 14) (hP : CVPuts 17) (n : Nat) (hn : 1 ≤ n ∧ n ≤ 3) (l : List Sp) (hl : l.length ≤ 160) (hd : SmallD l) (t : Nat) (ht : t < n) :
    Told Try.prog 6 [vI n, sD 7 (encSl l), vI t] [vB true] := by
  refine told_w10_ViewAlone rfl ?_
  have hA := alive10_told hO hL hP
  have hol := only_len l t
  have p1 := play_told hS n hn l (by omega)
  have p2 := play_told hS n hn (onlyW l t) (by omega)
  have hL' := hL l t (by omega) hd
  rw [List.take_of_length_le hl] at p1
  rw [List.take_of_length_le (by omega)] at p2
  have hsim := sim_run t (newW n) l
  have hw := (good_run (good_new hn) l 160).1
  rw [List.take_of_length_le hl] at hw
  have hx := (good_run (good_new hn) (onlyW l t) 160).1
  rw [List.take_of_length_le (by omega)] at hx
  have hwn : (runW (newW n) l).1.lanes.length = n := by rw [lenW_run]; simp [newW]
  generalize (runW (newW n) l).2 = e1 at *
  generalize (runW (newW n) l).1 = w at *
  generalize (runW (newW n) (onlyW l t)).2 = e2 at *
  generalize (runW (newW n) (onlyW l t)).1 = x at *
  have o1 := hO w t hw
  have o2 := hO x t hx
  rw [← sim_of hsim] at o2
  rw [of_in (by omega)] at o1 o2
  have hgl : GoodL (w.lanes.getD t zeroL) := by
    rw [List.getD_eq_getElem?_getD, List.getElem?_eq_getElem (by omega), Option.getD_some]
    exact hw.l _ (List.getElem_mem (by omega))
  generalize w.lanes.getD t zeroL = a at *
  have s1 := sameLn_good hgl
  have z1 : (w.ticks == x.ticks) = true := by rw [hsim.k]; exact beq_self_eq_true _
  have n1 : ¬ (n : Int) < 1 := by omega
  have n2 : ¬ 3 < (n : Int) := by omega
  have n3 : ¬ (t : Int) < 0 := by omega
  have n4 : ¬ (n : Int) ≤ (t : Int) := by omega
  have n5 : ¬ 160 < (l.length : Int) := by omega
  simp only [encWd, encLn] at p1 p2 o1 o2 s1 ⊢
  refine wk0 ?_
  refine cg [[vB true]] Bool.not_true ?_ ?_
  · exact obl_cons hA obl_nil
  refine wk (an6 @n1 @n2 @n3 @n4 @n5 @len_sl) ?_
  refine cg [[aD (encWd w), sD 1 (e1.map vI)]] @encWd.eq_1 ?_ ?_
  · exact obl_cons p1 obl_nil
  refine wk0 ?_
  refine cg [[sD 7 (encSl (onlyW l t))], [aD (encWd x), sD 1 (e2.map vI)]] @encWd.eq_1 ?_ ?_
  · exact obl_cons hL' (obl_cons p2 obl_nil)
  refine wk0 ?_
  refine cg [[aD (encLn a), vB true]] @encLn.eq_1 ?_ ?_
  · exact obl_cons o1 obl_nil
  refine wk0 ?_
  refine cg [[aD (encLn a), vB true]] @encLn.eq_1 ?_ ?_
  · exact obl_cons o2 obl_nil
  refine wk0 ?_
  refine cg [[vB true]] @encLn.eq_1 ?_ ?_
  · exact obl_cons s1 obl_nil
  refine wk @z1 ?_
  exact ValsLe.refl _
theorem viewAlone_told (hS : CSpoilR 34) (hO : CVOf 13) (hL : CVOnly 14) (hP : CVPuts 17) (n : Int) (l : List Sp) (hl : l.length ≤ 1048576) (hd : SmallD l) (t : Int) : Told Try.prog 6 [vI n, sD 7 (encSl l), vI t] [vB true] := by
  by_cases h : n < 1 ∨ 3 < n ∨ t < 0 ∨ n ≤ t ∨ 160 < (l.length : Int)
  · exact viewAlone_not hO hL hP n l t h
  · obtain ⟨q, rfl⟩ : ∃ q : Nat, n = q := ⟨n.toNat, by omega⟩
    obtain ⟨u, rfl⟩ : ∃ u : Nat, t = u := ⟨t.toNat, by omega⟩
    exact viewAlone_good hS hO hL hP q (by omega) l (by omega) hd u (by omega)
end Go.Proofs.Ytngfedhffehkaac.ab

/-
  The row of ViewAlone out of what the functions are held to.
-/
namespace Go.Proofs.Ytngfedhffehkaac.viewAlone
set_option linter.unusedSimpArgs false
open Go Go.ChangeShapes Go.WideShapes Go.RowKit
set_option linter.unusedVariables false
open ab mth

set_option maxRecDepth 100000 in
theorem lifted (hS : CSpoilR 34) (hO : CVOf 13) (hL : CVOnly 14) (hP : CVPuts 17) (os : Os) (started : os.Started) (H : Type) (enc : TypeId × Value → H) (F : Stop.Interp) :
    ReturnsInHanded {} Try.checked os 6 .any ((Rows.OpenSpec.upto Rows.viewAloneSpec).pre6 enc Try.prog Try.f6 Rows.viewAloneUptoRow.domain false) (((Rows.OpenSpec.upto Rows.viewAloneSpec).at F).post enc Try.prog Try.f6 false true false false) := by
  refine returnsInHanded_of_cond (C := Try.checked) (s := Rows.OpenSpec.upto Rows.viewAloneSpec) (k := Rows.uptoSmall) rfl own started (by kernel_rfl) Try.func6
    (OpenSpec.witness (enc := enc) (C := Try.checked) (s := Rows.OpenSpec.upto Rows.viewAloneSpec) (k := Rows.uptoSmall) rfl false ⟨#[], #[.int .i64 0, .slice none 0 0, .int .i64 0], []⟩ 8 (by kernel_rfl) (by kernel_rfl) (by kernel_rfl)
      (x := ([.lit (.int .i64 0), .nil, .lit (.int .i64 0)], [], [])) (by kernel_rfl) rfl (by kernel_rfl)) ?_
  intro W base args ds gs before hval0 hW0 _ hk _
  have hval : ∀ (j : Nat) t v, Try.f6.params[j]? = some t → args[j]? = some v → Value.okWide Try.prog W .any base t v := hval0
  have hW' := hW0
  obtain ⟨p, q, hA0, hV, rfl, hfz, hnd⟩ := hW0
  have hA : DataW.TrodAll enc Try.prog W 0 (fun _ => true) true Try.f6.params.toList args.toList ds p := hA0
  rw [Try.params6] at hA hval
  obtain ⟨v0, vs0, d0, ds0, p0, q0, hargs, rfl, rfl, h0, r0⟩ := trodAll_cons hA
  obtain ⟨v1, vs1, d1, ds1, p1, q1, rfl, rfl, rfl, h1, r1⟩ := trodAll_cons r0
  obtain ⟨v2, vs2, d2, ds2, p2, q2, rfl, rfl, rfl, h2, r2⟩ := trodAll_cons r1
  obtain ⟨rfl, rfl, rfl⟩ := trodAll_nil r2
  obtain rfl : args = #[v0, v1, v2] := by cases args; simp_all
  obtain ⟨rfl, rfl⟩ := trodVars_none hV
  have lt0 : ∀ x ∈ p0, x.block < W.heap.size := by obtain ⟨m, hm⟩ := h0; exact DataW.trod_lt m _ _ _ hm
  have lt1 : ∀ x ∈ p1, x.block < W.heap.size := by obtain ⟨m, hm⟩ := h1; exact DataW.trod_lt m _ _ _ hm
  have lt2 : ∀ x ∈ p2, x.block < W.heap.size := by obtain ⟨m, hm⟩ := h2; exact DataW.trod_lt m _ _ _ hm
  obtain ⟨n0, rfl⟩ := okWide_int Try.underlying3 (hval 0 3 v0 rfl rfl)
  obtain ⟨a1, len1, cap1, rfl⟩ := okWide_slice Try.underlying22 (hval 1 22 v1 rfl rfl)
  obtain ⟨x1, hM1, hu1, hd1⟩ := (by obtain ⟨fuel, hf⟩ := h1; exact in_stepsB hf : ∃ cs : List Sp, CRep (AllOf W) W (sD 7 (encSl cs)) (.slice a1 len1 cap1) ∧ cs.length ≤ Rows.uptoBulk d1 ∧ ∀ c ∈ cs, c.msg.data.length ≤ Rows.uptoBulk d1)
  have hl1 := hM1.len
  rw [len_sl] at hl1
  obtain ⟨n2, rfl⟩ := okWide_int Try.underlying3 (hval 2 3 v2 rfl rfl)
  have hbd : Rows.uptoBulkAll ([d0, d1, d2] ++ []) ≤ 1048576 := of_decide_eq_true hk
  simp only [List.append_nil, Rows.uptoBulkAll] at hbd
  clear hA0 hval0
  refine ((viewAlone_told hS hO hL hP n0 x1 (by omega) (fun c hc => by have := hd1 c hc; omega) n2).yes (W := W) (vs := [.int .i64 n0, .slice a1 len1 cap1, .int .i64 n2]) (Vals.cons (.inl (CRep.v rfl)) (Vals.cons (.inl hM1) (Vals.cons (.inl (CRep.v rfl)) Vals.nil)))).mono fun e W' ⟨he, bel⟩ => ?_
  subst he
  exact ⟨_, rfl, _, _, _, [], _, [], hW', trodAll_mk1 (shut_bool Try.underlying4 _), (trodAll_cons_mk (Below.trod laidOut (by kernel_rfl) (of_decide_eq_true (by kernel_rfl)) h0 bel lt0) (trodAll_cons_mk (Below.trod laidOut (by kernel_rfl) (of_decide_eq_true (by kernel_rfl)) h1 bel lt1) (trodAll_cons_mk (Below.trod laidOut (by kernel_rfl) (of_decide_eq_true (by kernel_rfl)) h2 bel lt2) trodAll_mk0))), rfl, bel.frame _, fun h => by cases h⟩

theorem over (hS : CSpoilR 34) (hO : CVOf 13) (hL : CVOnly 14) (hP : CVPuts 17) : Rows.viewAloneUptoRow.holds Try.pinned (Rows.OpenSpec.upto Rows.viewAloneSpec) :=
  OpenClaim.holds_of_cond 6 Try.f6 rfl rfl rfl rfl rfl rfl rfl ⟨rfl, rfl, rfl, rfl, rfl⟩ rfl rfl rfl rfl rfl (by kernel_rfl) Try.func6 (by kernel_rfl)
    (of_decide_eq_true (by kernel_rfl)) (by unfold Func.isWrapper; first | (rw [if_pos (by decide +kernel)]; kernel_rfl) | (rw [if_neg (by decide +kernel)]; exact ⟨rfl, rfl⟩))
    (fun os started H enc _ F => lifted hS hO hL hP os started H enc F)
end Go.Proofs.Ytngfedhffehkaac.viewAlone

/-
  Functions as plain code (written by wip/abs/ir.py): view.Of, view.Only, view.Puts.
-/
namespace Go.Proofs.Ytngfedhffehkaac.ab
set_option linter.unusedSimpArgs false
set_option linter.unusedVariables false
set_option maxRecDepth 100000
open Go Go.RowKit

def view_Of_r0 : IC := cReg Try.prog [
    ⟨some 2, none, iBox 2 (.tmp 0)⟩,
    ⟨some 4, none, iAlo 4 [vD (.slice none 0 0), vD (.int .i64 0), vD (.int .i64 0), vD (.int .i64 0), vD (.int .i64 0), vD (.slice none 0 0), vD (.int .i64 0), vD (.int .i64 0), vD (.slice none 0 0), vD (.int .i64 0), vD (.int .i64 0), vD (.int .i64 0), vD (.slice none 0 0), vD (.slice none 0 0), vD (.bool false), vD (.slice none 0 0), vD (.slice none 0 0)]⟩,
    ⟨some 5, none, iMov 5 (.const (.bool false)) true⟩] [1, 2, 4] [2, 4]
def view_Of_r1 : IC := cReg Try.prog [
    ⟨some 6, none, iMov 6 (.tmp 1) false⟩,
    ⟨some 7, none, iBin 7 .lss (.tmp 6) (.const (.int .i64 0))⟩,
    ⟨some 8, none, iMov 8 (.tmp 7) false⟩,
    ⟨some 9, some (8, false), iMov 9 (.tmp 1) false⟩,
    ⟨some 10, some (8, false), iFad 10 0 (.tmp 2)⟩,
    ⟨some 11, some (8, false), iLoad 11 1 false (.tmp 10) false⟩,
    ⟨some 12, some (8, false), iLen 12 false (.tmp 11)⟩,
    ⟨some 13, some (8, false), iBin 13 .geq (.tmp 9) (.tmp 12)⟩,
    ⟨some 14, none, iPick 14 (.tmp 8) (.const (.bool true)) (.tmp 13)⟩] [1, 2, 4, 14] [2, 4]
def view_Of_r2 : IC := cReg Try.prog [
    ⟨some 15, none, iBld 15 [vD (.slice none 0 0), vD (.int .i64 0), vD (.int .i64 0), vD (.int .i64 0), vD (.int .i64 0), vD (.slice none 0 0), vD (.int .i64 0), vD (.int .i64 0), vD (.slice none 0 0), vD (.int .i64 0), vD (.int .i64 0), vD (.int .i64 0), vD (.slice none 0 0), vD (.slice none 0 0), vD (.bool false), vD (.slice none 0 0), vD (.slice none 0 0)] [] []⟩,
    ⟨none, none, iStor 17 (.tmp 4) (.tmp 15)⟩,
    ⟨some 5, none, iMov 5 (.const (.bool false)) true⟩] [4, 5] [4]
def view_Of_c1a : IC := (cSeq view_Of_r2 cRet)
def view_Of_c1 : IC := cCond (.tmp 14) view_Of_c1a cSkip
def view_Of_r3 : IC := cReg Try.prog [
    ⟨some 16, none, iFad 16 0 (.tmp 2)⟩,
    ⟨some 17, none, iLoad 17 1 false (.tmp 16) false⟩,
    ⟨some 18, none, iMov 18 (.tmp 1) false⟩,
    ⟨some 19, none, iIaS 19 17 (.tmp 17) (.tmp 18)⟩,
    ⟨some 20, none, iLoad 20 17 true (.tmp 19) false⟩,
    ⟨some 21, none, iCall 21 29 [(.tmp 20)]⟩,
    ⟨none, none, iStor 17 (.tmp 4) (.tmp 21)⟩,
    ⟨some 5, none, iMov 5 (.const (.bool true)) true⟩] [4, 5] [4]
def view_Of : IC := (cSeq view_Of_r0 (cSeq (cSeq view_Of_r1 view_Of_c1) (cSeq view_Of_r3 cRet)))
theorem told_view_Of {args r : List D} (hl : args.length = 2) (h : view_Of (start args) (fin [(4, some (17, true)), (5, none)] r)) : Told Try.prog 13 args r :=
  told_of follows Try.func13 rfl (an := [([], [1, 2, 4], [2, 4], []), ([], [1, 2, 4, 14], [2, 4], []), ([], [4, 5], [4], []), ([], [4, 5], [4], [])]) (by kernel_rfl) (by kernel_rfl) (by rw [hl]; decide +kernel) h

def view_Only_r0 : IC := cReg Try.prog [
    ⟨some 4, none, iMov 4 (.const (.slice none 0 0)) true⟩] [0, 1] []
def view_Only_r1 : IC := cReg Try.prog [
    ⟨some 5, none, iMov 5 (.const (.slice none 0 0)) true⟩] [0, 1, 5] []
def view_Only_r2 : IC := cReg Try.prog [
    ⟨some 8, none, iMov 8 (.tmp 0) false⟩,
    ⟨some 9, none, iLen 9 false (.tmp 8)⟩,
    ⟨some 10, none, iMov 10 (.const (.int .i64 0)) false⟩] [1, 5, 8, 9, 10] []
def view_Only_r3 : IC := cReg Try.prog [
    ⟨some 11, none, iBin 11 .lss (.tmp 10) (.tmp 9)⟩] [1, 5, 8, 9, 10, 11] []
def view_Only_c3 : IC := cCond (.tmp 11) cSkip (cExit 0)
def view_Only_r4 : IC := cReg Try.prog [
    ⟨some 12, none, iIaS 12 7 (.tmp 8) (.tmp 10)⟩,
    ⟨some 13, none, iLoad 13 7 true (.tmp 12) false⟩,
    ⟨some 7, none, iAlo 7 [vD (.int .i64 0), vD (.int .i64 0), vD (.int .i64 0), vD (.int .i64 0), vD (.bool false), vD (.int .i64 0), vD (.slice none 0 0)]⟩,
    ⟨none, none, iStor 7 (.tmp 7) (.tmp 13)⟩] [1, 5, 7, 8, 9, 10] [7]
def view_Only_r5 : IC := cReg Try.prog [
    ⟨some 14, none, iFad 14 0 (.tmp 7)⟩,
    ⟨some 15, none, iLoad 15 1 false (.tmp 14) false⟩,
    ⟨some 16, none, iBin 16 .eql (.tmp 15) (.const (.int .i64 1))⟩,
    ⟨some 17, none, iMov 17 (.tmp 16) false⟩,
    ⟨some 18, some (17, false), iFad 18 1 (.tmp 7)⟩,
    ⟨some 19, some (17, false), iLoad 19 1 false (.tmp 18) false⟩,
    ⟨some 20, some (17, false), iMov 20 (.tmp 1) false⟩,
    ⟨some 21, some (17, false), iBin 21 .eql (.tmp 19) (.tmp 20)⟩,
    ⟨some 22, none, iPick 22 (.tmp 17) (.const (.bool true)) (.tmp 21)⟩] [1, 5, 7, 8, 9, 10, 22] [7]
def view_Only_r6 : IC := cReg Try.prog [
    ⟨some 23, none, iFad 23 5 (.tmp 7)⟩,
    ⟨some 24, none, iLoad 24 2 true (.tmp 23) false⟩,
    ⟨some 25, none, iCall 25 30 [(.tmp 24)]⟩,
    ⟨some 26, none, iFad 26 5 (.tmp 7)⟩,
    ⟨none, none, iStor 2 (.tmp 26) (.tmp 25)⟩] [1, 5, 7, 8, 9, 10] [7]
def view_Only_r7 : IC := cReg Try.prog [
    ⟨some 27, none, iMov 27 (.tmp 5) true⟩,
    ⟨some 28, none, iLoad 28 7 true (.tmp 7) false⟩,
    ⟨some 29, none, iRow 29 27 7 [(.tmp 28)]⟩,
    ⟨some 30, none, iApp 30 27 7 72 (.tmp 27) (.tmp 29)⟩,
    ⟨some 5, none, iMov 5 (.tmp 30) true⟩] [1, 5, 8, 9, 10] []
def view_Only_c5a : IC := (cSeq view_Only_r6 view_Only_r7)
def view_Only_c5 : IC := cCond (.tmp 22) view_Only_c5a cSkip
def view_Only_b4 : IC := cBlock 1 (cSeq view_Only_r4 (cSeq view_Only_r5 view_Only_c5))
def view_Only_r8 : IC := cReg Try.prog [
    ⟨some 31, none, iBin 31 .add (.tmp 10) (.const (.int .i64 1))⟩,
    ⟨some 10, none, iMov 10 (.tmp 31) false⟩] [1, 5, 8, 9, 10] []
def view_Only_l2a : IC := (cSeq view_Only_r3 (cSeq view_Only_c3 (cSeq view_Only_b4 view_Only_r8)))
def view_Only_l2 : IC := cLoop view_Only_l2a
def view_Only_b1 : IC := cBlock 0 view_Only_l2
def view_Only_r9 : IC := cReg Try.prog [
    ⟨some 32, none, iMov 32 (.tmp 5) false⟩,
    ⟨some 4, none, iMov 4 (.tmp 32) true⟩] [4] []
def view_Only : IC := (cSeq view_Only_r0 (cSeq view_Only_r1 (cSeq (cSeq view_Only_r2 view_Only_b1) (cSeq view_Only_r9 cRet))))
theorem told_view_Only {args r : List D} (hl : args.length = 2) (h : view_Only (start args) (fin [(4, none)] r)) : Told Try.prog 14 args r :=
  told_of follows Try.func14 rfl (an := [([], [0, 1], [], []), ([], [0, 1, 5], [], []), ([], [1, 5, 8, 9, 10], [], []), ([], [1, 5, 8, 9, 10, 11], [], []), ([], [1, 5, 7, 8, 9, 10], [7], []), ([], [1, 5, 7, 8, 9, 10, 22], [7], []), ([], [1, 5, 7, 8, 9, 10], [7], []), ([], [1, 5, 8, 9, 10], [], []), ([], [1, 5, 8, 9, 10], [], []), ([], [4], [], [])]) (by kernel_rfl) (by kernel_rfl) (by rw [hl]; decide +kernel) h

def view_Puts_r0 : IC := cReg Try.prog [
    ⟨some 6, none, iMov 6 (.const (.slice none 0 0)) true⟩] [0, 1, 2] []
def view_Puts_r1 : IC := cReg Try.prog [
    ⟨some 7, none, iMov 7 (.const (.slice none 0 0)) true⟩] [0, 1, 2, 7] []
def view_Puts_r2 : IC := cReg Try.prog [
    ⟨some 10, none, iMov 10 (.tmp 0) false⟩,
    ⟨some 11, none, iMov 11 (.tmp 0) false⟩,
    ⟨some 12, none, iLen 12 false (.tmp 11)⟩,
    ⟨some 13, none, iMov 13 (.tmp 1) false⟩,
    ⟨some 14, none, iLen 14 false (.tmp 13)⟩,
    ⟨some 15, none, iMm 15 false (.tmp 12) (.tmp 14)⟩,
    ⟨some 16, none, iSlc 16 7 (.tmp 10) none (some (.tmp 15))⟩,
    ⟨some 17, none, iLen 17 false (.tmp 16)⟩,
    ⟨some 18, none, iMov 18 (.const (.int .i64 0)) false⟩] [1, 2, 7, 16, 17, 18] []
def view_Puts_r3 : IC := cReg Try.prog [
    ⟨some 19, none, iBin 19 .lss (.tmp 18) (.tmp 17)⟩] [1, 2, 7, 16, 17, 18, 19] []
def view_Puts_c3 : IC := cCond (.tmp 19) cSkip (cExit 0)
def view_Puts_r4 : IC := cReg Try.prog [
    ⟨some 20, none, iMov 20 (.tmp 18) false⟩,
    ⟨some 21, none, iIaS 21 7 (.tmp 16) (.tmp 18)⟩,
    ⟨some 22, none, iLoad 22 7 true (.tmp 21) false⟩,
    ⟨some 9, none, iAlo 9 [vD (.int .i64 0), vD (.int .i64 0), vD (.int .i64 0), vD (.int .i64 0), vD (.bool false), vD (.int .i64 0), vD (.slice none 0 0)]⟩,
    ⟨some 8, none, iMov 8 (.tmp 20) true⟩,
    ⟨none, none, iStor 7 (.tmp 9) (.tmp 22)⟩] [1, 2, 7, 8, 9, 16, 17, 18] [9]
def view_Puts_r5_0 : IC := cReg Try.prog [
    ⟨some 23, none, iFad 23 0 (.tmp 9)⟩,
    ⟨some 24, none, iLoad 24 1 false (.tmp 23) false⟩,
    ⟨some 25, none, iBin 25 .eql (.tmp 24) (.const (.int .i64 2))⟩,
    ⟨some 26, none, iMov 26 (.tmp 25) false⟩,
    ⟨some 27, some (26, true), iFad 27 1 (.tmp 9)⟩,
    ⟨some 28, some (26, true), iLoad 28 1 false (.tmp 27) false⟩,
    ⟨some 29, some (26, true), iMov 29 (.tmp 2) false⟩,
    ⟨some 30, some (26, true), iBin 30 .eql (.tmp 28) (.tmp 29)⟩,
    ⟨some 31, none, iPick 31 (.tmp 26) (.tmp 30) (.const (.bool false))⟩,
    ⟨some 32, none, iMov 32 (.tmp 31) false⟩] [1, 2, 7, 8, 9, 16, 17, 18, 32] [9]
def view_Puts_r5_1 : IC := cReg Try.prog [
    ⟨some 33, some (32, true), iMov 33 (.tmp 1) false⟩,
    ⟨some 34, some (32, true), iMov 34 (.tmp 8) false⟩,
    ⟨some 35, some (32, true), iIaS 35 1 (.tmp 33) (.tmp 34)⟩,
    ⟨some 36, some (32, true), iLoad 36 1 false (.tmp 35) false⟩,
    ⟨some 37, some (32, true), iBin 37 .eql (.tmp 36) (.const (.int .i64 0))⟩,
    ⟨some 38, none, iPick 38 (.tmp 32) (.tmp 37) (.const (.bool false))⟩] [1, 2, 7, 9, 16, 17, 18, 38] [9]
def view_Puts_r5 : IC := (cSeq view_Puts_r5_0 view_Puts_r5_1)
def view_Puts_r6 : IC := cReg Try.prog [
    ⟨some 39, none, iMov 39 (.tmp 7) true⟩,
    ⟨some 40, none, iFad 40 5 (.tmp 9)⟩,
    ⟨some 41, none, iLoad 41 2 true (.tmp 40) false⟩,
    ⟨some 42, none, iCall 42 30 [(.tmp 41)]⟩,
    ⟨some 43, none, iRow 43 25 2 [(.tmp 42)]⟩,
    ⟨some 44, none, iApp 44 25 2 32 (.tmp 39) (.tmp 43)⟩,
    ⟨some 7, none, iMov 7 (.tmp 44) true⟩] [1, 2, 7, 16, 17, 18] []
def view_Puts_c5 : IC := cCond (.tmp 38) view_Puts_r6 cSkip
def view_Puts_b4 : IC := cBlock 1 (cSeq view_Puts_r4 (cSeq view_Puts_r5 view_Puts_c5))
def view_Puts_r7 : IC := cReg Try.prog [
    ⟨some 45, none, iBin 45 .add (.tmp 18) (.const (.int .i64 1))⟩,
    ⟨some 18, none, iMov 18 (.tmp 45) false⟩] [1, 2, 7, 16, 17, 18] []
def view_Puts_l2a : IC := (cSeq view_Puts_r3 (cSeq view_Puts_c3 (cSeq view_Puts_b4 view_Puts_r7)))
def view_Puts_l2 : IC := cLoop view_Puts_l2a
def view_Puts_b1 : IC := cBlock 0 view_Puts_l2
def view_Puts_r8 : IC := cReg Try.prog [
    ⟨some 46, none, iMov 46 (.tmp 7) false⟩,
    ⟨some 6, none, iMov 6 (.tmp 46) true⟩] [6] []
def view_Puts : IC := (cSeq view_Puts_r0 (cSeq view_Puts_r1 (cSeq (cSeq view_Puts_r2 view_Puts_b1) (cSeq view_Puts_r8 cRet))))
theorem told_view_Puts {args r : List D} (hl : args.length = 3) (h : view_Puts (start args) (fin [(6, none)] r)) : Told Try.prog 17 args r :=
  told_of follows Try.func17 rfl (an := [([], [0, 1, 2], [], []), ([], [0, 1, 2, 7], [], []), ([], [1, 2, 7, 16, 17, 18], [], []), ([], [1, 2, 7, 16, 17, 18, 19], [], []), ([], [1, 2, 7, 8, 9, 16, 17, 18], [9], []), ([(10, [1, 2, 7, 8, 9, 16, 17, 18, 32], [9])], [1, 2, 7, 9, 16, 17, 18, 38], [9], []), ([], [1, 2, 7, 16, 17, 18], [], []), ([], [1, 2, 7, 16, 17, 18], [], []), ([], [6], [], [])]) (by kernel_rfl) (by kernel_rfl) (by rw [hl]; decide +kernel) h

end Go.Proofs.Ytngfedhffehkaac.ab

/-
  Functions as plain code (written by wip/abs/ir.py): lkref6.Puts.
-/
namespace Go.Proofs.Ytngfedhffehkaac.ab
set_option linter.unusedSimpArgs false
set_option linter.unusedVariables false
set_option maxRecDepth 100000
open Go Go.RowKit

end Go.Proofs.Ytngfedhffehkaac.ab

/-
  What the answer's Puts tells.
-/
namespace Go.Proofs.Ytngfedhffehkaac.ab
set_option linter.unusedVariables false
set_option linter.unusedSimpArgs false
open Go Go.RowKit
open mth

/-- What was put, as far as one has come. -/
def putsK (l : List Sp) (es : List Int) (t : Int) (k : Nat) : List Ms := (((l.zip es).take k).filter (fun x => x.2 == 0 && (x.1.kind == 2 && x.1.tenant == t))).map (fun x => x.1.msg)
theorem putsK_all (l : List Sp) (es : List Int) (t : Int) : putsK l es t l.length = putsW l es t := by
  unfold putsK putsW
  rw [List.take_of_length_le (by rw [List.length_zip]; omega)]
theorem putsK_at {l : List Sp} {es : List Int} (t : Int) {k : Nat} {s : Sp} {e : Int} (hs : l[k]? = some s) (he : es[k]? = some e) : putsK l es t (k + 1) = putsK l es t k ++ (if e = 0 ∧ s.kind = 2 ∧ s.tenant = t then [s.msg] else []) := by
  have hz : (l.zip es)[k]? = some (s, e) := List.getElem?_zip_eq_some.2 ⟨hs, he⟩
  unfold putsK
  rw [List.take_add_one, hz, Option.toList_some, List.filter_append, List.map_append]
  congr 1
  by_cases h1 : e = 0 ∧ s.kind = 2 ∧ s.tenant = t
  · rw [if_pos h1]; simp [h1]
  · rw [if_neg h1, List.filter_cons_of_neg]
    · rfl
    · simp only [Bool.and_eq_true, beq_iff_eq]; exact h1
theorem at_es {es : List Int} {i : Nat} {x : Int} (h : es[i]? = some x) : (es.map vI)[i]? = some (vI x) := by simp [h]
end Go.Proofs.Ytngfedhffehkaac.ab
