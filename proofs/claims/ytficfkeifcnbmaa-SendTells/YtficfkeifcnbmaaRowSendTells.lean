/-
  The row of SendTells out of what the functions of package send are held to.
-/
import Derived.Test.YtficfkeifcnbmaaM28
import Derived.Test.YtficfkeifcnbmaaM28
import Derived.Test.YtficfkeifcnbmaaASTells
import Derived.ChangeOld
import Derived.SizedLaws
namespace Go.Proofs.Ytficfkeifcnbmaa.sendTells
open Go Go.ChangeShapes Go.WideShapes Go.ChangeAt Go.RowKit
set_option linter.unusedVariables false
open ab mth

set_option maxRecDepth 100000 in
theorem lifted (hO : COwnS 44) (hP : CPutS 41) (hS : CSayS 45) (hH : CHearS 47) (os : Os) (started : os.Started) (H : Type) (enc : TypeId × Value → H) :
    ReturnsInHanded {} Try.checked os 11 .any (Rows.sendTellsSpec.pre6 enc Try.prog Try.f11 Rows.sendTellsRow.domain false) (Rows.sendTellsSpec.post enc Try.prog Try.f11 false true false false) := by
  refine returnsInHanded_of_change_sized (C := Try.checked) own started (by kernel_rfl) Try.func11
    (ChangeSpec.witness6 (enc := enc) (C := Try.checked) false ⟨#[], #[.slice none 0 0, .slice none 0 0, .agg #[.int .i64 0, .slice none 0 0], .agg #[.int .i64 0, .int .i64 0, .int .i64 0, .int .i64 0, .slice none 0 0, .slice none 0 0]], []⟩ 8 (by kernel_rfl) (by kernel_rfl) (by kernel_rfl) (by kernel_rfl)) ?_
  intro W base args ds gs before hval0 hW0 hcnd hsz0 _
  have hval : ∀ (j : Nat) t v, Try.f11.params[j]? = some t → args[j]? = some v → Value.okWide Try.prog W .any base t v := hval0
  have hW' := hW0
  obtain ⟨p, q, hA0, hV, rfl, hfz, hnd⟩ := hW0
  have hA : DataW.TrodAll enc Try.prog W 0 (fun _ => true) true Try.f11.params.toList args.toList ds p := hA0
  rw [Try.params11] at hA hval
  obtain ⟨v0, vs0, d0, ds0, p0, q0, hargs, rfl, rfl, h0, r0⟩ := trodAll_cons hA
  obtain ⟨v1, vs1, d1, ds1, p1, q1, rfl, rfl, rfl, h1, r1⟩ := trodAll_cons r0
  obtain ⟨v2, vs2, d2, ds2, p2, q2, rfl, rfl, rfl, h2, r2⟩ := trodAll_cons r1
  obtain ⟨v3, vs3, d3, ds3, p3, q3, rfl, rfl, rfl, h3, r3⟩ := trodAll_cons r2
  obtain ⟨rfl, rfl, rfl⟩ := trodAll_nil r3
  obtain rfl : args = #[v0, v1, v2, v3] := by cases args; simp_all
  obtain ⟨rfl, rfl⟩ := trodVars_none hV
  have lt0 : ∀ x ∈ p0, x.block < W.heap.size := by obtain ⟨m, hm⟩ := h0; exact DataW.trod_lt m _ _ _ hm
  obtain ⟨a0, len0, cap0, rfl⟩ := okWide_slice Try.underlying46 (hval 0 46 v0 rfl rfl)
  obtain ⟨x0, hM0, _, _⟩ := (by obtain ⟨fuel, hf⟩ := h0; exact in_msgs hf : ∃ ms : List Ms, CRep (AllOf W) W (sD 2 (encMl ms)) (.slice a0 len0 cap0) ∧ ms.length ≤ Rows.uptoBulk d0 ∧ ∀ m ∈ ms, inR .i64 m.stream = true)
  have hl0 := hM0.len
  rw [len_ml] at hl0
  have lt1 : ∀ x ∈ p1, x.block < W.heap.size := by obtain ⟨m, hm⟩ := h1; exact DataW.trod_lt m _ _ _ hm
  obtain ⟨a1, len1, cap1, rfl⟩ := okWide_slice Try.underlying30 (hval 1 30 v1 rfl rfl)
  obtain ⟨x1, hM1, _, _⟩ := (by obtain ⟨fuel, hf⟩ := h1; exact in_ints hf : ∃ ms : List Int, CRep (AllOf W) W (sD 1 (ms.map vI)) (.slice a1 len1 cap1) ∧ ms.length ≤ Rows.uptoBulk d1 ∧ ∀ m ∈ ms, inR .i64 m = true)
  have hl1 := hM1.len
  rw [List.length_map] at hl1
  have lt2 : ∀ x ∈ p2, x.block < W.heap.size := by obtain ⟨m, hm⟩ := h2; exact DataW.trod_lt m _ _ _ hm
  obtain ⟨x2, hM2, hl2⟩ := arg_msg (hval 2 34 v2 rfl rfl) h2
  have lt3 : ∀ x ∈ p3, x.block < W.heap.size := by obtain ⟨m, hm⟩ := h3; exact DataW.trod_lt m _ _ _ hm
  obtain ⟨x3, hM3, hl3⟩ := arg_chunk (hval 3 32 v3 rfl rfl) h3
  clear hA0 hval0
  refine ((sendTells_told hO hP hS hH x0 x1 x2 x3 hl0 hl1 hl3).yes (W := W) (vs := [.slice a0 len0 cap0, .slice a1 len1 cap1, v2, v3]) (Vals.cons (.inl hM0) (Vals.cons (.inl hM1) (Vals.cons hM2 (Vals.cons hM3 Vals.nil))))).mono fun e W' ⟨he, bel⟩ => ?_
  subst he
  exact ⟨_, rfl, _, _, _, [], _, [], hW', trodAll_mk1 (shut_bool Try.underlying4 _), (trodAll_cons_mk (Below.trod laidOut (by kernel_rfl) (of_decide_eq_true (by kernel_rfl)) h0 bel lt0) (trodAll_cons_mk (Below.trod laidOut (by kernel_rfl) (of_decide_eq_true (by kernel_rfl)) h1 bel lt1) (trodAll_cons_mk (Below.trod laidOut (by kernel_rfl) (of_decide_eq_true (by kernel_rfl)) h2 bel lt2) (trodAll_cons_mk (Below.trod laidOut (by kernel_rfl) (of_decide_eq_true (by kernel_rfl)) h3 bel lt3) trodAll_mk0)))), rfl, bel.frame _, fun h => by cases h⟩

theorem over (hO : COwnS 44) (hP : CPutS 41) (hS : CSayS 45) (hH : CHearS 47) : Rows.sendTellsRow.holds Try.pinned (OpenSpec.ofChange Rows.sendTellsSpec) :=
  OpenClaim.holds_of_wide 11 Try.f11 rfl rfl rfl rfl rfl rfl rfl ⟨rfl, rfl, rfl, rfl, rfl⟩ rfl rfl rfl rfl rfl (by kernel_rfl) Try.func11 (by kernel_rfl)
    (of_decide_eq_true (by kernel_rfl)) (by unfold Func.isWrapper; first | (rw [if_pos (by decide +kernel)]; kernel_rfl) | (rw [if_neg (by decide +kernel)]; exact ⟨rfl, rfl⟩))
    (fun os started H enc _ => lifted hO hP hS hH os started H enc)
end Go.Proofs.Ytficfkeifcnbmaa.sendTells
