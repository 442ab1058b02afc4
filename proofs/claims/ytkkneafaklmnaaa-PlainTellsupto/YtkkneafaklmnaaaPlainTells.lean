/- PlainTells, where what comes in is of bulk at most 1048576: Same, Of, Fits and All of package plain answer as the document's answer does, of any right messages told and put, and of any stream; of wrong messages nothing is asked. -/
import Derived.Test.YtkkneafaklmnaaaRowD
import Derived.Test.YtkkneafaklmnaaaAPTells
namespace Go.Proofs.Ytkkneafaklmnaaa.plainTells
open Go Go.ChangeShapes Go.WideShapes Go.RowKit
set_option linter.unusedVariables false
open ab mth

set_option maxRecDepth 100000 in
theorem lifted (os : Os) (started : os.Started) (H : Type) (enc : TypeId × Value → H) (F : Stop.Interp) :
    ReturnsInHanded {} Try.checked os 9 .any ((Rows.OpenSpec.upto Rows.plainTellsSpec).pre6 enc Try.prog Try.f9 Rows.plainTellsUptoRow.domain false) (((Rows.OpenSpec.upto Rows.plainTellsSpec).at F).post enc Try.prog Try.f9 false true false false) := by
  refine returnsInHanded_of_cond (C := Try.checked) (s := Rows.OpenSpec.upto Rows.plainTellsSpec) (k := Rows.uptoSmall) rfl own started (by kernel_rfl) Try.func9
    (OpenSpec.witness (enc := enc) (C := Try.checked) (s := Rows.OpenSpec.upto Rows.plainTellsSpec) (k := Rows.uptoSmall) rfl false ⟨#[], #[.slice none 0 0, .slice none 0 0, .int .i64 0], []⟩ 8 (by kernel_rfl) (by kernel_rfl) (by kernel_rfl)
      (x := ([.nil, .nil, .lit (.int .i64 0)], [], [])) (by kernel_rfl) rfl (by kernel_rfl)) ?_
  intro W base args ds gs before hval0 hW0 _ hk _
  have hval : ∀ (j : Nat) t v, Try.f9.params[j]? = some t → args[j]? = some v → Value.okWide Try.prog W .any base t v := hval0
  have hW' := hW0
  obtain ⟨p, q, hA0, hV, rfl, hfz, hnd⟩ := hW0
  have hA : DataW.TrodAll enc Try.prog W 0 (fun _ => true) true Try.f9.params.toList args.toList ds p := hA0
  rw [Try.params9] at hA hval
  obtain ⟨v0, vs0, d0, ds0, p0, q0, hargs, rfl, rfl, h0, r0⟩ := trodAll_cons hA
  obtain ⟨v1, vs1, d1, ds1, p1, q1, rfl, rfl, rfl, h1, r1⟩ := trodAll_cons r0
  obtain ⟨v2, vs2, d2, ds2, p2, q2, rfl, rfl, rfl, h2, r2⟩ := trodAll_cons r1
  obtain ⟨rfl, rfl, rfl⟩ := trodAll_nil r2
  obtain rfl : args = #[v0, v1, v2] := by cases args; simp_all
  obtain ⟨rfl, rfl⟩ := trodVars_none hV
  have lt0 : ∀ x ∈ p0, x.block < W.heap.size := by obtain ⟨m, hm⟩ := h0; exact DataW.trod_lt m _ _ _ hm
  have lt1 : ∀ x ∈ p1, x.block < W.heap.size := by obtain ⟨m, hm⟩ := h1; exact DataW.trod_lt m _ _ _ hm
  obtain ⟨a0, len0, cap0, rfl⟩ := okWide_slice Try.underlying46 (hval 0 46 v0 rfl rfl)
  obtain ⟨a1, len1, cap1, rfl⟩ := okWide_slice Try.underlying46 (hval 1 46 v1 rfl rfl)
  obtain ⟨told, hM0, hb0, _⟩ := (by obtain ⟨fuel, hf⟩ := h0; exact in_msgs hf : ∃ ms : List Ms, CRep (AllOf W) W (sD 2 (encMl ms)) (.slice a0 len0 cap0) ∧ ms.length ≤ Rows.uptoBulk d0 ∧ ∀ m ∈ ms, inR .i64 m.stream = true)
  obtain ⟨put, hM1, hb1, _⟩ := (by obtain ⟨fuel, hf⟩ := h1; exact in_msgs hf : ∃ ms : List Ms, CRep (AllOf W) W (sD 2 (encMl ms)) (.slice a1 len1 cap1) ∧ ms.length ≤ Rows.uptoBulk d1 ∧ ∀ m ∈ ms, inR .i64 m.stream = true)
  obtain ⟨a2, rfl, rfl, rfl, w2⟩ := open_int Try.underlying3 (hval 2 3 v2 rfl rfl) h2
  have hbd : Rows.uptoBulkAll ([d0, d1, .lit (.int .i64 a2)] ++ []) ≤ 1048576 := of_decide_eq_true hk
  simp only [List.append_nil, Rows.uptoBulkAll] at hbd
  clear hA0 hval0
  refine ((ptells_told told put a2 (by omega) (by omega)).yes (W := W) (vs := [.slice a0 len0 cap0, .slice a1 len1 cap1, .int .i64 a2]) (Vals.cons (.inl hM0) (Vals.cons (.inl hM1) (Vals.cons (.inl (CRep.v rfl)) Vals.nil)))).mono fun e W' ⟨he, bel⟩ => ?_
  subst he
  exact ⟨_, rfl, _, _, _, [], _, [], hW', trodAll_mk1 (shut_bool Try.underlying4 _), (trodAll_cons_mk (Below.trod laidOut (by kernel_rfl) (of_decide_eq_true (by kernel_rfl)) h0 bel lt0) (trodAll_cons_mk (Below.trod laidOut (by kernel_rfl) (of_decide_eq_true (by kernel_rfl)) h1 bel lt1) (trodAll_cons_mk (shut_int Try.underlying3 w2) trodAll_mk0))), rfl, bel.frame _, fun h => by cases h⟩
end Go.Proofs.Ytkkneafaklmnaaa.plainTells
namespace Go.Proofs.Ytkkneafaklmnaaa
theorem plainTells_holds : Rows.PlainTellsUptoSaid :=
  OpenClaim.holds_of_cond 9 Try.f9 rfl rfl rfl rfl rfl rfl rfl ⟨rfl, rfl, rfl, rfl, rfl⟩ rfl rfl rfl rfl rfl (by kernel_rfl) Try.func9 (by kernel_rfl)
    (of_decide_eq_true (by kernel_rfl)) (by unfold Func.isWrapper; first | (rw [if_pos (by decide +kernel)]; kernel_rfl) | (rw [if_neg (by decide +kernel)]; exact ⟨rfl, rfl⟩))
    (fun os started H enc _ F => plainTells.lifted os started H enc F)
#print axioms plainTells_holds
end Go.Proofs.Ytkkneafaklmnaaa
