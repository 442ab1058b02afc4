/-
  The row of ChunkTells, where what comes in is of bulk at most 1048576, out of what the functions of chapter 2 are held to.
-/
import Derived.Test.YtlomffhofionnaaRows
import Derived.Test.YtlomffhofionnaaCTells
import Derived.Test.YtlomffhofionnaaArgsChunk
import Derived.WalkKit
import Derived.ProofKit
import Derived.OpenShut
import Derived.JoinedCond
import Derived.Below
namespace Go.Proofs.Ytlomffhofionnaa.chunkTells
open Go.ChangeShapes Go.WideShapes Go.ChangeAt Go.RowKit
set_option linter.unusedVariables false
open leaf mth

theorem own : ownKnob Try.prog.godebug = none := by kernel_rfl
theorem laidOut : laidOutB Try.prog = true := by kernel_rfl

theorem walk (hO : COwn 21 1048600) (hM : CWrongMsg 18) (hW : CWrong 16) (hB : CBytes 24) (hR : CRead 22 1048600) (v0 v1 : Value) (c : Ch) (ms : Int) (mv : Value) (md : List UInt8) (b : Option Addr) (len cap : Nat) (xs : List UInt8) (w : World) (hC : Cv w v0 c) (hv1 : v1 = .agg #[.int .i64 ms, mv]) (hms : I64 ms) (hmd : Bs w mv md) (hml : md.length ≤ maxLen) (hX : Bs w (.slice b len cap) xs)
    (h1 : c.data.length ≤ 1048576) (h2 : c.early.length ≤ 1048576) (h3 : xs.length ≤ 1048576) :
    Calls Try.prog 5 #[v0, v1, .slice b len cap] w fun e w' => e = .returned (.bool true) ∧ Below w.heap.size w w' := by
  subst hv1
  obtain ⟨d1, d2, d3, e1, e2, e3, rfl⟩ := hC.form
  have hmd' := hmd
  obtain ⟨m1, m3, rfl, -⟩ := hmd'
  obtain rfl : len = xs.length := by obtain ⟨a', c', he, -⟩ := hX; injection he
  by_cases h0 : wrongL c = 0
  · exact ctells_r 1048600 (by omega) hO hM hW hB hR c d1 d2 d3 e1 e2 e3 ms m1 _ m3 md b cap xs w hC hmd hml hms hX (by omega) (by omega) (by omega) h0 (by simpa using h0)
  · exact ctells_w 1048600 (by omega) hO hM hW hB hR c d1 d2 d3 e1 e2 e3 ms m1 _ m3 md b cap xs w hC hmd hml hms hX (by omega) (by omega) (by omega) (by simpa using h0)

set_option maxRecDepth 100000 in
theorem lifted (hO : COwn 21 1048600) (hM : CWrongMsg 18) (hW : CWrong 16) (hB : CBytes 24) (hR : CRead 22 1048600) (os : Os) (started : os.Started) (H : Type) (enc : TypeId × Value → H) (F : Stop.Interp) :
    ReturnsInHanded {} Try.checked os 5 .any ((Rows.OpenSpec.upto Rows.chunkTellsSpec).pre6 enc Try.prog Try.f5 Rows.chunkTellsUptoRow.domain false) (((Rows.OpenSpec.upto Rows.chunkTellsSpec).at F).post enc Try.prog Try.f5 false true false false) := by
  refine returnsInHanded_of_cond (C := Try.checked) (s := Rows.OpenSpec.upto Rows.chunkTellsSpec) (k := Rows.uptoSmall) rfl own started (by kernel_rfl) Try.func5
    (OpenSpec.witness (enc := enc) (C := Try.checked) (s := Rows.OpenSpec.upto Rows.chunkTellsSpec) (k := Rows.uptoSmall) rfl false ⟨#[], #[.agg #[.int .i64 0, .int .i64 0, .int .i64 0, .int .i64 0, .slice none 0 0, .slice none 0 0], .agg #[.int .i64 0, .slice none 0 0], .slice none 0 0], []⟩ 8 (by kernel_rfl) (by kernel_rfl) (by kernel_rfl)
      (x := ([.agg [.lit (.int .i64 0), .lit (.int .i64 0), .lit (.int .i64 0), .lit (.int .i64 0), .nil, .nil], .agg [.lit (.int .i64 0), .nil], .nil], [], [])) (by kernel_rfl) rfl (by kernel_rfl)) ?_
  intro W base args ds gs before hval0 hW0 _ hk _
  have hval : ∀ (j : Nat) t v, Try.f5.params[j]? = some t → args[j]? = some v → Value.okWide Try.prog W .any base t v := hval0
  have hW' := hW0
  obtain ⟨p, q, hA0, hV, rfl, hfz, hnd⟩ := hW0
  have hA : DataW.TrodAll enc Try.prog W 0 (fun _ => true) true Try.f5.params.toList args.toList ds p := hA0
  rw [Try.params5] at hA hval
  obtain ⟨v0, vs0, d0, ds0, p0, q0, hargs, rfl, rfl, h0, r0⟩ := trodAll_cons hA
  obtain ⟨v1, vs1, d1, ds1, p1, q1, rfl, rfl, rfl, h1, r1⟩ := trodAll_cons r0
  obtain ⟨v2, vs2, d2, ds2, p2, q2, rfl, rfl, rfl, h2, r2⟩ := trodAll_cons r1
  obtain ⟨rfl, rfl, rfl⟩ := trodAll_nil r2
  obtain rfl : args = #[v0, v1, v2] := by cases args; simp_all
  obtain ⟨rfl, rfl⟩ := trodVars_none hV
  have lt0 : ∀ x ∈ p0, x.block < W.heap.size := by obtain ⟨m, hm⟩ := h0; exact DataW.trod_lt m _ _ _ hm
  have lt1 : ∀ x ∈ p1, x.block < W.heap.size := by obtain ⟨m, hm⟩ := h1; exact DataW.trod_lt m _ _ _ hm
  have lt2 : ∀ x ∈ p2, x.block < W.heap.size := by obtain ⟨m, hm⟩ := h2; exact DataW.trod_lt m _ _ _ hm
  obtain ⟨c, hC, hc1, hc2⟩ := chunk_in (hval 0 32 v0 rfl rfl) h0
  obtain ⟨ms, mv, md, hv1, hms, hmd, hml, _⟩ := msg_in (hval 1 34 v1 rfl rfl) h1
  obtain ⟨a2, len2, cap2, rfl⟩ := okWide_slice Try.underlying22 (hval 2 22 v2 rfl rfl)
  obtain ⟨xs, hX, _, hx⟩ : ∃ xs : List UInt8, Bs W (.slice a2 len2 cap2) xs ∧ xs.length ≤ maxLen ∧ xs.length ≤ Rows.uptoBulk d2 := by
    obtain ⟨fuel, hf⟩ := h2
    exact bytes_cell (by simpa [Value.cells] using hf)
  have hbd : Rows.uptoBulkAll ([d0, d1, d2] ++ []) ≤ 1048576 := of_decide_eq_true hk
  simp only [List.append_nil, Rows.uptoBulkAll] at hbd
  clear hA0 hval0
  refine (walk hO hM hW hB hR v0 v1 c ms mv md a2 len2 cap2 xs W hC hv1 hms hmd hml hX (by omega) (by omega) (by omega)).mono fun e W' ⟨he, bel⟩ => ?_
  subst he
  exact ⟨_, rfl, _, _, _, [], _, [], hW', trodAll_mk1 (shut_bool Try.underlying4 _), (trodAll_cons_mk (Below.trod laidOut (by kernel_rfl) (of_decide_eq_true (by kernel_rfl)) h0 bel lt0) (trodAll_cons_mk (Below.trod laidOut (by kernel_rfl) (of_decide_eq_true (by kernel_rfl)) h1 bel lt1) (trodAll_cons_mk (Below.trod laidOut (by kernel_rfl) (of_decide_eq_true (by kernel_rfl)) h2 bel lt2) trodAll_mk0))), rfl, bel.frame _, fun h => by cases h⟩

theorem over (hO : COwn 21 1048600) (hM : CWrongMsg 18) (hW : CWrong 16) (hB : CBytes 24) (hR : CRead 22 1048600) : Rows.chunkTellsUptoRow.holds Try.pinned (Rows.OpenSpec.upto Rows.chunkTellsSpec) :=
  OpenClaim.holds_of_cond 5 Try.f5 rfl rfl rfl rfl rfl rfl rfl ⟨rfl, rfl, rfl, rfl, rfl⟩ rfl rfl rfl rfl rfl (by kernel_rfl) Try.func5 (by kernel_rfl)
    (of_decide_eq_true (by kernel_rfl)) (by unfold Func.isWrapper; first | (rw [if_pos (by decide +kernel)]; kernel_rfl) | (rw [if_neg (by decide +kernel)]; exact ⟨rfl, rfl⟩))
    (fun os started H enc _ F => lifted hO hM hW hB hR os started H enc F)
end Go.Proofs.Ytlomffhofionnaa.chunkTells
