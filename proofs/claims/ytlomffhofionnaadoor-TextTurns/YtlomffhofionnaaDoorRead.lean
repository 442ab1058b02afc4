/-
  The contract of what tells which chunk any bytes are.
-/
import Derived.Test.YtlomffhofionnaaDoorWrong
import Derived.Test.YtlomffhofionnaaDoorPureRead
import Derived.Deep.AppendLies
import Derived.Deep.RegionLaw
namespace Go.Proofs.YtlomffhofionnaaDoor.leaf
set_option linter.unusedVariables false
open Go.RowKit
open mth

theorem Cv_zero (w : World) : Cv w (.agg #[.int .i64 0, .int .i64 0, .int .i64 0, .int .i64 0, .slice none 0 0, .slice none 0 0]) zeroC :=
  ⟨_, _, rfl, Bs_nil w, Is_nil w, by simp [zeroC], by simp [I64, zeroC], by simp [I64, zeroC], by simp [I64, zeroC], by simp [I64, zeroC]⟩

/-- What was there is there still, and may be written still. -/
theorem bcell {W w1 : World} (hb : Below W.heap.size W w1) : (∀ b o, b < W.heap.size → w1.cell? ⟨b, o, none⟩ = W.cell? ⟨b, o, none⟩) ∧ (∀ b o, b < W.heap.size → w1.frozen? ⟨b, o, none⟩ = W.frozen? ⟨b, o, none⟩) :=
  ⟨fun b o h => hb.cell (p := ⟨b, o, none⟩) h, fun b o h => hb.frozen (p := ⟨b, o, none⟩) h⟩

end Go.Proofs.YtlomffhofionnaaDoor.leaf
