/-
  Several texts in one.
-/
import Derived.Test.YtnncmddmjpocfabM30

/-
  What the answer's RecvHear tells: the loops in which what waits is told.
-/
namespace Go.Proofs.Ytnncmddmjpocfab.ab
set_option linter.unusedVariables false
set_option linter.unusedSimpArgs false
open Go Go.RowKit
open mth

end Go.Proofs.Ytnncmddmjpocfab.ab

/-
  What the answer's RecvHear, RecvSay and SameReceiver tell.
-/
namespace Go.Proofs.Ytnncmddmjpocfab.ab
set_option linter.unusedVariables false
set_option linter.unusedSimpArgs false
open Go Go.RowKit
open mth

theorem le_loop {a : IC} {st st' : St} {Q : AX → St → Prop} (h : Le st st') (hl : cLoop a st' Q) : cLoop a st Q := by
  obtain ⟨J, ⟨n0, st0, h0, hJ⟩, h'⟩ := hl
  exact ⟨J, ⟨n0, st0, h.trans h0, hJ⟩, h'⟩
end Go.Proofs.Ytnncmddmjpocfab.ab
