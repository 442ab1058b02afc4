import Derived.Test.YtdfdeppimimoiabM20
import Derived.Test.YtdfdeppimimoiabProg
import Derived.Test.YtdfdeppimimoiabM34
import Derived.Test.YtdfdeppimimoiabM31
namespace Go.Proofs.Ytdfdeppimimoiab.ab
set_option linter.unusedSimpArgs false
set_option linter.unusedVariables false
set_option maxRecDepth 100000
open Go Go.RowKit
end Go.Proofs.Ytdfdeppimimoiab.ab
namespace Go.Proofs.Ytdfdeppimimoiab.ab
set_option linter.unusedVariables false
set_option linter.unusedSimpArgs false
open Go Go.RowKit
open mth
theorem refSame_told {s : Sd} (h : GoodS s) : Told Try.prog 17 [aD (encSd s),aD (encSd s)] [vB true] :=
 sameSd_told s (by have:=h.q; omega) (by have:=h.f; omega) (fun c hc => by rw [h.early c hc]; simp)
end Go.Proofs.Ytdfdeppimimoiab.ab
namespace Go.Proofs.Ytdfdeppimimoiab.ab
set_option linter.unusedSimpArgs false
set_option linter.unusedVariables false
set_option maxRecDepth 100000
open Go Go.RowKit
end Go.Proofs.Ytdfdeppimimoiab.ab
