/-
  Several texts in one.
-/
import Derived.Test.YtngfedhffehkaacM23
import Derived.Test.YtngfedhffehkaacProg
import Derived.Test.YtngfedhffehkaacM41
import Derived.Test.YtngfedhffehkaacIrLandSend
import Derived.Test.YtngfedhffehkaacM46
import Derived.Test.YtngfedhffehkaacM20

/-
  Functions as plain code (written by wip/abs/ir.py): chunk.WrongMsg.
-/
namespace Go.Proofs.Ytngfedhffehkaac.ab
set_option linter.unusedSimpArgs false
set_option linter.unusedVariables false
set_option maxRecDepth 100000
open Go Go.RowKit

end Go.Proofs.Ytngfedhffehkaac.ab

/-
  What the functions of package send are held to.
-/
namespace Go.Proofs.Ytngfedhffehkaac.ab
set_option linter.unusedSimpArgs false
set_option linter.unusedVariables false
open Go Go.RowKit
open mth

/- What the functions of package send are held to: number f of the program. -/
end Go.Proofs.Ytngfedhffehkaac.ab

/-
  What the landed package send tells: messages that are put, what is said.
-/
namespace Go.Proofs.Ytngfedhffehkaac.ab
set_option linter.unusedVariables false
set_option linter.unusedSimpArgs false
open Go Go.RowKit
open mth

theorem good_small {s : Sd} (h : GoodS s) : SmallS s := by
  refine ⟨by have := h.q; omega, fun m hm => ?_, by have := h.f; omega, fun c hc => ⟨?_, ?_⟩⟩
  · have := h.m m hm
    unfold wrongMsgL at this
    split at this
    · cases this
    · split at this
      · cases this
      · omega
  · have := (h.c c hc).2.1
    unfold wrongL at this
    split at this
    · cases this
    · split at this
      · cases this
      · split at this
        · split at this
          · cases this
          · split at this
            · cases this
            · unfold wrongMsgL at this
              split at this
              · cases this
              · split at this
                · cases this
                · omega
        · have := (h.c c hc).1; omega
  · rw [h.early c hc]; simp
end Go.Proofs.Ytngfedhffehkaac.ab

/-
  Functions, as plain data, that are handed several rows, or hand out some. Nothing of the program.
-/
namespace Go.Proofs.Ytngfedhffehkaac.ab
set_option linter.unusedSimpArgs false
set_option linter.unusedVariables false
open Go Go.RowKit

section
variable {P : Program}
theorem ToldX.of {f : FuncId} {args r : List D} (h : Told P f args r) : ToldX P f args [] r [] := by
  intro w I vs v hv hlt hv0 _ _
  refine (h w I vs hv hlt).mono fun x w' ⟨v', hx, h1, h2⟩ => ⟨v', _, hx, fun b j hi => ⟨.inl hi, h2.cell (p := ⟨b, j, none⟩) (hlt b j hi)⟩, fun b j hi => hi.elim .inl (fun q => .inr ⟨.inl q.1, q.2⟩), h1, (fun x hx => by cases hx), (fun x hx => by cases hx), ⟨h2.os, h2.tape, h2.output, h2.size, fun k hk => h2.block k hk.1⟩⟩
end
end Go.Proofs.Ytngfedhffehkaac.ab
