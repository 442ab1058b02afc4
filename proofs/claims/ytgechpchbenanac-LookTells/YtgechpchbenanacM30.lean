/-
  Several texts in one.
-/
import Derived.Test.YtgechpchbenanacIrChunk
import Derived.Test.YtgechpchbenanacM26
import Derived.Test.YtgechpchbenanacM28
import Derived.Test.YtgechpchbenanacM25

/-
  What the landed functions tell that say what is wrong with a chunk.
-/
namespace Go.Proofs.Ytgechpchbenanac.ab
set_option linter.unusedVariables false
set_option linter.unusedSimpArgs false
open Go Go.RowKit
open mth

theorem at_is {l : List Int} {i : Nat} {x : Int} (h : l[i]? = some x) : (l.map vI)[i]? = some (vI x) := by simp [h]
end Go.Proofs.Ytgechpchbenanac.ab

/-
  What the landed functions tell that make bytes of a chunk, and read them.
-/
namespace Go.Proofs.Ytgechpchbenanac.ab
set_option linter.unusedVariables false
set_option linter.unusedSimpArgs false
open Go Go.RowKit
open mth

theorem at_bs {x : List UInt8} {i : Nat} (h : i < x.length) : (x.map encB)[i]? = some (vD (.int .u8 ((x.getD i 0).toNat : Int))) := by
  rw [List.getElem?_map, List.getElem?_eq_getElem h, List.getD_eq_getElem?_getD, List.getElem?_eq_getElem h]
  rfl
theorem u8_lt (x : UInt8) : (0 : Int) ≤ (x.toNat : Int) ∧ (x.toNat : Int) ≤ 255 := by have := x.toNat_lt; omega
theorem wrap_64 {n : Int} (h : 0 ≤ n ∧ n ≤ 255) : IntKind.i64.wrap n = n := by rw [IntKind.wrap_i64]; omega
theorem wrap_8 {n : Int} (h : 0 ≤ n ∧ n ≤ 255) : IntKind.u8.wrap n = n := by
  show n % 256 = n
  omega
end Go.Proofs.Ytgechpchbenanac.ab
