/-
  The contract of the answer's function that opens what is sealed.
-/
import Derived.Test.YtlomffhofionnaaDoorOpen
import Derived.Deep.RegionWith
import Derived.BigRegion
namespace Go.Proofs.YtlomffhofionnaaDoor.leaf
set_option linter.unusedVariables false
open Go.RowKit
open mth

/-- 'string(b)'. -/
theorem conv_run {w : World} {v : Value} {xs : List UInt8} (h : Bs w v xs) : (convert 22 9 v).run Tryd.prog w = .ok (.string ⟨xs.toArray⟩) w := by
  obtain ⟨a, cap, rfl, hlc, hno, hc⟩ := h
  cases a with
  | none =>
    obtain rfl : xs = [] := List.eq_nil_of_length_eq_zero (by have := hno rfl; omega)
    rw [run_convert_bytes_string w 22 9 5 none _ cap Tryd.underlying22 Tryd.underlying5 Tryd.underlying9]
    rfl
  | some ad =>
    refine run_convert_bytes_back w 22 9 5 ad cap xs Tryd.underlying22 Tryd.underlying5 Tryd.underlying9 fun j hj => ?_
    obtain ⟨x, hx, hcc⟩ := hc j hj
    simp at hx
    subst hx
    simpa [List.getD, hj] using hcc

theorem ok_eq (ys : List UInt8) (x y : UInt8) : okL (ys ++ [x, y]) = (sealL ys == ys ++ [x, y]) := by
  simp [okL]

end Go.Proofs.YtlomffhofionnaaDoor.leaf
