/-
  The contracts of the two functions that sum bytes.
-/
import Derived.Test.YtlomffhofionnaaDoorChecked
import Derived.Test.YtlomffhofionnaaDoorMath
import Derived.WalkKit
import Derived.ProofKit
import Derived.WalkSpells
namespace Go.Proofs.YtlomffhofionnaaDoor.leaf
set_option linter.unusedVariables false
open Go.RowKit
open mth

/-- A byte as the model's cell. -/
def B (x : UInt8) : Value := .int .u8 (x.toNat : Int)
/-- The slice value v holds the bytes xs. -/
def Bs (w : World) (v : Value) (xs : List UInt8) : Prop :=
  ∃ (a : Option Addr) (cap : Nat), v = .slice a xs.length cap ∧ xs.length ≤ cap ∧ (a = none → cap = 0) ∧ ∀ i, i < xs.length → ∃ x, a = some x ∧ w.cell? (x.add i) = some (.int .u8 ((xs.getD i 0).toNat : Int))

theorem ret_int {k : IntKind} {a b : Int} (h : a = b) : Ending.returned (.int k a) = .returned (.int k b) := by rw [h]

theorem take_snoc (xs : List UInt8) (k : Nat) (h : k < xs.length) : sumL (xs.take (k + 1)) = (sumL (xs.take k) * 139 + ((xs[k].toNat : Nat) : Int) + 1) % 65521 := by
  rw [List.take_succ_eq_append_getElem h, sumL_snoc]; rfl

theorem take_snoc' (xs : List UInt8) (k : Nat) (h : k < xs.length) : sumL (xs.take (k + 1)) = (139 * sumL (xs.take k) + ((xs[k].toNat : Nat) : Int) + 1) % 65521 := by
  rw [take_snoc xs k h, Int.mul_comm]

end Go.Proofs.YtlomffhofionnaaDoor.leaf
