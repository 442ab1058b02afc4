/-
  The contracts of what the program tells to be wrong with a message or a chunk.
-/
import Derived.Test.YtlomffhofionnaaDoorWrong
namespace Go.Proofs.YtlomffhofionnaaDoor.leaf
set_option linter.unusedVariables false
open Go.RowKit
open mth

set_option maxHeartbeats 1000000 in
theorem landWrongMsg_any (s : Int) (dv : Value) (d : List UInt8) (w : World) (hd : Bs w dv d) (hm : d.length ≤ maxLen) :
    Calls Tryd.prog 13 #[.agg #[.int .i64 s, dv]] w fun e w' => e = .returned (.int .i64 (wrongMsgL s d)) ∧ Below w.heap.size w w' := by
  obtain ⟨a, cap, rfl, -⟩ := hd
  unfold maxLen at hm
  go_enter Tryd.func13, Tryd.ntmps13
  go_wp2
  all_goals
    go_ret
    exact ⟨ite3 s d _ (by repeat' split
                          all_goals omega), (Below.refl _ _).alloc (Nat.le_refl _) _⟩

end Go.Proofs.YtlomffhofionnaaDoor.leaf
