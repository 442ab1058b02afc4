/-
  The contracts of what tells what is wrong with a message or a chunk.
-/
import Derived.Test.YtlomffhofionnaaDoorData
import Derived.Test.YtlomffhofionnaaDoorPure
namespace Go.Proofs.YtlomffhofionnaaDoor.leaf
set_option linter.unusedVariables false
open Go.RowKit
open mth

theorem ite3 (s : Int) (d : List UInt8) (n : Int) (h : n = if s < 0 ∨ 2 < s then 3 else if 6 < d.length then 4 else 0) : Ending.returned (.int .i64 n) = .returned (.int .i64 (wrongMsgL s d)) := by
  rw [h]; rfl

set_option maxHeartbeats 1000000 in
theorem refWrongMsg_any (s : Int) (dv : Value) (d : List UInt8) (w : World) (hd : Bs w dv d) (hm : d.length ≤ maxLen) :
    Calls Tryd.prog 8 #[.agg #[.int .i64 s, dv]] w fun e w' => e = .returned (.int .i64 (wrongMsgL s d)) ∧ Below w.heap.size w w' := by
  obtain ⟨a, cap, rfl, -⟩ := hd
  unfold maxLen at hm
  go_enter Tryd.func8, Tryd.ntmps8
  go_wp2
  all_goals
    go_ret
    exact ⟨ite3 s d _ (by repeat' split
                          all_goals omega), (Below.refl _ _).alloc (Nat.le_refl _) _⟩

/-- The chunk value v holds c. -/
def Cv (w : World) (v : Value) (c : Ch) : Prop :=
  ∃ dv ev, v = .agg #[.int .i64 c.kind, .int .i64 c.number, .int .i64 c.stream, .int .i64 c.place, dv, ev] ∧ Bs w dv c.data ∧ Is w ev c.early ∧ c.data.length ≤ maxLen ∧ I64 c.kind ∧ I64 c.number ∧ I64 c.stream ∧ I64 c.place

theorem Cv.later {w w' : World} {v : Value} {c : Ch} (h : Cv w v c) (hb : Below w.heap.size w w') : Cv w' v c := by
  obtain ⟨dv, ev, rfl, h1, h2, r⟩ := h
  exact ⟨dv, ev, rfl, h1.later hb, h2.later hb, r⟩

theorem ret_eq {r n : Int} (h : n = r) : Ending.returned (.int .i64 n) = .returned (.int .i64 r) := by rw [h]

end Go.Proofs.YtlomffhofionnaaDoor.leaf
