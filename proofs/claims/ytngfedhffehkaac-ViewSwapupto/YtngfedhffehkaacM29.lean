/-
  Several texts in one.
-/
import Derived.Test.YtngfedhffehkaacM28

/-
  The contract of the program's reading of bytes.
-/
namespace Go.Proofs.Ytngfedhffehkaac.leaf
set_option maxRecDepth 10000
set_option linter.unusedSimpArgs false
set_option linter.unusedVariables false
open Go.RowKit
open mth

/-- A slice lies in a block that is no older than base. -/
def FreshS (base : Nat) (a : Option Addr) (c : Nat) : Prop := (∀ p, a = some p → base ≤ p.block ∧ p.spot = none) ∧ c ≤ maxLen
/-- The slices of a chunk do. -/
def Fresh (base : Nat) (v : Value) : Prop := ∃ k0 k1 k2 k3 a1 n1 c1 a2 n2 c2, v = .agg #[k0, k1, k2, k3, .slice a1 n1 c1, .slice a2 n2 c2] ∧ FreshS base a1 c1 ∧ FreshS base a2 c2
theorem fresh_none (base : Nat) : FreshS base none 0 := ⟨fun p h => (by cases h), Nat.zero_le _⟩
theorem fresh_owns {w : World} {base base' e n m c : Nat} {a : Option Addr} {L : List Value} (h : w.ownsRow base e 1 (.slice a m c) n L) (hb : base' ≤ base) : FreshS base' a c := by
  obtain ⟨h1, ⟨h2, h0⟩ | ⟨g, cap, cur, h2, hg, _, _, hm, _⟩⟩ := h
  · injection h2 with h3 _ h4
    subst h3 h4
    exact fresh_none _
  · injection h2 with h3 _ h4
    subst h3 h4
    exact ⟨fun p hp => (by cases hp; exact ⟨Nat.le_trans hb hg, rfl⟩), hm⟩
end Go.Proofs.Ytngfedhffehkaac.leaf

/-
  The contract of the program's reading of bytes, whole.
-/
namespace Go.Proofs.Ytngfedhffehkaac.leaf
set_option maxRecDepth 10000
set_option linter.unusedSimpArgs false
set_option linter.unusedVariables false
open Go.RowKit
open mth

/-- What a chunk is made of, all slices named. -/
theorem Cv.parts {w : World} {v : Value} {c : Ch} (h : Cv w v c) : ∃ a1 n1 c1 a2 n2 c2, v = .agg #[.int .i64 c.kind, .int .i64 c.number, .int .i64 c.stream, .int .i64 c.place, .slice a1 n1 c1, .slice a2 n2 c2] := by
  obtain ⟨dv, ev, rfl, ⟨a1, c1, rfl, -⟩, ⟨a2, c2, rfl, -⟩, -⟩ := h
  exact ⟨_, _, _, _, _, _, rfl⟩

end Go.Proofs.Ytngfedhffehkaac.leaf
