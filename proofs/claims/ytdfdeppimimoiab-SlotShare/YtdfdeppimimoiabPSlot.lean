/-
  Whose the line is: plain mathematics. Nothing of the program.
-/
import Derived.WalkKit
namespace Go.Proofs.Ytdfdeppimimoiab.mth
set_option linter.unusedSimpArgs false
set_option linter.unusedVariables false

/-- How many ticks it is till the line is a tenant's. -/
def aheadP (tick n tenant : Int) : Int := (tenant - tick % n + n) % n
/-- How often the line is a tenant's. -/
def turnsP (tick many n tenant : Int) : Nat := if many ≤ aheadP tick n tenant then 0 else ((many - aheadP tick n tenant - 1) / n + 1).toNat
/-- The ticks that are a tenant's. -/
def mineP (tick many n tenant : Int) : List Int := (List.range (turnsP tick many n tenant)).map fun (i : Nat) => tick + aheadP tick n tenant + (i : Int) * n
theorem mineP_len (tick many n tenant : Int) : (mineP tick many n tenant).length = turnsP tick many n tenant := by simp [mineP]
theorem mineP_at {tick many n tenant : Int} {k : Nat} (h : k < turnsP tick many n tenant) : (mineP tick many n tenant)[k]? = some (tick + aheadP tick n tenant + (k : Int) * n) := by
  simp [mineP, h]
theorem ahead_ok {tick n tenant : Int} (hn : n = 1 ∨ n = 2 ∨ n = 3) : 0 ≤ aheadP tick n tenant ∧ aheadP tick n tenant < n := by
  unfold aheadP; rcases hn with rfl | rfl | rfl <;> omega
theorem turns_le {tick many n tenant : Int} (hn : n = 1 ∨ n = 2 ∨ n = 3) (hm : 0 ≤ many) : (turnsP tick many n tenant : Int) ≤ many := by
  have := ahead_ok (tick := tick) (tenant := tenant) hn
  unfold turnsP; split
  · simpa using hm
  · rcases hn with rfl | rfl | rfl <;> omega
theorem turns_lt {tick many n tenant : Int} (hn : n = 1 ∨ n = 2 ∨ n = 3) {k : Nat} : k < turnsP tick many n tenant ↔ aheadP tick n tenant + (k : Int) * n < many := by
  have := ahead_ok (tick := tick) (tenant := tenant) hn
  unfold turnsP; split
  · rcases hn with rfl | rfl | rfl <;> omega
  · rcases hn with rfl | rfl | rfl <;> omega
theorem turns_one {tick n tenant : Int} (hn : n = 1 ∨ n = 2 ∨ n = 3) : turnsP tick n n tenant = 1 := by
  have := ahead_ok (tick := tick) (tenant := tenant) hn
  unfold turnsP; rw [if_neg (by omega)]; rcases hn with rfl | rfl | rfl <;> omega
theorem turns_share {tick many n tenant : Int} (hn : n = 1 ∨ n = 2 ∨ n = 3) (hm : 0 ≤ many) : many / n ≤ (turnsP tick many n tenant : Int) ∧ (turnsP tick many n tenant : Int) ≤ many / n + 1 := by
  have := ahead_ok (tick := tick) (tenant := tenant) hn
  unfold turnsP; split
  · rcases hn with rfl | rfl | rfl <;> omega
  · rcases hn with rfl | rfl | rfl <;> omega

/-- At tick t, k of the tenant's ticks are behind. -/
structure Behind (tick many n tenant t : Int) (k : Nat) : Prop where
  lo : tick ≤ t
  hi : t ≤ tick + many
  ahead : t ≤ tick + aheadP tick n tenant + (k : Int) * n
  last : k = 0 ∨ tick + aheadP tick n tenant + ((k : Int) - 1) * n < t
theorem Behind.start {tick many n tenant : Int} (hn : n = 1 ∨ n = 2 ∨ n = 3) (hm : 0 ≤ many) : Behind tick many n tenant tick 0 := by
  have := ahead_ok (tick := tick) (tenant := tenant) hn
  exact ⟨by omega, by omega, by simp; omega, .inl rfl⟩
end Go.Proofs.Ytdfdeppimimoiab.mth
