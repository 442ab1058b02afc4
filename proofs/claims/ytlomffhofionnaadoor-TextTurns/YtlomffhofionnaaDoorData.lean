/-
  Lists of numbers, messages and chunks as the model holds them.
-/
import Derived.Test.YtlomffhofionnaaDoorRefOpen
namespace Go.Proofs.YtlomffhofionnaaDoor.leaf
set_option linter.unusedVariables false
open Go.RowKit
open mth

/-- A number that an int holds. -/
def I64 (n : Int) : Prop := -9223372036854775808 ≤ n ∧ n ≤ 9223372036854775807
/-- The slice value v holds the numbers xs. -/
def Is (w : World) (v : Value) (xs : List Int) : Prop :=
  ∃ (a : Option Addr) (cap : Nat), v = .slice a xs.length cap ∧ xs.length ≤ cap ∧ (a = none → cap = 0) ∧ (∀ i, i < xs.length → ∃ x, a = some x ∧ w.cell? (x.add i) = some (.int .i64 (xs.getD i 0))) ∧ (∀ n ∈ xs, I64 n) ∧ cap ≤ maxLen

theorem Is.later {w w' : World} {v : Value} {xs : List Int} (h : Is w v xs) (hb : Below w.heap.size w w') : Is w' v xs := by
  obtain ⟨a, cap, rfl, hlc, hno, hc, hn, hm⟩ := h
  refine ⟨a, cap, rfl, hlc, hno, fun i hi => ?_, hn, hm⟩
  obtain ⟨x, rfl, hcc⟩ := hc i hi
  exact ⟨x, rfl, (hb.cell (World.block_lt_of_cell? w _ hcc)).trans hcc⟩
theorem Is.drewN {w : World} {v : Value} {xs : List Int} (h : Is w v xs) (n : Nat) : Is (w.drewN n) v xs := h
theorem Is.shape {w : World} {v : Value} {xs : List Int} (h : Is w v xs) : ∃ a cap, v = .slice a xs.length cap ∧ xs.length ≤ cap ∧ cap ≤ maxLen := by
  obtain ⟨a, cap, rfl, hlc, _, _, _, hm⟩ := h; exact ⟨a, cap, rfl, hlc, hm⟩
theorem Is_nil (w : World) : Is w (.slice none 0 0) [] := ⟨none, 0, rfl, Nat.le_refl _, fun _ => rfl, fun i hi => by simp at hi, by simp, Nat.zero_le _⟩
theorem Is.num {w : World} {v : Value} {xs : List Int} (h : Is w v xs) : ∀ n ∈ xs, I64 n := by
  obtain ⟨a, cap, rfl, _, _, _, hn, _⟩ := h; exact hn
/-- One number of it. -/
theorem Is.at {w : World} {a : Option Addr} {n cap : Nat} {xs : List Int} (h : Is w (.slice a n cap) xs) (hp : xs.length ≠ 0) : ∃ b off, a = some ⟨b, off, none⟩ ∧ ∀ j x, xs[j]? = some x → w.cell? ⟨b, off + j, none⟩ = some (.int .i64 x) := by
  obtain ⟨a', cap', he, hlc, hno, hc, hn, hm⟩ := h
  injection he with h1 _ h2
  subst h1 h2
  obtain ⟨x, rfl, hc0⟩ := hc 0 (by omega)
  obtain ⟨b, off, spot⟩ := x
  have hspot : spot = none := by simpa [Addr.add] using World.cell?_spot hc0
  subst hspot
  refine ⟨b, off, rfl, fun j y hy => ?_⟩
  have hj : j < xs.length := (List.getElem?_eq_some_iff.1 hy).1
  obtain ⟨x', hx', hcc⟩ := hc j hj
  simp at hx'
  subst hx'
  rw [Addr.add_lit] at hcc
  rw [hcc]
  simp [List.getD, hy]

theorem take_both {α : Type} {xs ys : List α} {k : Nat} {x : α} (h : xs.take k = ys.take k) (hx : xs[k]? = some x) (hy : ys[k]? = some x) : xs.take (k + 1) = ys.take (k + 1) := by
  rw [List.take_add_one, List.take_add_one, h, hx, hy]
theorem some_at {α : Type} {xs : List α} {k : Nat} (h : k < xs.length) : ∃ x, xs[k]? = some x := ⟨xs[k], List.getElem?_eq_getElem h⟩

end Go.Proofs.YtlomffhofionnaaDoor.leaf
