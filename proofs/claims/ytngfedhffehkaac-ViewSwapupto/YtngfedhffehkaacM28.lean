/-
  Several texts in one.
-/
import Derived.Test.YtngfedhffehkaacM27
import Derived.Test.YtngfedhffehkaacM26

/-
  The contract of the program's bytes of a right chunk.
-/
namespace Go.Proofs.Ytngfedhffehkaac.leaf
set_option maxRecDepth 10000
set_option linter.unusedSimpArgs false
set_option linter.unusedVariables false
open Go.RowKit
open mth

end Go.Proofs.Ytngfedhffehkaac.leaf

/-
  The contracts of what the program tells to be wrong with a message or a chunk.
-/
namespace Go.Proofs.Ytngfedhffehkaac.leaf
set_option maxRecDepth 10000
set_option linter.unusedSimpArgs false
set_option linter.unusedVariables false
open Go.RowKit
open mth

end Go.Proofs.Ytngfedhffehkaac.leaf

/-
  The contract of what tells which chunk any bytes are: of data; and whatever they are.
-/
namespace Go.Proofs.Ytngfedhffehkaac.leaf
set_option maxRecDepth 10000
set_option linter.unusedSimpArgs false
set_option linter.unusedVariables false
open Go.RowKit
open mth

theorem one_newB (w : World) (v : Value) : ∀ (j : Nat) (u : Value), [v][j]? = some u → (w.alloc (.cells #[v] 5)).cell? ((⟨w.heap.size, 0, none⟩ : Addr).add j) = some u := by
  intro j u hj
  rw [Addr.add_lit, Nat.zero_add, World.cell?_alloc_mark]
  simpa using hj
theorem one_oneB (y : UInt8) : ∀ u ∈ [B y], u.oneCell' = true := by
  intro u hu
  simp at hu
  subst hu
  rfl
theorem drop_snocB (x : List UInt8) (k : Nat) (y : UInt8) (hy : x[k]? = some y) (h4 : 4 ≤ k) : ((x.drop 4).take (k + 1 - 4)).map B = ((x.drop 4).take (k - 4)).map B ++ [B y] := by
  have e : k + 1 - 4 = (k - 4) + 1 := by omega
  rw [e, List.take_add_one, List.getElem?_drop]
  have : 4 + (k - 4) = k := by omega
  rw [this, hy]
  simp
theorem store_cell' {wr w2 : World} {ev : Value} {g : Nat} {o : Obj} {u : Value} {j : Nat} (hne : ∀ (q : Nat), ev.ownBlock = some q → g < q) (hg : ((wr.alloc o).drew).grownBy w2 ev.ownBlock) (hz : g < wr.heap.size) (h : wr.cell? ⟨g, j, none⟩ = some u) : w2.cell? ⟨g, j, none⟩ = some u := by
  have h1 := hg.cell_far ⟨g, j, none⟩ (by simp; omega) (fun e => by have := hne g e.symm; omega)
  rw [h1]
  have h2 : (wr.alloc o).drew.cell? ⟨g, j, none⟩ = wr.cell? ⟨g, j, none⟩ := World.cell?_of_block (w := wr) (Below.heap_alloc wr o g hz)
  rw [h2, h]
theorem store_free' {wr w2 : World} {ev : Value} {g : Nat} {o : Obj} {j : Nat} (hne : ∀ (q : Nat), ev.ownBlock = some q → g < q) (hg : ((wr.alloc o).drew).grownBy w2 ev.ownBlock) (hz : g < wr.heap.size) (h : wr.frozen? ⟨g, j, none⟩ = false) : w2.frozen? ⟨g, j, none⟩ = false := by
  have h1 := hg.frozen_far ⟨g, j, none⟩ (by simp; omega) (fun e => by have := hne g e.symm; omega)
  rw [h1]
  have h2 : (wr.alloc o).drew.frozen? ⟨g, j, none⟩ = wr.frozen? ⟨g, j, none⟩ := World.frozen?_of_block (w := wr) (Below.heap_alloc wr o g hz)
  rw [h2, h]

theorem len_openL (xs : List UInt8) : (openL xs).length ≤ xs.length := by
  unfold openL; split <;> simp
end Go.Proofs.Ytngfedhffehkaac.leaf
