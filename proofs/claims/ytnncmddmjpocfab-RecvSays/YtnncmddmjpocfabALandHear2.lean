/-
  What the library's IndexFunc and DeleteFunc tell of chunks in flight; what the landed Hear tells.
-/
import Derived.Test.YtnncmddmjpocfabM44
namespace Go.Proofs.Ytnncmddmjpocfab.ab
set_option linter.unusedVariables false
set_option linter.unusedSimpArgs false
open Go Go.RowKit
open mth

structure DlOk (l arr : List Ch) (c : Ch) (i j : Nat) : Prop where
  len : arr.length = l.length
  le : j ≤ l.length
  lt : i < j
  front : arr.take i = (l.take j).filter (fun x => !goneP c x)
  back : arr.drop j = l.drop j
theorem DlOk.kept {l arr : List Ch} {c x : Ch} {i j : Nat} (h : DlOk l arr c i j) (hx : l[j]? = some x) (hp : goneP c x = false) : DlOk l (arr.set i x) c (i + 1) (j + 1) := by
  have hj : j < l.length := (List.getElem?_eq_some_iff.1 hx).1
  have hi := h.lt
  refine ⟨by rw [List.length_set, h.len], by omega, by omega, ?_, ?_⟩
  · rw [List.take_add_one (l := l), hx, List.filter_append, ← h.front]
    rw [List.take_add_one, List.getElem?_set_self (by rw [h.len]; omega), List.take_set_of_le (Nat.le_refl _)]
    simp [hp]
  · rw [List.drop_set_of_lt (by omega)]
    have := congrArg List.tail h.back
    simpa using this

end Go.Proofs.Ytnncmddmjpocfab.ab
