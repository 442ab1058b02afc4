/-
  Several texts in one.
-/
import Derived.Test.YtnncmddmjpocfabAbsPack
import Derived.Test.YtnncmddmjpocfabProg

/-
  Plain mathematics for the sum of bytes: the sum, what is sealed, what is opened, and that one byte turned is found. Nothing of the program.
-/
namespace Go.Proofs.Ytnncmddmjpocfab.mth
set_option linter.unusedSimpArgs false
set_option linter.unusedVariables false

def step (s : Int) (x : UInt8) : Int := (s * 139 + (x.toNat : Int) + 1) % 65521
end Go.Proofs.Ytnncmddmjpocfab.mth

/-
  Plain mathematics for chunks: what is wrong with one, its bytes, and what any bytes are. Nothing of the program.
-/
namespace Go.Proofs.Ytnncmddmjpocfab.mth
set_option linter.unusedSimpArgs false

structure Ch where
  kind : Int
  number : Int
  stream : Int
  place : Int
  data : List UInt8
  early : List Int

def sameC (a b : Ch) : Bool := a.kind == b.kind && (a.number == b.number && (a.stream == b.stream && (a.place == b.place && (a.data == b.data && a.early == b.early))))
theorem sameC_iff (a b : Ch) : sameC a b = true ↔ a = b := by
  cases a; cases b
  simp [sameC]

def wrongMsgL (s : Int) (d : List UInt8) : Int := if s < 0 ∨ 2 < s then 3 else if 6 < d.length then 4 else 0
def risesL : Int → List Int → Bool
  | _, [] => true
  | low, n :: r => decide (low < n) && (decide (n ≤ 39) && risesL n r)
def wrongL (c : Ch) : Int :=
  if c.kind ≠ 1 ∧ c.kind ≠ 2 then 1
  else if c.number < 0 ∨ 40 < c.number then 3
  else if c.kind = 1 then
    if 39 < c.number ∨ c.place < 0 ∨ c.number < c.place then 3
    else if c.early.length ≠ 0 then 5
    else wrongMsgL c.stream c.data
  else if c.stream ≠ 0 ∨ c.place ≠ 0 then 3
  else if c.data.length ≠ 0 ∨ 3 < c.early.length then 5
  else if risesL c.number c.early = true then 0 else 3

theorem wrongL_one (number stream place : Int) (data : List UInt8) (early : List Int) : wrongL ⟨1, number, stream, place, data, early⟩ =
    if number < 0 ∨ 40 < number then 3 else if 39 < number ∨ place < 0 ∨ number < place then 3 else if early.length ≠ 0 then 5 else wrongMsgL stream data := by
  simp [wrongL]
theorem rises_drop (low : Int) (l : List Int) (k : Nat) (x : Int) (h : l[k]? = some x) : risesL low (l.drop k) = (decide (low < x) && (decide (x ≤ 39) && risesL x (l.drop (k + 1)))) := by
  obtain ⟨hk, hx⟩ := List.getElem?_eq_some_iff.1 h
  rw [List.drop_eq_getElem_cons hk, hx]
  rfl
end Go.Proofs.Ytnncmddmjpocfab.mth

/-
  Plain mathematics: what any bytes are. Nothing of the program.
-/
namespace Go.Proofs.Ytnncmddmjpocfab.mth
set_option linter.unusedSimpArgs false
def zeroC : Ch := ⟨0, 0, 0, 0, [], []⟩
end Go.Proofs.Ytnncmddmjpocfab.mth

/-
  Plain mathematics for chunks: there, and back; what is unlike looks unlike; a spoilt one is none. Nothing of the program.
-/
namespace Go.Proofs.Ytnncmddmjpocfab.mth
set_option linter.unusedSimpArgs false

end Go.Proofs.Ytnncmddmjpocfab.mth

/-
  Plain mathematics for messages as texts. Nothing of the program.
-/
namespace Go.Proofs.Ytnncmddmjpocfab.mth
set_option linter.unusedSimpArgs false

structure Ms where
  stream : Int
  data : List UInt8

def sameM (a b : Ms) : Bool := a.stream == b.stream && a.data == b.data
theorem sameM_iff (a b : Ms) : sameM a b = true ↔ a = b := by
  cases a; cases b; simp [sameM]

end Go.Proofs.Ytnncmddmjpocfab.mth

/-
  Messages and chunks, as plain data.
-/
namespace Go.Proofs.Ytnncmddmjpocfab.ab
set_option linter.unusedSimpArgs false
set_option linter.unusedVariables false
open Go mth

abbrev vI (n : Int) : D := vD (.int .i64 n)
def encMs (m : Ms) : List D := [vI m.stream, sD 1 (m.data.map encB)]
def encCh (c : Ch) : List D := [vI c.kind, vI c.number, vI c.stream, vI c.place, sD 1 (c.data.map encB), sD 1 (c.early.map vI)]
/-- Lists of them. -/
def encMl (l : List Ms) : List D := l.map fun m => aD (encMs m)
def encCl (l : List Ch) : List D := l.map fun c => aD (encCh c)
theorem len_ml (l : List Ms) : (encMl l).length = l.length := by simp [encMl]
theorem at_ml {l : List Ms} {i : Nat} {m : Ms} (h : l[i]? = some m) : (encMl l)[i]? = some (aD [vI m.stream, sD 1 (m.data.map encB)]) := by
  simp [encMl, h, encMs]
end Go.Proofs.Ytnncmddmjpocfab.ab

/-
  The program follows what Go leaves open.
-/
namespace Go.Proofs.Ytnncmddmjpocfab.ab
set_option linter.unusedSimpArgs false
open Go
theorem follows : Try.prog.follows .mixedOrders = true := by kernel_rfl
end Go.Proofs.Ytnncmddmjpocfab.ab
