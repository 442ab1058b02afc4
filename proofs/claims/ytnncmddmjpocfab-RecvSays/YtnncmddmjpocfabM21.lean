/-
  Several texts in one.
-/
import Derived.Test.YtnncmddmjpocfabAbsPack
import Derived.Test.YtnncmddmjpocfabProg

/-
  Plain mathematics for the sum of bytes: the sum, what is sealed, what is opened, and that one byte turned is found. Nothing of the program.
-/
namespace Go.Proofs.Ytnncmddmjpocfab.mth
set_option linter.unusedSimpArgs false
set_option linter.unusedVariables false

def step (s : Int) (x : UInt8) : Int := (s * 139 + (x.toNat : Int) + 1) % 65521
def sumFrom (s : Int) (l : List UInt8) : Int := l.foldl step s
def sumL (l : List UInt8) : Int := sumFrom 7 l
def hiB (s : Int) : UInt8 := UInt8.ofNat (s / 256).toNat
def loB (s : Int) : UInt8 := UInt8.ofNat (s % 256).toNat
def sealL (l : List UInt8) : List UInt8 := l ++ [hiB (sumL l), loB (sumL l)]
def okL (l : List UInt8) : Bool := decide (2 ≤ l.length) && (sealL (l.take (l.length - 2)) == l)
theorem step_bd (s : Int) (x : UInt8) : 0 ≤ step s x ∧ step s x < 65521 := by
  unfold step; omega
theorem sumFrom_bd (l : List UInt8) : ∀ s, 0 ≤ s ∧ s < 65521 → 0 ≤ sumFrom s l ∧ sumFrom s l < 65521 := by
  induction l with
  | nil => intro s h; exact h
  | cons x l ih => intro s _; exact ih _ (step_bd s x)
theorem sumL_bd (l : List UInt8) : 0 ≤ sumL l ∧ sumL l < 65521 := sumFrom_bd l 7 (by omega)
theorem length_sealL (l : List UInt8) : (sealL l).length = l.length + 2 := by simp [sealL]

theorem step_inj {s t : Int} {x : UInt8} (hs : 0 ≤ s ∧ s < 65521) (ht : 0 ≤ t ∧ t < 65521) (h : step s x = step t x) : s = t := by
  unfold step at h; omega
theorem step_byte {s : Int} {x y : UInt8} (h : step s x = step s y) : x = y := by
  have hx := x.toNat_lt
  have hy := y.toNat_lt
  unfold step at h
  apply UInt8.toNat_inj.1
  omega
theorem sumFrom_inj (l : List UInt8) : ∀ {s t : Int}, 0 ≤ s ∧ s < 65521 → 0 ≤ t ∧ t < 65521 → sumFrom s l = sumFrom t l → s = t := by
  induction l with
  | nil => intro s t _ _ h; exact h
  | cons x l ih =>
    intro s t hs ht h
    exact step_inj hs ht (ih (step_bd s x) (step_bd t x) h)

/-- ONE BYTE TURNED, AHEAD OF THE SUM: another sum. -/
theorem sum_turned (a b : List UInt8) (x y : UInt8) (h : sumL (a ++ x :: b) = sumL (a ++ y :: b)) : x = y := by
  have h' : sumFrom (step (sumL a) x) b = sumFrom (step (sumL a) y) b := by
    simpa [sumL, sumFrom] using h
  exact step_byte (sumFrom_inj b (step_bd _ _) (step_bd _ _) h')

theorem hiB_toNat {s : Int} (h : 0 ≤ s ∧ s < 65521) : ((hiB s).toNat : Int) = s / 256 := by
  unfold hiB
  rw [UInt8.toNat_ofNat']
  omega
theorem loB_toNat {s : Int} (h : 0 ≤ s ∧ s < 65521) : ((loB s).toNat : Int) = s % 256 := by
  unfold loB
  rw [UInt8.toNat_ofNat']
  omega
theorem bytes_of {s t : Int} (hs : 0 ≤ s ∧ s < 65521) (ht : 0 ≤ t ∧ t < 65521) (h1 : hiB s = hiB t) (h2 : loB s = loB t) : s = t := by
  have a := hiB_toNat hs
  have b := hiB_toNat ht
  have c := loB_toNat hs
  have d := loB_toNat ht
  rw [h1] at a
  rw [h2] at c
  omega

/-- ONE BYTE TURNED IS FOUND. -/
theorem turned (l : List UInt8) (k : Nat) (c : UInt8) (hk : k < (sealL l).length) (hne : (sealL l)[k] ≠ c) : okL ((sealL l).set k c) = false := by
  rw [Bool.eq_false_iff]
  intro h
  rw [length_sealL] at hk
  have hl : ((sealL l).set k c).length = l.length + 2 := by simp [length_sealL]
  simp only [okL, Bool.and_eq_true, decide_eq_true_eq, beq_iff_eq] at h
  obtain ⟨-, h⟩ := h
  rw [hl] at h
  have e0 : l.length + 2 - 2 = l.length := by omega
  rw [e0] at h
  by_cases hk2 : k < l.length
  · have e1 : ((sealL l).set k c).take l.length = l.set k c := by
      rw [List.take_set]; simp [sealL]
    have e2 : (sealL l).set k c = l.set k c ++ [hiB (sumL l), loB (sumL l)] := by
      unfold sealL; rw [List.set_append_left _ _ hk2]
    rw [e1, e2] at h
    unfold sealL at h
    have h' := List.append_cancel_left h
    simp at h'
    have hs := bytes_of (sumL_bd _) (sumL_bd _) h'.1 h'.2
    have hx : (sealL l)[k] = l[k] := by simp [sealL, List.getElem_append_left hk2]
    rw [hx] at hne
    have d1 : l = l.take k ++ l[k] :: l.drop (k + 1) := by simp
    have d2 : l.set k c = l.take k ++ c :: l.drop (k + 1) := by rw [List.set_eq_take_append_cons_drop]; simp [hk2]
    rw [d2] at hs
    have hs' : sumL (l.take k ++ c :: l.drop (k + 1)) = sumL (l.take k ++ l[k] :: l.drop (k + 1)) := by rw [hs, ← d1]
    exact hne (sum_turned _ _ _ _ hs').symm
  · have e1 : ((sealL l).set k c).take l.length = l := by
      rw [List.take_set]
      rw [List.set_eq_of_length_le (by simp [sealL]; omega)]
      simp [sealL]
    rw [e1] at h
    have : ((sealL l).set k c)[k]'(by rw [hl]; exact hk) = (sealL l)[k] := by
      simp only [← h]
    simp at this
    exact hne this.symm

end Go.Proofs.Ytnncmddmjpocfab.mth

/-
  Plain mathematics for chunks: what is wrong with one, its bytes, and what any bytes are. Nothing of the program.
-/
namespace Go.Proofs.Ytnncmddmjpocfab.mth
set_option linter.unusedSimpArgs false

structure Ch where
  kind : Int
  number : Int
  stream : Int
  place : Int
  data : List UInt8
  early : List Int

def wrongMsgL (s : Int) (d : List UInt8) : Int := if s < 0 ∨ 2 < s then 3 else if 6 < d.length then 4 else 0
def risesL : Int → List Int → Bool
  | _, [] => true
  | low, n :: r => decide (low < n) && (decide (n ≤ 39) && risesL n r)
def wrongL (c : Ch) : Int :=
  if c.kind ≠ 1 ∧ c.kind ≠ 2 then 1
  else if c.number < 0 ∨ 40 < c.number then 3
  else if c.kind = 1 then
    if 39 < c.number ∨ c.place < 0 ∨ c.number < c.place then 3
    else if c.early.length ≠ 0 then 5
    else wrongMsgL c.stream c.data
  else if c.stream ≠ 0 ∨ c.place ≠ 0 then 3
  else if c.data.length ≠ 0 ∨ 3 < c.early.length then 5
  else if risesL c.number c.early = true then 0 else 3

theorem wrongL_one (number stream place : Int) (data : List UInt8) (early : List Int) : wrongL ⟨1, number, stream, place, data, early⟩ =
    if number < 0 ∨ 40 < number then 3 else if 39 < number ∨ place < 0 ∨ number < place then 3 else if early.length ≠ 0 then 5 else wrongMsgL stream data := by
  simp [wrongL]
theorem rises_drop (low : Int) (l : List Int) (k : Nat) (x : Int) (h : l[k]? = some x) : risesL low (l.drop k) = (decide (low < x) && (decide (x ≤ 39) && risesL x (l.drop (k + 1)))) := by
  obtain ⟨hk, hx⟩ := List.getElem?_eq_some_iff.1 h
  rw [List.drop_eq_getElem_cons hk, hx]
  rfl
end Go.Proofs.Ytnncmddmjpocfab.mth

/-
  Plain mathematics: what any bytes are. Nothing of the program.
-/
namespace Go.Proofs.Ytnncmddmjpocfab.mth
set_option linter.unusedSimpArgs false
def zeroC : Ch := ⟨0, 0, 0, 0, [], []⟩
end Go.Proofs.Ytnncmddmjpocfab.mth

/-
  Plain mathematics for chunks: there, and back; what is unlike looks unlike; a spoilt one is none. Nothing of the program.
-/
namespace Go.Proofs.Ytnncmddmjpocfab.mth
set_option linter.unusedSimpArgs false

end Go.Proofs.Ytnncmddmjpocfab.mth

/-
  Plain mathematics for messages as texts. Nothing of the program.
-/
namespace Go.Proofs.Ytnncmddmjpocfab.mth
set_option linter.unusedSimpArgs false

structure Ms where
  stream : Int
  data : List UInt8

end Go.Proofs.Ytnncmddmjpocfab.mth

/-
  Messages and chunks, as plain data.
-/
namespace Go.Proofs.Ytnncmddmjpocfab.ab
set_option linter.unusedSimpArgs false
set_option linter.unusedVariables false
open Go mth

abbrev vI (n : Int) : D := vD (.int .i64 n)
def encMs (m : Ms) : List D := [vI m.stream, sD 1 (m.data.map encB)]
def encCh (c : Ch) : List D := [vI c.kind, vI c.number, vI c.stream, vI c.place, sD 1 (c.data.map encB), sD 1 (c.early.map vI)]
/-- Lists of them. -/
def encMl (l : List Ms) : List D := l.map fun m => aD (encMs m)
def encCl (l : List Ch) : List D := l.map fun c => aD (encCh c)
theorem len_ml (l : List Ms) : (encMl l).length = l.length := by simp [encMl]
theorem at_ml {l : List Ms} {i : Nat} {m : Ms} (h : l[i]? = some m) : (encMl l)[i]? = some (aD [vI m.stream, sD 1 (m.data.map encB)]) := by
  simp [encMl, h, encMs]
end Go.Proofs.Ytnncmddmjpocfab.ab

/-
  The program follows what Go leaves open.
-/
namespace Go.Proofs.Ytnncmddmjpocfab.ab
set_option linter.unusedSimpArgs false
open Go
theorem follows : Try.prog.follows .mixedOrders = true := by kernel_rfl
end Go.Proofs.Ytnncmddmjpocfab.ab
