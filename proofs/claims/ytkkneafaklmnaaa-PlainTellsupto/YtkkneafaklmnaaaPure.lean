/-
  Plain mathematics for chunks: what is wrong with one, its bytes, and what any bytes are. Nothing of the program.
-/
import Derived.Test.YtkkneafaklmnaaaMath
namespace Go.Proofs.Ytkkneafaklmnaaa.mth

structure Ch where
  kind : Int
  number : Int
  stream : Int
  place : Int
  data : List UInt8
  early : List Int

def sameC (a b : Ch) : Bool := a.kind == b.kind && (a.number == b.number && (a.stream == b.stream && (a.place == b.place && (a.data == b.data && a.early == b.early))))
theorem sameC_iff (a b : Ch) : sameC a b = true ↔ a = b := by
  cases a; cases b
  simp [sameC]

def wrongMsgL (s : Int) (d : List UInt8) : Int := if s < 0 ∨ 2 < s then 3 else if 6 < d.length then 4 else 0
def risesL : Int → List Int → Bool
  | _, [] => true
  | low, n :: r => decide (low < n) && (decide (n ≤ 39) && risesL n r)
def wrongL (c : Ch) : Int :=
  if c.kind ≠ 1 ∧ c.kind ≠ 2 then 1
  else if c.number < 0 ∨ 40 < c.number then 3
  else if c.kind = 1 then
    if 39 < c.number ∨ c.place < 0 ∨ c.number < c.place then 3
    else if c.early.length ≠ 0 then 5
    else wrongMsgL c.stream c.data
  else if c.stream ≠ 0 ∨ c.place ≠ 0 then 3
  else if c.data.length ≠ 0 ∨ 3 < c.early.length then 5
  else if risesL c.number c.early = true then 0 else 3

theorem wrongL_one (number stream place : Int) (data : List UInt8) (early : List Int) : wrongL ⟨1, number, stream, place, data, early⟩ =
    if number < 0 ∨ 40 < number then 3 else if 39 < number ∨ place < 0 ∨ number < place then 3 else if early.length ≠ 0 then 5 else wrongMsgL stream data := by
  simp [wrongL]
theorem wrongL_two (number stream place : Int) (data : List UInt8) (early : List Int) : wrongL ⟨2, number, stream, place, data, early⟩ =
    if number < 0 ∨ 40 < number then 3 else if stream ≠ 0 ∨ place ≠ 0 then 3 else if data.length ≠ 0 ∨ 3 < early.length then 5 else if risesL number early = true then 0 else 3 := by
  simp [wrongL]
theorem wrongL_kind (c : Ch) (h1 : c.kind ≠ 1) (h2 : c.kind ≠ 2) : wrongL c = 1 := by
  simp [wrongL, h1, h2]
theorem rises_drop (low : Int) (l : List Int) (k : Nat) (x : Int) (h : l[k]? = some x) : risesL low (l.drop k) = (decide (low < x) && (decide (x ≤ 39) && risesL x (l.drop (k + 1)))) := by
  obtain ⟨hk, hx⟩ := List.getElem?_eq_some_iff.1 h
  rw [List.drop_eq_getElem_cons hk, hx]
  rfl
def b8 (n : Int) : UInt8 := UInt8.ofNat n.toNat
theorem b8_toNat {n : Int} (h : 0 ≤ n ∧ n ≤ 255) : ((b8 n).toNat : Int) = n := by
  unfold b8; rw [UInt8.toNat_ofNat']; omega
def bodyL (c : Ch) : List UInt8 := if c.kind = 1 then [b8 c.kind, b8 c.number, b8 c.stream, b8 c.place] ++ c.data else [b8 c.kind, b8 c.number] ++ c.early.map b8
theorem rises_mem : ∀ (l : List Int) (low : Int), risesL low l = true → ∀ x ∈ l, low < x ∧ x ≤ 39
  | [], _, _, x, hx => by simp at hx
  | n :: r, low, h, x, hx => by
    simp only [risesL, Bool.and_eq_true, decide_eq_true_eq] at h
    rcases List.mem_cons.1 hx with rfl | hx
    · exact ⟨h.1, h.2.1⟩
    · have := rises_mem r n h.2.2 x hx
      omega
/-- The two kinds of right chunks. -/
theorem right_cases (c : Ch) (h : wrongL c = 0) :
    (c.kind = 1 ∧ (0 ≤ c.number ∧ c.number ≤ 39) ∧ (0 ≤ c.place ∧ c.place ≤ c.number) ∧ (0 ≤ c.stream ∧ c.stream ≤ 2) ∧ c.data.length ≤ 6 ∧ c.early = []) ∨
    (c.kind = 2 ∧ (0 ≤ c.number ∧ c.number ≤ 40) ∧ c.stream = 0 ∧ c.place = 0 ∧ c.data = [] ∧ c.early.length ≤ 3 ∧ risesL c.number c.early = true) := by
  obtain ⟨kind, number, stream, place, data, early⟩ := c
  by_cases h1 : kind = 1
  · subst h1
    rw [wrongL_one] at h
    left
    unfold wrongMsgL at h
    repeat' split at h
    all_goals first | omega | skip
    rename_i a1 a2 a3 a4 a5
    exact ⟨rfl, by simp only; omega, by simp only; omega, by simp only; omega, by simp only; omega, List.eq_nil_of_length_eq_zero (by simpa using a3)⟩
  · by_cases h2 : kind = 2
    · subst h2
      rw [wrongL_two] at h
      right
      repeat' split at h
      all_goals first | omega | skip
      rename_i a1 a2 a3 a4
      exact ⟨rfl, by simp only; omega, by simp only; omega, by simp only; omega, List.eq_nil_of_length_eq_zero (by simp only; omega), by simp only; omega, a4⟩
    · rw [wrongL_kind _ h1 h2] at h
      omega
end Go.Proofs.Ytkkneafaklmnaaa.mth
