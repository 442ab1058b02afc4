/-
  Plain mathematics for the sum of bytes: the sum, what is sealed, what is opened, and that one byte turned is found. Nothing of the program.
-/
namespace Go.Proofs.Ytkkneafaklmnaaa.mth
set_option linter.unusedVariables false

def step (s : Int) (x : UInt8) : Int := (s * 139 + (x.toNat : Int) + 1) % 65521
def sumFrom (s : Int) (l : List UInt8) : Int := l.foldl step s
def sumL (l : List UInt8) : Int := sumFrom 7 l
def hiB (s : Int) : UInt8 := UInt8.ofNat (s / 256).toNat
def loB (s : Int) : UInt8 := UInt8.ofNat (s % 256).toNat
def sealL (l : List UInt8) : List UInt8 := l ++ [hiB (sumL l), loB (sumL l)]
def okL (l : List UInt8) : Bool := decide (2 ≤ l.length) && (sealL (l.take (l.length - 2)) == l)
def openL (l : List UInt8) : List UInt8 := if okL l = true then l.take (l.length - 2) else []

theorem step_bd (s : Int) (x : UInt8) : 0 ≤ step s x ∧ step s x < 65521 := by
  unfold step; omega
theorem sumFrom_bd (l : List UInt8) : ∀ s, 0 ≤ s ∧ s < 65521 → 0 ≤ sumFrom s l ∧ sumFrom s l < 65521 := by
  induction l with
  | nil => intro s h; exact h
  | cons x l ih => intro s _; exact ih _ (step_bd s x)
theorem sumL_bd (l : List UInt8) : 0 ≤ sumL l ∧ sumL l < 65521 := sumFrom_bd l 7 (by omega)
theorem sumFrom_append (s : Int) (a b : List UInt8) : sumFrom s (a ++ b) = sumFrom (sumFrom s a) b := by simp [sumFrom]
theorem sumL_snoc (l : List UInt8) (x : UInt8) : sumL (l ++ [x]) = step (sumL l) x := by simp [sumL, sumFrom]
theorem length_sealL (l : List UInt8) : (sealL l).length = l.length + 2 := by simp [sealL]

theorem step_inj {s t : Int} {x : UInt8} (hs : 0 ≤ s ∧ s < 65521) (ht : 0 ≤ t ∧ t < 65521) (h : step s x = step t x) : s = t := by
  unfold step at h; omega
theorem step_byte {s : Int} {x y : UInt8} (h : step s x = step s y) : x = y := by
  have hx := x.toNat_lt
  have hy := y.toNat_lt
  unfold step at h
  apply UInt8.toNat_inj.1
  omega
theorem sumFrom_inj (l : List UInt8) : ∀ {s t : Int}, 0 ≤ s ∧ s < 65521 → 0 ≤ t ∧ t < 65521 → sumFrom s l = sumFrom t l → s = t := by
  induction l with
  | nil => intro s t _ _ h; exact h
  | cons x l ih =>
    intro s t hs ht h
    exact step_inj hs ht (ih (step_bd s x) (step_bd t x) h)

/-- ONE BYTE TURNED, AHEAD OF THE SUM: another sum. -/
theorem sum_turned (a b : List UInt8) (x y : UInt8) (h : sumL (a ++ x :: b) = sumL (a ++ y :: b)) : x = y := by
  have h' : sumFrom (step (sumL a) x) b = sumFrom (step (sumL a) y) b := by
    simpa [sumL, sumFrom] using h
  exact step_byte (sumFrom_inj b (step_bd _ _) (step_bd _ _) h')

theorem hiB_toNat {s : Int} (h : 0 ≤ s ∧ s < 65521) : ((hiB s).toNat : Int) = s / 256 := by
  unfold hiB
  rw [UInt8.toNat_ofNat']
  omega
theorem loB_toNat {s : Int} (h : 0 ≤ s ∧ s < 65521) : ((loB s).toNat : Int) = s % 256 := by
  unfold loB
  rw [UInt8.toNat_ofNat']
  omega
theorem bytes_of {s t : Int} (hs : 0 ≤ s ∧ s < 65521) (ht : 0 ≤ t ∧ t < 65521) (h1 : hiB s = hiB t) (h2 : loB s = loB t) : s = t := by
  have a := hiB_toNat hs
  have b := hiB_toNat ht
  have c := loB_toNat hs
  have d := loB_toNat ht
  rw [h1] at a
  rw [h2] at c
  omega

theorem last_two (xs : List UInt8) (h2 : 2 ≤ xs.length) : xs = xs.take (xs.length - 2) ++ [xs[xs.length - 2], xs[xs.length - 1]] := by
  apply List.ext_getElem
  · simp; omega
  · intro i h3 h4
    rw [List.getElem_append]
    split
    · simp
    · rename_i h5
      simp at h5
      have : i = xs.length - 2 ∨ i = xs.length - 1 := by omega
      rcases this with rfl | rfl
      · simp [List.length_take, Nat.min_eq_left (Nat.sub_le _ _)]
      · have e : xs.length - 1 - (xs.length - 2) = 1 := by omega
        simp [e]

/-- WHAT IS SEALED, AND WHAT IS NOT, BY ITS LAST TWO BYTES. -/
theorem ok_iff (xs : List UInt8) (h2 : 2 ≤ xs.length) : okL xs = true ↔ ((xs.getD (xs.length - 2) 0).toNat : Int) * 256 + ((xs.getD (xs.length - 1) 0).toNat : Int) = sumL (xs.take (xs.length - 2)) := by
  have hb := sumL_bd (xs.take (xs.length - 2))
  obtain ⟨l, x, y, rfl⟩ : ∃ l x y, xs = l ++ [x, y] := by
    exact ⟨_, _, _, last_two xs h2⟩
  have e1 : (l ++ [x, y]).length - 2 = l.length := by simp
  have e2 : (l ++ [x, y]).length - 1 = l.length + 1 := by simp
  rw [e1] at hb
  rw [e1, e2]
  simp only [List.take_left'] at hb ⊢
  have g1 : (l ++ [x, y]).getD l.length 0 = x := by simp [List.getD]
  have g2 : (l ++ [x, y]).getD (l.length + 1) 0 = y := by simp [List.getD]
  rw [g1, g2]
  have hx := x.toNat_lt
  have hy := y.toNat_lt
  have a := hiB_toNat hb
  have c := loB_toNat hb
  have hk : okL (l ++ [x, y]) = true ↔ (hiB (sumL l) = x ∧ loB (sumL l) = y) := by
    simp [okL, sealL]
  rw [hk]
  constructor
  · rintro ⟨rfl, rfl⟩
    omega
  · intro h
    exact ⟨UInt8.toNat_inj.1 (by omega), UInt8.toNat_inj.1 (by omega)⟩

theorem ok_seal (l : List UInt8) : okL (sealL l) = true := by
  simp [okL, sealL]
theorem open_seal (l : List UInt8) : openL (sealL l) = l := by
  simp [openL, ok_seal, length_sealL]
  simp [sealL]

/-- ONE BYTE TURNED IS FOUND. -/
theorem turned (l : List UInt8) (k : Nat) (c : UInt8) (hk : k < (sealL l).length) (hne : (sealL l)[k] ≠ c) : okL ((sealL l).set k c) = false := by
  rw [Bool.eq_false_iff]
  intro h
  rw [length_sealL] at hk
  have hl : ((sealL l).set k c).length = l.length + 2 := by simp [length_sealL]
  simp only [okL, Bool.and_eq_true, decide_eq_true_eq, beq_iff_eq] at h
  obtain ⟨-, h⟩ := h
  rw [hl] at h
  have e0 : l.length + 2 - 2 = l.length := by omega
  rw [e0] at h
  by_cases hk2 : k < l.length
  · have e1 : ((sealL l).set k c).take l.length = l.set k c := by
      rw [List.take_set]; simp [sealL]
    have e2 : (sealL l).set k c = l.set k c ++ [hiB (sumL l), loB (sumL l)] := by
      unfold sealL; rw [List.set_append_left _ _ hk2]
    rw [e1, e2] at h
    unfold sealL at h
    have h' := List.append_cancel_left h
    simp at h'
    have hs := bytes_of (sumL_bd _) (sumL_bd _) h'.1 h'.2
    have hx : (sealL l)[k] = l[k] := by simp [sealL, List.getElem_append_left hk2]
    rw [hx] at hne
    have d1 : l = l.take k ++ l[k] :: l.drop (k + 1) := by simp
    have d2 : l.set k c = l.take k ++ c :: l.drop (k + 1) := by rw [List.set_eq_take_append_cons_drop]; simp [hk2]
    rw [d2] at hs
    have hs' : sumL (l.take k ++ c :: l.drop (k + 1)) = sumL (l.take k ++ l[k] :: l.drop (k + 1)) := by rw [hs, ← d1]
    exact hne (sum_turned _ _ _ _ hs').symm
  · have e1 : ((sealL l).set k c).take l.length = l := by
      rw [List.take_set]
      rw [List.set_eq_of_length_le (by simp [sealL]; omega)]
      simp [sealL]
    rw [e1] at h
    have : ((sealL l).set k c)[k]'(by rw [hl]; exact hk) = (sealL l)[k] := by
      simp only [← h]
    simp at this
    exact hne this.symm

end Go.Proofs.Ytkkneafaklmnaaa.mth
