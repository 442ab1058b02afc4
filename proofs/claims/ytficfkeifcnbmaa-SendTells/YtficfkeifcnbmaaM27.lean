/-
  Several texts in one.
-/
import Derived.Test.YtficfkeifcnbmaaM26
import Derived.Test.YtficfkeifcnbmaaAbsPack
import Derived.Test.YtficfkeifcnbmaaProg

/-
  Plain mathematics for messages as texts. Nothing of the program.
-/
namespace Go.Proofs.Ytficfkeifcnbmaa.mth

structure Ms where
  stream : Int
  data : List UInt8

def sameM (a b : Ms) : Bool := a.stream == b.stream && a.data == b.data
theorem sameM_iff (a b : Ms) : sameM a b = true ↔ a = b := by
  cases a; cases b; simp [sameM]

def hexB (n : Nat) : UInt8 := if n < 10 then UInt8.ofNat (48 + n) else UInt8.ofNat (87 + n)
def hex2 (c : UInt8) : List UInt8 := [hexB (c.toNat / 16), hexB (c.toNat % 16)]
def hexL : List UInt8 → List UInt8
  | [] => []
  | c :: r => hexB (c.toNat / 16) :: hexB (c.toNat % 16) :: hexL r
def printL (m : Ms) : List UInt8 := b8 (48 + m.stream) :: 58 :: hexL m.data
/-- A digit's number, or none: -1. -/
def valB (x : UInt8) : Int := if 48 ≤ i8 x ∧ i8 x ≤ 57 then i8 x - 48 else if 97 ≤ i8 x ∧ i8 x ≤ 102 then i8 x - 87 else -1
def digitsL (l : List UInt8) : Bool := l.all (fun x => decide (0 ≤ valB x))
def pairsL : List UInt8 → List UInt8
  | a :: b :: r => b8 (16 * valB a + valB b) :: pairsL r
  | _ => []
def formL (x : List UInt8) : Bool := decide (2 ≤ x.length) && (decide (48 ≤ i8 (x.getD 0 0)) && (decide (i8 (x.getD 0 0) ≤ 57) && (decide (i8 (x.getD 1 0) = 58) && (decide (x.length % 2 = 0) && digitsL (x.drop 2)))))
def rawM (x : List UInt8) : Ms := ⟨i8 (x.getD 0 0) - 48, pairsL (x.drop 2)⟩
def parseE (x : List UInt8) : Int := if formL x = true then wrongMsgL (rawM x).stream (rawM x).data else 2
def parseM (x : List UInt8) : Ms := if parseE x = 0 then rawM x else ⟨0, []⟩

theorem hexB_i8 {n : Nat} (h : n < 16) : i8 (hexB n) = if n < 10 then 48 + (n : Int) else 87 + (n : Int) := by
  unfold hexB i8
  split
  · rw [UInt8.toNat_ofNat']; omega
  · rw [UInt8.toNat_ofNat']; omega
theorem val_hex {n : Nat} (h : n < 16) : valB (hexB n) = n := by
  unfold valB
  rw [hexB_i8 h]
  by_cases h1 : n < 10
  · rw [if_pos h1, if_pos (by omega)]; omega
  · rw [if_neg h1, if_neg (by omega), if_pos (by omega)]; omega
theorem val_bd (x : UInt8) : valB x < 16 := by
  unfold valB; split
  · omega
  · split <;> omega
theorem hex_val {x : UInt8} (h : 0 ≤ valB x) : hexB (valB x).toNat = x := by
  have hx : 0 ≤ i8 x ∧ i8 x ≤ 255 := by have := x.toNat_lt; unfold i8; omega
  apply UInt8.toNat_inj.1
  have e : i8 (hexB (valB x).toNat) = i8 x := by
    rw [hexB_i8 (by have := val_bd x; omega)]
    unfold valB at h ⊢
    by_cases h1 : 48 ≤ i8 x ∧ i8 x ≤ 57
    · rw [if_pos h1] at h ⊢
      rw [if_pos (by omega)]; omega
    · rw [if_neg h1] at h ⊢
      by_cases h2 : 97 ≤ i8 x ∧ i8 x ≤ 102
      · rw [if_pos h2] at h ⊢
        rw [if_neg (by omega)]; omega
      · rw [if_neg h2] at h; omega
  unfold i8 at e
  omega

theorem pairs_hex (d : List UInt8) : pairsL (hexL d) = d := by
  induction d with
  | nil => rfl
  | cons c r ih =>
    have hc := c.toNat_lt
    show b8 (16 * valB (hexB (c.toNat / 16)) + valB (hexB (c.toNat % 16))) :: pairsL (hexL r) = _
    rw [val_hex (by omega), val_hex (by omega), ih]
    congr 1
    apply UInt8.toNat_inj.1
    have := b8_toNat (n := 16 * ((c.toNat / 16 : Nat) : Int) + ((c.toNat % 16 : Nat) : Int)) (by omega)
    omega
theorem digits_hex (d : List UInt8) : digitsL (hexL d) = true := by
  induction d with
  | nil => rfl
  | cons c r ih =>
    have hc := c.toNat_lt
    simp only [hexL, digitsL, List.all_cons, Bool.and_eq_true, decide_eq_true_eq] at *
    rw [val_hex (by omega), val_hex (by omega)]
    exact ⟨by omega, by omega, ih⟩
theorem len_hex (d : List UInt8) : (hexL d).length = 2 * d.length := by
  induction d with
  | nil => rfl
  | cons c r ih => simp only [hexL, List.length_cons, ih]; omega
theorem hex_pairs : ∀ (l : List UInt8), digitsL l = true → l.length % 2 = 0 → hexL (pairsL l) = l
  | [], _, _ => rfl
  | [_], _, h => by simp at h
  | a :: b :: r, hd, hl => by
    simp only [digitsL, List.all_cons, Bool.and_eq_true, decide_eq_true_eq] at hd
    have h1 := val_bd a
    have h2 := val_bd b
    have hv := b8_toNat (n := 16 * valB a + valB b) (by omega)
    have hr := hex_pairs r hd.2.2 (by simp at hl; omega)
    show hexB ((b8 (16 * valB a + valB b)).toNat / 16) :: hexB ((b8 (16 * valB a + valB b)).toNat % 16) :: hexL (pairsL r) = _
    have e1 : (b8 (16 * valB a + valB b)).toNat / 16 = (valB a).toNat := by omega
    have e2 : (b8 (16 * valB a + valB b)).toNat % 16 = (valB b).toNat := by omega
    rw [e1, e2, hex_val hd.1, hex_val hd.2.1, hr]

theorem right_msg {m : Ms} (h : wrongMsgL m.stream m.data = 0) : 0 ≤ m.stream ∧ m.stream ≤ 2 ∧ m.data.length ≤ 6 := by
  unfold wrongMsgL at h
  split at h
  · omega
  · split at h
    · omega
    · omega

/-- WRITTEN, AND READ AGAIN. -/
theorem parse_print (m : Ms) (h : wrongMsgL m.stream m.data = 0) : parseE (printL m) = 0 ∧ parseM (printL m) = m := by
  have hm := right_msg h
  have h0 : i8 (b8 (48 + m.stream)) = 48 + m.stream := i8_b8 (by omega)
  have hraw : rawM (printL m) = m := by
    unfold rawM printL
    simp only [List.getD_cons_zero, List.drop_succ_cons, List.drop_zero, pairs_hex]
    rw [h0]
    cases m
    simp only [Ms.mk.injEq, and_true]
    omega
  have hform : formL (printL m) = true := by
    have h58 : i8 (58 : UInt8) = 58 := by decide
    have hl : (printL m).length % 2 = 0 := by simp only [printL, List.length_cons, len_hex]; omega
    unfold formL
    simp only [Bool.and_eq_true, decide_eq_true_eq]
    refine ⟨by simp [printL], ?_, ?_, ?_, hl, ?_⟩
    · simp only [printL, List.getD_cons_zero]; omega
    · simp only [printL, List.getD_cons_zero]; omega
    · simp only [printL, List.getD_cons_succ, List.getD_cons_zero]; exact h58
    · simp only [printL, List.drop_succ_cons, List.drop_zero]; exact digits_hex _
  have e : parseE (printL m) = 0 := by
    unfold parseE
    rw [if_pos hform, hraw]; exact h
  exact ⟨e, by unfold parseM; rw [if_pos e, hraw]⟩

/-- A TEXT THAT IS READ IS ITS MESSAGE's. -/
theorem print_parse (x : List UInt8) (h : parseE x = 0) : wrongMsgL (parseM x).stream (parseM x).data = 0 ∧ printL (parseM x) = x := by
  have hm : parseM x = rawM x := by unfold parseM; rw [if_pos h]
  rw [hm]
  unfold parseE at h
  split at h
  · rename_i hf
    refine ⟨h, ?_⟩
    unfold formL at hf
    simp only [Bool.and_eq_true, decide_eq_true_eq] at hf
    obtain ⟨h1, h2, h3, h4, h5, h6⟩ := hf
    match x, h1, h2, h3, h4, h5, h6 with
    | a :: b :: r, _, h2, h3, h4, h5, h6 =>
      simp only [List.getD_cons_zero, List.getD_cons_succ, List.drop_succ_cons, List.drop_zero] at h2 h3 h4 h6
      unfold printL rawM
      simp only [List.getD_cons_zero, List.drop_succ_cons, List.drop_zero]
      rw [hex_pairs r h6 (by simp at h5; omega)]
      have e1 : b8 (48 + (i8 a - 48)) = a := by
        have : 48 + (i8 a - 48) = i8 a := by omega
        rw [this, b8_i8]
      have e2 : (58 : UInt8) = b := by
        rw [← b8_i8 b, h4]; decide
      rw [e1, e2]
    | [], h1, _, _, _, _, _ => simp at h1
    | [_], h1, _, _, _, _, _ => simp at h1
  · omega

/-- UNLIKE ONES HAVE UNLIKE TEXTS. -/
theorem print_inj (a b : Ms) (ha : wrongMsgL a.stream a.data = 0) (hb : wrongMsgL b.stream b.data = 0) : (printL a == printL b) = sameM a b := by
  rw [Bool.eq_iff_iff, sameM_iff, beq_iff_eq]
  constructor
  · intro h
    rw [← (parse_print a ha).2, h, (parse_print b hb).2]
  · intro h
    rw [h]
end Go.Proofs.Ytficfkeifcnbmaa.mth

/-
  Messages and chunks, as plain data.
-/
namespace Go.Proofs.Ytficfkeifcnbmaa.ab
set_option linter.unusedVariables false
open Go mth

abbrev vI (n : Int) : D := vD (.int .i64 n)
def encMs (m : Ms) : List D := [vI m.stream, sD 1 (m.data.map encB)]
def encCh (c : Ch) : List D := [vI c.kind, vI c.number, vI c.stream, vI c.place, sD 1 (c.data.map encB), sD 1 (c.early.map vI)]
/-- Lists of them. -/
def encMl (l : List Ms) : List D := l.map fun m => aD (encMs m)
def encCl (l : List Ch) : List D := l.map fun c => aD (encCh c)
theorem len_ml (l : List Ms) : (encMl l).length = l.length := by simp [encMl]
theorem at_ml {l : List Ms} {i : Nat} {m : Ms} (h : l[i]? = some m) : (encMl l)[i]? = some (aD [vI m.stream, sD 1 (m.data.map encB)]) := by
  simp [encMl, h, encMs]
end Go.Proofs.Ytficfkeifcnbmaa.ab

/-
  The program follows what Go leaves open.
-/
namespace Go.Proofs.Ytficfkeifcnbmaa.ab
open Go
theorem follows : Try.prog.follows .mixedOrders = true := by kernel_rfl
end Go.Proofs.Ytficfkeifcnbmaa.ab
