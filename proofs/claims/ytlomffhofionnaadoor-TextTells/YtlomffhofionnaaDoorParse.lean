/-
  The contract of the answer's reading of a text.
-/
import Derived.Test.YtlomffhofionnaaDoorText
import Derived.Test.YtlomffhofionnaaDoorReadData
namespace Go.Proofs.YtlomffhofionnaaDoor.leaf
set_option linter.unusedVariables false
open Go.RowKit
open mth

theorem Mv_zero (w : World) : Mv w (.agg #[.int .i64 0, .slice none 0 0]) ⟨0, []⟩ := ⟨_, rfl, Bs_nil w, by simp, by simp [I64]⟩

set_option maxHeartbeats 2000000 in
theorem parse_short (S : ByteArray) (w : World) (hs : (S.size : Int) < 2) :
    Calls Tryd.prog 6 #[.string S] w fun e w' => ∃ v', e = .returned (.tuple #[v', .int .i64 2]) ∧ Mv w' v' ⟨0, []⟩ ∧ Below w.heap.size w w' := by
  go_enter Tryd.func6, Tryd.ntmps6
  go_wp2
  exact bodyPost_ret (v := .tuple #[.agg #[.int .i64 0, .slice none 0 0], .int .i64 2]) (by simp [results, Tryd.results6, go_sem]) rfl ⟨_, rfl, Mv_zero _, (Below.refl _ _).alloc (Nat.le_refl _) _⟩

set_option maxHeartbeats 4000000 in
theorem parse_head (S : ByteArray) (w : World) (h2 : (2 : Int) ≤ (S.size : Int)) (h0 : 0 < S.size) (h1 : 1 < S.size) (hl : S.size ≤ 140737488355328) (h : ((S[0]'h0).toNat : Int) < 48 ∨ 57 < ((S[0]'h0).toNat : Int) ∨ ((S[1]'h1).toNat : Int) ≠ 58 ∨ (S.size : Int) % 2 = 1) :
    Calls Tryd.prog 6 #[.string S] w fun e w' => ∃ v', e = .returned (.tuple #[v', .int .i64 2]) ∧ Mv w' v' ⟨0, []⟩ ∧ Below w.heap.size w w' := by
  by_cases c1 : ((S[0]'h0).toNat : Int) < 48
  · clear h
    go_enter Tryd.func6, Tryd.ntmps6
    go_wp2
    exact bodyPost_ret (v := .tuple #[.agg #[.int .i64 0, .slice none 0 0], .int .i64 2]) (by simp [results, Tryd.results6, go_sem]) rfl ⟨_, rfl, Mv_zero _, (Below.refl _ _).alloc (Nat.le_refl _) _⟩
  · by_cases c2 : 57 < ((S[0]'h0).toNat : Int)
    · clear h
      go_enter Tryd.func6, Tryd.ntmps6
      go_wp2
      exact bodyPost_ret (v := .tuple #[.agg #[.int .i64 0, .slice none 0 0], .int .i64 2]) (by simp [results, Tryd.results6, go_sem]) rfl ⟨_, rfl, Mv_zero _, (Below.refl _ _).alloc (Nat.le_refl _) _⟩
    · by_cases c3 : ((S[1]'h1).toNat : Int) = 58
      · have c3' : (((S[1]'h1).toNat : Int) != 58) = false := by simpa using c3
        have c4' : ((S.size : Int) % 2 == 1) = true := by simp only [beq_iff_eq]; omega
        clear h c3
        go_enter Tryd.func6, Tryd.ntmps6
        go_wp2
        exact bodyPost_ret (v := .tuple #[.agg #[.int .i64 0, .slice none 0 0], .int .i64 2]) (by simp [results, Tryd.results6, go_sem]) rfl ⟨_, rfl, Mv_zero _, (Below.refl _ _).alloc (Nat.le_refl _) _⟩
      · have c3' : (((S[1]'h1).toNat : Int) != 58) = true := by simpa using c3
        clear h c3
        go_enter Tryd.func6, Tryd.ntmps6
        go_wp2
        exact bodyPost_ret (v := .tuple #[.agg #[.int .i64 0, .slice none 0 0], .int .i64 2]) (by simp [results, Tryd.results6, go_sem]) rfl ⟨_, rfl, Mv_zero _, (Below.refl _ _).alloc (Nat.le_refl _) _⟩

theorem hex_at64 (w : World) : ∀ (k : Nat), k < 16 → (Instr.index 9 (.string ⟨#[48, 49, 50, 51, 52, 53, 54, 55, 56, 57, 97, 98, 99, 100, 101, 102]⟩) (.int .i64 (k : Int))).run Tryd.prog w = .ok (.int .u8 (i8 (hexB k))) w := fun k h => match k, h with
  | 0, _ => by kernel_rfl
  | 1, _ => by kernel_rfl
  | 2, _ => by kernel_rfl
  | 3, _ => by kernel_rfl
  | 4, _ => by kernel_rfl
  | 5, _ => by kernel_rfl
  | 6, _ => by kernel_rfl
  | 7, _ => by kernel_rfl
  | 8, _ => by kernel_rfl
  | 9, _ => by kernel_rfl
  | 10, _ => by kernel_rfl
  | 11, _ => by kernel_rfl
  | 12, _ => by kernel_rfl
  | 13, _ => by kernel_rfl
  | 14, _ => by kernel_rfl
  | 15, _ => by kernel_rfl
  | n + 16, h => absurd h (by omega)

theorem pairs_even : ∀ (l : List UInt8) (y : UInt8), l.length % 2 = 0 → pairsL (l ++ [y]) = pairsL l
  | [], _, _ => rfl
  | [_], _, h => by simp at h
  | a :: b :: r, y, h => by
    have := pairs_even r y (by simp at h; omega)
    simp only [List.cons_append, pairsL, this]
theorem pairs_odd : ∀ (l : List UInt8) (p y : UInt8), l.length % 2 = 0 → pairsL (l ++ [p] ++ [y]) = pairsL (l ++ [p]) ++ [b8 (16 * valB p + valB y)]
  | [], _, _, _ => rfl
  | [_], _, _, h => by simp at h
  | a :: b :: r, p, y, h => by
    have := pairs_odd r p y (by simp at h; omega)
    simp only [List.cons_append, pairsL, this]
theorem len_pairs : ∀ (l : List UInt8), (pairsL l).length = l.length / 2
  | [] => rfl
  | [_] => by simp [pairsL]
  | a :: b :: r => by
    have := len_pairs r
    simp only [pairsL, List.length_cons, this]; omega
theorem hex_eq (q : Nat) (hq : q < 16) (y : UInt8) : (i8 (hexB q) == (y.toNat : Int)) = decide (valB y = q) := by
  rw [Bool.eq_iff_iff, beq_iff_eq, decide_eq_true_eq]
  constructor
  · intro h
    have e : hexB q = y := by
      apply UInt8.toNat_inj.1
      unfold i8 at h
      omega
    rw [← e]; exact val_hex hq
  · intro h
    have e := hex_val (x := y) (by omega)
    rw [h] at e
    simp only [Int.toNat_natCast] at e
    rw [e]; rfl

/-- What the inner loop has found of digit y. -/
def found (y : UInt8) (q : Nat) : Int := if 0 ≤ valB y ∧ valB y < q then valB y else -1
theorem found_step (y : UInt8) (q : Nat) : found y (q + 1) = if valB y = q then (q : Int) else found y q := by
  unfold found
  by_cases h : valB y = q
  · rw [if_pos h, if_pos (by omega)]; exact h
  · rw [if_neg h]
    by_cases h2 : 0 ≤ valB y ∧ valB y < q
    · rw [if_pos h2, if_pos (by omega)]
    · rw [if_neg h2, if_neg (by omega)]
theorem found_all (y : UInt8) : (0 ≤ valB y ∧ found y 16 = valB y) ∨ (valB y = -1 ∧ found y 16 = -1) := by
  have h := val_bd y
  unfold found
  by_cases h2 : 0 ≤ valB y
  · rw [if_pos (by omega)]; exact .inl ⟨h2, rfl⟩
  · right
    rw [if_neg (by omega)]
    refine ⟨?_, rfl⟩
    unfold valB at h2 ⊢
    split
    · rename_i c; rw [if_pos c] at h2; omega
    · rename_i c
      rw [if_neg c] at h2
      split
      · rename_i c2; rw [if_pos c2] at h2; omega
      · rfl

end Go.Proofs.YtlomffhofionnaaDoor.leaf
