/-
  The contracts of the two functions that sum bytes.
-/
import Derived.Test.YtlomffhofionnaaChecked
import Derived.Test.YtlomffhofionnaaMath
import Derived.WalkKit
import Derived.ProofKit
import Derived.WalkSpells
namespace Go.Proofs.Ytlomffhofionnaa.leaf
set_option linter.unusedVariables false
open Go.RowKit
open mth

/-- A byte as the model's cell. -/
def B (x : UInt8) : Value := .int .u8 (x.toNat : Int)
/-- The slice value v holds the bytes xs. -/
def Bs (w : World) (v : Value) (xs : List UInt8) : Prop :=
  ∃ (a : Option Addr) (cap : Nat), v = .slice a xs.length cap ∧ xs.length ≤ cap ∧ (a = none → cap = 0) ∧ ∀ i, i < xs.length → ∃ x, a = some x ∧ w.cell? (x.add i) = some (.int .u8 ((xs.getD i 0).toNat : Int))

theorem ret_int {k : IntKind} {a b : Int} (h : a = b) : Ending.returned (.int k a) = .returned (.int k b) := by rw [h]

theorem take_snoc (xs : List UInt8) (k : Nat) (h : k < xs.length) : sumL (xs.take (k + 1)) = (sumL (xs.take k) * 139 + ((xs[k].toNat : Nat) : Int) + 1) % 65521 := by
  rw [List.take_succ_eq_append_getElem h, sumL_snoc]; rfl

set_option maxHeartbeats 400000 in
theorem of_any (a : Option Addr) (cap : Nat) (xs : List UInt8) (w : World) (h : Bs w (.slice a xs.length cap) xs) (hm : xs.length ≤ maxLen) :
    Calls Try.prog 11 #[.slice a xs.length cap] w fun e w' => e = .returned (.int .i64 (sumL xs)) ∧ w = w' := by
  unfold maxLen at hm
  obtain ⟨a', cap', he, hlc, hno, hc⟩ := h
  injection he with h1 _ h2
  subst h1 h2
  by_cases hl : xs.length = 0
  · obtain rfl : xs = [] := List.eq_nil_of_length_eq_zero hl
    clear hc hno hlc
    go_enter Try.func11, Try.ntmps11
    go_wp2
    refine wp_loop_rounds 1 ?_
    rw [rounds_succ]
    go_wp2
    go_ret
    exact ⟨rfl, rfl⟩
  · obtain ⟨x, rfl, hc0⟩ := hc 0 (by omega)
    obtain ⟨b, off, spot⟩ := x
    have hspot : spot = none := by simpa [Addr.add] using World.cell?_spot hc0
    subst hspot
    have hcx : ∀ k (_ : k < xs.length), w.cell? ⟨b, off + k, none⟩ = some (.int .u8 (xs[k].toNat : Int)) := by
      intro k hk
      obtain ⟨x', hx', hcc⟩ := hc k hk
      simp at hx'
      subst hx'
      rw [Addr.add_lit] at hcc
      simpa [List.getD, hk] using hcc
    clear hc hc0 hno
    go_enter Try.func11, Try.ntmps11
    go_wp2
    go_loop [3, 8] (fun s i => ∃ k : Nat, k ≤ xs.length ∧ i = .int .i64 k ∧ s = .int .i64 (sumL (xs.take k))) (fun _ i => xs.length - (intOf i).toNat)
    case atStart => exact ⟨0, Nat.zero_le _, rfl, rfl⟩
    case round =>
      obtain ⟨k, hk, rfl, rfl⟩ := hrel
      have hd := sumL_bd (xs.take k)
      by_cases hlt : k < xs.length
      · have hcell := hcx k hlt
        have HS : Hid (sumL (xs.take (k + 1)) = _) := take_snoc xs k hlt
        have hb := xs[k].toNat_lt
        clear hcx
        go_wp2
        go_round
        case rel => exact ⟨k + 1, by omega, by go_num, by rw [HS.out]⟩
        case measure => simp [intOf]; omega
      · clear hcx
        go_wp2
        go_ret
        exact ⟨ret_int (by rw [List.take_of_length_le (by omega)]), rfl⟩
theorem take_snoc' (xs : List UInt8) (k : Nat) (h : k < xs.length) : sumL (xs.take (k + 1)) = (139 * sumL (xs.take k) + ((xs[k].toNat : Nat) : Int) + 1) % 65521 := by
  rw [take_snoc xs k h, Int.mul_comm]

set_option maxHeartbeats 400000 in
theorem sum_any (a : Option Addr) (cap : Nat) (xs : List UInt8) (w : World) (h : Bs w (.slice a xs.length cap) xs) (hm : xs.length ≤ maxLen) :
    Calls Try.prog 12 #[.slice a xs.length cap] w fun e w' => e = .returned (.int .i64 (sumL xs)) ∧ w = w' := by
  unfold maxLen at hm
  obtain ⟨a', cap', he, hlc, hno, hc⟩ := h
  injection he with h1 _ h2
  subst h1 h2
  by_cases hl : xs.length = 0
  · obtain rfl : xs = [] := List.eq_nil_of_length_eq_zero hl
    clear hc hno hlc
    go_enter Try.func12, Try.ntmps12
    go_wp2
    refine wp_loop_rounds 1 ?_
    rw [rounds_succ]
    go_wp2
    go_ret
    exact ⟨rfl, rfl⟩
  · obtain ⟨x, rfl, hc0⟩ := hc 0 (by omega)
    obtain ⟨b, off, spot⟩ := x
    have hspot : spot = none := by simpa [Addr.add] using World.cell?_spot hc0
    subst hspot
    have hcx : ∀ k (_ : k < xs.length), w.cell? ⟨b, off + k, none⟩ = some (.int .u8 (xs[k].toNat : Int)) := by
      intro k hk
      obtain ⟨x', hx', hcc⟩ := hc k hk
      simp at hx'
      subst hx'
      rw [Addr.add_lit] at hcc
      simpa [List.getD, hk] using hcc
    clear hc hc0 hno
    go_enter Try.func12, Try.ntmps12
    go_wp2
    go_loop [3, 7] (fun s i => ∃ k : Nat, k ≤ xs.length ∧ i = .int .i64 k ∧ s = .int .i64 (sumL (xs.take k))) (fun _ i => xs.length - (intOf i).toNat)
    case atStart => exact ⟨0, Nat.zero_le _, rfl, rfl⟩
    case round =>
      obtain ⟨k, hk, rfl, rfl⟩ := hrel
      have hd := sumL_bd (xs.take k)
      by_cases hlt : k < xs.length
      · have hcell := hcx k hlt
        have HS : Hid (sumL (xs.take (k + 1)) = _) := take_snoc' xs k hlt
        have hb := xs[k].toNat_lt
        clear hcx
        go_wp2
        go_round
        case rel => exact ⟨k + 1, by omega, by go_num, by rw [HS.out]⟩
        case measure => simp [intOf]; omega
      · clear hcx
        go_wp2
        go_ret
        exact ⟨ret_int (by rw [List.take_of_length_le (by omega)]), rfl⟩
end Go.Proofs.Ytlomffhofionnaa.leaf
