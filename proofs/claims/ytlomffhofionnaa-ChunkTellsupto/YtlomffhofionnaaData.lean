/-
  Lists of numbers, messages and chunks as the model holds them.
-/
import Derived.Test.YtlomffhofionnaaRefOpen
namespace Go.Proofs.Ytlomffhofionnaa.leaf
set_option linter.unusedVariables false
open Go.RowKit
open mth

/-- A number that an int holds. -/
def I64 (n : Int) : Prop := -9223372036854775808 ≤ n ∧ n ≤ 9223372036854775807
/-- The slice value v holds the numbers xs. -/
def Is (w : World) (v : Value) (xs : List Int) : Prop :=
  ∃ (a : Option Addr) (cap : Nat), v = .slice a xs.length cap ∧ xs.length ≤ cap ∧ (a = none → cap = 0) ∧ (∀ i, i < xs.length → ∃ x, a = some x ∧ w.cell? (x.add i) = some (.int .i64 (xs.getD i 0))) ∧ (∀ n ∈ xs, I64 n) ∧ cap ≤ maxLen

theorem Is.later {w w' : World} {v : Value} {xs : List Int} (h : Is w v xs) (hb : Below w.heap.size w w') : Is w' v xs := by
  obtain ⟨a, cap, rfl, hlc, hno, hc, hn, hm⟩ := h
  refine ⟨a, cap, rfl, hlc, hno, fun i hi => ?_, hn, hm⟩
  obtain ⟨x, rfl, hcc⟩ := hc i hi
  exact ⟨x, rfl, (hb.cell (World.block_lt_of_cell? w _ hcc)).trans hcc⟩
theorem Is.drewN {w : World} {v : Value} {xs : List Int} (h : Is w v xs) (n : Nat) : Is (w.drewN n) v xs := h
theorem Is.shape {w : World} {v : Value} {xs : List Int} (h : Is w v xs) : ∃ a cap, v = .slice a xs.length cap ∧ xs.length ≤ cap ∧ cap ≤ maxLen := by
  obtain ⟨a, cap, rfl, hlc, _, _, _, hm⟩ := h; exact ⟨a, cap, rfl, hlc, hm⟩
theorem Is_nil (w : World) : Is w (.slice none 0 0) [] := ⟨none, 0, rfl, Nat.le_refl _, fun _ => rfl, fun i hi => by simp at hi, by simp, Nat.zero_le _⟩
theorem Is.num {w : World} {v : Value} {xs : List Int} (h : Is w v xs) : ∀ n ∈ xs, I64 n := by
  obtain ⟨a, cap, rfl, _, _, _, hn, _⟩ := h; exact hn
/-- One number of it. -/
theorem Is.at {w : World} {a : Option Addr} {n cap : Nat} {xs : List Int} (h : Is w (.slice a n cap) xs) (hp : xs.length ≠ 0) : ∃ b off, a = some ⟨b, off, none⟩ ∧ ∀ j x, xs[j]? = some x → w.cell? ⟨b, off + j, none⟩ = some (.int .i64 x) := by
  obtain ⟨a', cap', he, hlc, hno, hc, hn, hm⟩ := h
  injection he with h1 _ h2
  subst h1 h2
  obtain ⟨x, rfl, hc0⟩ := hc 0 (by omega)
  obtain ⟨b, off, spot⟩ := x
  have hspot : spot = none := by simpa [Addr.add] using World.cell?_spot hc0
  subst hspot
  refine ⟨b, off, rfl, fun j y hy => ?_⟩
  have hj : j < xs.length := (List.getElem?_eq_some_iff.1 hy).1
  obtain ⟨x', hx', hcc⟩ := hc j hj
  simp at hx'
  subst hx'
  rw [Addr.add_lit] at hcc
  rw [hcc]
  simp [List.getD, hy]

theorem take_both {α : Type} {xs ys : List α} {k : Nat} {x : α} (h : xs.take k = ys.take k) (hx : xs[k]? = some x) (hy : ys[k]? = some x) : xs.take (k + 1) = ys.take (k + 1) := by
  rw [List.take_add_one, List.take_add_one, h, hx, hy]
theorem some_at {α : Type} {xs : List α} {k : Nat} (h : k < xs.length) : ∃ x, xs[k]? = some x := ⟨xs[k], List.getElem?_eq_getElem h⟩

set_option maxHeartbeats 1000000 in
theorem sameInts_any (va vb : Value) (xs ys : List Int) (w : World) (ha : Is w va xs) (hb : Is w vb ys) :
    Calls Try.prog 29 #[va, vb] w fun e w' => e = .returned (.bool (xs == ys)) ∧ Below w.heap.size w w' := by
  obtain ⟨a, ca, rfl, hla, hma⟩ := ha.shape
  obtain ⟨b, cb, rfl, hlb, hmb⟩ := hb.shape
  unfold maxLen at hma hmb
  obtain ⟨r, hr⟩ : ∃ r, r = (xs == ys) := ⟨_, rfl⟩
  rw [← hr]
  by_cases hl : xs.length = ys.length
  · by_cases h0 : xs.length = 0
    · obtain rfl : xs = [] := List.eq_nil_of_length_eq_zero h0
      obtain rfl : ys = [] := List.eq_nil_of_length_eq_zero (by omega)
      clear ha hb
      obtain rfl : r = true := hr
      go_enter Try.func29, Try.ntmps29
      go_wp2
      refine wp_loop_rounds 1 ?_
      rw [rounds_succ]
      go_wp2
      go_ret
      exact ⟨rfl, Below.refl _ _⟩
    · obtain ⟨ba, oa, rfl, hca⟩ := ha.at h0
      obtain ⟨bb, ob, rfl, hcb⟩ := hb.at (by omega)
      rw [← hl]
      have HL := hide hl
      have HR := hide hr
      have HA := hide hca
      have HB := hide hcb
      clear ha hb hl hr hca hcb
      go_enter Try.func29, Try.ntmps29
      go_wp2
      go_loopw [13, 5] (fun i _ wr => ∃ k n : Nat, k ≤ xs.length ∧ i = .int .i64 k ∧ xs.take k = ys.take k ∧ wr = w.drewN n) (fun i _ _ => xs.length - (intOf i).toNat)
      case atStart => exact ⟨0, 0, Nat.zero_le _, rfl, rfl, rfl⟩
      case round =>
        obtain ⟨k, n, hk, rfl, hpre, rfl⟩ := hrel
        have HP := hide hpre
        clear hpre
        by_cases hlt : k < xs.length
        · obtain ⟨x, hx⟩ := some_at hlt
          obtain ⟨y, hy⟩ := some_at (xs := ys) (by rw [← HL.out]; exact hlt)
          have h1 := HA.out k x hx
          have h2 := HB.out k y hy
          have hlt' : (k : Int) < (xs.length : Int) := by omega
          have HX := hide hx
          have HY := hide hy
          clear hx hy
          by_cases he : x = y
          · have he' : (x != y) = false := by simpa using he
            have HE := hide he
            clear he
            go_wp2
            go_quiet (fail)
            go_wp2
            go_roundw
            case rel => exact ⟨k + 1, _, by omega, by go_num, take_both HP.out HX.out (by rw [HE.out]; exact HY.out), rfl⟩
            case measure => simp [intOf]; omega
          · have he' : (x != y) = true := by simpa using he
            have HE := hide he
            clear he
            go_wp2
            go_quiet (fail)
            go_wp2
            go_ret
            refine ⟨?_, below_drewN (below_drewN (Below.refl _ _) _) _⟩
            have : r = false := by
              rw [HR.out]
              simp only [beq_eq_false_iff_ne, ne_eq]
              intro hxy
              rw [hxy] at HX
              exact HE.out (Option.some.inj (HX.out.symm.trans HY.out))
            rw [this]
            rfl
        · go_wp2
          go_ret
          refine ⟨?_, below_drewN (Below.refl _ _) _⟩
          have : r = true := by
            rw [HR.out, beq_iff_eq]
            have e := HP.out
            rw [List.take_of_length_le (by omega), List.take_of_length_le (by rw [← HL.out]; omega)] at e
            exact e
          rw [this]
          rfl
  · have hl' : ((xs.length : Int) != (ys.length : Int)) = true := by
      simp only [bne_iff_ne, ne_eq]; omega
    have : r = false := by
      rw [hr]
      simp only [beq_eq_false_iff_ne, ne_eq]
      intro hxy
      exact hl (by rw [hxy])
    subst this
    clear ha hb hr hl
    go_enter Try.func29, Try.ntmps29
    go_wp2
    go_ret
    exact ⟨rfl, Below.refl _ _⟩
end Go.Proofs.Ytlomffhofionnaa.leaf
