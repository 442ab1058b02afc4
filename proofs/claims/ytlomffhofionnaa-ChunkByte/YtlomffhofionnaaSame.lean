/-
  The contract of what tells whether two chunks are the same.
-/
import Derived.Test.YtlomffhofionnaaWrong
namespace Go.Proofs.Ytlomffhofionnaa.leaf
set_option linter.unusedVariables false
open Go.RowKit
open mth

theorem beq_no {a b : Int} (h : a ≠ b) : (a == b) = false := by simpa using h

set_option maxHeartbeats 4000000 in
theorem refSame_nums (k1 n1 s1 p1 k2 n2 s2 p2 : Int) (dva eva dvb evb : Value) (w : World) (h : k1 ≠ k2 ∨ n1 ≠ n2 ∨ s1 ≠ s2 ∨ p1 ≠ p2) :
    Calls Try.prog 20 #[.agg #[.int .i64 k1, .int .i64 n1, .int .i64 s1, .int .i64 p1, dva, eva], .agg #[.int .i64 k2, .int .i64 n2, .int .i64 s2, .int .i64 p2, dvb, evb]] w fun e w' => e = .returned (.bool false) ∧ Below w.heap.size w w' := by
  by_cases hk : k1 = k2
  · subst hk
    by_cases hn : n1 = n2
    · subst hn
      by_cases hs : s1 = s2
      · subst hs
        have hp := beq_no (show p1 ≠ p2 by omega)
        clear h
        go_enter Try.func20, Try.ntmps20
        go_wp2
        go_ret
        exact ⟨rfl, ((Below.refl _ _).alloc (Nat.le_refl _) _).alloc (by simp) _⟩
      · have hs' := beq_no hs
        clear h hs
        go_enter Try.func20, Try.ntmps20
        go_wp2
        go_ret
        exact ⟨rfl, ((Below.refl _ _).alloc (Nat.le_refl _) _).alloc (by simp) _⟩
    · have hn' := beq_no hn
      clear h hn
      go_enter Try.func20, Try.ntmps20
      go_wp2
      go_ret
      exact ⟨rfl, ((Below.refl _ _).alloc (Nat.le_refl _) _).alloc (by simp) _⟩
  · have hk' := beq_no hk
    clear h hk
    go_enter Try.func20, Try.ntmps20
    go_wp2
    go_ret
    exact ⟨rfl, ((Below.refl _ _).alloc (Nat.le_refl _) _).alloc (by simp) _⟩

set_option maxHeartbeats 4000000 in
theorem refSame_same (k1 n1 s1 p1 : Int) (dva eva dvb evb : Value) (d1 d2 : List UInt8) (e1 e2 : List Int) (w : World) (hda : Bs w dva d1) (hdb : Bs w dvb d2) (hea : Is w eva e1) (heb : Is w evb e2) :
    Calls Try.prog 20 #[.agg #[.int .i64 k1, .int .i64 n1, .int .i64 s1, .int .i64 p1, dva, eva], .agg #[.int .i64 k1, .int .i64 n1, .int .i64 s1, .int .i64 p1, dvb, evb]] w fun e w' => e = .returned (.bool (d1 == d2 && e1 == e2)) ∧ Below w.heap.size w w' := by
  have hb0 : Below w.heap.size w ((w.alloc (.cells #[.int .i64 k1, .int .i64 n1, .int .i64 s1, .int .i64 p1, dva, eva] 32)).alloc (.cells #[.int .i64 k1, .int .i64 n1, .int .i64 s1, .int .i64 p1, dvb, evb] 32)) :=
    ((Below.refl _ _).alloc (Nat.le_refl _) _).alloc (by simp) _
  have hc1 := conv_run (hda.later hb0)
  have hc2 := conv_run (hdb.later hb0)
  have HEA := hide (hea.later hb0)
  have HEB := hide (heb.later hb0)
  have HB0 := hide hb0
  clear hb0 hda hdb hea heb
  obtain ⟨r, hr⟩ : ∃ r, r = (d1 == d2) := ⟨_, rfl⟩
  rw [← hr]
  have hr' := hr.symm
  clear hr
  cases r
  · go_enter Try.func20, Try.ntmps20
    go_wp2
    go_ret
    exact ⟨rfl, HB0.out⟩
  · go_enter Try.func20, Try.ntmps20
    go_wp2_with (go_at_call 29; refine (sameInts_any eva evb e1 e2 _ HEA.out HEB.out).mono ?_; rintro e w1 ⟨rfl, hb1⟩)
    go_ret
    exact ⟨rfl, HB0.out.trans (hb1.mono HB0.out.size)⟩

theorem refSame_any (va vb : Value) (c d : Ch) (w : World) (ha : Cv w va c) (hb : Cv w vb d) :
    Calls Try.prog 20 #[va, vb] w fun e w' => e = .returned (.bool (sameC c d)) ∧ Below w.heap.size w w' := by
  obtain ⟨dva, eva, rfl, hda, hea, -⟩ := ha
  obtain ⟨dvb, evb, rfl, hdb, heb, -⟩ := hb
  obtain ⟨k1, n1, s1, p1, d1, e1⟩ := c
  obtain ⟨k2, n2, s2, p2, d2, e2⟩ := d
  simp only at *
  by_cases h : k1 ≠ k2 ∨ n1 ≠ n2 ∨ s1 ≠ s2 ∨ p1 ≠ p2
  · have : sameC ⟨k1, n1, s1, p1, d1, e1⟩ ⟨k2, n2, s2, p2, d2, e2⟩ = false := by
      rw [← Bool.not_eq_true, sameC_iff]
      intro e
      injection e
      omega
    rw [this]
    exact refSame_nums k1 n1 s1 p1 k2 n2 s2 p2 dva eva dvb evb w h
  · obtain ⟨rfl, rfl, rfl, rfl⟩ : k1 = k2 ∧ n1 = n2 ∧ s1 = s2 ∧ p1 = p2 := by omega
    have : sameC ⟨k1, n1, s1, p1, d1, e1⟩ ⟨k1, n1, s1, p1, d2, e2⟩ = (d1 == d2 && e1 == e2) := by simp [sameC]
    rw [this]
    exact refSame_same k1 n1 s1 p1 dva eva dvb evb d1 d2 e1 e2 w hda hdb hea heb
end Go.Proofs.Ytlomffhofionnaa.leaf
