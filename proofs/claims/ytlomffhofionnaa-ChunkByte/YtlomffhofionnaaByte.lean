/-
  The walk of the law SumByte.
-/
import Derived.Test.YtlomffhofionnaaAlive
namespace Go.Proofs.Ytlomffhofionnaa.leaf
set_option linter.unusedVariables false
open Go.RowKit
open mth

theorem owns_later {w w' : World} {base n : Nat} {v : Value} {xs : List Value} (h : w.ownsRow base 5 1 v n xs) (hb : Below w.heap.size w w') : w'.ownsRow base 5 1 v n xs := by
  obtain ⟨h1, h2⟩ := h
  refine ⟨h1, ?_⟩
  rcases h2 with h2 | ⟨g, cap, cur, hv, hg, hh, r⟩
  · exact .inl h2
  · exact .inr ⟨g, cap, cur, hv, hg, (hb.block g (Array.getElem?_eq_some_iff.1 hh).1).trans hh, r⟩

theorem set_cells (xs : List UInt8) (j : Nat) (c : UInt8) : (xs.map B).set j (.int .u8 (c.toNat : Int)) = (xs.set j c).map B := by
  rw [List.map_set]; rfl

set_option maxHeartbeats 4000000 in
theorem byte_any (a : Option Addr) (cap : Nat) (xs : List UInt8) (k : Int) (c : UInt8) (w : World) (h : Bs w (.slice a xs.length cap) xs) (hcap : xs.length ≤ cap) (hr : cap ≤ 140737488351232) :
    Calls Try.prog 4 #[.slice a xs.length cap, .int .i64 k, .int .u8 (c.toNat : Int)] w fun e w' => e = .returned (.bool true) ∧ Below w.heap.size w w' := by
  have H := hide h
  clear h
  go_enter Try.func4, Try.ntmps4
  go_wp2_with fail
  refine (alive_any w).mono ?_
  rintro e w1 ⟨rfl, hb1⟩
  go_wp2_with fail
  have hs := seal_any a cap xs w1 (H.out.later hb1) (by omega)
  refine hs.mono ?_
  clear hs
  rintro e w2 ⟨rfl, hown2, hb2⟩
  go_wp2_with fail
  have ho := open_sealed w1.heap.size (xs.length + 2) xs w2 (owns_Bs hown2) (by omega)
  refine ho.mono ?_
  clear ho
  rintro e w3 ⟨v3, rfl, hB3, hb3⟩
  have hb23 : Below w1.heap.size w1 w3 := hb2.trans (hb3.mono hb2.size)
  have hb03 : Below w.heap.size w w3 := hb1.trans (hb23.mono hb1.size)
  have hown3 := owns_later hown2 hb3
  have hc1 := conv_run hB3
  have hc2 := conv_run (H.out.later hb03)
  have hge : w.heap.size ≤ w1.heap.size := hb1.size
  clear hb1 hown2 hb2 hb3 hB3 hb23 H
  obtain ⟨g, hg⟩ : ∃ g, g = w1.heap.size := ⟨_, rfl⟩
  rw [← hg] at hown3 hge ⊢
  clear hg
  have hl := length_sealL xs
  rcases (show k < 0 ∨ (xs.length : Int) + 2 ≤ k ∨ (0 ≤ k ∧ k < (xs.length : Int) + 2) by omega) with hk | hk | hk
  · clear hown3 hl
    go_wp2
    go_ret
    exact ⟨rfl, hb03⟩
  · have hk0 : ¬ k < 0 := by omega
    clear hown3 hl
    go_wp2
    go_ret
    exact ⟨rfl, hb03⟩
  · obtain ⟨j, rfl⟩ := Int.eq_ofNat_of_zero_le hk.1
    have hj : j < xs.length + 2 := by omega
    obtain ⟨z, hz⟩ : ∃ z, z = (sealL xs)[j]'(by omega) := ⟨_, rfl⟩
    have hcell : w3.cell? ⟨g, j, none⟩ = some (.int .u8 (z.toNat : Int)) := (hown3.cellAt j (by omega)).trans (by rw [hz]; simp [hl, hj, B])
    have HZ := hide hz
    clear hz
    have hfr := hown3.frozenAt j
    by_cases hzc : z = c
    · have hzc' : ((z.toNat : Int) == (c.toNat : Int)) = true := by simp [hzc]
      have HO := hide hown3
      clear hown3 hfr hzc HZ hl
      go_wp2
      go_ret
      exact ⟨rfl, hb03⟩
    · have hzc' : ((z.toNat : Int) == (c.toNat : Int)) = false := by
        simp only [beq_eq_false_iff_ne, ne_eq]
        intro he
        exact hzc (UInt8.toNat_inj.1 (by omega))
      obtain ⟨hown4, hgrow4⟩ := hown3.stored j (.int .u8 (c.toNat : Int))
      rw [set_cells] at hown4
      have ht := turned xs j c (by omega) (by rw [← HZ.out]; exact hzc)
      have ho := open_any (some ⟨g, 0, none⟩) (xs.length + 2) ((sealL xs).set j c) (w3.setCell ⟨g, j, none⟩ (.int .u8 (c.toNat : Int))) (by have := owns_Bs hown4; simpa [hl] using this) (by rw [List.length_set, hl]; omega)
      rw [ht, List.length_set, hl] at ho
      have hb4 : Below w.heap.size w (w3.setCell ⟨g, j, none⟩ (.int .u8 (c.toNat : Int))) := hb03.setCell hge _
      have HO := hide ho
      clear hown3 hzc hown4 hgrow4 ht ho HZ hl
      go_wp2_with fail
      refine HO.out.mono ?_
      rintro e w5 ⟨v5, rfl, _, hb5⟩
      go_wp2
      go_ret
      exact ⟨rfl, hb4.trans (hb5.mono hb4.size)⟩
end Go.Proofs.Ytlomffhofionnaa.leaf
