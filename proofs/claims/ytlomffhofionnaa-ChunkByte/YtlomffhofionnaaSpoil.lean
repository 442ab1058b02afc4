/-
  The walk of the law ChunkByte over what the functions of chapter 2 are held to.
-/
import Derived.Test.YtlomffhofionnaaAliveTwo
import Derived.Test.YtlomffhofionnaaByte
namespace Go.Proofs.Ytlomffhofionnaa.leaf
set_option linter.unusedVariables false
open Go.RowKit
open mth

set_option maxHeartbeats 8000000 in
theorem spoil_wrong (hW : CWrong 16) (alive : ∀ w, Calls Try.prog 26 #[] w fun e w' => e = .returned (.bool true) ∧ Below w.heap.size w w')
    (c : Ch) (d1 : Option Addr) (d2 d3 : Nat) (e1 : Option Addr) (e2 e3 : Nat) (k : Int) (y : UInt8) (w : World) (HC : Hid (Cv w (.agg #[.int .i64 c.kind, .int .i64 c.number, .int .i64 c.stream, .int .i64 c.place, .slice d1 d2 d3, .slice e1 e2 e3]) c)) (hc0 : (wrongL c != 0) = true) :
    Calls Try.prog 8 #[.agg #[.int .i64 c.kind, .int .i64 c.number, .int .i64 c.stream, .int .i64 c.place, .slice d1 d2 d3, .slice e1 e2 e3], .int .i64 k, .int .u8 (y.toNat : Int)] w fun e w' => e = .returned (.bool true) ∧ Below w.heap.size w w' := by
  obtain ⟨u, hu⟩ : ∃ u, u = w.alloc (.cells #[.int .i64 c.kind, .int .i64 c.number, .int .i64 c.stream, .int .i64 c.place, .slice d1 d2 d3, .slice e1 e2 e3] 32) := ⟨_, rfl⟩
  have hbu : Below w.heap.size w u := by rw [hu]; exact (Below.refl _ _).alloc (Nat.le_refl _) _
  have h1 : u.heap[w.heap.size]? = some (.cells #[.int .i64 c.kind, .int .i64 c.number, .int .i64 c.stream, .int .i64 c.place, .slice d1 d2 d3, .slice e1 e2 e3] 32 (0, 0)) := by rw [hu]; exact heap_alloc_new _ _
  obtain ⟨a0, a1, a2, a3, a4, a5⟩ := box_cells h1
  have HW := hide hW
  have AL := hide (alive u)
  have HBU := hide hbu
  have HU := hide hu
  clear hW alive h1 hbu hu
  go_enter Try.func8, Try.ntmps8
  go_wp2_with fail
  rw [← HU.out]
  refine AL.out.mono ?_
  rintro e w1 ⟨rfl, hk1⟩
  clear AL HU
  go_wp2_with fail
  refine (HW.out _ c w1 (HC.out.later (HBU.out.trans (hk1.mono HBU.out.size)))).mono ?_
  rintro e w2 ⟨rfl, hb2⟩
  have hk2 : Below u.heap.size u w2 := hk1.trans (hb2.mono hk1.size)
  go_wp2
  go_ret
  exact ⟨rfl, HBU.out.trans (hk2.mono HBU.out.size)⟩

set_option maxHeartbeats 8000000 in
theorem spoil_right (n : Nat) (hn : 12 ≤ n) (hW : CWrong 16) (hB : CBytes 24) (hR : CRead 22 n) (alive : ∀ w, Calls Try.prog 26 #[] w fun e w' => e = .returned (.bool true) ∧ Below w.heap.size w w')
    (c : Ch) (d1 : Option Addr) (d2 d3 : Nat) (e1 : Option Addr) (e2 e3 : Nat) (k : Int) (y : UInt8) (w : World) (HC : Hid (Cv w (.agg #[.int .i64 c.kind, .int .i64 c.number, .int .i64 c.stream, .int .i64 c.place, .slice d1 d2 d3, .slice e1 e2 e3]) c)) (HC0 : Hid (wrongL c = 0)) (hc0 : (wrongL c != 0) = false) :
    Calls Try.prog 8 #[.agg #[.int .i64 c.kind, .int .i64 c.number, .int .i64 c.stream, .int .i64 c.place, .slice d1 d2 d3, .slice e1 e2 e3], .int .i64 k, .int .u8 (y.toNat : Int)] w fun e w' => e = .returned (.bool true) ∧ Below w.heap.size w w' := by
  obtain ⟨u, hu⟩ : ∃ u, u = w.alloc (.cells #[.int .i64 c.kind, .int .i64 c.number, .int .i64 c.stream, .int .i64 c.place, .slice d1 d2 d3, .slice e1 e2 e3] 32) := ⟨_, rfl⟩
  have hbu : Below w.heap.size w u := by rw [hu]; exact (Below.refl _ _).alloc (Nat.le_refl _) _
  have h1 : u.heap[w.heap.size]? = some (.cells #[.int .i64 c.kind, .int .i64 c.number, .int .i64 c.stream, .int .i64 c.place, .slice d1 d2 d3, .slice e1 e2 e3] 32 (0, 0)) := by rw [hu]; exact heap_alloc_new _ _
  obtain ⟨a0, a1, a2, a3, a4, a5⟩ := box_cells h1
  have HW := hide hW
  have HBY := hide hB
  have HRD := hide hR
  have AL := hide (alive u)
  have HBU := hide hbu
  have HU := hide hu
  clear hW hB hR alive h1 hbu hu
  go_enter Try.func8, Try.ntmps8
  go_wp2_with fail
  rw [← HU.out]
  refine AL.out.mono ?_
  rintro e w1 ⟨rfl, hk1⟩
  clear AL HU
  go_wp2_with fail
  refine (HW.out _ c w1 (HC.out.later (HBU.out.trans (hk1.mono HBU.out.size)))).mono ?_
  rintro e w2 ⟨rfl, hb2⟩
  have hk2 : Below u.heap.size u w2 := hk1.trans (hb2.mono hk1.size)
  clear hb2 hk1
  go_wp2_with fail
  refine (HBY.out _ c w2 (HC.out.later (HBU.out.trans (hk2.mono HBU.out.size))) HC0.out).mono ?_
  rintro e w3 ⟨v3, rfl, hown3, hb3⟩
  have HL := len_body c HC0.out
  have hls : (sealL (bodyL c)).length = (bodyL c).length + 2 := length_sealL _
  obtain ⟨g, c3, rfl, hg2, -⟩ := hown3.form (by omega)
  have hb03 : Below w.heap.size w w3 := HBU.out.trans ((hk2.trans (hb3.mono hk2.size)).mono HBU.out.size)
  have hge : w.heap.size ≤ g := by have h1 := HBU.out.size; have h2 := hk2.size; omega
  have HSP := hide (fun j (hj : j < (sealL (bodyL c)).length) hne => spoilt c j y hj hne)
  obtain ⟨S, hS⟩ : ∃ S, S = sealL (bodyL c) := ⟨_, rfl⟩
  obtain ⟨L, hLe⟩ : ∃ L, L = (bodyL c).length + 2 := ⟨_, rfl⟩
  rw [← hS] at hls HSP
  rw [← hLe] at hls
  rw [← hS, ← hLe] at hown3
  rw [← hLe]
  have hL4 : 4 ≤ L ∧ L ≤ 12 := by omega
  clear hS hLe HL a0 a1 a2 a3 a4 a5 hk2 hb3 hg2
  rcases (show k < 0 ∨ (L : Int) ≤ k ∨ (0 ≤ k ∧ k < (L : Int)) by omega) with hk | hk | hk
  · have h4 : (4 : Int) ≤ (L : Int) := by omega
    clear hown3 hls HSP
    go_wp2
    go_ret
    exact ⟨rfl, hb03⟩
  · have hk0 : ¬ k < 0 := by omega
    have h4 : (4 : Int) ≤ (L : Int) := by omega
    clear hown3 hls HSP
    go_wp2
    go_ret
    exact ⟨rfl, hb03⟩
  · obtain ⟨j, rfl⟩ := Int.eq_ofNat_of_zero_le hk.1
    have hj : j < L := by omega
    obtain ⟨z, hz⟩ : ∃ z, z = S[j]'(by omega) := ⟨_, rfl⟩
    have hcell : w3.cell? ⟨g, j, none⟩ = some (.int .u8 (z.toNat : Int)) := (hown3.cellAt j (by omega)).trans (by rw [hz]; simp [hls, hj, B])
    have HZ := hide hz
    clear hz
    have hfr := hown3.frozenAt j
    by_cases hzc : z = y
    · have hzc' : ((z.toNat : Int) == (y.toNat : Int)) = true := by simp [hzc]
      have h4 : (4 : Int) ≤ (L : Int) := by omega
      clear hown3 hfr hzc HZ hls HSP
      go_wp2
      go_ret
      exact ⟨rfl, hb03⟩
    · have hzc' : ((z.toNat : Int) == (y.toNat : Int)) = false := by
        simp only [beq_eq_false_iff_ne, ne_eq]
        intro he
        exact hzc (UInt8.toNat_inj.1 (by omega))
      obtain ⟨hown4, hgrow4⟩ := hown3.stored j (.int .u8 (y.toNat : Int))
      rw [set_cells] at hown4
      have ht := HSP.out j (by omega) (by rw [← HZ.out]; exact hzc)
      have hls' : (S.set j y).length = L := by rw [List.length_set, hls]
      have ho := HRD.out (some ⟨g, 0, none⟩) c3 (S.set j y) (w3.setCell ⟨g, j, none⟩ (.int .u8 (y.toNat : Int))) (by rw [hls']; exact owns_Bs hown4) (by omega) (by omega)
      rw [ht, hls'] at ho
      have hb4 : Below w.heap.size w (w3.setCell ⟨g, j, none⟩ (.int .u8 (y.toNat : Int))) := hb03.setCell hge _
      have HO := hide ho
      clear hown3 hzc hown4 hgrow4 ht ho HZ hls hls' HSP
      go_wp2_with fail
      refine HO.out.mono ?_
      rintro e w5 ⟨v5, rfl, hC5, hb5⟩
      obtain ⟨ab, nb, cb, ae, ne, ce, rfl⟩ := hC5.form
      have hb05 : Below w.heap.size w w5 := hb4.trans (hb5.mono hb4.size)
      go_wp2
      go_ret
      exact ⟨rfl, hb05.alloc hb05.size _⟩

/-- The walk, whatever it is given. -/
theorem spoil_any (n : Nat) (hn : 12 ≤ n) (hO : COwn 21 n) (hM : CWrongMsg 18) (hW : CWrong 16) (hB : CBytes 24) (hR : CRead 22 n) (v : Value) (c : Ch) (k : Int) (y : UInt8) (w : World) (hC : Cv w v c) :
    Calls Try.prog 8 #[v, .int .i64 k, .int .u8 (y.toNat : Int)] w fun e w' => e = .returned (.bool true) ∧ Below w.heap.size w w' := by
  obtain ⟨d1, d2, d3, e1, e2, e3, rfl⟩ := hC.form
  have al := alive2_any n (by omega) hO hM hW hB hR
  by_cases h1 : wrongL c = 0
  · exact spoil_right n hn hW hB hR al c d1 d2 d3 e1 e2 e3 k y w hC h1 (by simpa using h1)
  · exact spoil_wrong hW al c d1 d2 d3 e1 e2 e3 k y w hC (by simpa using h1)
end Go.Proofs.Ytlomffhofionnaa.leaf
