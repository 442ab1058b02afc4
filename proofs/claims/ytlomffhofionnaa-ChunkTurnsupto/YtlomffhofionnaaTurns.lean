/-
  The walk of the law ChunkTurns over what the functions of chapter 2 are held to.
-/
import Derived.Test.YtlomffhofionnaaAliveTwo
namespace Go.Proofs.Ytlomffhofionnaa.leaf
set_option linter.unusedVariables false
open Go.RowKit
open mth

set_option maxHeartbeats 8000000 in
theorem turns_ww (n : Nat) (hn : 12 ≤ n) (hW : CWrong 16) (hB : CBytes 24) (hR : CRead 22 n) (alive : ∀ w, Calls Try.prog 26 #[] w fun e w' => e = .returned (.bool true) ∧ Below w.heap.size w w')
    (c : Ch) (d1 : Option Addr) (d2 d3 : Nat) (e1 : Option Addr) (e2 e3 : Nat) (b : Option Addr) (cap : Nat) (xs : List UInt8) (w : World) (HC : Hid (Cv w (.agg #[.int .i64 c.kind, .int .i64 c.number, .int .i64 c.stream, .int .i64 c.place, .slice d1 d2 d3, .slice e1 e2 e3]) c)) (HX : Hid (Bs w (.slice b xs.length cap) xs)) (hx1 : xs.length ≤ n) (hx2 : xs.length ≤ 140737488355328) (hc0 : (wrongL c == 0) = false) (hr0 : (readE xs != 0) = true) :
    Calls Try.prog 7 #[.agg #[.int .i64 c.kind, .int .i64 c.number, .int .i64 c.stream, .int .i64 c.place, .slice d1 d2 d3, .slice e1 e2 e3], .slice b xs.length cap] w fun e w' => e = .returned (.bool true) ∧ Below w.heap.size w w' := by
  obtain ⟨u, hu⟩ : ∃ u, u = w.alloc (.cells #[.int .i64 c.kind, .int .i64 c.number, .int .i64 c.stream, .int .i64 c.place, .slice d1 d2 d3, .slice e1 e2 e3] 32) := ⟨_, rfl⟩
  have hbu : Below w.heap.size w u := by rw [hu]; exact (Below.refl _ _).alloc (Nat.le_refl _) _
  have h1 : u.heap[w.heap.size]? = some (.cells #[.int .i64 c.kind, .int .i64 c.number, .int .i64 c.stream, .int .i64 c.place, .slice d1 d2 d3, .slice e1 e2 e3] 32 (0, 0)) := by rw [hu]; exact heap_alloc_new _ _
  obtain ⟨a0, a1, a2, a3, a4, a5⟩ := box_cells h1
  have HW := hide hW
  have HBY := hide hB
  have HRD := hide hR
  have AL := hide (alive u)
  have HBU := hide hbu
  have HU := hide hu
  clear hW hB hR alive h1 hbu hu
  go_enter Try.func7, Try.ntmps7
  go_wp2_with fail
  rw [← HU.out]
  refine AL.out.mono ?_
  rintro e w1 ⟨rfl, hk1⟩
  clear AL HU
  go_wp2_with fail
  refine (HW.out _ c w1 (HC.out.later (HBU.out.trans (hk1.mono HBU.out.size)))).mono ?_
  rintro e w2 ⟨rfl, hb2⟩
  have hk2 : Below u.heap.size u w2 := hk1.trans (hb2.mono hk1.size)
  clear hb2 hk1
  go_wp2_with fail
  refine (HRD.out b cap xs w2 (HX.out.later (HBU.out.trans (hk2.mono HBU.out.size))) hx2 hx1).mono ?_
  rintro e w7 ⟨v7, rfl, hC7, hb7⟩
  obtain ⟨ab, nb, cb, ae, ne, ce, rfl⟩ := hC7.form
  have hk7 : Below u.heap.size u w7 := hk2.trans (hb7.mono hk2.size)
  clear hb7 hk2
  obtain ⟨z, hz⟩ : ∃ z, z = w7.alloc (.cells #[.int .i64 (readC xs).kind, .int .i64 (readC xs).number, .int .i64 (readC xs).stream, .int .i64 (readC xs).place, .slice ab nb cb, .slice ae ne ce] 32) := ⟨_, rfl⟩
  have hbz : Below w7.heap.size w7 z := by rw [hz]; exact (Below.refl _ _).alloc (Nat.le_refl _) _
  have h2 : z.heap[w7.heap.size]? = some (.cells #[.int .i64 (readC xs).kind, .int .i64 (readC xs).number, .int .i64 (readC xs).stream, .int .i64 (readC xs).place, .slice ab nb cb, .slice ae ne ce] 32 (0, 0)) := by rw [hz]; exact heap_alloc_new _ _
  obtain ⟨z0, z1, z2, z3, z4, z5⟩ := box_cells h2
  have hwz : Below w.heap.size w z := HBU.out.trans ((hk7.trans (hbz.mono hk7.size)).mono HBU.out.size)
  have HCZ := hide (hC7.later hbz)
  have HWZ := hide hwz
  have HXZ := hide (HX.out.later hwz)
  have HZ := hide hz
  clear a0 a1 a2 a3 a4 a5 h2 hwz hbz hk7 hC7 hz
  go_wp2_with fail
  rw [← HZ.out]
  have HK1 : Hid (Below z.heap.size z z.drew) := Below.drew (Below.refl _ _)
  clear HZ
  refine regs.held_begin (by kernel_rfl) ?_
  refine regs.held_take (i := 0) (v := .int .i64 (readE xs)) rfl (by kernel_rfl) (by kernel_rfl) (by kernel_rfl) (fun _ _ _ h => h) (by rfl) (fun w' hb => by go_simp) ?_
  simp only [Act.put, List.setIfInBounds_toArray, List.set_cons_zero, List.set_cons_succ, List.getElem_toArray, List.getElem_cons_zero]
  refine regs.held_take (i := 1) (v := .bool true) rfl (by kernel_rfl) (by kernel_rfl) (by kernel_rfl) (fun _ _ _ h => h) (by rfl) (fun w' hb => by go_simp) ?_
  simp only [Act.put, List.setIfInBounds_toArray, List.set_cons_zero, List.set_cons_succ, List.getElem_toArray, List.getElem_cons_zero, List.getElem_cons_succ]
  refine regs.held_take (i := 2) (v := .bool true) rfl (by kernel_rfl) (by kernel_rfl) (by kernel_rfl) (fun _ _ _ h => h) (by rfl) (fun w' hb => by go_simp) ?_
  simp only [Act.put, List.setIfInBounds_toArray, List.set_cons_zero, List.set_cons_succ, List.getElem_toArray, List.getElem_cons_zero, List.getElem_cons_succ]
  refine regs.held_skip (i := 3) rfl (by kernel_rfl) (by kernel_rfl) (by kernel_rfl) (fun _ _ _ h => h) (by rfl) ?_
  simp only [Act.put, List.setIfInBounds_toArray, List.set_cons_zero, List.set_cons_succ, List.getElem_toArray, List.getElem_cons_zero, List.getElem_cons_succ]
  refine regs.held_skip (i := 4) rfl (by kernel_rfl) (by kernel_rfl) (by kernel_rfl) (fun _ _ _ h => h) (by rfl) ?_
  simp only [Act.put, List.setIfInBounds_toArray, List.set_cons_zero, List.set_cons_succ, List.getElem_toArray, List.getElem_cons_zero, List.getElem_cons_succ]
  refine regs.held_skip (i := 5) rfl (by kernel_rfl) (by kernel_rfl) (by kernel_rfl) (fun _ _ _ h => h) (by rfl) ?_
  simp only [Act.put, List.setIfInBounds_toArray, List.set_cons_zero, List.set_cons_succ, List.getElem_toArray, List.getElem_cons_zero, List.getElem_cons_succ]
  refine regs.held_skip (i := 6) rfl (by kernel_rfl) (by kernel_rfl) (by kernel_rfl) (fun _ _ _ h => h) (by rfl) ?_
  simp only [Act.put, List.setIfInBounds_toArray, List.set_cons_zero, List.set_cons_succ, List.getElem_toArray, List.getElem_cons_zero, List.getElem_cons_succ]
  refine regs.held_skip (i := 7) rfl (by kernel_rfl) (by kernel_rfl) (by kernel_rfl) (fun _ _ _ h => h) (by rfl) ?_
  simp only [Act.put, List.setIfInBounds_toArray, List.set_cons_zero, List.set_cons_succ, List.getElem_toArray, List.getElem_cons_zero, List.getElem_cons_succ]
  refine regs.held_skip (i := 8) rfl (by kernel_rfl) (by kernel_rfl) (by kernel_rfl) (fun _ _ _ h => h) (by rfl) ?_
  simp only [Act.put, List.setIfInBounds_toArray, List.set_cons_zero, List.set_cons_succ, List.getElem_toArray, List.getElem_cons_zero, List.getElem_cons_succ]
  refine regs.held_skip (i := 9) rfl (by kernel_rfl) (by kernel_rfl) (by kernel_rfl) (fun _ _ _ h => h) (by rfl) ?_
  simp only [Act.put, List.setIfInBounds_toArray, List.set_cons_zero, List.set_cons_succ, List.getElem_toArray, List.getElem_cons_zero, List.getElem_cons_succ]
  refine regs.held_skip (i := 10) rfl (by kernel_rfl) (by kernel_rfl) (by kernel_rfl) (fun _ _ _ h => h) (by rfl) ?_
  simp only [Act.put, List.setIfInBounds_toArray, List.set_cons_zero, List.set_cons_succ, List.getElem_toArray, List.getElem_cons_zero, List.getElem_cons_succ]
  refine regs.held_skip (i := 11) rfl (by kernel_rfl) (by kernel_rfl) (by kernel_rfl) (fun _ _ _ h => h) (by rfl) ?_
  simp only [Act.put, List.setIfInBounds_toArray, List.set_cons_zero, List.set_cons_succ, List.getElem_toArray, List.getElem_cons_zero, List.getElem_cons_succ]
  refine regs.held_skip (i := 12) rfl (by kernel_rfl) (by kernel_rfl) (by kernel_rfl) (fun _ _ _ h => h) (by rfl) ?_
  simp only [Act.put, List.setIfInBounds_toArray, List.set_cons_zero, List.set_cons_succ, List.getElem_toArray, List.getElem_cons_zero, List.getElem_cons_succ]
  refine regs.held_skip (i := 13) rfl (by kernel_rfl) (by kernel_rfl) (by kernel_rfl) (fun _ _ _ h => h) (by rfl) ?_
  simp only [Act.put, List.setIfInBounds_toArray, List.set_cons_zero, List.set_cons_succ, List.getElem_toArray, List.getElem_cons_zero, List.getElem_cons_succ]
  refine regs.held_take (i := 14) (v := .bool true) rfl (by kernel_rfl) (by kernel_rfl) (by kernel_rfl) (fun _ _ _ h => h) (by rfl) (fun w' hb => by go_simp) ?_
  simp only [Act.put, List.setIfInBounds_toArray, List.set_cons_zero, List.set_cons_succ, List.getElem_toArray, List.getElem_cons_zero, List.getElem_cons_succ]
  refine regs.held_take (i := 15) (v := .bool true) rfl (by kernel_rfl) (by kernel_rfl) (by kernel_rfl) (fun _ _ _ h => h) (by rfl) (fun w' hb => by go_simp) ?_
  simp only [Act.put, List.setIfInBounds_toArray, List.set_cons_zero, List.set_cons_succ, List.getElem_toArray, List.getElem_cons_zero, List.getElem_cons_succ]
  refine regs.held_done (by kernel_rfl) ?_ _
  go_wp2
  go_ret
  exact ⟨rfl, HWZ.out.trans (HK1.out.mono HWZ.out.size)⟩

set_option maxHeartbeats 8000000 in
theorem turns_wr (n : Nat) (hn : 12 ≤ n) (hW : CWrong 16) (hB : CBytes 24) (hR : CRead 22 n) (alive : ∀ w, Calls Try.prog 26 #[] w fun e w' => e = .returned (.bool true) ∧ Below w.heap.size w w')
    (c : Ch) (d1 : Option Addr) (d2 d3 : Nat) (e1 : Option Addr) (e2 e3 : Nat) (b : Option Addr) (cap : Nat) (xs : List UInt8) (w : World) (HC : Hid (Cv w (.agg #[.int .i64 c.kind, .int .i64 c.number, .int .i64 c.stream, .int .i64 c.place, .slice d1 d2 d3, .slice e1 e2 e3]) c)) (HX : Hid (Bs w (.slice b xs.length cap) xs)) (hx1 : xs.length ≤ n) (hx2 : xs.length ≤ 140737488355328) (hc0 : (wrongL c == 0) = false) (HR0 : Hid (readE xs = 0)) (hr0 : (readE xs != 0) = false) :
    Calls Try.prog 7 #[.agg #[.int .i64 c.kind, .int .i64 c.number, .int .i64 c.stream, .int .i64 c.place, .slice d1 d2 d3, .slice e1 e2 e3], .slice b xs.length cap] w fun e w' => e = .returned (.bool true) ∧ Below w.heap.size w w' := by
  obtain ⟨u, hu⟩ : ∃ u, u = w.alloc (.cells #[.int .i64 c.kind, .int .i64 c.number, .int .i64 c.stream, .int .i64 c.place, .slice d1 d2 d3, .slice e1 e2 e3] 32) := ⟨_, rfl⟩
  have hbu : Below w.heap.size w u := by rw [hu]; exact (Below.refl _ _).alloc (Nat.le_refl _) _
  have h1 : u.heap[w.heap.size]? = some (.cells #[.int .i64 c.kind, .int .i64 c.number, .int .i64 c.stream, .int .i64 c.place, .slice d1 d2 d3, .slice e1 e2 e3] 32 (0, 0)) := by rw [hu]; exact heap_alloc_new _ _
  obtain ⟨a0, a1, a2, a3, a4, a5⟩ := box_cells h1
  have HW := hide hW
  have HBY := hide hB
  have HRD := hide hR
  have AL := hide (alive u)
  have HBU := hide hbu
  have HU := hide hu
  clear hW hB hR alive h1 hbu hu
  go_enter Try.func7, Try.ntmps7
  go_wp2_with fail
  rw [← HU.out]
  refine AL.out.mono ?_
  rintro e w1 ⟨rfl, hk1⟩
  clear AL HU
  go_wp2_with fail
  refine (HW.out _ c w1 (HC.out.later (HBU.out.trans (hk1.mono HBU.out.size)))).mono ?_
  rintro e w2 ⟨rfl, hb2⟩
  have hk2 : Below u.heap.size u w2 := hk1.trans (hb2.mono hk1.size)
  clear hb2 hk1
  go_wp2_with fail
  refine (HRD.out b cap xs w2 (HX.out.later (HBU.out.trans (hk2.mono HBU.out.size))) hx2 hx1).mono ?_
  rintro e w7 ⟨v7, rfl, hC7, hb7⟩
  obtain ⟨ab, nb, cb, ae, ne, ce, rfl⟩ := hC7.form
  have hk7 : Below u.heap.size u w7 := hk2.trans (hb7.mono hk2.size)
  clear hb7 hk2
  obtain ⟨z, hz⟩ : ∃ z, z = w7.alloc (.cells #[.int .i64 (readC xs).kind, .int .i64 (readC xs).number, .int .i64 (readC xs).stream, .int .i64 (readC xs).place, .slice ab nb cb, .slice ae ne ce] 32) := ⟨_, rfl⟩
  have hbz : Below w7.heap.size w7 z := by rw [hz]; exact (Below.refl _ _).alloc (Nat.le_refl _) _
  have h2 : z.heap[w7.heap.size]? = some (.cells #[.int .i64 (readC xs).kind, .int .i64 (readC xs).number, .int .i64 (readC xs).stream, .int .i64 (readC xs).place, .slice ab nb cb, .slice ae ne ce] 32 (0, 0)) := by rw [hz]; exact heap_alloc_new _ _
  obtain ⟨z0, z1, z2, z3, z4, z5⟩ := box_cells h2
  have hwz : Below w.heap.size w z := HBU.out.trans ((hk7.trans (hbz.mono hk7.size)).mono HBU.out.size)
  have HCZ := hide (hC7.later hbz)
  have HWZ := hide hwz
  have HXZ := hide (HX.out.later hwz)
  have HZ := hide hz
  clear a0 a1 a2 a3 a4 a5 h2 hwz hbz hk7 hC7 hz
  go_wp2_with fail
  rw [← HZ.out]
  have HK1 : Hid (Below z.heap.size z z.drew) := Below.drew (Below.refl _ _)
  clear HZ
  refine regs.held_begin (by kernel_rfl) ?_
  refine regs.held_take (i := 0) (v := .int .i64 (readE xs)) rfl (by kernel_rfl) (by kernel_rfl) (by kernel_rfl) (fun _ _ _ h => h) (by rfl) (fun w' hb => by go_simp) ?_
  simp only [Act.put, List.setIfInBounds_toArray, List.set_cons_zero, List.set_cons_succ, List.getElem_toArray, List.getElem_cons_zero]
  refine regs.held_take (i := 1) (v := .bool false) rfl (by kernel_rfl) (by kernel_rfl) (by kernel_rfl) (fun _ _ _ h => h) (by rfl) (fun w' hb => by go_simp) ?_
  simp only [Act.put, List.setIfInBounds_toArray, List.set_cons_zero, List.set_cons_succ, List.getElem_toArray, List.getElem_cons_zero, List.getElem_cons_succ]
  refine regs.held_take (i := 2) (v := .bool false) rfl (by kernel_rfl) (by kernel_rfl) (by kernel_rfl) (fun _ _ _ h => h) (by rfl) (fun w' hb => by go_simp) ?_
  simp only [Act.put, List.setIfInBounds_toArray, List.set_cons_zero, List.set_cons_succ, List.getElem_toArray, List.getElem_cons_zero, List.getElem_cons_succ]
  refine regs.held_take (i := 3) (v := .agg #[.int .i64 (readC xs).kind, .int .i64 (readC xs).number, .int .i64 (readC xs).stream, .int .i64 (readC xs).place, .slice ab nb cb, .slice ae ne ce]) rfl (by kernel_rfl) (by kernel_rfl) (by kernel_rfl) (fun _ _ _ h => h) (by rfl) (fun w' hb => by have hb0 := HK1.out.trans (hb.mono HK1.out.size); go_simp) ?_
  simp only [Act.put, List.setIfInBounds_toArray, List.set_cons_zero, List.set_cons_succ, List.getElem_toArray, List.getElem_cons_zero, List.getElem_cons_succ]
  refine regs.held_step (i := 4) rfl (by kernel_rfl) (fun K hK => ?_)
  go_simp
  go_wp2_with ((go_at_call 16; refine (HW.out _ (readC xs) z.drew (HCZ.out.later HK1.out)).mono ?_; rw [(bytes_read xs HR0.out).1]; rintro e w8 ⟨rfl, hb8⟩; have HK8 : Hid (Below z.heap.size z w8) := HK1.out.trans (hb8.mono HK1.out.size); have HS8 := hide hb8; clear hb8))
  refine hK.out _ _ HS8.out ?_
  clear hK K
  refine regs.held_take (i := 5) (v := .bool true) rfl (by kernel_rfl) (by kernel_rfl) (by kernel_rfl) (fun _ _ _ h => h) (by rfl) (fun w' hb => by go_simp) ?_
  simp only [Act.put, List.setIfInBounds_toArray, List.set_cons_zero, List.set_cons_succ, List.getElem_toArray, List.getElem_cons_zero, List.getElem_cons_succ]
  refine regs.held_take (i := 6) (v := .bool true) rfl (by kernel_rfl) (by kernel_rfl) (by kernel_rfl) (fun _ _ _ h => h) (by rfl) (fun w' hb => by go_simp) ?_
  simp only [Act.put, List.setIfInBounds_toArray, List.set_cons_zero, List.set_cons_succ, List.getElem_toArray, List.getElem_cons_zero, List.getElem_cons_succ]
  refine regs.held_take (i := 7) (v := .agg #[.int .i64 (readC xs).kind, .int .i64 (readC xs).number, .int .i64 (readC xs).stream, .int .i64 (readC xs).place, .slice ab nb cb, .slice ae ne ce]) rfl (by kernel_rfl) (by kernel_rfl) (by kernel_rfl) (fun _ _ _ h => h) (by rfl) (fun w' hb => by have hb0 := HK8.out.trans (hb.mono HK8.out.size); go_simp) ?_
  simp only [Act.put, List.setIfInBounds_toArray, List.set_cons_zero, List.set_cons_succ, List.getElem_toArray, List.getElem_cons_zero, List.getElem_cons_succ]
  refine regs.held_take (i := 10) (v := .slice b xs.length cap) rfl (by kernel_rfl) (by kernel_rfl) (by kernel_rfl) (fun _ _ _ h => h) (by rfl) (fun w' hb => by go_simp) ?_
  simp only [Act.put, List.setIfInBounds_toArray, List.set_cons_zero, List.set_cons_succ, List.getElem_toArray, List.getElem_cons_zero, List.getElem_cons_succ]
  refine regs.held_take (i := 11) (v := .string ⟨xs.toArray⟩) rfl (by kernel_rfl) (by kernel_rfl) (by kernel_rfl) (fun _ _ _ h => h) (by rfl) (fun w' hb => by have hb0 := HK8.out.trans (hb.mono HK8.out.size); have hc := conv_run (HXZ.out.later hb0); go_simp) ?_
  simp only [Act.put, List.setIfInBounds_toArray, List.set_cons_zero, List.set_cons_succ, List.getElem_toArray, List.getElem_cons_zero, List.getElem_cons_succ]
  refine regs.held_step (i := 8) rfl (by kernel_rfl) (fun K hK => ?_)
  go_simp
  go_wp2_with ((go_at_call 24; refine (HBY.out _ (readC xs) w8 (HCZ.out.later HK8.out) (bytes_read xs HR0.out).1).mono ?_; rw [(bytes_read xs HR0.out).2]; rintro e w9 ⟨v9, rfl, hown9, hb9⟩; have HK9 : Hid (Below z.heap.size z w9) := HK8.out.trans (hb9.mono HK8.out.size); have HS9 := hide hb9; have HO9 := hide hown9; clear hb9 hown9))
  refine hK.out _ _ HS9.out ?_
  clear hK K
  refine regs.held_take (i := 9) (v := .string ⟨xs.toArray⟩) rfl (by kernel_rfl) (by kernel_rfl) (by kernel_rfl) (fun _ _ _ h => h) (by rfl) (fun w' hb => by have hc := conv_run ((owns_Bs HO9.out).later hb); go_simp) ?_
  simp only [Act.put, List.setIfInBounds_toArray, List.set_cons_zero, List.set_cons_succ, List.getElem_toArray, List.getElem_cons_zero, List.getElem_cons_succ]
  refine regs.held_take (i := 12) (v := .bool true) rfl (by kernel_rfl) (by kernel_rfl) (by kernel_rfl) (fun _ _ _ h => h) (by rfl) (fun w' hb => by go_simp) ?_
  simp only [Act.put, List.setIfInBounds_toArray, List.set_cons_zero, List.set_cons_succ, List.getElem_toArray, List.getElem_cons_zero, List.getElem_cons_succ]
  refine regs.held_take (i := 13) (v := .bool true) rfl (by kernel_rfl) (by kernel_rfl) (by kernel_rfl) (fun _ _ _ h => h) (by rfl) (fun w' hb => by go_simp) ?_
  simp only [Act.put, List.setIfInBounds_toArray, List.set_cons_zero, List.set_cons_succ, List.getElem_toArray, List.getElem_cons_zero, List.getElem_cons_succ]
  refine regs.held_take (i := 14) (v := .bool true) rfl (by kernel_rfl) (by kernel_rfl) (by kernel_rfl) (fun _ _ _ h => h) (by rfl) (fun w' hb => by go_simp) ?_
  simp only [Act.put, List.setIfInBounds_toArray, List.set_cons_zero, List.set_cons_succ, List.getElem_toArray, List.getElem_cons_zero, List.getElem_cons_succ]
  refine regs.held_take (i := 15) (v := .bool true) rfl (by kernel_rfl) (by kernel_rfl) (by kernel_rfl) (fun _ _ _ h => h) (by rfl) (fun w' hb => by go_simp) ?_
  simp only [Act.put, List.setIfInBounds_toArray, List.set_cons_zero, List.set_cons_succ, List.getElem_toArray, List.getElem_cons_zero, List.getElem_cons_succ]
  refine regs.held_done (by kernel_rfl) ?_ _
  go_wp2
  go_ret
  exact ⟨rfl, HWZ.out.trans (HK9.out.mono HWZ.out.size)⟩

set_option maxHeartbeats 8000000 in
theorem turns_rw (n : Nat) (hn : 12 ≤ n) (hW : CWrong 16) (hB : CBytes 24) (hR : CRead 22 n) (alive : ∀ w, Calls Try.prog 26 #[] w fun e w' => e = .returned (.bool true) ∧ Below w.heap.size w w')
    (c : Ch) (d1 : Option Addr) (d2 d3 : Nat) (e1 : Option Addr) (e2 e3 : Nat) (b : Option Addr) (cap : Nat) (xs : List UInt8) (w : World) (HC : Hid (Cv w (.agg #[.int .i64 c.kind, .int .i64 c.number, .int .i64 c.stream, .int .i64 c.place, .slice d1 d2 d3, .slice e1 e2 e3]) c)) (HX : Hid (Bs w (.slice b xs.length cap) xs)) (hx1 : xs.length ≤ n) (hx2 : xs.length ≤ 140737488355328) (HC0 : Hid (wrongL c = 0)) (hc0 : (wrongL c == 0) = true) (hr0 : (readE xs != 0) = true) :
    Calls Try.prog 7 #[.agg #[.int .i64 c.kind, .int .i64 c.number, .int .i64 c.stream, .int .i64 c.place, .slice d1 d2 d3, .slice e1 e2 e3], .slice b xs.length cap] w fun e w' => e = .returned (.bool true) ∧ Below w.heap.size w w' := by
  obtain ⟨u, hu⟩ : ∃ u, u = w.alloc (.cells #[.int .i64 c.kind, .int .i64 c.number, .int .i64 c.stream, .int .i64 c.place, .slice d1 d2 d3, .slice e1 e2 e3] 32) := ⟨_, rfl⟩
  have hbu : Below w.heap.size w u := by rw [hu]; exact (Below.refl _ _).alloc (Nat.le_refl _) _
  have h1 : u.heap[w.heap.size]? = some (.cells #[.int .i64 c.kind, .int .i64 c.number, .int .i64 c.stream, .int .i64 c.place, .slice d1 d2 d3, .slice e1 e2 e3] 32 (0, 0)) := by rw [hu]; exact heap_alloc_new _ _
  obtain ⟨a0, a1, a2, a3, a4, a5⟩ := box_cells h1
  have HW := hide hW
  have HBY := hide hB
  have HRD := hide hR
  have AL := hide (alive u)
  have HBU := hide hbu
  have HU := hide hu
  clear hW hB hR alive h1 hbu hu
  go_enter Try.func7, Try.ntmps7
  go_wp2_with fail
  rw [← HU.out]
  refine AL.out.mono ?_
  rintro e w1 ⟨rfl, hk1⟩
  clear AL HU
  go_wp2_with fail
  refine (HW.out _ c w1 (HC.out.later (HBU.out.trans (hk1.mono HBU.out.size)))).mono ?_
  rintro e w2 ⟨rfl, hb2⟩
  have hk2 : Below u.heap.size u w2 := hk1.trans (hb2.mono hk1.size)
  clear hb2 hk1
  go_wp2_with fail
  refine (HBY.out _ c w2 (HC.out.later (HBU.out.trans (hk2.mono HBU.out.size))) HC0.out).mono ?_
  rintro e w3 ⟨v3, rfl, hown3, hb3⟩
  have HL := len_body c HC0.out
  obtain ⟨g3, c3, rfl, -, -⟩ := hown3.form (by omega)
  have hk3 : Below u.heap.size u w3 := hk2.trans (hb3.mono hk2.size)
  clear hb3 hk2
  go_wp2_with fail
  have hls : (sealL (bodyL c)).length = (bodyL c).length + 2 := length_sealL _
  have hrd := HRD.out (some ⟨g3, 0, none⟩) c3 (sealL (bodyL c)) w3 (by rw [hls]; exact owns_Bs hown3) (by rw [hls]; omega) (by rw [hls]; omega)
  rw [hls, (read_bytes c HC0.out).1, (read_bytes c HC0.out).2] at hrd
  refine hrd.mono ?_
  clear hrd hls
  rintro e w4 ⟨v4, rfl, hC4, hb4⟩
  obtain ⟨a7, n7, c7, a8, n8, c8, rfl⟩ := hC4.form
  have hk4 : Below u.heap.size u w4 := hk3.trans (hb4.mono hk3.size)
  have hk5 : Below u.heap.size u (w4.alloc (.cells #[.int .i64 c.kind, .int .i64 c.number, .int .i64 c.stream, .int .i64 c.place, .slice a7 n7 c7, .slice a8 n8 c8] 32)) := hk4.alloc hk4.size _
  have HC4 := hide hC4
  clear hb4 hk3 hk4 hown3 hC4
  go_wp2_with fail
  refine (refSame_any _ _ c c _ (HC.out.later (HBU.out.trans (hk5.mono HBU.out.size))) (HC4.out.later ((Below.refl _ _).alloc (Nat.le_refl _) _))).mono ?_
  rw [(sameC_iff c c).2 rfl]
  rintro e w6 ⟨rfl, hb6⟩
  have hk6 : Below u.heap.size u w6 := hk5.trans (hb6.mono hk5.size)
  clear hb6 hk5 HC4
  go_wp2_with fail
  refine (HRD.out b cap xs w6 (HX.out.later (HBU.out.trans (hk6.mono HBU.out.size))) hx2 hx1).mono ?_
  rintro e w7 ⟨v7, rfl, hC7, hb7⟩
  obtain ⟨ab, nb, cb, ae, ne, ce, rfl⟩ := hC7.form
  have hk7 : Below u.heap.size u w7 := hk6.trans (hb7.mono hk6.size)
  clear hb7 hk6
  obtain ⟨z, hz⟩ : ∃ z, z = w7.alloc (.cells #[.int .i64 (readC xs).kind, .int .i64 (readC xs).number, .int .i64 (readC xs).stream, .int .i64 (readC xs).place, .slice ab nb cb, .slice ae ne ce] 32) := ⟨_, rfl⟩
  have hbz : Below w7.heap.size w7 z := by rw [hz]; exact (Below.refl _ _).alloc (Nat.le_refl _) _
  have h2 : z.heap[w7.heap.size]? = some (.cells #[.int .i64 (readC xs).kind, .int .i64 (readC xs).number, .int .i64 (readC xs).stream, .int .i64 (readC xs).place, .slice ab nb cb, .slice ae ne ce] 32 (0, 0)) := by rw [hz]; exact heap_alloc_new _ _
  obtain ⟨z0, z1, z2, z3, z4, z5⟩ := box_cells h2
  have hwz : Below w.heap.size w z := HBU.out.trans ((hk7.trans (hbz.mono hk7.size)).mono HBU.out.size)
  have HCZ := hide (hC7.later hbz)
  have HWZ := hide hwz
  have HXZ := hide (HX.out.later hwz)
  have HZ := hide hz
  clear a0 a1 a2 a3 a4 a5 h2 hwz hbz hk7 hC7 hz
  go_wp2_with fail
  rw [← HZ.out]
  have HK1 : Hid (Below z.heap.size z z.drew) := Below.drew (Below.refl _ _)
  clear HZ
  refine regs.held_begin (by kernel_rfl) ?_
  refine regs.held_take (i := 0) (v := .int .i64 (readE xs)) rfl (by kernel_rfl) (by kernel_rfl) (by kernel_rfl) (fun _ _ _ h => h) (by rfl) (fun w' hb => by go_simp) ?_
  simp only [Act.put, List.setIfInBounds_toArray, List.set_cons_zero, List.set_cons_succ, List.getElem_toArray, List.getElem_cons_zero]
  refine regs.held_take (i := 1) (v := .bool true) rfl (by kernel_rfl) (by kernel_rfl) (by kernel_rfl) (fun _ _ _ h => h) (by rfl) (fun w' hb => by go_simp) ?_
  simp only [Act.put, List.setIfInBounds_toArray, List.set_cons_zero, List.set_cons_succ, List.getElem_toArray, List.getElem_cons_zero, List.getElem_cons_succ]
  refine regs.held_take (i := 2) (v := .bool true) rfl (by kernel_rfl) (by kernel_rfl) (by kernel_rfl) (fun _ _ _ h => h) (by rfl) (fun w' hb => by go_simp) ?_
  simp only [Act.put, List.setIfInBounds_toArray, List.set_cons_zero, List.set_cons_succ, List.getElem_toArray, List.getElem_cons_zero, List.getElem_cons_succ]
  refine regs.held_skip (i := 3) rfl (by kernel_rfl) (by kernel_rfl) (by kernel_rfl) (fun _ _ _ h => h) (by rfl) ?_
  simp only [Act.put, List.setIfInBounds_toArray, List.set_cons_zero, List.set_cons_succ, List.getElem_toArray, List.getElem_cons_zero, List.getElem_cons_succ]
  refine regs.held_skip (i := 4) rfl (by kernel_rfl) (by kernel_rfl) (by kernel_rfl) (fun _ _ _ h => h) (by rfl) ?_
  simp only [Act.put, List.setIfInBounds_toArray, List.set_cons_zero, List.set_cons_succ, List.getElem_toArray, List.getElem_cons_zero, List.getElem_cons_succ]
  refine regs.held_skip (i := 5) rfl (by kernel_rfl) (by kernel_rfl) (by kernel_rfl) (fun _ _ _ h => h) (by rfl) ?_
  simp only [Act.put, List.setIfInBounds_toArray, List.set_cons_zero, List.set_cons_succ, List.getElem_toArray, List.getElem_cons_zero, List.getElem_cons_succ]
  refine regs.held_skip (i := 6) rfl (by kernel_rfl) (by kernel_rfl) (by kernel_rfl) (fun _ _ _ h => h) (by rfl) ?_
  simp only [Act.put, List.setIfInBounds_toArray, List.set_cons_zero, List.set_cons_succ, List.getElem_toArray, List.getElem_cons_zero, List.getElem_cons_succ]
  refine regs.held_skip (i := 7) rfl (by kernel_rfl) (by kernel_rfl) (by kernel_rfl) (fun _ _ _ h => h) (by rfl) ?_
  simp only [Act.put, List.setIfInBounds_toArray, List.set_cons_zero, List.set_cons_succ, List.getElem_toArray, List.getElem_cons_zero, List.getElem_cons_succ]
  refine regs.held_skip (i := 8) rfl (by kernel_rfl) (by kernel_rfl) (by kernel_rfl) (fun _ _ _ h => h) (by rfl) ?_
  simp only [Act.put, List.setIfInBounds_toArray, List.set_cons_zero, List.set_cons_succ, List.getElem_toArray, List.getElem_cons_zero, List.getElem_cons_succ]
  refine regs.held_skip (i := 9) rfl (by kernel_rfl) (by kernel_rfl) (by kernel_rfl) (fun _ _ _ h => h) (by rfl) ?_
  simp only [Act.put, List.setIfInBounds_toArray, List.set_cons_zero, List.set_cons_succ, List.getElem_toArray, List.getElem_cons_zero, List.getElem_cons_succ]
  refine regs.held_skip (i := 10) rfl (by kernel_rfl) (by kernel_rfl) (by kernel_rfl) (fun _ _ _ h => h) (by rfl) ?_
  simp only [Act.put, List.setIfInBounds_toArray, List.set_cons_zero, List.set_cons_succ, List.getElem_toArray, List.getElem_cons_zero, List.getElem_cons_succ]
  refine regs.held_skip (i := 11) rfl (by kernel_rfl) (by kernel_rfl) (by kernel_rfl) (fun _ _ _ h => h) (by rfl) ?_
  simp only [Act.put, List.setIfInBounds_toArray, List.set_cons_zero, List.set_cons_succ, List.getElem_toArray, List.getElem_cons_zero, List.getElem_cons_succ]
  refine regs.held_skip (i := 12) rfl (by kernel_rfl) (by kernel_rfl) (by kernel_rfl) (fun _ _ _ h => h) (by rfl) ?_
  simp only [Act.put, List.setIfInBounds_toArray, List.set_cons_zero, List.set_cons_succ, List.getElem_toArray, List.getElem_cons_zero, List.getElem_cons_succ]
  refine regs.held_skip (i := 13) rfl (by kernel_rfl) (by kernel_rfl) (by kernel_rfl) (fun _ _ _ h => h) (by rfl) ?_
  simp only [Act.put, List.setIfInBounds_toArray, List.set_cons_zero, List.set_cons_succ, List.getElem_toArray, List.getElem_cons_zero, List.getElem_cons_succ]
  refine regs.held_take (i := 14) (v := .bool true) rfl (by kernel_rfl) (by kernel_rfl) (by kernel_rfl) (fun _ _ _ h => h) (by rfl) (fun w' hb => by go_simp) ?_
  simp only [Act.put, List.setIfInBounds_toArray, List.set_cons_zero, List.set_cons_succ, List.getElem_toArray, List.getElem_cons_zero, List.getElem_cons_succ]
  refine regs.held_take (i := 15) (v := .bool true) rfl (by kernel_rfl) (by kernel_rfl) (by kernel_rfl) (fun _ _ _ h => h) (by rfl) (fun w' hb => by go_simp) ?_
  simp only [Act.put, List.setIfInBounds_toArray, List.set_cons_zero, List.set_cons_succ, List.getElem_toArray, List.getElem_cons_zero, List.getElem_cons_succ]
  refine regs.held_done (by kernel_rfl) ?_ _
  go_wp2
  go_ret
  exact ⟨rfl, HWZ.out.trans (HK1.out.mono HWZ.out.size)⟩

set_option maxHeartbeats 8000000 in
theorem turns_rr (n : Nat) (hn : 12 ≤ n) (hW : CWrong 16) (hB : CBytes 24) (hR : CRead 22 n) (alive : ∀ w, Calls Try.prog 26 #[] w fun e w' => e = .returned (.bool true) ∧ Below w.heap.size w w')
    (c : Ch) (d1 : Option Addr) (d2 d3 : Nat) (e1 : Option Addr) (e2 e3 : Nat) (b : Option Addr) (cap : Nat) (xs : List UInt8) (w : World) (HC : Hid (Cv w (.agg #[.int .i64 c.kind, .int .i64 c.number, .int .i64 c.stream, .int .i64 c.place, .slice d1 d2 d3, .slice e1 e2 e3]) c)) (HX : Hid (Bs w (.slice b xs.length cap) xs)) (hx1 : xs.length ≤ n) (hx2 : xs.length ≤ 140737488355328) (HC0 : Hid (wrongL c = 0)) (hc0 : (wrongL c == 0) = true) (HR0 : Hid (readE xs = 0)) (hr0 : (readE xs != 0) = false) :
    Calls Try.prog 7 #[.agg #[.int .i64 c.kind, .int .i64 c.number, .int .i64 c.stream, .int .i64 c.place, .slice d1 d2 d3, .slice e1 e2 e3], .slice b xs.length cap] w fun e w' => e = .returned (.bool true) ∧ Below w.heap.size w w' := by
  obtain ⟨u, hu⟩ : ∃ u, u = w.alloc (.cells #[.int .i64 c.kind, .int .i64 c.number, .int .i64 c.stream, .int .i64 c.place, .slice d1 d2 d3, .slice e1 e2 e3] 32) := ⟨_, rfl⟩
  have hbu : Below w.heap.size w u := by rw [hu]; exact (Below.refl _ _).alloc (Nat.le_refl _) _
  have h1 : u.heap[w.heap.size]? = some (.cells #[.int .i64 c.kind, .int .i64 c.number, .int .i64 c.stream, .int .i64 c.place, .slice d1 d2 d3, .slice e1 e2 e3] 32 (0, 0)) := by rw [hu]; exact heap_alloc_new _ _
  obtain ⟨a0, a1, a2, a3, a4, a5⟩ := box_cells h1
  have HW := hide hW
  have HBY := hide hB
  have HRD := hide hR
  have AL := hide (alive u)
  have HBU := hide hbu
  have HU := hide hu
  clear hW hB hR alive h1 hbu hu
  go_enter Try.func7, Try.ntmps7
  go_wp2_with fail
  rw [← HU.out]
  refine AL.out.mono ?_
  rintro e w1 ⟨rfl, hk1⟩
  clear AL HU
  go_wp2_with fail
  refine (HW.out _ c w1 (HC.out.later (HBU.out.trans (hk1.mono HBU.out.size)))).mono ?_
  rintro e w2 ⟨rfl, hb2⟩
  have hk2 : Below u.heap.size u w2 := hk1.trans (hb2.mono hk1.size)
  clear hb2 hk1
  go_wp2_with fail
  refine (HBY.out _ c w2 (HC.out.later (HBU.out.trans (hk2.mono HBU.out.size))) HC0.out).mono ?_
  rintro e w3 ⟨v3, rfl, hown3, hb3⟩
  have HL := len_body c HC0.out
  obtain ⟨g3, c3, rfl, -, -⟩ := hown3.form (by omega)
  have hk3 : Below u.heap.size u w3 := hk2.trans (hb3.mono hk2.size)
  clear hb3 hk2
  go_wp2_with fail
  have hls : (sealL (bodyL c)).length = (bodyL c).length + 2 := length_sealL _
  have hrd := HRD.out (some ⟨g3, 0, none⟩) c3 (sealL (bodyL c)) w3 (by rw [hls]; exact owns_Bs hown3) (by rw [hls]; omega) (by rw [hls]; omega)
  rw [hls, (read_bytes c HC0.out).1, (read_bytes c HC0.out).2] at hrd
  refine hrd.mono ?_
  clear hrd hls
  rintro e w4 ⟨v4, rfl, hC4, hb4⟩
  obtain ⟨a7, n7, c7, a8, n8, c8, rfl⟩ := hC4.form
  have hk4 : Below u.heap.size u w4 := hk3.trans (hb4.mono hk3.size)
  have hk5 : Below u.heap.size u (w4.alloc (.cells #[.int .i64 c.kind, .int .i64 c.number, .int .i64 c.stream, .int .i64 c.place, .slice a7 n7 c7, .slice a8 n8 c8] 32)) := hk4.alloc hk4.size _
  have HC4 := hide hC4
  clear hb4 hk3 hk4 hown3 hC4
  go_wp2_with fail
  refine (refSame_any _ _ c c _ (HC.out.later (HBU.out.trans (hk5.mono HBU.out.size))) (HC4.out.later ((Below.refl _ _).alloc (Nat.le_refl _) _))).mono ?_
  rw [(sameC_iff c c).2 rfl]
  rintro e w6 ⟨rfl, hb6⟩
  have hk6 : Below u.heap.size u w6 := hk5.trans (hb6.mono hk5.size)
  clear hb6 hk5 HC4
  go_wp2_with fail
  refine (HRD.out b cap xs w6 (HX.out.later (HBU.out.trans (hk6.mono HBU.out.size))) hx2 hx1).mono ?_
  rintro e w7 ⟨v7, rfl, hC7, hb7⟩
  obtain ⟨ab, nb, cb, ae, ne, ce, rfl⟩ := hC7.form
  have hk7 : Below u.heap.size u w7 := hk6.trans (hb7.mono hk6.size)
  clear hb7 hk6
  obtain ⟨z, hz⟩ : ∃ z, z = w7.alloc (.cells #[.int .i64 (readC xs).kind, .int .i64 (readC xs).number, .int .i64 (readC xs).stream, .int .i64 (readC xs).place, .slice ab nb cb, .slice ae ne ce] 32) := ⟨_, rfl⟩
  have hbz : Below w7.heap.size w7 z := by rw [hz]; exact (Below.refl _ _).alloc (Nat.le_refl _) _
  have h2 : z.heap[w7.heap.size]? = some (.cells #[.int .i64 (readC xs).kind, .int .i64 (readC xs).number, .int .i64 (readC xs).stream, .int .i64 (readC xs).place, .slice ab nb cb, .slice ae ne ce] 32 (0, 0)) := by rw [hz]; exact heap_alloc_new _ _
  obtain ⟨z0, z1, z2, z3, z4, z5⟩ := box_cells h2
  have hwz : Below w.heap.size w z := HBU.out.trans ((hk7.trans (hbz.mono hk7.size)).mono HBU.out.size)
  have HCZ := hide (hC7.later hbz)
  have HWZ := hide hwz
  have HXZ := hide (HX.out.later hwz)
  have HZ := hide hz
  clear a0 a1 a2 a3 a4 a5 h2 hwz hbz hk7 hC7 hz
  go_wp2_with fail
  rw [← HZ.out]
  have HK1 : Hid (Below z.heap.size z z.drew) := Below.drew (Below.refl _ _)
  clear HZ
  refine regs.held_begin (by kernel_rfl) ?_
  refine regs.held_take (i := 0) (v := .int .i64 (readE xs)) rfl (by kernel_rfl) (by kernel_rfl) (by kernel_rfl) (fun _ _ _ h => h) (by rfl) (fun w' hb => by go_simp) ?_
  simp only [Act.put, List.setIfInBounds_toArray, List.set_cons_zero, List.set_cons_succ, List.getElem_toArray, List.getElem_cons_zero]
  refine regs.held_take (i := 1) (v := .bool false) rfl (by kernel_rfl) (by kernel_rfl) (by kernel_rfl) (fun _ _ _ h => h) (by rfl) (fun w' hb => by go_simp) ?_
  simp only [Act.put, List.setIfInBounds_toArray, List.set_cons_zero, List.set_cons_succ, List.getElem_toArray, List.getElem_cons_zero, List.getElem_cons_succ]
  refine regs.held_take (i := 2) (v := .bool false) rfl (by kernel_rfl) (by kernel_rfl) (by kernel_rfl) (fun _ _ _ h => h) (by rfl) (fun w' hb => by go_simp) ?_
  simp only [Act.put, List.setIfInBounds_toArray, List.set_cons_zero, List.set_cons_succ, List.getElem_toArray, List.getElem_cons_zero, List.getElem_cons_succ]
  refine regs.held_take (i := 3) (v := .agg #[.int .i64 (readC xs).kind, .int .i64 (readC xs).number, .int .i64 (readC xs).stream, .int .i64 (readC xs).place, .slice ab nb cb, .slice ae ne ce]) rfl (by kernel_rfl) (by kernel_rfl) (by kernel_rfl) (fun _ _ _ h => h) (by rfl) (fun w' hb => by have hb0 := HK1.out.trans (hb.mono HK1.out.size); go_simp) ?_
  simp only [Act.put, List.setIfInBounds_toArray, List.set_cons_zero, List.set_cons_succ, List.getElem_toArray, List.getElem_cons_zero, List.getElem_cons_succ]
  refine regs.held_step (i := 4) rfl (by kernel_rfl) (fun K hK => ?_)
  go_simp
  go_wp2_with ((go_at_call 16; refine (HW.out _ (readC xs) z.drew (HCZ.out.later HK1.out)).mono ?_; rw [(bytes_read xs HR0.out).1]; rintro e w8 ⟨rfl, hb8⟩; have HK8 : Hid (Below z.heap.size z w8) := HK1.out.trans (hb8.mono HK1.out.size); have HS8 := hide hb8; clear hb8))
  refine hK.out _ _ HS8.out ?_
  clear hK K
  refine regs.held_take (i := 5) (v := .bool true) rfl (by kernel_rfl) (by kernel_rfl) (by kernel_rfl) (fun _ _ _ h => h) (by rfl) (fun w' hb => by go_simp) ?_
  simp only [Act.put, List.setIfInBounds_toArray, List.set_cons_zero, List.set_cons_succ, List.getElem_toArray, List.getElem_cons_zero, List.getElem_cons_succ]
  refine regs.held_take (i := 6) (v := .bool true) rfl (by kernel_rfl) (by kernel_rfl) (by kernel_rfl) (fun _ _ _ h => h) (by rfl) (fun w' hb => by go_simp) ?_
  simp only [Act.put, List.setIfInBounds_toArray, List.set_cons_zero, List.set_cons_succ, List.getElem_toArray, List.getElem_cons_zero, List.getElem_cons_succ]
  refine regs.held_take (i := 7) (v := .agg #[.int .i64 (readC xs).kind, .int .i64 (readC xs).number, .int .i64 (readC xs).stream, .int .i64 (readC xs).place, .slice ab nb cb, .slice ae ne ce]) rfl (by kernel_rfl) (by kernel_rfl) (by kernel_rfl) (fun _ _ _ h => h) (by rfl) (fun w' hb => by have hb0 := HK8.out.trans (hb.mono HK8.out.size); go_simp) ?_
  simp only [Act.put, List.setIfInBounds_toArray, List.set_cons_zero, List.set_cons_succ, List.getElem_toArray, List.getElem_cons_zero, List.getElem_cons_succ]
  refine regs.held_take (i := 10) (v := .slice b xs.length cap) rfl (by kernel_rfl) (by kernel_rfl) (by kernel_rfl) (fun _ _ _ h => h) (by rfl) (fun w' hb => by go_simp) ?_
  simp only [Act.put, List.setIfInBounds_toArray, List.set_cons_zero, List.set_cons_succ, List.getElem_toArray, List.getElem_cons_zero, List.getElem_cons_succ]
  refine regs.held_take (i := 11) (v := .string ⟨xs.toArray⟩) rfl (by kernel_rfl) (by kernel_rfl) (by kernel_rfl) (fun _ _ _ h => h) (by rfl) (fun w' hb => by have hb0 := HK8.out.trans (hb.mono HK8.out.size); have hc := conv_run (HXZ.out.later hb0); go_simp) ?_
  simp only [Act.put, List.setIfInBounds_toArray, List.set_cons_zero, List.set_cons_succ, List.getElem_toArray, List.getElem_cons_zero, List.getElem_cons_succ]
  refine regs.held_step (i := 8) rfl (by kernel_rfl) (fun K hK => ?_)
  go_simp
  go_wp2_with ((go_at_call 24; refine (HBY.out _ (readC xs) w8 (HCZ.out.later HK8.out) (bytes_read xs HR0.out).1).mono ?_; rw [(bytes_read xs HR0.out).2]; rintro e w9 ⟨v9, rfl, hown9, hb9⟩; have HK9 : Hid (Below z.heap.size z w9) := HK8.out.trans (hb9.mono HK8.out.size); have HS9 := hide hb9; have HO9 := hide hown9; clear hb9 hown9))
  refine hK.out _ _ HS9.out ?_
  clear hK K
  refine regs.held_take (i := 9) (v := .string ⟨xs.toArray⟩) rfl (by kernel_rfl) (by kernel_rfl) (by kernel_rfl) (fun _ _ _ h => h) (by rfl) (fun w' hb => by have hc := conv_run ((owns_Bs HO9.out).later hb); go_simp) ?_
  simp only [Act.put, List.setIfInBounds_toArray, List.set_cons_zero, List.set_cons_succ, List.getElem_toArray, List.getElem_cons_zero, List.getElem_cons_succ]
  refine regs.held_take (i := 12) (v := .bool true) rfl (by kernel_rfl) (by kernel_rfl) (by kernel_rfl) (fun _ _ _ h => h) (by rfl) (fun w' hb => by go_simp) ?_
  simp only [Act.put, List.setIfInBounds_toArray, List.set_cons_zero, List.set_cons_succ, List.getElem_toArray, List.getElem_cons_zero, List.getElem_cons_succ]
  refine regs.held_take (i := 13) (v := .bool true) rfl (by kernel_rfl) (by kernel_rfl) (by kernel_rfl) (fun _ _ _ h => h) (by rfl) (fun w' hb => by go_simp) ?_
  simp only [Act.put, List.setIfInBounds_toArray, List.set_cons_zero, List.set_cons_succ, List.getElem_toArray, List.getElem_cons_zero, List.getElem_cons_succ]
  refine regs.held_take (i := 14) (v := .bool true) rfl (by kernel_rfl) (by kernel_rfl) (by kernel_rfl) (fun _ _ _ h => h) (by rfl) (fun w' hb => by go_simp) ?_
  simp only [Act.put, List.setIfInBounds_toArray, List.set_cons_zero, List.set_cons_succ, List.getElem_toArray, List.getElem_cons_zero, List.getElem_cons_succ]
  refine regs.held_take (i := 15) (v := .bool true) rfl (by kernel_rfl) (by kernel_rfl) (by kernel_rfl) (fun _ _ _ h => h) (by rfl) (fun w' hb => by go_simp) ?_
  simp only [Act.put, List.setIfInBounds_toArray, List.set_cons_zero, List.set_cons_succ, List.getElem_toArray, List.getElem_cons_zero, List.getElem_cons_succ]
  refine regs.held_done (by kernel_rfl) ?_ _
  go_wp2
  go_ret
  exact ⟨rfl, HWZ.out.trans (HK9.out.mono HWZ.out.size)⟩

/-- The walk, whatever it is given. -/
theorem turns_any (n : Nat) (hn : 12 ≤ n) (hO : COwn 21 n) (hM : CWrongMsg 18) (hW : CWrong 16) (hB : CBytes 24) (hR : CRead 22 n) (v : Value) (c : Ch) (b : Option Addr) (cap : Nat) (xs : List UInt8) (w : World) (hC : Cv w v c) (hX : Bs w (.slice b xs.length cap) xs) (hx1 : xs.length ≤ n) (hx2 : xs.length ≤ 140737488355328) :
    Calls Try.prog 7 #[v, .slice b xs.length cap] w fun e w' => e = .returned (.bool true) ∧ Below w.heap.size w w' := by
  obtain ⟨d1, d2, d3, e1, e2, e3, rfl⟩ := hC.form
  have al := alive2_any n (by omega) hO hM hW hB hR
  by_cases h1 : wrongL c = 0
  · by_cases h2 : readE xs = 0
    · exact turns_rr n hn hW hB hR al c d1 d2 d3 e1 e2 e3 b cap xs w hC hX hx1 hx2 h1 (by simpa using h1) h2 (by simpa using h2)
    · exact turns_rw n hn hW hB hR al c d1 d2 d3 e1 e2 e3 b cap xs w hC hX hx1 hx2 h1 (by simpa using h1) (by simpa using h2)
  · by_cases h2 : readE xs = 0
    · exact turns_wr n hn hW hB hR al c d1 d2 d3 e1 e2 e3 b cap xs w hC hX hx1 hx2 (by simpa using h1) h2 (by simpa using h2)
    · exact turns_ww n hn hW hB hR al c d1 d2 d3 e1 e2 e3 b cap xs w hC hX hx1 hx2 (by simpa using h1) (by simpa using h2)
end Go.Proofs.Ytlomffhofionnaa.leaf
