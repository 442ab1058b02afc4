/-
  The walk of the law ChunkTells over what the functions of chapter 2 are held to.
-/
import Derived.Test.YtlomffhofionnaaAliveTwo
namespace Go.Proofs.Ytlomffhofionnaa.leaf
set_option linter.unusedVariables false
open Go.RowKit
open mth

theorem box_cells2 {u : World} {g : Nat} {x0 x1 : Value} {t : TypeId} (h : u.heap[g]? = some (.cells #[x0, x1] t (0, 0))) :
    (∀ w', Below u.heap.size u w' → w'.cell? ⟨g, 0, none⟩ = some x0) ∧ (∀ w', Below u.heap.size u w' → w'.cell? ⟨g, 1, none⟩ = some x1) := by
  have hz : g < u.heap.size := (Array.getElem?_eq_some_iff.1 h).1
  have hc : ∀ w', Below u.heap.size u w' → w'.heap[g]? = some (.cells #[x0, x1] t (0, 0)) := fun w' hb => (hb.block g hz).trans h
  refine ⟨fun w' hb => ?_, fun w' hb => ?_⟩
  all_goals
    rw [cell_of_row w' g _ _ t (0, 0) (hc w' hb)]
    rfl

set_option maxHeartbeats 16000000 in
theorem ctells_w (n : Nat) (hn : n ≤ 1048600) (hO : COwn 21 n) (hM : CWrongMsg 18) (hW : CWrong 16) (hB : CBytes 24) (hR : CRead 22 n)
    (c : Ch) (d1 : Option Addr) (d2 d3 : Nat) (e1 : Option Addr) (e2 e3 : Nat) (ms : Int) (m1 : Option Addr) (m2 m3 : Nat) (md : List UInt8) (b : Option Addr) (cap : Nat) (xs : List UInt8) (w : World)
    (HC : Hid (Cv w (.agg #[.int .i64 c.kind, .int .i64 c.number, .int .i64 c.stream, .int .i64 c.place, .slice d1 d2 d3, .slice e1 e2 e3]) c)) (HMD : Hid (Bs w (.slice m1 m2 m3) md)) (hml : md.length ≤ maxLen) (hms : I64 ms) (HX : Hid (Bs w (.slice b xs.length cap) xs)) (hx1 : xs.length ≤ n) (hcd : c.data.length ≤ n) (hce : c.early.length ≤ n) (hc0 : (wrongL c != 0) = true) :
    Calls Try.prog 5 #[.agg #[.int .i64 c.kind, .int .i64 c.number, .int .i64 c.stream, .int .i64 c.place, .slice d1 d2 d3, .slice e1 e2 e3], .agg #[.int .i64 ms, .slice m1 m2 m3], .slice b xs.length cap] w fun e w' => e = .returned (.bool true) ∧ Below w.heap.size w w' := by
  obtain ⟨u, hu⟩ : ∃ u, u = (w.alloc (.cells #[.int .i64 c.kind, .int .i64 c.number, .int .i64 c.stream, .int .i64 c.place, .slice d1 d2 d3, .slice e1 e2 e3] 32)).alloc (.cells #[.int .i64 ms, .slice m1 m2 m3] 34) := ⟨_, rfl⟩
  have hbu : Below w.heap.size w u := by rw [hu]; exact ((Below.refl _ _).alloc (Nat.le_refl _) _).alloc (by simp) _
  have h1 : u.heap[w.heap.size]? = some (.cells #[.int .i64 c.kind, .int .i64 c.number, .int .i64 c.stream, .int .i64 c.place, .slice d1 d2 d3, .slice e1 e2 e3] 32 (0, 0)) := by rw [hu]; exact (Below.heap_alloc _ _ _ (by simp)).trans (heap_alloc_new w _)
  have h2 : u.heap[w.heap.size + 1]? = some (.cells #[.int .i64 ms, .slice m1 m2 m3] 34 (0, 0)) := by
    rw [hu]
    have e : w.heap.size + 1 = (w.alloc (.cells #[.int .i64 c.kind, .int .i64 c.number, .int .i64 c.stream, .int .i64 c.place, .slice d1 d2 d3, .slice e1 e2 e3] 32)).heap.size := by simp
    rw [e]; exact heap_alloc_new _ _
  obtain ⟨a0, a1, a2, a3, a4, a5⟩ := box_cells h1
  obtain ⟨b0, b1⟩ := box_cells2 h2
  have HG1 := hide h1
  have HCu := hide (HC.out.later hbu)
  have HMu := hide (HMD.out.later hbu)
  have HML := hide hml
  have HMS := hide hms
  have HO := hide hO
  have HM := hide hM
  have HW := hide hW
  have HBY := hide hB
  have HRD := hide hR
  have HBU := hide hbu
  have HU := hide hu
  clear hO hM hW hB hR h1 h2 hbu hu hml hms
  go_enter Try.func5, Try.ntmps5
  go_wp2_with fail
  rw [← HU.out]
  have HK1 : Hid (Below u.heap.size u u.drew) := Below.drew (Below.refl _ _)
  clear HU
  refine regs.held_begin (by kernel_rfl) ?_
  refine regs.held_take (i := 0) (v := .agg #[.int .i64 c.kind, .int .i64 c.number, .int .i64 c.stream, .int .i64 c.place, .slice d1 d2 d3, .slice e1 e2 e3]) rfl (by kernel_rfl) (by kernel_rfl) (by kernel_rfl) (fun _ _ _ h => h) (by rfl) (fun w' hb => by have hb0 := HK1.out.trans (hb.mono HK1.out.size); go_simp) ?_
  simp only [Act.put, List.setIfInBounds_toArray, List.set_cons_zero, List.set_cons_succ, List.getElem_toArray, List.getElem_cons_zero]
  refine regs.held_take (i := 2) (v := .agg #[.int .i64 c.kind, .int .i64 c.number, .int .i64 c.stream, .int .i64 c.place, .slice d1 d2 d3, .slice e1 e2 e3]) rfl (by kernel_rfl) (by kernel_rfl) (by kernel_rfl) (fun _ _ _ h => h) (by rfl) (fun w' hb => by have hb0 := HK1.out.trans (hb.mono HK1.out.size); go_simp) ?_
  simp only [Act.put, List.setIfInBounds_toArray, List.set_cons_zero, List.set_cons_succ, List.getElem_toArray, List.getElem_cons_zero, List.getElem_cons_succ]
  refine regs.held_step (i := 1) rfl (by kernel_rfl) (fun K hK => ?_)
  go_simp
  go_wp2_with ((go_at_call 16; refine (HW.out _ c u.drew (HCu.out.later HK1.out)).mono ?_; rintro e w2 ⟨rfl, hb2⟩; have HK2 : Hid (Below u.heap.size u w2) := HK1.out.trans (hb2.mono HK1.out.size); have HS2 := hide hb2; clear hb2))
  refine hK.out _ _ HS2.out ?_
  clear hK K
  refine regs.held_step (i := 3) rfl (by kernel_rfl) (fun K hK => ?_)
  go_simp
  go_wp2_with ((go_at_call 17; refine (refWrong_any _ c w2 (HCu.out.later HK2.out)).mono ?_; rintro e w3 ⟨rfl, hb3⟩; have HK3 : Hid (Below u.heap.size u w3) := HK2.out.trans (hb3.mono HK2.out.size); have HS3 := hide hb3; clear hb3))
  refine hK.out _ _ HS3.out ?_
  clear hK K
  refine regs.held_take (i := 4) (v := .bool false) rfl (by kernel_rfl) (by kernel_rfl) (by kernel_rfl) (fun _ _ _ h => h) (by rfl) (fun w' hb => by go_simp) ?_
  simp only [Act.put, List.setIfInBounds_toArray, List.set_cons_zero, List.set_cons_succ, List.getElem_toArray, List.getElem_cons_zero, List.getElem_cons_succ]
  refine regs.held_take (i := 5) (v := .bool false) rfl (by kernel_rfl) (by kernel_rfl) (by kernel_rfl) (fun _ _ _ h => h) (by rfl) (fun w' hb => by go_simp) ?_
  simp only [Act.put, List.setIfInBounds_toArray, List.set_cons_zero, List.set_cons_succ, List.getElem_toArray, List.getElem_cons_zero, List.getElem_cons_succ]
  refine regs.held_take (i := 6) (v := .agg #[.int .i64 ms, .slice m1 m2 m3]) rfl (by kernel_rfl) (by kernel_rfl) (by kernel_rfl) (fun _ _ _ h => h) (by rfl) (fun w' hb => by have hb0 := HK3.out.trans (hb.mono HK3.out.size); go_simp) ?_
  simp only [Act.put, List.setIfInBounds_toArray, List.set_cons_zero, List.set_cons_succ, List.getElem_toArray, List.getElem_cons_zero, List.getElem_cons_succ]
  refine regs.held_take (i := 8) (v := .agg #[.int .i64 ms, .slice m1 m2 m3]) rfl (by kernel_rfl) (by kernel_rfl) (by kernel_rfl) (fun _ _ _ h => h) (by rfl) (fun w' hb => by have hb0 := HK3.out.trans (hb.mono HK3.out.size); go_simp) ?_
  simp only [Act.put, List.setIfInBounds_toArray, List.set_cons_zero, List.set_cons_succ, List.getElem_toArray, List.getElem_cons_zero, List.getElem_cons_succ]
  refine regs.held_step (i := 7) rfl (by kernel_rfl) (fun K hK => ?_)
  go_simp
  go_wp2_with ((go_at_call 18; refine (HM.out ms _ md w3 (HMu.out.later HK3.out) HML.out HMS.out).mono ?_; rintro e w4 ⟨rfl, hb4⟩; have HK4 : Hid (Below u.heap.size u w4) := HK3.out.trans (hb4.mono HK3.out.size); have HS4 := hide hb4; clear hb4))
  refine hK.out _ _ HS4.out ?_
  clear hK K
  refine regs.held_step (i := 9) rfl (by kernel_rfl) (fun K hK => ?_)
  go_simp
  go_wp2_with ((go_at_call 19; refine (refWrongMsg_any ms _ md w4 (HMu.out.later HK4.out) HML.out).mono ?_; rintro e w5 ⟨rfl, hb5⟩; have HK5 : Hid (Below u.heap.size u w5) := HK4.out.trans (hb5.mono HK4.out.size); have HS5 := hide hb5; clear hb5))
  refine hK.out _ _ HS5.out ?_
  clear hK K
  refine regs.held_take (i := 10) (v := .bool false) rfl (by kernel_rfl) (by kernel_rfl) (by kernel_rfl) (fun _ _ _ h => h) (by rfl) (fun w' hb => by go_simp) ?_
  simp only [Act.put, List.setIfInBounds_toArray, List.set_cons_zero, List.set_cons_succ, List.getElem_toArray, List.getElem_cons_zero, List.getElem_cons_succ]
  refine regs.held_take (i := 11) (v := .bool false) rfl (by kernel_rfl) (by kernel_rfl) (by kernel_rfl) (fun _ _ _ h => h) (by rfl) (fun w' hb => by go_simp) ?_
  simp only [Act.put, List.setIfInBounds_toArray, List.set_cons_zero, List.set_cons_succ, List.getElem_toArray, List.getElem_cons_zero, List.getElem_cons_succ]
  refine regs.held_take (i := 12) (v := .bool false) rfl (by kernel_rfl) (by kernel_rfl) (by kernel_rfl) (fun _ _ _ h => h) (by rfl) (fun w' hb => by go_simp) ?_
  simp only [Act.put, List.setIfInBounds_toArray, List.set_cons_zero, List.set_cons_succ, List.getElem_toArray, List.getElem_cons_zero, List.getElem_cons_succ]
  refine regs.held_take (i := 13) (v := .agg #[.int .i64 c.kind, .int .i64 c.number, .int .i64 c.stream, .int .i64 c.place, .slice d1 d2 d3, .slice e1 e2 e3]) rfl (by kernel_rfl) (by kernel_rfl) (by kernel_rfl) (fun _ _ _ h => h) (by rfl) (fun w' hb => by have hb0 := HK5.out.trans (hb.mono HK5.out.size); go_simp) ?_
  simp only [Act.put, List.setIfInBounds_toArray, List.set_cons_zero, List.set_cons_succ, List.getElem_toArray, List.getElem_cons_zero, List.getElem_cons_succ]
  refine regs.held_take (i := 15) (v := .agg #[.int .i64 c.kind, .int .i64 c.number, .int .i64 c.stream, .int .i64 c.place, .slice d1 d2 d3, .slice e1 e2 e3]) rfl (by kernel_rfl) (by kernel_rfl) (by kernel_rfl) (fun _ _ _ h => h) (by rfl) (fun w' hb => by have hb0 := HK5.out.trans (hb.mono HK5.out.size); go_simp) ?_
  simp only [Act.put, List.setIfInBounds_toArray, List.set_cons_zero, List.set_cons_succ, List.getElem_toArray, List.getElem_cons_zero, List.getElem_cons_succ]
  refine regs.held_step (i := 14) rfl (by kernel_rfl) (fun K hK => ?_)
  go_simp
  go_wp2_with ((go_at_call 21; refine (HO.out _ c w5 (HCu.out.later HK5.out) hcd hce).mono ?_; rintro e w6 ⟨v6, rfl, hC6, hb6⟩; have HK6 : Hid (Below u.heap.size u w6) := HK5.out.trans (hb6.mono HK5.out.size); have HS6 := hide hb6; have HC6 := hide hC6; clear hb6 hC6))
  refine hK.out _ _ HS6.out ?_
  clear hK K
  refine regs.held_step (i := 16) rfl (by kernel_rfl) (fun K hK => ?_)
  go_simp
  go_wp2_with ((go_at_call 20; refine (refSame_any _ _ c c w6 HC6.out (HCu.out.later HK6.out)).mono ?_; rw [(sameC_iff c c).2 rfl]; rintro e w7 ⟨rfl, hb7⟩; have HK7 : Hid (Below u.heap.size u w7) := HK6.out.trans (hb7.mono HK6.out.size); have HS7 := hide hb7; clear hb7))
  refine hK.out _ _ HS7.out ?_
  clear hK K
  refine regs.held_take (i := 17) (v := .bool false) rfl (by kernel_rfl) (by kernel_rfl) (by kernel_rfl) (fun _ _ _ h => h) (by rfl) (fun w' hb => by go_simp) ?_
  simp only [Act.put, List.setIfInBounds_toArray, List.set_cons_zero, List.set_cons_succ, List.getElem_toArray, List.getElem_cons_zero, List.getElem_cons_succ]
  refine regs.held_take (i := 18) (v := .bool false) rfl (by kernel_rfl) (by kernel_rfl) (by kernel_rfl) (fun _ _ _ h => h) (by rfl) (fun w' hb => by go_simp) ?_
  simp only [Act.put, List.setIfInBounds_toArray, List.set_cons_zero, List.set_cons_succ, List.getElem_toArray, List.getElem_cons_zero, List.getElem_cons_succ]
  refine regs.held_done (by kernel_rfl) ?_ _
  clear a0 a1 a2 a3 a4 a5 b0 b1 HMu HML HMS HO HM HW HC6
  go_wp2_with fail
  refine (HRD.out b cap xs w7 (HX.out.later (HBU.out.trans (HK7.out.mono HBU.out.size))) (by omega) hx1).mono ?_
  rintro e w8 ⟨v8, rfl, hC8, hb8⟩
  obtain ⟨a7, n7, c7, f7, g7, h7, rfl⟩ := hC8.form
  have HK8 : Hid (Below u.heap.size u w8) := HK7.out.trans (hb8.mono HK7.out.size)
  clear hb8
  obtain ⟨y, hy⟩ : ∃ y, y = w8.alloc (.cells #[.int .i64 (readC xs).kind, .int .i64 (readC xs).number, .int .i64 (readC xs).stream, .int .i64 (readC xs).place, .slice a7 n7 c7, .slice f7 g7 h7] 32) := ⟨_, rfl⟩
  have hby : Below w8.heap.size w8 y := by rw [hy]; exact (Below.refl _ _).alloc (Nat.le_refl _) _
  have hyg : y.heap[w8.heap.size]? = some (.cells #[.int .i64 (readC xs).kind, .int .i64 (readC xs).number, .int .i64 (readC xs).stream, .int .i64 (readC xs).place, .slice a7 n7 c7, .slice f7 g7 h7] 32 (0, 0)) := by rw [hy]; exact heap_alloc_new _ _
  have HKy : Hid (Below u.heap.size u y) := HK8.out.trans (hby.mono HK8.out.size)
  have HC7 := hide (hC8.later hby)
  have HYG := hide hyg
  have HY := hide hy
  clear hC8 hby hyg hy
  go_wp2_with fail
  rw [← HY.out]
  refine (refRead_any b cap xs y (HX.out.later (HBU.out.trans (HKy.out.mono HBU.out.size))) (by omega) (by omega)).mono ?_
  rintro e w9 ⟨v9, rfl, hC9, hb9⟩
  obtain ⟨a8, n8, c8, f8, g8, h8, rfl⟩ := hC9.form
  have hk9 : Below u.heap.size u w9 := HKy.out.trans (hb9.mono HKy.out.size)
  obtain ⟨z, hz⟩ : ∃ z, z = w9.alloc (.cells #[.int .i64 (readC xs).kind, .int .i64 (readC xs).number, .int .i64 (readC xs).stream, .int .i64 (readC xs).place, .slice a8 n8 c8, .slice f8 g8 h8] 32) := ⟨_, rfl⟩
  have hbz : Below w9.heap.size w9 z := by rw [hz]; exact (Below.refl _ _).alloc (Nat.le_refl _) _
  have hyz : Below y.heap.size y z := hb9.trans (hbz.mono hb9.size)
  have huz : Below u.heap.size u z := hk9.trans (hbz.mono hk9.size)
  have h1 : z.heap[w.heap.size]? = some (.cells #[.int .i64 c.kind, .int .i64 c.number, .int .i64 c.stream, .int .i64 c.place, .slice d1 d2 d3, .slice e1 e2 e3] 32 (0, 0)) := (huz.block _ (Array.getElem?_eq_some_iff.1 HG1.out).1).trans HG1.out
  have h2 : z.heap[w8.heap.size]? = some (.cells #[.int .i64 (readC xs).kind, .int .i64 (readC xs).number, .int .i64 (readC xs).stream, .int .i64 (readC xs).place, .slice a7 n7 c7, .slice f7 g7 h7] 32 (0, 0)) := (hyz.block _ (Array.getElem?_eq_some_iff.1 HYG.out).1).trans HYG.out
  have h3 : z.heap[w9.heap.size]? = some (.cells #[.int .i64 (readC xs).kind, .int .i64 (readC xs).number, .int .i64 (readC xs).stream, .int .i64 (readC xs).place, .slice a8 n8 c8, .slice f8 g8 h8] 32 (0, 0)) := by rw [hz]; exact heap_alloc_new _ _
  obtain ⟨a0, a1, a2, a3, a4, a5⟩ := box_cells h1
  obtain ⟨b0, b1, b2, b3, b4, b5⟩ := box_cells h2
  obtain ⟨z0, z1, z2, z3, z4, z5⟩ := box_cells h3
  have HCz := hide (HCu.out.later huz)
  have HC7z := hide (HC7.out.later hyz)
  have HC8z := hide (hC9.later hbz)
  have HWZ : Hid (Below w.heap.size w z) := HBU.out.trans (huz.mono HBU.out.size)
  have HZ := hide hz
  clear h1 h2 h3 hz hbz hyz huz hk9 hb9 hC9 HC7 HYG HY HKy HK8 HG1 HCu HBU
  go_wp2_with fail
  rw [← HZ.out]
  have HL1 : Hid (Below z.heap.size z z.drew) := Below.drew (Below.refl _ _)
  clear HZ
  refine regs.held_begin (by kernel_rfl) ?_
  refine regs.held_take (i := 0) (v := .int .i64 (readE xs)) rfl (by kernel_rfl) (by kernel_rfl) (by kernel_rfl) (fun _ _ _ h => h) (by rfl) (fun w' hb => by go_simp) ?_
  simp only [Act.put, List.setIfInBounds_toArray, List.set_cons_zero, List.set_cons_succ, List.getElem_toArray, List.getElem_cons_zero]
  refine regs.held_take (i := 1) (v := .int .i64 (readE xs)) rfl (by kernel_rfl) (by kernel_rfl) (by kernel_rfl) (fun _ _ _ h => h) (by rfl) (fun w' hb => by go_simp) ?_
  simp only [Act.put, List.setIfInBounds_toArray, List.set_cons_zero, List.set_cons_succ, List.getElem_toArray, List.getElem_cons_zero, List.getElem_cons_succ]
  refine regs.held_take (i := 2) (v := .bool true) rfl (by kernel_rfl) (by kernel_rfl) (by kernel_rfl) (fun _ _ _ h => h) (by rfl) (fun w' hb => by go_simp) ?_
  simp only [Act.put, List.setIfInBounds_toArray, List.set_cons_zero, List.set_cons_succ, List.getElem_toArray, List.getElem_cons_zero, List.getElem_cons_succ]
  refine regs.held_take (i := 3) (v := .bool true) rfl (by kernel_rfl) (by kernel_rfl) (by kernel_rfl) (fun _ _ _ h => h) (by rfl) (fun w' hb => by go_simp) ?_
  simp only [Act.put, List.setIfInBounds_toArray, List.set_cons_zero, List.set_cons_succ, List.getElem_toArray, List.getElem_cons_zero, List.getElem_cons_succ]
  refine regs.held_take (i := 4) (v := .agg #[.int .i64 (readC xs).kind, .int .i64 (readC xs).number, .int .i64 (readC xs).stream, .int .i64 (readC xs).place, .slice a7 n7 c7, .slice f7 g7 h7]) rfl (by kernel_rfl) (by kernel_rfl) (by kernel_rfl) (fun _ _ _ h => h) (by rfl) (fun w' hb => by have hb0 := HL1.out.trans (hb.mono HL1.out.size); go_simp) ?_
  simp only [Act.put, List.setIfInBounds_toArray, List.set_cons_zero, List.set_cons_succ, List.getElem_toArray, List.getElem_cons_zero, List.getElem_cons_succ]
  refine regs.held_take (i := 5) (v := .agg #[.int .i64 (readC xs).kind, .int .i64 (readC xs).number, .int .i64 (readC xs).stream, .int .i64 (readC xs).place, .slice a8 n8 c8, .slice f8 g8 h8]) rfl (by kernel_rfl) (by kernel_rfl) (by kernel_rfl) (fun _ _ _ h => h) (by rfl) (fun w' hb => by have hb0 := HL1.out.trans (hb.mono HL1.out.size); go_simp) ?_
  simp only [Act.put, List.setIfInBounds_toArray, List.set_cons_zero, List.set_cons_succ, List.getElem_toArray, List.getElem_cons_zero, List.getElem_cons_succ]
  refine regs.held_step (i := 6) rfl (by kernel_rfl) (fun K hK => ?_)
  go_simp
  go_wp2_with ((go_at_call 20; refine (refSame_any _ _ (readC xs) (readC xs) z.drew (HC7z.out.later HL1.out) (HC8z.out.later HL1.out)).mono ?_; rw [(sameC_iff (readC xs) (readC xs)).2 rfl]; rintro e x2 ⟨rfl, hb2⟩; have HL2 : Hid (Below z.heap.size z x2) := HL1.out.trans (hb2.mono HL1.out.size); have HT2 := hide hb2; clear hb2))
  refine hK.out _ _ HT2.out ?_
  clear hK K
  refine regs.held_take (i := 7) (v := .bool true) rfl (by kernel_rfl) (by kernel_rfl) (by kernel_rfl) (fun _ _ _ h => h) (by rfl) (fun w' hb => by go_simp) ?_
  simp only [Act.put, List.setIfInBounds_toArray, List.set_cons_zero, List.set_cons_succ, List.getElem_toArray, List.getElem_cons_zero, List.getElem_cons_succ]
  refine regs.held_take (i := 8) (v := .bool true) rfl (by kernel_rfl) (by kernel_rfl) (by kernel_rfl) (fun _ _ _ h => h) (by rfl) (fun w' hb => by go_simp) ?_
  simp only [Act.put, List.setIfInBounds_toArray, List.set_cons_zero, List.set_cons_succ, List.getElem_toArray, List.getElem_cons_zero, List.getElem_cons_succ]
  refine regs.held_take (i := 9) (v := .agg #[.int .i64 c.kind, .int .i64 c.number, .int .i64 c.stream, .int .i64 c.place, .slice d1 d2 d3, .slice e1 e2 e3]) rfl (by kernel_rfl) (by kernel_rfl) (by kernel_rfl) (fun _ _ _ h => h) (by rfl) (fun w' hb => by have hb0 := HL2.out.trans (hb.mono HL2.out.size); go_simp) ?_
  simp only [Act.put, List.setIfInBounds_toArray, List.set_cons_zero, List.set_cons_succ, List.getElem_toArray, List.getElem_cons_zero, List.getElem_cons_succ]
  refine regs.held_step (i := 10) rfl (by kernel_rfl) (fun K hK => ?_)
  go_simp
  go_wp2_with ((go_at_call 17; refine (refWrong_any _ c x2 (HCz.out.later HL2.out)).mono ?_; rintro e x3 ⟨rfl, hb3⟩; have HL3 : Hid (Below z.heap.size z x3) := HL2.out.trans (hb3.mono HL2.out.size); have HT3 := hide hb3; clear hb3))
  refine hK.out _ _ HT3.out ?_
  clear hK K
  refine regs.held_take (i := 11) (v := .bool true) rfl (by kernel_rfl) (by kernel_rfl) (by kernel_rfl) (fun _ _ _ h => h) (by rfl) (fun w' hb => by go_simp) ?_
  simp only [Act.put, List.setIfInBounds_toArray, List.set_cons_zero, List.set_cons_succ, List.getElem_toArray, List.getElem_cons_zero, List.getElem_cons_succ]
  refine regs.held_take (i := 12) (v := .bool true) rfl (by kernel_rfl) (by kernel_rfl) (by kernel_rfl) (fun _ _ _ h => h) (by rfl) (fun w' hb => by go_simp) ?_
  simp only [Act.put, List.setIfInBounds_toArray, List.set_cons_zero, List.set_cons_succ, List.getElem_toArray, List.getElem_cons_zero, List.getElem_cons_succ]
  refine regs.held_skip (i := 13) rfl (by kernel_rfl) (by kernel_rfl) (by kernel_rfl) (fun _ _ _ h => h) (by rfl) ?_
  simp only [Act.put, List.setIfInBounds_toArray, List.set_cons_zero, List.set_cons_succ, List.getElem_toArray, List.getElem_cons_zero, List.getElem_cons_succ]
  refine regs.held_skip (i := 14) rfl (by kernel_rfl) (by kernel_rfl) (by kernel_rfl) (fun _ _ _ h => h) (by rfl) ?_
  simp only [Act.put, List.setIfInBounds_toArray, List.set_cons_zero, List.set_cons_succ, List.getElem_toArray, List.getElem_cons_zero, List.getElem_cons_succ]
  refine regs.held_skip (i := 15) rfl (by kernel_rfl) (by kernel_rfl) (by kernel_rfl) (fun _ _ _ h => h) (by rfl) ?_
  simp only [Act.put, List.setIfInBounds_toArray, List.set_cons_zero, List.set_cons_succ, List.getElem_toArray, List.getElem_cons_zero, List.getElem_cons_succ]
  refine regs.held_skip (i := 16) rfl (by kernel_rfl) (by kernel_rfl) (by kernel_rfl) (fun _ _ _ h => h) (by rfl) ?_
  simp only [Act.put, List.setIfInBounds_toArray, List.set_cons_zero, List.set_cons_succ, List.getElem_toArray, List.getElem_cons_zero, List.getElem_cons_succ]
  refine regs.held_skip (i := 17) rfl (by kernel_rfl) (by kernel_rfl) (by kernel_rfl) (fun _ _ _ h => h) (by rfl) ?_
  simp only [Act.put, List.setIfInBounds_toArray, List.set_cons_zero, List.set_cons_succ, List.getElem_toArray, List.getElem_cons_zero, List.getElem_cons_succ]
  refine regs.held_skip (i := 18) rfl (by kernel_rfl) (by kernel_rfl) (by kernel_rfl) (fun _ _ _ h => h) (by rfl) ?_
  simp only [Act.put, List.setIfInBounds_toArray, List.set_cons_zero, List.set_cons_succ, List.getElem_toArray, List.getElem_cons_zero, List.getElem_cons_succ]
  refine regs.held_skip (i := 19) rfl (by kernel_rfl) (by kernel_rfl) (by kernel_rfl) (fun _ _ _ h => h) (by rfl) ?_
  simp only [Act.put, List.setIfInBounds_toArray, List.set_cons_zero, List.set_cons_succ, List.getElem_toArray, List.getElem_cons_zero, List.getElem_cons_succ]
  refine regs.held_take (i := 20) (v := .bool true) rfl (by kernel_rfl) (by kernel_rfl) (by kernel_rfl) (fun _ _ _ h => h) (by rfl) (fun w' hb => by go_simp) ?_
  simp only [Act.put, List.setIfInBounds_toArray, List.set_cons_zero, List.set_cons_succ, List.getElem_toArray, List.getElem_cons_zero, List.getElem_cons_succ]
  refine regs.held_take (i := 21) (v := .bool true) rfl (by kernel_rfl) (by kernel_rfl) (by kernel_rfl) (fun _ _ _ h => h) (by rfl) (fun w' hb => by go_simp) ?_
  simp only [Act.put, List.setIfInBounds_toArray, List.set_cons_zero, List.set_cons_succ, List.getElem_toArray, List.getElem_cons_zero, List.getElem_cons_succ]
  refine regs.held_take (i := 22) (v := .bool true) rfl (by kernel_rfl) (by kernel_rfl) (by kernel_rfl) (fun _ _ _ h => h) (by rfl) (fun w' hb => by go_simp) ?_
  simp only [Act.put, List.setIfInBounds_toArray, List.set_cons_zero, List.set_cons_succ, List.getElem_toArray, List.getElem_cons_zero, List.getElem_cons_succ]
  refine regs.held_done (by kernel_rfl) ?_ _
  go_wp2
  go_ret
  exact ⟨rfl, HWZ.out.trans (HL3.out.mono HWZ.out.size)⟩

set_option maxHeartbeats 16000000 in
theorem ctells_r (n : Nat) (hn : n ≤ 1048600) (hO : COwn 21 n) (hM : CWrongMsg 18) (hW : CWrong 16) (hB : CBytes 24) (hR : CRead 22 n)
    (c : Ch) (d1 : Option Addr) (d2 d3 : Nat) (e1 : Option Addr) (e2 e3 : Nat) (ms : Int) (m1 : Option Addr) (m2 m3 : Nat) (md : List UInt8) (b : Option Addr) (cap : Nat) (xs : List UInt8) (w : World)
    (HC : Hid (Cv w (.agg #[.int .i64 c.kind, .int .i64 c.number, .int .i64 c.stream, .int .i64 c.place, .slice d1 d2 d3, .slice e1 e2 e3]) c)) (HMD : Hid (Bs w (.slice m1 m2 m3) md)) (hml : md.length ≤ maxLen) (hms : I64 ms) (HX : Hid (Bs w (.slice b xs.length cap) xs)) (hx1 : xs.length ≤ n) (hcd : c.data.length ≤ n) (hce : c.early.length ≤ n) (HC0 : Hid (wrongL c = 0)) (hc0 : (wrongL c != 0) = false) :
    Calls Try.prog 5 #[.agg #[.int .i64 c.kind, .int .i64 c.number, .int .i64 c.stream, .int .i64 c.place, .slice d1 d2 d3, .slice e1 e2 e3], .agg #[.int .i64 ms, .slice m1 m2 m3], .slice b xs.length cap] w fun e w' => e = .returned (.bool true) ∧ Below w.heap.size w w' := by
  obtain ⟨u, hu⟩ : ∃ u, u = (w.alloc (.cells #[.int .i64 c.kind, .int .i64 c.number, .int .i64 c.stream, .int .i64 c.place, .slice d1 d2 d3, .slice e1 e2 e3] 32)).alloc (.cells #[.int .i64 ms, .slice m1 m2 m3] 34) := ⟨_, rfl⟩
  have hbu : Below w.heap.size w u := by rw [hu]; exact ((Below.refl _ _).alloc (Nat.le_refl _) _).alloc (by simp) _
  have h1 : u.heap[w.heap.size]? = some (.cells #[.int .i64 c.kind, .int .i64 c.number, .int .i64 c.stream, .int .i64 c.place, .slice d1 d2 d3, .slice e1 e2 e3] 32 (0, 0)) := by rw [hu]; exact (Below.heap_alloc _ _ _ (by simp)).trans (heap_alloc_new w _)
  have h2 : u.heap[w.heap.size + 1]? = some (.cells #[.int .i64 ms, .slice m1 m2 m3] 34 (0, 0)) := by
    rw [hu]
    have e : w.heap.size + 1 = (w.alloc (.cells #[.int .i64 c.kind, .int .i64 c.number, .int .i64 c.stream, .int .i64 c.place, .slice d1 d2 d3, .slice e1 e2 e3] 32)).heap.size := by simp
    rw [e]; exact heap_alloc_new _ _
  obtain ⟨a0, a1, a2, a3, a4, a5⟩ := box_cells h1
  obtain ⟨b0, b1⟩ := box_cells2 h2
  have HG1 := hide h1
  have HCu := hide (HC.out.later hbu)
  have HMu := hide (HMD.out.later hbu)
  have HML := hide hml
  have HMS := hide hms
  have HO := hide hO
  have HM := hide hM
  have HW := hide hW
  have HBY := hide hB
  have HRD := hide hR
  have HBU := hide hbu
  have HU := hide hu
  clear hO hM hW hB hR h1 h2 hbu hu hml hms
  go_enter Try.func5, Try.ntmps5
  go_wp2_with fail
  rw [← HU.out]
  have HK1 : Hid (Below u.heap.size u u.drew) := Below.drew (Below.refl _ _)
  clear HU
  refine regs.held_begin (by kernel_rfl) ?_
  refine regs.held_take (i := 0) (v := .agg #[.int .i64 c.kind, .int .i64 c.number, .int .i64 c.stream, .int .i64 c.place, .slice d1 d2 d3, .slice e1 e2 e3]) rfl (by kernel_rfl) (by kernel_rfl) (by kernel_rfl) (fun _ _ _ h => h) (by rfl) (fun w' hb => by have hb0 := HK1.out.trans (hb.mono HK1.out.size); go_simp) ?_
  simp only [Act.put, List.setIfInBounds_toArray, List.set_cons_zero, List.set_cons_succ, List.getElem_toArray, List.getElem_cons_zero]
  refine regs.held_take (i := 2) (v := .agg #[.int .i64 c.kind, .int .i64 c.number, .int .i64 c.stream, .int .i64 c.place, .slice d1 d2 d3, .slice e1 e2 e3]) rfl (by kernel_rfl) (by kernel_rfl) (by kernel_rfl) (fun _ _ _ h => h) (by rfl) (fun w' hb => by have hb0 := HK1.out.trans (hb.mono HK1.out.size); go_simp) ?_
  simp only [Act.put, List.setIfInBounds_toArray, List.set_cons_zero, List.set_cons_succ, List.getElem_toArray, List.getElem_cons_zero, List.getElem_cons_succ]
  refine regs.held_step (i := 1) rfl (by kernel_rfl) (fun K hK => ?_)
  go_simp
  go_wp2_with ((go_at_call 16; refine (HW.out _ c u.drew (HCu.out.later HK1.out)).mono ?_; rintro e w2 ⟨rfl, hb2⟩; have HK2 : Hid (Below u.heap.size u w2) := HK1.out.trans (hb2.mono HK1.out.size); have HS2 := hide hb2; clear hb2))
  refine hK.out _ _ HS2.out ?_
  clear hK K
  refine regs.held_step (i := 3) rfl (by kernel_rfl) (fun K hK => ?_)
  go_simp
  go_wp2_with ((go_at_call 17; refine (refWrong_any _ c w2 (HCu.out.later HK2.out)).mono ?_; rintro e w3 ⟨rfl, hb3⟩; have HK3 : Hid (Below u.heap.size u w3) := HK2.out.trans (hb3.mono HK2.out.size); have HS3 := hide hb3; clear hb3))
  refine hK.out _ _ HS3.out ?_
  clear hK K
  refine regs.held_take (i := 4) (v := .bool false) rfl (by kernel_rfl) (by kernel_rfl) (by kernel_rfl) (fun _ _ _ h => h) (by rfl) (fun w' hb => by go_simp) ?_
  simp only [Act.put, List.setIfInBounds_toArray, List.set_cons_zero, List.set_cons_succ, List.getElem_toArray, List.getElem_cons_zero, List.getElem_cons_succ]
  refine regs.held_take (i := 5) (v := .bool false) rfl (by kernel_rfl) (by kernel_rfl) (by kernel_rfl) (fun _ _ _ h => h) (by rfl) (fun w' hb => by go_simp) ?_
  simp only [Act.put, List.setIfInBounds_toArray, List.set_cons_zero, List.set_cons_succ, List.getElem_toArray, List.getElem_cons_zero, List.getElem_cons_succ]
  refine regs.held_take (i := 6) (v := .agg #[.int .i64 ms, .slice m1 m2 m3]) rfl (by kernel_rfl) (by kernel_rfl) (by kernel_rfl) (fun _ _ _ h => h) (by rfl) (fun w' hb => by have hb0 := HK3.out.trans (hb.mono HK3.out.size); go_simp) ?_
  simp only [Act.put, List.setIfInBounds_toArray, List.set_cons_zero, List.set_cons_succ, List.getElem_toArray, List.getElem_cons_zero, List.getElem_cons_succ]
  refine regs.held_take (i := 8) (v := .agg #[.int .i64 ms, .slice m1 m2 m3]) rfl (by kernel_rfl) (by kernel_rfl) (by kernel_rfl) (fun _ _ _ h => h) (by rfl) (fun w' hb => by have hb0 := HK3.out.trans (hb.mono HK3.out.size); go_simp) ?_
  simp only [Act.put, List.setIfInBounds_toArray, List.set_cons_zero, List.set_cons_succ, List.getElem_toArray, List.getElem_cons_zero, List.getElem_cons_succ]
  refine regs.held_step (i := 7) rfl (by kernel_rfl) (fun K hK => ?_)
  go_simp
  go_wp2_with ((go_at_call 18; refine (HM.out ms _ md w3 (HMu.out.later HK3.out) HML.out HMS.out).mono ?_; rintro e w4 ⟨rfl, hb4⟩; have HK4 : Hid (Below u.heap.size u w4) := HK3.out.trans (hb4.mono HK3.out.size); have HS4 := hide hb4; clear hb4))
  refine hK.out _ _ HS4.out ?_
  clear hK K
  refine regs.held_step (i := 9) rfl (by kernel_rfl) (fun K hK => ?_)
  go_simp
  go_wp2_with ((go_at_call 19; refine (refWrongMsg_any ms _ md w4 (HMu.out.later HK4.out) HML.out).mono ?_; rintro e w5 ⟨rfl, hb5⟩; have HK5 : Hid (Below u.heap.size u w5) := HK4.out.trans (hb5.mono HK4.out.size); have HS5 := hide hb5; clear hb5))
  refine hK.out _ _ HS5.out ?_
  clear hK K
  refine regs.held_take (i := 10) (v := .bool false) rfl (by kernel_rfl) (by kernel_rfl) (by kernel_rfl) (fun _ _ _ h => h) (by rfl) (fun w' hb => by go_simp) ?_
  simp only [Act.put, List.setIfInBounds_toArray, List.set_cons_zero, List.set_cons_succ, List.getElem_toArray, List.getElem_cons_zero, List.getElem_cons_succ]
  refine regs.held_take (i := 11) (v := .bool false) rfl (by kernel_rfl) (by kernel_rfl) (by kernel_rfl) (fun _ _ _ h => h) (by rfl) (fun w' hb => by go_simp) ?_
  simp only [Act.put, List.setIfInBounds_toArray, List.set_cons_zero, List.set_cons_succ, List.getElem_toArray, List.getElem_cons_zero, List.getElem_cons_succ]
  refine regs.held_take (i := 12) (v := .bool false) rfl (by kernel_rfl) (by kernel_rfl) (by kernel_rfl) (fun _ _ _ h => h) (by rfl) (fun w' hb => by go_simp) ?_
  simp only [Act.put, List.setIfInBounds_toArray, List.set_cons_zero, List.set_cons_succ, List.getElem_toArray, List.getElem_cons_zero, List.getElem_cons_succ]
  refine regs.held_take (i := 13) (v := .agg #[.int .i64 c.kind, .int .i64 c.number, .int .i64 c.stream, .int .i64 c.place, .slice d1 d2 d3, .slice e1 e2 e3]) rfl (by kernel_rfl) (by kernel_rfl) (by kernel_rfl) (fun _ _ _ h => h) (by rfl) (fun w' hb => by have hb0 := HK5.out.trans (hb.mono HK5.out.size); go_simp) ?_
  simp only [Act.put, List.setIfInBounds_toArray, List.set_cons_zero, List.set_cons_succ, List.getElem_toArray, List.getElem_cons_zero, List.getElem_cons_succ]
  refine regs.held_take (i := 15) (v := .agg #[.int .i64 c.kind, .int .i64 c.number, .int .i64 c.stream, .int .i64 c.place, .slice d1 d2 d3, .slice e1 e2 e3]) rfl (by kernel_rfl) (by kernel_rfl) (by kernel_rfl) (fun _ _ _ h => h) (by rfl) (fun w' hb => by have hb0 := HK5.out.trans (hb.mono HK5.out.size); go_simp) ?_
  simp only [Act.put, List.setIfInBounds_toArray, List.set_cons_zero, List.set_cons_succ, List.getElem_toArray, List.getElem_cons_zero, List.getElem_cons_succ]
  refine regs.held_step (i := 14) rfl (by kernel_rfl) (fun K hK => ?_)
  go_simp
  go_wp2_with ((go_at_call 21; refine (HO.out _ c w5 (HCu.out.later HK5.out) hcd hce).mono ?_; rintro e w6 ⟨v6, rfl, hC6, hb6⟩; have HK6 : Hid (Below u.heap.size u w6) := HK5.out.trans (hb6.mono HK5.out.size); have HS6 := hide hb6; have HC6 := hide hC6; clear hb6 hC6))
  refine hK.out _ _ HS6.out ?_
  clear hK K
  refine regs.held_step (i := 16) rfl (by kernel_rfl) (fun K hK => ?_)
  go_simp
  go_wp2_with ((go_at_call 20; refine (refSame_any _ _ c c w6 HC6.out (HCu.out.later HK6.out)).mono ?_; rw [(sameC_iff c c).2 rfl]; rintro e w7 ⟨rfl, hb7⟩; have HK7 : Hid (Below u.heap.size u w7) := HK6.out.trans (hb7.mono HK6.out.size); have HS7 := hide hb7; clear hb7))
  refine hK.out _ _ HS7.out ?_
  clear hK K
  refine regs.held_take (i := 17) (v := .bool false) rfl (by kernel_rfl) (by kernel_rfl) (by kernel_rfl) (fun _ _ _ h => h) (by rfl) (fun w' hb => by go_simp) ?_
  simp only [Act.put, List.setIfInBounds_toArray, List.set_cons_zero, List.set_cons_succ, List.getElem_toArray, List.getElem_cons_zero, List.getElem_cons_succ]
  refine regs.held_take (i := 18) (v := .bool false) rfl (by kernel_rfl) (by kernel_rfl) (by kernel_rfl) (fun _ _ _ h => h) (by rfl) (fun w' hb => by go_simp) ?_
  simp only [Act.put, List.setIfInBounds_toArray, List.set_cons_zero, List.set_cons_succ, List.getElem_toArray, List.getElem_cons_zero, List.getElem_cons_succ]
  refine regs.held_done (by kernel_rfl) ?_ _
  clear a0 a1 a2 a3 a4 a5 b0 b1 HMu HML HMS HO HM HW HC6
  go_wp2_with fail
  refine (HRD.out b cap xs w7 (HX.out.later (HBU.out.trans (HK7.out.mono HBU.out.size))) (by omega) hx1).mono ?_
  rintro e w8 ⟨v8, rfl, hC8, hb8⟩
  obtain ⟨a7, n7, c7, f7, g7, h7, rfl⟩ := hC8.form
  have HK8 : Hid (Below u.heap.size u w8) := HK7.out.trans (hb8.mono HK7.out.size)
  clear hb8
  obtain ⟨y, hy⟩ : ∃ y, y = w8.alloc (.cells #[.int .i64 (readC xs).kind, .int .i64 (readC xs).number, .int .i64 (readC xs).stream, .int .i64 (readC xs).place, .slice a7 n7 c7, .slice f7 g7 h7] 32) := ⟨_, rfl⟩
  have hby : Below w8.heap.size w8 y := by rw [hy]; exact (Below.refl _ _).alloc (Nat.le_refl _) _
  have hyg : y.heap[w8.heap.size]? = some (.cells #[.int .i64 (readC xs).kind, .int .i64 (readC xs).number, .int .i64 (readC xs).stream, .int .i64 (readC xs).place, .slice a7 n7 c7, .slice f7 g7 h7] 32 (0, 0)) := by rw [hy]; exact heap_alloc_new _ _
  have HKy : Hid (Below u.heap.size u y) := HK8.out.trans (hby.mono HK8.out.size)
  have HC7 := hide (hC8.later hby)
  have HYG := hide hyg
  have HY := hide hy
  clear hC8 hby hyg hy
  go_wp2_with fail
  rw [← HY.out]
  refine (refRead_any b cap xs y (HX.out.later (HBU.out.trans (HKy.out.mono HBU.out.size))) (by omega) (by omega)).mono ?_
  rintro e w9 ⟨v9, rfl, hC9, hb9⟩
  obtain ⟨a8, n8, c8, f8, g8, h8, rfl⟩ := hC9.form
  have hk9 : Below u.heap.size u w9 := HKy.out.trans (hb9.mono HKy.out.size)
  obtain ⟨z, hz⟩ : ∃ z, z = w9.alloc (.cells #[.int .i64 (readC xs).kind, .int .i64 (readC xs).number, .int .i64 (readC xs).stream, .int .i64 (readC xs).place, .slice a8 n8 c8, .slice f8 g8 h8] 32) := ⟨_, rfl⟩
  have hbz : Below w9.heap.size w9 z := by rw [hz]; exact (Below.refl _ _).alloc (Nat.le_refl _) _
  have hyz : Below y.heap.size y z := hb9.trans (hbz.mono hb9.size)
  have huz : Below u.heap.size u z := hk9.trans (hbz.mono hk9.size)
  have h1 : z.heap[w.heap.size]? = some (.cells #[.int .i64 c.kind, .int .i64 c.number, .int .i64 c.stream, .int .i64 c.place, .slice d1 d2 d3, .slice e1 e2 e3] 32 (0, 0)) := (huz.block _ (Array.getElem?_eq_some_iff.1 HG1.out).1).trans HG1.out
  have h2 : z.heap[w8.heap.size]? = some (.cells #[.int .i64 (readC xs).kind, .int .i64 (readC xs).number, .int .i64 (readC xs).stream, .int .i64 (readC xs).place, .slice a7 n7 c7, .slice f7 g7 h7] 32 (0, 0)) := (hyz.block _ (Array.getElem?_eq_some_iff.1 HYG.out).1).trans HYG.out
  have h3 : z.heap[w9.heap.size]? = some (.cells #[.int .i64 (readC xs).kind, .int .i64 (readC xs).number, .int .i64 (readC xs).stream, .int .i64 (readC xs).place, .slice a8 n8 c8, .slice f8 g8 h8] 32 (0, 0)) := by rw [hz]; exact heap_alloc_new _ _
  obtain ⟨a0, a1, a2, a3, a4, a5⟩ := box_cells h1
  obtain ⟨b0, b1, b2, b3, b4, b5⟩ := box_cells h2
  obtain ⟨z0, z1, z2, z3, z4, z5⟩ := box_cells h3
  have HCz := hide (HCu.out.later huz)
  have HC7z := hide (HC7.out.later hyz)
  have HC8z := hide (hC9.later hbz)
  have HWZ : Hid (Below w.heap.size w z) := HBU.out.trans (huz.mono HBU.out.size)
  have HZ := hide hz
  clear h1 h2 h3 hz hbz hyz huz hk9 hb9 hC9 HC7 HYG HY HKy HK8 HG1 HCu HBU
  go_wp2_with fail
  rw [← HZ.out]
  have HL1 : Hid (Below z.heap.size z z.drew) := Below.drew (Below.refl _ _)
  clear HZ
  refine regs.held_begin (by kernel_rfl) ?_
  refine regs.held_take (i := 0) (v := .int .i64 (readE xs)) rfl (by kernel_rfl) (by kernel_rfl) (by kernel_rfl) (fun _ _ _ h => h) (by rfl) (fun w' hb => by go_simp) ?_
  simp only [Act.put, List.setIfInBounds_toArray, List.set_cons_zero, List.set_cons_succ, List.getElem_toArray, List.getElem_cons_zero]
  refine regs.held_take (i := 1) (v := .int .i64 (readE xs)) rfl (by kernel_rfl) (by kernel_rfl) (by kernel_rfl) (fun _ _ _ h => h) (by rfl) (fun w' hb => by go_simp) ?_
  simp only [Act.put, List.setIfInBounds_toArray, List.set_cons_zero, List.set_cons_succ, List.getElem_toArray, List.getElem_cons_zero, List.getElem_cons_succ]
  refine regs.held_take (i := 2) (v := .bool true) rfl (by kernel_rfl) (by kernel_rfl) (by kernel_rfl) (fun _ _ _ h => h) (by rfl) (fun w' hb => by go_simp) ?_
  simp only [Act.put, List.setIfInBounds_toArray, List.set_cons_zero, List.set_cons_succ, List.getElem_toArray, List.getElem_cons_zero, List.getElem_cons_succ]
  refine regs.held_take (i := 3) (v := .bool true) rfl (by kernel_rfl) (by kernel_rfl) (by kernel_rfl) (fun _ _ _ h => h) (by rfl) (fun w' hb => by go_simp) ?_
  simp only [Act.put, List.setIfInBounds_toArray, List.set_cons_zero, List.set_cons_succ, List.getElem_toArray, List.getElem_cons_zero, List.getElem_cons_succ]
  refine regs.held_take (i := 4) (v := .agg #[.int .i64 (readC xs).kind, .int .i64 (readC xs).number, .int .i64 (readC xs).stream, .int .i64 (readC xs).place, .slice a7 n7 c7, .slice f7 g7 h7]) rfl (by kernel_rfl) (by kernel_rfl) (by kernel_rfl) (fun _ _ _ h => h) (by rfl) (fun w' hb => by have hb0 := HL1.out.trans (hb.mono HL1.out.size); go_simp) ?_
  simp only [Act.put, List.setIfInBounds_toArray, List.set_cons_zero, List.set_cons_succ, List.getElem_toArray, List.getElem_cons_zero, List.getElem_cons_succ]
  refine regs.held_take (i := 5) (v := .agg #[.int .i64 (readC xs).kind, .int .i64 (readC xs).number, .int .i64 (readC xs).stream, .int .i64 (readC xs).place, .slice a8 n8 c8, .slice f8 g8 h8]) rfl (by kernel_rfl) (by kernel_rfl) (by kernel_rfl) (fun _ _ _ h => h) (by rfl) (fun w' hb => by have hb0 := HL1.out.trans (hb.mono HL1.out.size); go_simp) ?_
  simp only [Act.put, List.setIfInBounds_toArray, List.set_cons_zero, List.set_cons_succ, List.getElem_toArray, List.getElem_cons_zero, List.getElem_cons_succ]
  refine regs.held_step (i := 6) rfl (by kernel_rfl) (fun K hK => ?_)
  go_simp
  go_wp2_with ((go_at_call 20; refine (refSame_any _ _ (readC xs) (readC xs) z.drew (HC7z.out.later HL1.out) (HC8z.out.later HL1.out)).mono ?_; rw [(sameC_iff (readC xs) (readC xs)).2 rfl]; rintro e x2 ⟨rfl, hb2⟩; have HL2 : Hid (Below z.heap.size z x2) := HL1.out.trans (hb2.mono HL1.out.size); have HT2 := hide hb2; clear hb2))
  refine hK.out _ _ HT2.out ?_
  clear hK K
  refine regs.held_take (i := 7) (v := .bool true) rfl (by kernel_rfl) (by kernel_rfl) (by kernel_rfl) (fun _ _ _ h => h) (by rfl) (fun w' hb => by go_simp) ?_
  simp only [Act.put, List.setIfInBounds_toArray, List.set_cons_zero, List.set_cons_succ, List.getElem_toArray, List.getElem_cons_zero, List.getElem_cons_succ]
  refine regs.held_take (i := 8) (v := .bool true) rfl (by kernel_rfl) (by kernel_rfl) (by kernel_rfl) (fun _ _ _ h => h) (by rfl) (fun w' hb => by go_simp) ?_
  simp only [Act.put, List.setIfInBounds_toArray, List.set_cons_zero, List.set_cons_succ, List.getElem_toArray, List.getElem_cons_zero, List.getElem_cons_succ]
  refine regs.held_take (i := 9) (v := .agg #[.int .i64 c.kind, .int .i64 c.number, .int .i64 c.stream, .int .i64 c.place, .slice d1 d2 d3, .slice e1 e2 e3]) rfl (by kernel_rfl) (by kernel_rfl) (by kernel_rfl) (fun _ _ _ h => h) (by rfl) (fun w' hb => by have hb0 := HL2.out.trans (hb.mono HL2.out.size); go_simp) ?_
  simp only [Act.put, List.setIfInBounds_toArray, List.set_cons_zero, List.set_cons_succ, List.getElem_toArray, List.getElem_cons_zero, List.getElem_cons_succ]
  refine regs.held_step (i := 10) rfl (by kernel_rfl) (fun K hK => ?_)
  go_simp
  go_wp2_with ((go_at_call 17; refine (refWrong_any _ c x2 (HCz.out.later HL2.out)).mono ?_; rintro e x3 ⟨rfl, hb3⟩; have HL3 : Hid (Below z.heap.size z x3) := HL2.out.trans (hb3.mono HL2.out.size); have HT3 := hide hb3; clear hb3))
  refine hK.out _ _ HT3.out ?_
  clear hK K
  refine regs.held_take (i := 11) (v := .bool false) rfl (by kernel_rfl) (by kernel_rfl) (by kernel_rfl) (fun _ _ _ h => h) (by rfl) (fun w' hb => by go_simp) ?_
  simp only [Act.put, List.setIfInBounds_toArray, List.set_cons_zero, List.set_cons_succ, List.getElem_toArray, List.getElem_cons_zero, List.getElem_cons_succ]
  refine regs.held_take (i := 12) (v := .bool false) rfl (by kernel_rfl) (by kernel_rfl) (by kernel_rfl) (fun _ _ _ h => h) (by rfl) (fun w' hb => by go_simp) ?_
  simp only [Act.put, List.setIfInBounds_toArray, List.set_cons_zero, List.set_cons_succ, List.getElem_toArray, List.getElem_cons_zero, List.getElem_cons_succ]
  refine regs.held_take (i := 13) (v := .agg #[.int .i64 c.kind, .int .i64 c.number, .int .i64 c.stream, .int .i64 c.place, .slice d1 d2 d3, .slice e1 e2 e3]) rfl (by kernel_rfl) (by kernel_rfl) (by kernel_rfl) (fun _ _ _ h => h) (by rfl) (fun w' hb => by have hb0 := HL3.out.trans (hb.mono HL3.out.size); go_simp) ?_
  simp only [Act.put, List.setIfInBounds_toArray, List.set_cons_zero, List.set_cons_succ, List.getElem_toArray, List.getElem_cons_zero, List.getElem_cons_succ]
  refine regs.held_take (i := 16) (v := .agg #[.int .i64 c.kind, .int .i64 c.number, .int .i64 c.stream, .int .i64 c.place, .slice d1 d2 d3, .slice e1 e2 e3]) rfl (by kernel_rfl) (by kernel_rfl) (by kernel_rfl) (fun _ _ _ h => h) (by rfl) (fun w' hb => by have hb0 := HL3.out.trans (hb.mono HL3.out.size); go_simp) ?_
  simp only [Act.put, List.setIfInBounds_toArray, List.set_cons_zero, List.set_cons_succ, List.getElem_toArray, List.getElem_cons_zero, List.getElem_cons_succ]
  refine regs.held_step (i := 14) rfl (by kernel_rfl) (fun K hK => ?_)
  go_simp
  go_wp2_with ((go_at_call 24; refine (HBY.out _ c x3 (HCz.out.later HL3.out) HC0.out).mono ?_; rintro e x4 ⟨v4, rfl, hown4, hb4⟩; have HL4 : Hid (Below z.heap.size z x4) := HL3.out.trans (hb4.mono HL3.out.size); have HT4 := hide hb4; have HO4 := hide hown4; clear hb4 hown4))
  refine hK.out _ _ HT4.out ?_
  clear hK K
  refine regs.held_take (i := 15) (v := .string ⟨(sealL (bodyL c)).toArray⟩) rfl (by kernel_rfl) (by kernel_rfl) (by kernel_rfl) (fun _ _ _ h => h) (by rfl) (fun w' hb => by have hc := conv_run ((owns_Bs HO4.out).later hb); go_simp) ?_
  simp only [Act.put, List.setIfInBounds_toArray, List.set_cons_zero, List.set_cons_succ, List.getElem_toArray, List.getElem_cons_zero, List.getElem_cons_succ]
  refine regs.held_step (i := 17) rfl (by kernel_rfl) (fun K hK => ?_)
  go_simp
  go_wp2_with ((go_at_call 25; refine (refBytes_any _ c x4 (HCz.out.later HL4.out) HC0.out).mono ?_; rintro e x5 ⟨v5, rfl, hown5, hb5⟩; have HL5 : Hid (Below z.heap.size z x5) := HL4.out.trans (hb5.mono HL4.out.size); have HT5 := hide hb5; have HO5 := hide hown5; clear hb5 hown5))
  refine hK.out _ _ HT5.out ?_
  clear hK K
  refine regs.held_take (i := 18) (v := .string ⟨(sealL (bodyL c)).toArray⟩) rfl (by kernel_rfl) (by kernel_rfl) (by kernel_rfl) (fun _ _ _ h => h) (by rfl) (fun w' hb => by have hc := conv_run ((owns_Bs HO5.out).later hb); go_simp) ?_
  simp only [Act.put, List.setIfInBounds_toArray, List.set_cons_zero, List.set_cons_succ, List.getElem_toArray, List.getElem_cons_zero, List.getElem_cons_succ]
  refine regs.held_take (i := 19) (v := .bool true) rfl (by kernel_rfl) (by kernel_rfl) (by kernel_rfl) (fun _ _ _ h => h) (by rfl) (fun w' hb => by go_simp) ?_
  simp only [Act.put, List.setIfInBounds_toArray, List.set_cons_zero, List.set_cons_succ, List.getElem_toArray, List.getElem_cons_zero, List.getElem_cons_succ]
  refine regs.held_take (i := 20) (v := .bool true) rfl (by kernel_rfl) (by kernel_rfl) (by kernel_rfl) (fun _ _ _ h => h) (by rfl) (fun w' hb => by go_simp) ?_
  simp only [Act.put, List.setIfInBounds_toArray, List.set_cons_zero, List.set_cons_succ, List.getElem_toArray, List.getElem_cons_zero, List.getElem_cons_succ]
  refine regs.held_take (i := 21) (v := .bool true) rfl (by kernel_rfl) (by kernel_rfl) (by kernel_rfl) (fun _ _ _ h => h) (by rfl) (fun w' hb => by go_simp) ?_
  simp only [Act.put, List.setIfInBounds_toArray, List.set_cons_zero, List.set_cons_succ, List.getElem_toArray, List.getElem_cons_zero, List.getElem_cons_succ]
  refine regs.held_take (i := 22) (v := .bool true) rfl (by kernel_rfl) (by kernel_rfl) (by kernel_rfl) (fun _ _ _ h => h) (by rfl) (fun w' hb => by go_simp) ?_
  simp only [Act.put, List.setIfInBounds_toArray, List.set_cons_zero, List.set_cons_succ, List.getElem_toArray, List.getElem_cons_zero, List.getElem_cons_succ]
  refine regs.held_done (by kernel_rfl) ?_ _
  go_wp2
  go_ret
  exact ⟨rfl, HWZ.out.trans (HL5.out.mono HWZ.out.size)⟩

end Go.Proofs.Ytlomffhofionnaa.leaf
