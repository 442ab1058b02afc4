/-
  What the functions of chapter 3 are held to, and the walks of its laws over them.
-/
import Derived.Test.YtlomffhofionnaaDoorParseMain
import Derived.Test.YtlomffhofionnaaDoorRegs
namespace Go.Proofs.YtlomffhofionnaaDoor.leaf
set_option linter.unusedVariables false
open Go.RowKit
open mth

def CPrint (f : Nat) : Prop := ∀ v m w, Mv w v m → wrongMsgL m.stream m.data = 0 → Calls Tryd.prog f #[v] w fun e w' => e = .returned (.string ⟨(printL m).toArray⟩) ∧ Below w.heap.size w w'
def CParse (f : Nat) : Prop := ∀ S xs w, S.data.toList = xs → S.size ≤ 140737488355328 → Calls Tryd.prog f #[.string S] w fun e w' => ∃ v', e = .returned (.tuple #[v', .int .i64 (parseE xs)]) ∧ Mv w' v' (parseM xs) ∧ Below w.heap.size w w'

theorem box2_cells {u : World} {g : Nat} {x0 x1 : Value} {t : TypeId} (h : u.heap[g]? = some (.cells #[x0, x1] t (0, 0))) :
    (∀ w', Below u.heap.size u w' → w'.cell? ⟨g, 0, none⟩ = some x0) ∧ (∀ w', Below u.heap.size u w' → w'.cell? ⟨g, 1, none⟩ = some x1) := by
  have hz : g < u.heap.size := (Array.getElem?_eq_some_iff.1 h).1
  have hc : ∀ w', Below u.heap.size u w' → w'.heap[g]? = some (.cells #[x0, x1] t (0, 0)) := fun w' hb => (hb.block g hz).trans h
  refine ⟨fun w' hb => ?_, fun w' hb => ?_⟩
  all_goals
    rw [cell_of_row w' g _ _ t (0, 0) (hc w' hb)]
    rfl
theorem refMsg_right {m : Ms} {v : Value} {w : World} (h : Mv w v m) : Calls Tryd.prog 8 #[v] w fun e w' => e = .returned (.int .i64 (wrongMsgL m.stream m.data)) ∧ Below w.heap.size w w' := by
  obtain ⟨dv, rfl, hd, hl, hs⟩ := h
  exact refWrongMsg_any m.stream dv m.data w hd hl

set_option maxHeartbeats 8000000 in
theorem ttells_w (hP : CPrint 9) (hQ : CParse 5) (m : Ms) (m1 : Option Addr) (m2 m3 : Nat) (S : ByteArray) (xs : List UInt8) (w : World) (HXS : Hid (S.data.toList = xs)) (HSZ : Hid (S.size ≤ 140737488355328)) (HM : Hid (Mv w (.agg #[.int .i64 m.stream, .slice m1 m2 m3]) m)) (hc0 : (wrongMsgL m.stream m.data != 0) = true) :
    Calls Tryd.prog 3 #[.string S, .agg #[.int .i64 m.stream, .slice m1 m2 m3]] w fun e w' => e = .returned (.bool true) ∧ Below w.heap.size w w' := by
  obtain ⟨u, hu⟩ : ∃ u, u = w.alloc (.cells #[.int .i64 m.stream, .slice m1 m2 m3] 24) := ⟨_, rfl⟩
  have hbu : Below w.heap.size w u := by rw [hu]; exact (Below.refl _ _).alloc (Nat.le_refl _) _
  have h1 : u.heap[w.heap.size]? = some (.cells #[.int .i64 m.stream, .slice m1 m2 m3] 24 (0, 0)) := by rw [hu]; exact heap_alloc_new _ _
  have HG1 := hide h1
  have HP := hide hP
  have HPA := hide (hQ S xs u HXS.out HSZ.out)
  have HBU := hide hbu
  have HU := hide hu
  clear hP hQ h1 hbu hu
  go_enter Tryd.func3, Tryd.ntmps3
  go_wp2_with fail
  rw [← HU.out]
  refine HPA.out.mono ?_
  rintro e w1 ⟨v1, rfl, hM1, hb1⟩
  clear HPA HU
  obtain ⟨a7, c7, rfl⟩ := hM1.form
  obtain ⟨n7, hn7⟩ : ∃ n7, n7 = (parseM xs).data.length := ⟨_, rfl⟩
  rw [← hn7] at hM1 ⊢
  clear hn7
  obtain ⟨y, hy⟩ : ∃ y, y = w1.alloc (.cells #[.int .i64 (parseM xs).stream, .slice a7 n7 c7] 24) := ⟨_, rfl⟩
  have hby : Below w1.heap.size w1 y := by rw [hy]; exact (Below.refl _ _).alloc (Nat.le_refl _) _
  have hyg : y.heap[w1.heap.size]? = some (.cells #[.int .i64 (parseM xs).stream, .slice a7 n7 c7] 24 (0, 0)) := by rw [hy]; exact heap_alloc_new _ _
  have HKy : Hid (Below u.heap.size u y) := hb1.trans (hby.mono hb1.size)
  have HM7 := hide (hM1.later hby)
  have HYG := hide hyg
  have HY := hide hy
  clear hM1 hb1 hby hyg hy
  go_wp2_with fail
  rw [← HY.out]
  refine (refParse_any S xs HXS.out y HSZ.out).mono ?_
  rintro e w2 ⟨v2, rfl, hM2, hb2⟩
  obtain ⟨a8, c8, rfl⟩ := hM2.form
  obtain ⟨n8, hn8⟩ : ∃ n8, n8 = (parseM xs).data.length := ⟨_, rfl⟩
  rw [← hn8] at hM2 ⊢
  clear hn8
  have hk2 : Below u.heap.size u w2 := HKy.out.trans (hb2.mono HKy.out.size)
  obtain ⟨z, hz⟩ : ∃ z, z = w2.alloc (.cells #[.int .i64 (parseM xs).stream, .slice a8 n8 c8] 24) := ⟨_, rfl⟩
  have hbz : Below w2.heap.size w2 z := by rw [hz]; exact (Below.refl _ _).alloc (Nat.le_refl _) _
  have hyz : Below y.heap.size y z := hb2.trans (hbz.mono hb2.size)
  have huz : Below u.heap.size u z := hk2.trans (hbz.mono hk2.size)
  have g1 : z.heap[w.heap.size]? = some (.cells #[.int .i64 m.stream, .slice m1 m2 m3] 24 (0, 0)) := (huz.block _ (Array.getElem?_eq_some_iff.1 HG1.out).1).trans HG1.out
  have g2 : z.heap[w1.heap.size]? = some (.cells #[.int .i64 (parseM xs).stream, .slice a7 n7 c7] 24 (0, 0)) := (hyz.block _ (Array.getElem?_eq_some_iff.1 HYG.out).1).trans HYG.out
  have g3 : z.heap[w2.heap.size]? = some (.cells #[.int .i64 (parseM xs).stream, .slice a8 n8 c8] 24 (0, 0)) := by rw [hz]; exact heap_alloc_new _ _
  obtain ⟨e0, e1⟩ := box2_cells g1
  obtain ⟨b0, b1⟩ := box2_cells g2
  obtain ⟨z0, z1⟩ := box2_cells g3
  have HMz := hide (HM.out.later (HBU.out.trans (huz.mono HBU.out.size)))
  have HM7z := hide (HM7.out.later hyz)
  have HM8z := hide (hM2.later hbz)
  have HWZ : Hid (Below w.heap.size w z) := HBU.out.trans (huz.mono HBU.out.size)
  have HZ := hide hz
  clear g1 g2 g3 hz hbz hyz huz hk2 hb2 hM2 HM7 HYG HY HKy HG1 HBU
  go_wp2_with fail
  rw [← HZ.out]
  have HL1 : Hid (Below z.heap.size z z.drew) := Below.drew (Below.refl _ _)
  clear HZ
  refine regs.held_begin (by kernel_rfl) ?_
  refine regs.held_take (i := 0) (v := .int .i64 (parseE xs)) rfl (by kernel_rfl) (by kernel_rfl) (by kernel_rfl) (fun _ _ _ h => h) (by rfl) (fun w' hb => by go_simp) ?_
  simp only [Act.put, List.setIfInBounds_toArray, List.set_cons_zero, List.set_cons_succ, List.getElem_toArray, List.getElem_cons_zero]
  refine regs.held_take (i := 1) (v := .int .i64 (parseE xs)) rfl (by kernel_rfl) (by kernel_rfl) (by kernel_rfl) (fun _ _ _ h => h) (by rfl) (fun w' hb => by go_simp) ?_
  simp only [Act.put, List.setIfInBounds_toArray, List.set_cons_zero, List.set_cons_succ, List.getElem_toArray, List.getElem_cons_zero, List.getElem_cons_succ]
  refine regs.held_take (i := 2) (v := .bool true) rfl (by kernel_rfl) (by kernel_rfl) (by kernel_rfl) (fun _ _ _ h => h) (by rfl) (fun w' hb => by go_simp) ?_
  simp only [Act.put, List.setIfInBounds_toArray, List.set_cons_zero, List.set_cons_succ, List.getElem_toArray, List.getElem_cons_zero, List.getElem_cons_succ]
  refine regs.held_take (i := 3) (v := .bool true) rfl (by kernel_rfl) (by kernel_rfl) (by kernel_rfl) (fun _ _ _ h => h) (by rfl) (fun w' hb => by go_simp) ?_
  simp only [Act.put, List.setIfInBounds_toArray, List.set_cons_zero, List.set_cons_succ, List.getElem_toArray, List.getElem_cons_zero, List.getElem_cons_succ]
  refine regs.held_take (i := 4) (v := .agg #[.int .i64 (parseM xs).stream, .slice a7 n7 c7]) rfl (by kernel_rfl) (by kernel_rfl) (by kernel_rfl) (fun _ _ _ h => h) (by rfl) (fun w' hb => by have hb0 := HL1.out.trans (hb.mono HL1.out.size); go_simp) ?_
  simp only [Act.put, List.setIfInBounds_toArray, List.set_cons_zero, List.set_cons_succ, List.getElem_toArray, List.getElem_cons_zero, List.getElem_cons_succ]
  refine regs.held_take (i := 5) (v := .agg #[.int .i64 (parseM xs).stream, .slice a8 n8 c8]) rfl (by kernel_rfl) (by kernel_rfl) (by kernel_rfl) (fun _ _ _ h => h) (by rfl) (fun w' hb => by have hb0 := HL1.out.trans (hb.mono HL1.out.size); go_simp) ?_
  simp only [Act.put, List.setIfInBounds_toArray, List.set_cons_zero, List.set_cons_succ, List.getElem_toArray, List.getElem_cons_zero, List.getElem_cons_succ]
  refine regs.held_step (i := 6) rfl (by kernel_rfl) (fun K hK => ?_)
  go_simp
  go_wp2_with ((go_at_call 7; refine (refSameMsg_any _ _ (parseM xs) (parseM xs) z.drew (HM7z.out.later HL1.out) (HM8z.out.later HL1.out)).mono ?_; rw [(sameM_iff (parseM xs) (parseM xs)).2 rfl]; rintro e x2 ⟨rfl, hb2⟩; have HL2 : Hid (Below z.heap.size z x2) := HL1.out.trans (hb2.mono HL1.out.size); have HT2 := hide hb2; clear hb2))
  refine hK.out _ _ HT2.out ?_
  clear hK K
  refine regs.held_take (i := 7) (v := .bool true) rfl (by kernel_rfl) (by kernel_rfl) (by kernel_rfl) (fun _ _ _ h => h) (by rfl) (fun w' hb => by go_simp) ?_
  simp only [Act.put, List.setIfInBounds_toArray, List.set_cons_zero, List.set_cons_succ, List.getElem_toArray, List.getElem_cons_zero, List.getElem_cons_succ]
  refine regs.held_take (i := 8) (v := .bool true) rfl (by kernel_rfl) (by kernel_rfl) (by kernel_rfl) (fun _ _ _ h => h) (by rfl) (fun w' hb => by go_simp) ?_
  simp only [Act.put, List.setIfInBounds_toArray, List.set_cons_zero, List.set_cons_succ, List.getElem_toArray, List.getElem_cons_zero, List.getElem_cons_succ]
  refine regs.held_take (i := 9) (v := .agg #[.int .i64 m.stream, .slice m1 m2 m3]) rfl (by kernel_rfl) (by kernel_rfl) (by kernel_rfl) (fun _ _ _ h => h) (by rfl) (fun w' hb => by have hb0 := HL2.out.trans (hb.mono HL2.out.size); go_simp) ?_
  simp only [Act.put, List.setIfInBounds_toArray, List.set_cons_zero, List.set_cons_succ, List.getElem_toArray, List.getElem_cons_zero, List.getElem_cons_succ]
  refine regs.held_step (i := 10) rfl (by kernel_rfl) (fun K hK => ?_)
  go_simp
  go_wp2_with ((go_at_call 8; refine (refMsg_right (HMz.out.later HL2.out)).mono ?_; rintro e x3 ⟨rfl, hb3⟩; have HL3 : Hid (Below z.heap.size z x3) := HL2.out.trans (hb3.mono HL2.out.size); have HT3 := hide hb3; clear hb3))
  refine hK.out _ _ HT3.out ?_
  clear hK K
  refine regs.held_take (i := 11) (v := .bool true) rfl (by kernel_rfl) (by kernel_rfl) (by kernel_rfl) (fun _ _ _ h => h) (by rfl) (fun w' hb => by go_simp) ?_
  simp only [Act.put, List.setIfInBounds_toArray, List.set_cons_zero, List.set_cons_succ, List.getElem_toArray, List.getElem_cons_zero, List.getElem_cons_succ]
  refine regs.held_take (i := 12) (v := .bool true) rfl (by kernel_rfl) (by kernel_rfl) (by kernel_rfl) (fun _ _ _ h => h) (by rfl) (fun w' hb => by go_simp) ?_
  simp only [Act.put, List.setIfInBounds_toArray, List.set_cons_zero, List.set_cons_succ, List.getElem_toArray, List.getElem_cons_zero, List.getElem_cons_succ]
  refine regs.held_skip (i := 13) rfl (by kernel_rfl) (by kernel_rfl) (by kernel_rfl) (fun _ _ _ h => h) (by rfl) ?_
  simp only [Act.put, List.setIfInBounds_toArray, List.set_cons_zero, List.set_cons_succ, List.getElem_toArray, List.getElem_cons_zero, List.getElem_cons_succ]
  refine regs.held_skip (i := 14) rfl (by kernel_rfl) (by kernel_rfl) (by kernel_rfl) (fun _ _ _ h => h) (by rfl) ?_
  simp only [Act.put, List.setIfInBounds_toArray, List.set_cons_zero, List.set_cons_succ, List.getElem_toArray, List.getElem_cons_zero, List.getElem_cons_succ]
  refine regs.held_skip (i := 15) rfl (by kernel_rfl) (by kernel_rfl) (by kernel_rfl) (fun _ _ _ h => h) (by rfl) ?_
  simp only [Act.put, List.setIfInBounds_toArray, List.set_cons_zero, List.set_cons_succ, List.getElem_toArray, List.getElem_cons_zero, List.getElem_cons_succ]
  refine regs.held_skip (i := 16) rfl (by kernel_rfl) (by kernel_rfl) (by kernel_rfl) (fun _ _ _ h => h) (by rfl) ?_
  simp only [Act.put, List.setIfInBounds_toArray, List.set_cons_zero, List.set_cons_succ, List.getElem_toArray, List.getElem_cons_zero, List.getElem_cons_succ]
  refine regs.held_skip (i := 17) rfl (by kernel_rfl) (by kernel_rfl) (by kernel_rfl) (fun _ _ _ h => h) (by rfl) ?_
  simp only [Act.put, List.setIfInBounds_toArray, List.set_cons_zero, List.set_cons_succ, List.getElem_toArray, List.getElem_cons_zero, List.getElem_cons_succ]
  refine regs.held_take (i := 18) (v := .bool true) rfl (by kernel_rfl) (by kernel_rfl) (by kernel_rfl) (fun _ _ _ h => h) (by rfl) (fun w' hb => by go_simp) ?_
  simp only [Act.put, List.setIfInBounds_toArray, List.set_cons_zero, List.set_cons_succ, List.getElem_toArray, List.getElem_cons_zero, List.getElem_cons_succ]
  refine regs.held_take (i := 19) (v := .bool true) rfl (by kernel_rfl) (by kernel_rfl) (by kernel_rfl) (fun _ _ _ h => h) (by rfl) (fun w' hb => by go_simp) ?_
  simp only [Act.put, List.setIfInBounds_toArray, List.set_cons_zero, List.set_cons_succ, List.getElem_toArray, List.getElem_cons_zero, List.getElem_cons_succ]
  refine regs.held_take (i := 20) (v := .bool true) rfl (by kernel_rfl) (by kernel_rfl) (by kernel_rfl) (fun _ _ _ h => h) (by rfl) (fun w' hb => by go_simp) ?_
  simp only [Act.put, List.setIfInBounds_toArray, List.set_cons_zero, List.set_cons_succ, List.getElem_toArray, List.getElem_cons_zero, List.getElem_cons_succ]
  refine regs.held_done (by kernel_rfl) ?_ _
  go_wp2
  go_ret
  exact ⟨rfl, HWZ.out.trans (HL3.out.mono HWZ.out.size)⟩

set_option maxHeartbeats 8000000 in
theorem ttells_r (hP : CPrint 9) (hQ : CParse 5) (m : Ms) (m1 : Option Addr) (m2 m3 : Nat) (S : ByteArray) (xs : List UInt8) (w : World) (HXS : Hid (S.data.toList = xs)) (HSZ : Hid (S.size ≤ 140737488355328)) (HM : Hid (Mv w (.agg #[.int .i64 m.stream, .slice m1 m2 m3]) m)) (HC0 : Hid (wrongMsgL m.stream m.data = 0)) (hc0 : (wrongMsgL m.stream m.data != 0) = false) :
    Calls Tryd.prog 3 #[.string S, .agg #[.int .i64 m.stream, .slice m1 m2 m3]] w fun e w' => e = .returned (.bool true) ∧ Below w.heap.size w w' := by
  obtain ⟨u, hu⟩ : ∃ u, u = w.alloc (.cells #[.int .i64 m.stream, .slice m1 m2 m3] 24) := ⟨_, rfl⟩
  have hbu : Below w.heap.size w u := by rw [hu]; exact (Below.refl _ _).alloc (Nat.le_refl _) _
  have h1 : u.heap[w.heap.size]? = some (.cells #[.int .i64 m.stream, .slice m1 m2 m3] 24 (0, 0)) := by rw [hu]; exact heap_alloc_new _ _
  have HG1 := hide h1
  have HP := hide hP
  have HPA := hide (hQ S xs u HXS.out HSZ.out)
  have HBU := hide hbu
  have HU := hide hu
  clear hP hQ h1 hbu hu
  go_enter Tryd.func3, Tryd.ntmps3
  go_wp2_with fail
  rw [← HU.out]
  refine HPA.out.mono ?_
  rintro e w1 ⟨v1, rfl, hM1, hb1⟩
  clear HPA HU
  obtain ⟨a7, c7, rfl⟩ := hM1.form
  obtain ⟨n7, hn7⟩ : ∃ n7, n7 = (parseM xs).data.length := ⟨_, rfl⟩
  rw [← hn7] at hM1 ⊢
  clear hn7
  obtain ⟨y, hy⟩ : ∃ y, y = w1.alloc (.cells #[.int .i64 (parseM xs).stream, .slice a7 n7 c7] 24) := ⟨_, rfl⟩
  have hby : Below w1.heap.size w1 y := by rw [hy]; exact (Below.refl _ _).alloc (Nat.le_refl _) _
  have hyg : y.heap[w1.heap.size]? = some (.cells #[.int .i64 (parseM xs).stream, .slice a7 n7 c7] 24 (0, 0)) := by rw [hy]; exact heap_alloc_new _ _
  have HKy : Hid (Below u.heap.size u y) := hb1.trans (hby.mono hb1.size)
  have HM7 := hide (hM1.later hby)
  have HYG := hide hyg
  have HY := hide hy
  clear hM1 hb1 hby hyg hy
  go_wp2_with fail
  rw [← HY.out]
  refine (refParse_any S xs HXS.out y HSZ.out).mono ?_
  rintro e w2 ⟨v2, rfl, hM2, hb2⟩
  obtain ⟨a8, c8, rfl⟩ := hM2.form
  obtain ⟨n8, hn8⟩ : ∃ n8, n8 = (parseM xs).data.length := ⟨_, rfl⟩
  rw [← hn8] at hM2 ⊢
  clear hn8
  have hk2 : Below u.heap.size u w2 := HKy.out.trans (hb2.mono HKy.out.size)
  obtain ⟨z, hz⟩ : ∃ z, z = w2.alloc (.cells #[.int .i64 (parseM xs).stream, .slice a8 n8 c8] 24) := ⟨_, rfl⟩
  have hbz : Below w2.heap.size w2 z := by rw [hz]; exact (Below.refl _ _).alloc (Nat.le_refl _) _
  have hyz : Below y.heap.size y z := hb2.trans (hbz.mono hb2.size)
  have huz : Below u.heap.size u z := hk2.trans (hbz.mono hk2.size)
  have g1 : z.heap[w.heap.size]? = some (.cells #[.int .i64 m.stream, .slice m1 m2 m3] 24 (0, 0)) := (huz.block _ (Array.getElem?_eq_some_iff.1 HG1.out).1).trans HG1.out
  have g2 : z.heap[w1.heap.size]? = some (.cells #[.int .i64 (parseM xs).stream, .slice a7 n7 c7] 24 (0, 0)) := (hyz.block _ (Array.getElem?_eq_some_iff.1 HYG.out).1).trans HYG.out
  have g3 : z.heap[w2.heap.size]? = some (.cells #[.int .i64 (parseM xs).stream, .slice a8 n8 c8] 24 (0, 0)) := by rw [hz]; exact heap_alloc_new _ _
  obtain ⟨e0, e1⟩ := box2_cells g1
  obtain ⟨b0, b1⟩ := box2_cells g2
  obtain ⟨z0, z1⟩ := box2_cells g3
  have HMz := hide (HM.out.later (HBU.out.trans (huz.mono HBU.out.size)))
  have HM7z := hide (HM7.out.later hyz)
  have HM8z := hide (hM2.later hbz)
  have HWZ : Hid (Below w.heap.size w z) := HBU.out.trans (huz.mono HBU.out.size)
  have HZ := hide hz
  clear g1 g2 g3 hz hbz hyz huz hk2 hb2 hM2 HM7 HYG HY HKy HG1 HBU
  go_wp2_with fail
  rw [← HZ.out]
  have HL1 : Hid (Below z.heap.size z z.drew) := Below.drew (Below.refl _ _)
  clear HZ
  refine regs.held_begin (by kernel_rfl) ?_
  refine regs.held_take (i := 0) (v := .int .i64 (parseE xs)) rfl (by kernel_rfl) (by kernel_rfl) (by kernel_rfl) (fun _ _ _ h => h) (by rfl) (fun w' hb => by go_simp) ?_
  simp only [Act.put, List.setIfInBounds_toArray, List.set_cons_zero, List.set_cons_succ, List.getElem_toArray, List.getElem_cons_zero]
  refine regs.held_take (i := 1) (v := .int .i64 (parseE xs)) rfl (by kernel_rfl) (by kernel_rfl) (by kernel_rfl) (fun _ _ _ h => h) (by rfl) (fun w' hb => by go_simp) ?_
  simp only [Act.put, List.setIfInBounds_toArray, List.set_cons_zero, List.set_cons_succ, List.getElem_toArray, List.getElem_cons_zero, List.getElem_cons_succ]
  refine regs.held_take (i := 2) (v := .bool true) rfl (by kernel_rfl) (by kernel_rfl) (by kernel_rfl) (fun _ _ _ h => h) (by rfl) (fun w' hb => by go_simp) ?_
  simp only [Act.put, List.setIfInBounds_toArray, List.set_cons_zero, List.set_cons_succ, List.getElem_toArray, List.getElem_cons_zero, List.getElem_cons_succ]
  refine regs.held_take (i := 3) (v := .bool true) rfl (by kernel_rfl) (by kernel_rfl) (by kernel_rfl) (fun _ _ _ h => h) (by rfl) (fun w' hb => by go_simp) ?_
  simp only [Act.put, List.setIfInBounds_toArray, List.set_cons_zero, List.set_cons_succ, List.getElem_toArray, List.getElem_cons_zero, List.getElem_cons_succ]
  refine regs.held_take (i := 4) (v := .agg #[.int .i64 (parseM xs).stream, .slice a7 n7 c7]) rfl (by kernel_rfl) (by kernel_rfl) (by kernel_rfl) (fun _ _ _ h => h) (by rfl) (fun w' hb => by have hb0 := HL1.out.trans (hb.mono HL1.out.size); go_simp) ?_
  simp only [Act.put, List.setIfInBounds_toArray, List.set_cons_zero, List.set_cons_succ, List.getElem_toArray, List.getElem_cons_zero, List.getElem_cons_succ]
  refine regs.held_take (i := 5) (v := .agg #[.int .i64 (parseM xs).stream, .slice a8 n8 c8]) rfl (by kernel_rfl) (by kernel_rfl) (by kernel_rfl) (fun _ _ _ h => h) (by rfl) (fun w' hb => by have hb0 := HL1.out.trans (hb.mono HL1.out.size); go_simp) ?_
  simp only [Act.put, List.setIfInBounds_toArray, List.set_cons_zero, List.set_cons_succ, List.getElem_toArray, List.getElem_cons_zero, List.getElem_cons_succ]
  refine regs.held_step (i := 6) rfl (by kernel_rfl) (fun K hK => ?_)
  go_simp
  go_wp2_with ((go_at_call 7; refine (refSameMsg_any _ _ (parseM xs) (parseM xs) z.drew (HM7z.out.later HL1.out) (HM8z.out.later HL1.out)).mono ?_; rw [(sameM_iff (parseM xs) (parseM xs)).2 rfl]; rintro e x2 ⟨rfl, hb2⟩; have HL2 : Hid (Below z.heap.size z x2) := HL1.out.trans (hb2.mono HL1.out.size); have HT2 := hide hb2; clear hb2))
  refine hK.out _ _ HT2.out ?_
  clear hK K
  refine regs.held_take (i := 7) (v := .bool true) rfl (by kernel_rfl) (by kernel_rfl) (by kernel_rfl) (fun _ _ _ h => h) (by rfl) (fun w' hb => by go_simp) ?_
  simp only [Act.put, List.setIfInBounds_toArray, List.set_cons_zero, List.set_cons_succ, List.getElem_toArray, List.getElem_cons_zero, List.getElem_cons_succ]
  refine regs.held_take (i := 8) (v := .bool true) rfl (by kernel_rfl) (by kernel_rfl) (by kernel_rfl) (fun _ _ _ h => h) (by rfl) (fun w' hb => by go_simp) ?_
  simp only [Act.put, List.setIfInBounds_toArray, List.set_cons_zero, List.set_cons_succ, List.getElem_toArray, List.getElem_cons_zero, List.getElem_cons_succ]
  refine regs.held_take (i := 9) (v := .agg #[.int .i64 m.stream, .slice m1 m2 m3]) rfl (by kernel_rfl) (by kernel_rfl) (by kernel_rfl) (fun _ _ _ h => h) (by rfl) (fun w' hb => by have hb0 := HL2.out.trans (hb.mono HL2.out.size); go_simp) ?_
  simp only [Act.put, List.setIfInBounds_toArray, List.set_cons_zero, List.set_cons_succ, List.getElem_toArray, List.getElem_cons_zero, List.getElem_cons_succ]
  refine regs.held_step (i := 10) rfl (by kernel_rfl) (fun K hK => ?_)
  go_simp
  go_wp2_with ((go_at_call 8; refine (refMsg_right (HMz.out.later HL2.out)).mono ?_; rintro e x3 ⟨rfl, hb3⟩; have HL3 : Hid (Below z.heap.size z x3) := HL2.out.trans (hb3.mono HL2.out.size); have HT3 := hide hb3; clear hb3))
  refine hK.out _ _ HT3.out ?_
  clear hK K
  refine regs.held_take (i := 11) (v := .bool false) rfl (by kernel_rfl) (by kernel_rfl) (by kernel_rfl) (fun _ _ _ h => h) (by rfl) (fun w' hb => by go_simp) ?_
  simp only [Act.put, List.setIfInBounds_toArray, List.set_cons_zero, List.set_cons_succ, List.getElem_toArray, List.getElem_cons_zero, List.getElem_cons_succ]
  refine regs.held_take (i := 12) (v := .bool false) rfl (by kernel_rfl) (by kernel_rfl) (by kernel_rfl) (fun _ _ _ h => h) (by rfl) (fun w' hb => by go_simp) ?_
  simp only [Act.put, List.setIfInBounds_toArray, List.set_cons_zero, List.set_cons_succ, List.getElem_toArray, List.getElem_cons_zero, List.getElem_cons_succ]
  refine regs.held_take (i := 13) (v := .agg #[.int .i64 m.stream, .slice m1 m2 m3]) rfl (by kernel_rfl) (by kernel_rfl) (by kernel_rfl) (fun _ _ _ h => h) (by rfl) (fun w' hb => by have hb0 := HL3.out.trans (hb.mono HL3.out.size); go_simp) ?_
  simp only [Act.put, List.setIfInBounds_toArray, List.set_cons_zero, List.set_cons_succ, List.getElem_toArray, List.getElem_cons_zero, List.getElem_cons_succ]
  refine regs.held_take (i := 15) (v := .agg #[.int .i64 m.stream, .slice m1 m2 m3]) rfl (by kernel_rfl) (by kernel_rfl) (by kernel_rfl) (fun _ _ _ h => h) (by rfl) (fun w' hb => by have hb0 := HL3.out.trans (hb.mono HL3.out.size); go_simp) ?_
  simp only [Act.put, List.setIfInBounds_toArray, List.set_cons_zero, List.set_cons_succ, List.getElem_toArray, List.getElem_cons_zero, List.getElem_cons_succ]
  refine regs.held_step (i := 14) rfl (by kernel_rfl) (fun K hK => ?_)
  go_simp
  go_wp2_with ((go_at_call 9; refine (HP.out _ m x3 (HMz.out.later HL3.out) HC0.out).mono ?_; rintro e x4 ⟨rfl, hb4⟩; have HL4 : Hid (Below z.heap.size z x4) := HL3.out.trans (hb4.mono HL3.out.size); have HT4 := hide hb4; clear hb4))
  refine hK.out _ _ HT4.out ?_
  clear hK K
  refine regs.held_step (i := 16) rfl (by kernel_rfl) (fun K hK => ?_)
  go_simp
  go_wp2_with ((go_at_call 10; refine (refPrint_any _ m x4 (HMz.out.later HL4.out) HC0.out).mono ?_; rintro e x5 ⟨rfl, hb5⟩; have HL5 : Hid (Below z.heap.size z x5) := HL4.out.trans (hb5.mono HL4.out.size); have HT5 := hide hb5; clear hb5))
  refine hK.out _ _ HT5.out ?_
  clear hK K
  refine regs.held_take (i := 17) (v := .bool true) rfl (by kernel_rfl) (by kernel_rfl) (by kernel_rfl) (fun _ _ _ h => h) (by rfl) (fun w' hb => by go_simp) ?_
  simp only [Act.put, List.setIfInBounds_toArray, List.set_cons_zero, List.set_cons_succ, List.getElem_toArray, List.getElem_cons_zero, List.getElem_cons_succ]
  refine regs.held_take (i := 18) (v := .bool true) rfl (by kernel_rfl) (by kernel_rfl) (by kernel_rfl) (fun _ _ _ h => h) (by rfl) (fun w' hb => by go_simp) ?_
  simp only [Act.put, List.setIfInBounds_toArray, List.set_cons_zero, List.set_cons_succ, List.getElem_toArray, List.getElem_cons_zero, List.getElem_cons_succ]
  refine regs.held_take (i := 19) (v := .bool true) rfl (by kernel_rfl) (by kernel_rfl) (by kernel_rfl) (fun _ _ _ h => h) (by rfl) (fun w' hb => by go_simp) ?_
  simp only [Act.put, List.setIfInBounds_toArray, List.set_cons_zero, List.set_cons_succ, List.getElem_toArray, List.getElem_cons_zero, List.getElem_cons_succ]
  refine regs.held_take (i := 20) (v := .bool true) rfl (by kernel_rfl) (by kernel_rfl) (by kernel_rfl) (fun _ _ _ h => h) (by rfl) (fun w' hb => by go_simp) ?_
  simp only [Act.put, List.setIfInBounds_toArray, List.set_cons_zero, List.set_cons_succ, List.getElem_toArray, List.getElem_cons_zero, List.getElem_cons_succ]
  refine regs.held_done (by kernel_rfl) ?_ _
  go_wp2
  go_ret
  exact ⟨rfl, HWZ.out.trans (HL5.out.mono HWZ.out.size)⟩

theorem ttells_any (hP : CPrint 9) (hQ : CParse 5) (m : Ms) (v : Value) (S : ByteArray) (w : World) (hsz : S.size ≤ 140737488355328) (hM : Mv w v m) :
    Calls Tryd.prog 3 #[.string S, v] w fun e w' => e = .returned (.bool true) ∧ Below w.heap.size w w' := by
  obtain ⟨m1, m3, rfl⟩ := hM.form
  by_cases h0 : wrongMsgL m.stream m.data = 0
  · exact ttells_r hP hQ m m1 _ m3 S _ w rfl hsz hM h0 (by simpa using h0)
  · exact ttells_w hP hQ m m1 _ m3 S _ w rfl hsz hM (by simpa using h0)
end Go.Proofs.YtlomffhofionnaaDoor.leaf
