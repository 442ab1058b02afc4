/-
  The walk of the law TextTurns over what the functions of chapter 3 are held to.
-/
import Derived.Test.YtlomffhofionnaaDoorTTells
namespace Go.Proofs.YtlomffhofionnaaDoor.leaf
set_option linter.unusedVariables false
open Go.RowKit
open mth

theorem alive3_parse : parseE [50, 58, 54, 49, 54, 50] = 0 ∧ parseM [50, 58, 54, 49, 54, 50] = ⟨2, [97, 98]⟩ := by
  have e : parseE [50, 58, 54, 49, 54, 50] = 0 := by decide
  refine ⟨e, ?_⟩
  unfold parseM
  rw [if_pos e]
  have h1 : (rawM [50, 58, 54, 49, 54, 50]).stream = 2 := by decide
  have h2 : (rawM [50, 58, 54, 49, 54, 50]).data = [97, 98] := by decide
  cases h : rawM [50, 58, 54, 49, 54, 50]
  rw [h] at h1 h2
  simp only at h1 h2
  rw [h1, h2]
theorem alive3_print : printL ⟨2, [97, 98]⟩ = [50, 58, 54, 49, 54, 50] := by decide

set_option maxHeartbeats 4000000 in
theorem alive3_any (hP : CPrint 9) (hQ : CParse 5) (w : World) : Calls Tryd.prog 11 #[] w fun e w' => e = .returned (.bool true) ∧ Below w.heap.size w w' := by
  have h1 := hQ ⟨#[50, 58, 54, 49, 54, 50]⟩ [50, 58, 54, 49, 54, 50] w rfl (by decide)
  rw [alive3_parse.1, alive3_parse.2] at h1
  have HP := hide hP
  have H1 := hide h1
  clear hP hQ h1
  go_enter Tryd.func11, Tryd.ntmps11
  go_wp2_with fail
  refine H1.out.mono ?_
  rintro e w1 ⟨v1, rfl, hM1, hb1⟩
  clear H1
  obtain ⟨a1, c1, hv⟩ := hM1.form
  have hv' : v1 = .agg #[.int .i64 2, .slice a1 2 c1] := hv
  clear hv
  subst hv'
  have hby : Below w1.heap.size w1 (w1.alloc (.cells #[.int .i64 2, .slice a1 2 c1] 24)) := (Below.refl _ _).alloc (Nat.le_refl _) _
  have hM2 := hM1.later hby
  have hc : (convert 22 9 (.slice a1 2 c1)).run Tryd.prog (w1.alloc (.cells #[.int .i64 2, .slice a1 2 c1] 24)) = .ok (.string ⟨[97, 98].toArray⟩) (w1.alloc (.cells #[.int .i64 2, .slice a1 2 c1] 24)) := by
    obtain ⟨dv, hdv, hB, -⟩ := hM2
    simp only [Value.agg.injEq, Array.mk.injEq, List.cons.injEq, and_true, true_and] at hdv
    subst hdv
    exact conv_run hB
  have HPR := hide (HP.out _ ⟨2, [97, 98]⟩ _ hM2 (by decide))
  rw [alive3_print] at HPR
  have HB1 : Hid (Below w.heap.size w (w1.alloc (.cells #[.int .i64 2, .slice a1 2 c1] 24))) := hb1.alloc hb1.size _
  clear hM1 hM2 hby hb1 HP
  go_wp2_with fail
  refine HPR.out.mono ?_
  rintro e w2 ⟨rfl, hb2⟩
  have hfin : Below w.heap.size w w2 := HB1.out.trans (hb2.mono HB1.out.size)
  clear hc HPR hb2
  go_wp2
  go_ret
  exact ⟨rfl, hfin⟩

set_option maxHeartbeats 1500000 in
theorem tturns_www (hP : CPrint 9) (hQ : CParse 5) (m n : Ms) (m1 : Option Addr) (m2 m3 : Nat) (n1 : Option Addr) (n2 n3 : Nat) (S : ByteArray) (xs : List UInt8) (w : World) (HXS : Hid (S.data.toList = xs)) (HSZ : Hid (S.size ≤ 140737488355328)) (HM : Hid (Mv w (.agg #[.int .i64 m.stream, .slice m1 m2 m3]) m)) (HN : Hid (Mv w (.agg #[.int .i64 n.stream, .slice n1 n2 n3]) n)) (r1 : (wrongMsgL m.stream m.data == 0) = false) (r3 : (parseE xs != 0) = true) :
    Calls Tryd.prog 4 #[.string S, .agg #[.int .i64 m.stream, .slice m1 m2 m3], .agg #[.int .i64 n.stream, .slice n1 n2 n3]] w fun e w' => e = .returned (.bool true) ∧ Below w.heap.size w w' := by
  obtain ⟨u, hu⟩ : ∃ u, u = (w.alloc (.cells #[.int .i64 m.stream, .slice m1 m2 m3] 24)).alloc (.cells #[.int .i64 n.stream, .slice n1 n2 n3] 24) := ⟨_, rfl⟩
  have hbu : Below w.heap.size w u := by rw [hu]; exact ((Below.refl _ _).alloc (Nat.le_refl _) _).alloc (by simp) _
  have h1 : u.heap[w.heap.size]? = some (.cells #[.int .i64 m.stream, .slice m1 m2 m3] 24 (0, 0)) := by rw [hu]; exact (Below.heap_alloc _ _ _ (by simp)).trans (heap_alloc_new w _)
  have h2 : u.heap[w.heap.size + 1]? = some (.cells #[.int .i64 n.stream, .slice n1 n2 n3] 24 (0, 0)) := by
    rw [hu]
    have e : w.heap.size + 1 = (w.alloc (.cells #[.int .i64 m.stream, .slice m1 m2 m3] 24)).heap.size := by simp
    rw [e]; exact heap_alloc_new _ _
  obtain ⟨a0, a1⟩ := box2_cells h1
  obtain ⟨b0, b1⟩ := box2_cells h2
  have AL := hide (alive3_any hP hQ u)
  have HP := hide hP
  have HQ := hide hQ
  have HBU := hide hbu
  have HU := hide hu
  have HMu := hide (HM.out.later hbu)
  have HNu := hide (HN.out.later hbu)
  clear hP hQ h1 h2 hbu hu HM HN
  go_enter Tryd.func4, Tryd.ntmps4
  go_wp2_with fail
  rw [← HU.out]
  refine AL.out.mono ?_
  rintro e w1 ⟨rfl, hk1⟩
  clear AL HU
  go_wp2_with fail
  refine (refMsg_right (HMu.out.later hk1)).mono ?_
  rintro e w2 ⟨rfl, hb2⟩
  have hk2 : Below u.heap.size u w2 := hk1.trans (hb2.mono hk1.size)
  clear hb2 hk1
  go_wp2_with fail
  refine (HQ.out S xs w2 HXS.out HSZ.out).mono ?_
  rintro e w20 ⟨v20, rfl, hM20, hb20⟩
  obtain ⟨a20, c20, rfl⟩ := hM20.form
  obtain ⟨l20, hl20⟩ : ∃ l20, l20 = (parseM xs).data.length := ⟨_, rfl⟩
  rw [← hl20] at hM20 ⊢
  clear hl20
  have hk20 : Below u.heap.size u w20 := hk2.trans (hb20.mono hk2.size)
  obtain ⟨z, hz⟩ : ∃ z, z = w20.alloc (.cells #[.int .i64 (parseM xs).stream, .slice a20 l20 c20] 24) := ⟨_, rfl⟩
  have hbz : Below w20.heap.size w20 z := by rw [hz]; exact (Below.refl _ _).alloc (Nat.le_refl _) _
  have hwz : Below w.heap.size w z := HBU.out.trans ((hk20.trans (hbz.mono hk20.size)).mono HBU.out.size)
  have g2 : z.heap[w20.heap.size]? = some (.cells #[.int .i64 (parseM xs).stream, .slice a20 l20 c20] 24 (0, 0)) := by rw [hz]; exact heap_alloc_new _ _
  obtain ⟨z0, z1⟩ := box2_cells g2
  have HM20 := hide (hM20.later hbz)
  have HWZ := hide hwz
  have HZ := hide hz
  clear a0 a1 b0 b1 g2 hwz hbz hk20 hb20 hM20 hz hk2
  have hq1 : Below z.heap.size z z := Below.refl _ _
  go_wp2
  go_ret
  have := HWZ.out
  rw [HZ.out] at this
  exact ⟨rfl, this⟩

set_option maxHeartbeats 1500000 in
theorem tturns_wwr (hP : CPrint 9) (hQ : CParse 5) (m n : Ms) (m1 : Option Addr) (m2 m3 : Nat) (n1 : Option Addr) (n2 n3 : Nat) (S : ByteArray) (xs : List UInt8) (w : World) (HXS : Hid (S.data.toList = xs)) (HSZ : Hid (S.size ≤ 140737488355328)) (HM : Hid (Mv w (.agg #[.int .i64 m.stream, .slice m1 m2 m3]) m)) (HN : Hid (Mv w (.agg #[.int .i64 n.stream, .slice n1 n2 n3]) n)) (r1 : (wrongMsgL m.stream m.data == 0) = false) (HR3 : Hid (parseE xs = 0)) (r3 : (parseE xs != 0) = false) :
    Calls Tryd.prog 4 #[.string S, .agg #[.int .i64 m.stream, .slice m1 m2 m3], .agg #[.int .i64 n.stream, .slice n1 n2 n3]] w fun e w' => e = .returned (.bool true) ∧ Below w.heap.size w w' := by
  obtain ⟨u, hu⟩ : ∃ u, u = (w.alloc (.cells #[.int .i64 m.stream, .slice m1 m2 m3] 24)).alloc (.cells #[.int .i64 n.stream, .slice n1 n2 n3] 24) := ⟨_, rfl⟩
  have hbu : Below w.heap.size w u := by rw [hu]; exact ((Below.refl _ _).alloc (Nat.le_refl _) _).alloc (by simp) _
  have h1 : u.heap[w.heap.size]? = some (.cells #[.int .i64 m.stream, .slice m1 m2 m3] 24 (0, 0)) := by rw [hu]; exact (Below.heap_alloc _ _ _ (by simp)).trans (heap_alloc_new w _)
  have h2 : u.heap[w.heap.size + 1]? = some (.cells #[.int .i64 n.stream, .slice n1 n2 n3] 24 (0, 0)) := by
    rw [hu]
    have e : w.heap.size + 1 = (w.alloc (.cells #[.int .i64 m.stream, .slice m1 m2 m3] 24)).heap.size := by simp
    rw [e]; exact heap_alloc_new _ _
  obtain ⟨a0, a1⟩ := box2_cells h1
  obtain ⟨b0, b1⟩ := box2_cells h2
  have AL := hide (alive3_any hP hQ u)
  have HP := hide hP
  have HQ := hide hQ
  have HBU := hide hbu
  have HU := hide hu
  have HMu := hide (HM.out.later hbu)
  have HNu := hide (HN.out.later hbu)
  clear hP hQ h1 h2 hbu hu HM HN
  go_enter Tryd.func4, Tryd.ntmps4
  go_wp2_with fail
  rw [← HU.out]
  refine AL.out.mono ?_
  rintro e w1 ⟨rfl, hk1⟩
  clear AL HU
  go_wp2_with fail
  refine (refMsg_right (HMu.out.later hk1)).mono ?_
  rintro e w2 ⟨rfl, hb2⟩
  have hk2 : Below u.heap.size u w2 := hk1.trans (hb2.mono hk1.size)
  clear hb2 hk1
  go_wp2_with fail
  refine (HQ.out S xs w2 HXS.out HSZ.out).mono ?_
  rintro e w20 ⟨v20, rfl, hM20, hb20⟩
  obtain ⟨a20, c20, rfl⟩ := hM20.form
  obtain ⟨l20, hl20⟩ : ∃ l20, l20 = (parseM xs).data.length := ⟨_, rfl⟩
  rw [← hl20] at hM20 ⊢
  clear hl20
  have hk20 : Below u.heap.size u w20 := hk2.trans (hb20.mono hk2.size)
  obtain ⟨z, hz⟩ : ∃ z, z = w20.alloc (.cells #[.int .i64 (parseM xs).stream, .slice a20 l20 c20] 24) := ⟨_, rfl⟩
  have hbz : Below w20.heap.size w20 z := by rw [hz]; exact (Below.refl _ _).alloc (Nat.le_refl _) _
  have hwz : Below w.heap.size w z := HBU.out.trans ((hk20.trans (hbz.mono hk20.size)).mono HBU.out.size)
  have g2 : z.heap[w20.heap.size]? = some (.cells #[.int .i64 (parseM xs).stream, .slice a20 l20 c20] 24 (0, 0)) := by rw [hz]; exact heap_alloc_new _ _
  obtain ⟨z0, z1⟩ := box2_cells g2
  have HM20 := hide (hM20.later hbz)
  have HWZ := hide hwz
  have HZ := hide hz
  clear a0 a1 b0 b1 g2 hwz hbz hk20 hb20 hM20 hz hk2
  have hq1 : Below z.heap.size z z := Below.refl _ _
  go_wp2_with fail
  rw [← HZ.out]
  refine (HP.out _ (parseM xs) z HM20.out (print_parse xs HR3.out).1).mono ?_
  rw [(print_parse xs HR3.out).2]
  rintro e w21 ⟨rfl, hb21⟩
  have hse : (xs == S.toList) = true := by rw [show S.toList = xs from (ByteArray.toList_eq S).trans HXS.out]; simp
  go_wp2_with fail
  refine (refMsg_right (HM20.out.later hb21)).mono ?_
  rw [(print_parse xs HR3.out).1]
  rintro e w22 ⟨rfl, hb22⟩
  have hq2 : Below z.heap.size z w22 := hb21.trans (hb22.mono hb21.size)
  go_wp2
  go_ret
  exact ⟨rfl, HWZ.out.trans (hq2.mono HWZ.out.size)⟩

set_option maxHeartbeats 1500000 in
theorem tturns_rww (hP : CPrint 9) (hQ : CParse 5) (m n : Ms) (m1 : Option Addr) (m2 m3 : Nat) (n1 : Option Addr) (n2 n3 : Nat) (S : ByteArray) (xs : List UInt8) (w : World) (HXS : Hid (S.data.toList = xs)) (HSZ : Hid (S.size ≤ 140737488355328)) (HM : Hid (Mv w (.agg #[.int .i64 m.stream, .slice m1 m2 m3]) m)) (HN : Hid (Mv w (.agg #[.int .i64 n.stream, .slice n1 n2 n3]) n)) (HR1 : Hid (wrongMsgL m.stream m.data = 0)) (r1 : (wrongMsgL m.stream m.data == 0) = true) (r2 : (wrongMsgL n.stream n.data == 0) = false) (r3 : (parseE xs != 0) = true) :
    Calls Tryd.prog 4 #[.string S, .agg #[.int .i64 m.stream, .slice m1 m2 m3], .agg #[.int .i64 n.stream, .slice n1 n2 n3]] w fun e w' => e = .returned (.bool true) ∧ Below w.heap.size w w' := by
  obtain ⟨u, hu⟩ : ∃ u, u = (w.alloc (.cells #[.int .i64 m.stream, .slice m1 m2 m3] 24)).alloc (.cells #[.int .i64 n.stream, .slice n1 n2 n3] 24) := ⟨_, rfl⟩
  have hbu : Below w.heap.size w u := by rw [hu]; exact ((Below.refl _ _).alloc (Nat.le_refl _) _).alloc (by simp) _
  have h1 : u.heap[w.heap.size]? = some (.cells #[.int .i64 m.stream, .slice m1 m2 m3] 24 (0, 0)) := by rw [hu]; exact (Below.heap_alloc _ _ _ (by simp)).trans (heap_alloc_new w _)
  have h2 : u.heap[w.heap.size + 1]? = some (.cells #[.int .i64 n.stream, .slice n1 n2 n3] 24 (0, 0)) := by
    rw [hu]
    have e : w.heap.size + 1 = (w.alloc (.cells #[.int .i64 m.stream, .slice m1 m2 m3] 24)).heap.size := by simp
    rw [e]; exact heap_alloc_new _ _
  obtain ⟨a0, a1⟩ := box2_cells h1
  obtain ⟨b0, b1⟩ := box2_cells h2
  have AL := hide (alive3_any hP hQ u)
  have HP := hide hP
  have HQ := hide hQ
  have HBU := hide hbu
  have HU := hide hu
  have HMu := hide (HM.out.later hbu)
  have HNu := hide (HN.out.later hbu)
  clear hP hQ h1 h2 hbu hu HM HN
  go_enter Tryd.func4, Tryd.ntmps4
  go_wp2_with fail
  rw [← HU.out]
  refine AL.out.mono ?_
  rintro e w1 ⟨rfl, hk1⟩
  clear AL HU
  go_wp2_with fail
  refine (refMsg_right (HMu.out.later hk1)).mono ?_
  rintro e w2 ⟨rfl, hb2⟩
  have hk2 : Below u.heap.size u w2 := hk1.trans (hb2.mono hk1.size)
  clear hb2 hk1
  go_wp2_with fail
  refine (HP.out _ m w2 (HMu.out.later hk2) HR1.out).mono ?_
  rintro e w3 ⟨rfl, hb3⟩
  have hk3 : Below u.heap.size u w3 := hk2.trans (hb3.mono hk2.size)
  clear hb3 hk2
  go_wp2_with fail
  have hq := HQ.out ⟨(printL m).toArray⟩ (printL m) w3 (by simp) (by
    have hm := right_msg HR1.out
    show (printL m).toArray.size ≤ _
    simp only [List.size_toArray, printL, List.length_cons, len_hex]
    omega)
  rw [(parse_print m HR1.out).1, (parse_print m HR1.out).2] at hq
  refine hq.mono ?_
  clear hq
  rintro e w4 ⟨v4, rfl, hM4, hb4⟩
  obtain ⟨a4, c4, rfl⟩ := hM4.form
  obtain ⟨l4, hl4⟩ : ∃ l4, l4 = m.data.length := ⟨_, rfl⟩
  rw [← hl4] at hM4 ⊢
  clear hl4
  have hk4 : Below u.heap.size u w4 := hk3.trans (hb4.mono hk3.size)
  have hk5 : Below u.heap.size u (w4.alloc (.cells #[.int .i64 m.stream, .slice a4 l4 c4] 24)) := hk4.alloc hk4.size _
  have HM4 := hide (hM4.later ((Below.refl w4.heap.size w4).alloc (Nat.le_refl _) (.cells #[.int .i64 m.stream, .slice a4 l4 c4] 24)))
  clear hb4 hk3 hk4 hM4
  go_wp2_with fail
  refine (refSameMsg_any _ _ m m _ (HMu.out.later hk5) HM4.out).mono ?_
  rw [(sameM_iff m m).2 rfl]
  rintro e w6 ⟨rfl, hb6⟩
  have hk6 : Below u.heap.size u w6 := hk5.trans (hb6.mono hk5.size)
  clear hb6 hk5 HM4
  go_wp2_with fail
  have HK6 : Hid (Below u.heap.size u w6.drew) := Below.drew hk6
  clear hk6
  refine regs.held_begin (by kernel_rfl) ?_
  refine regs.held_take (i := 0) (v := .agg #[.int .i64 n.stream, .slice n1 n2 n3]) rfl (by kernel_rfl) (by kernel_rfl) (by kernel_rfl) (fun _ _ _ h => h) (by rfl) (fun w' hb => by have hb0 := HK6.out.trans (hb.mono HK6.out.size); go_simp) ?_
  simp only [Act.put, List.setIfInBounds_toArray, List.set_cons_zero, List.set_cons_succ, List.getElem_toArray, List.getElem_cons_zero]
  refine regs.held_step (i := 1) rfl (by kernel_rfl) (fun K hK => ?_)
  go_simp
  go_wp2_with ((go_at_call 8; refine (refMsg_right (HNu.out.later HK6.out)).mono ?_; rintro e w7 ⟨rfl, hb7⟩; have HK7 : Hid (Below u.heap.size u w7) := HK6.out.trans (hb7.mono HK6.out.size); have HS7 := hide hb7; clear hb7))
  refine hK.out _ _ HS7.out ?_
  clear hK K
  refine regs.held_take (i := 2) (v := .bool false) rfl (by kernel_rfl) (by kernel_rfl) (by kernel_rfl) (fun _ _ _ h => h) (by rfl) (fun w' hb => by go_simp) ?_
  simp only [Act.put, List.setIfInBounds_toArray, List.set_cons_zero, List.set_cons_succ, List.getElem_toArray, List.getElem_cons_zero, List.getElem_cons_succ]
  refine regs.held_take (i := 3) (v := .bool false) rfl (by kernel_rfl) (by kernel_rfl) (by kernel_rfl) (fun _ _ _ h => h) (by rfl) (fun w' hb => by go_simp) ?_
  simp only [Act.put, List.setIfInBounds_toArray, List.set_cons_zero, List.set_cons_succ, List.getElem_toArray, List.getElem_cons_zero, List.getElem_cons_succ]
  refine regs.held_skip (i := 4) rfl (by kernel_rfl) (by kernel_rfl) (by kernel_rfl) (fun _ _ _ h => h) (by rfl) ?_
  simp only [Act.put, List.setIfInBounds_toArray, List.set_cons_zero, List.set_cons_succ, List.getElem_toArray, List.getElem_cons_zero, List.getElem_cons_succ]
  refine regs.held_skip (i := 5) rfl (by kernel_rfl) (by kernel_rfl) (by kernel_rfl) (fun _ _ _ h => h) (by rfl) ?_
  simp only [Act.put, List.setIfInBounds_toArray, List.set_cons_zero, List.set_cons_succ, List.getElem_toArray, List.getElem_cons_zero, List.getElem_cons_succ]
  refine regs.held_skip (i := 6) rfl (by kernel_rfl) (by kernel_rfl) (by kernel_rfl) (fun _ _ _ h => h) (by rfl) ?_
  simp only [Act.put, List.setIfInBounds_toArray, List.set_cons_zero, List.set_cons_succ, List.getElem_toArray, List.getElem_cons_zero, List.getElem_cons_succ]
  refine regs.held_skip (i := 7) rfl (by kernel_rfl) (by kernel_rfl) (by kernel_rfl) (fun _ _ _ h => h) (by rfl) ?_
  simp only [Act.put, List.setIfInBounds_toArray, List.set_cons_zero, List.set_cons_succ, List.getElem_toArray, List.getElem_cons_zero, List.getElem_cons_succ]
  refine regs.held_skip (i := 8) rfl (by kernel_rfl) (by kernel_rfl) (by kernel_rfl) (fun _ _ _ h => h) (by rfl) ?_
  simp only [Act.put, List.setIfInBounds_toArray, List.set_cons_zero, List.set_cons_succ, List.getElem_toArray, List.getElem_cons_zero, List.getElem_cons_succ]
  refine regs.held_skip (i := 9) rfl (by kernel_rfl) (by kernel_rfl) (by kernel_rfl) (fun _ _ _ h => h) (by rfl) ?_
  simp only [Act.put, List.setIfInBounds_toArray, List.set_cons_zero, List.set_cons_succ, List.getElem_toArray, List.getElem_cons_zero, List.getElem_cons_succ]
  refine regs.held_skip (i := 10) rfl (by kernel_rfl) (by kernel_rfl) (by kernel_rfl) (fun _ _ _ h => h) (by rfl) ?_
  simp only [Act.put, List.setIfInBounds_toArray, List.set_cons_zero, List.set_cons_succ, List.getElem_toArray, List.getElem_cons_zero, List.getElem_cons_succ]
  refine regs.held_skip (i := 11) rfl (by kernel_rfl) (by kernel_rfl) (by kernel_rfl) (fun _ _ _ h => h) (by rfl) ?_
  simp only [Act.put, List.setIfInBounds_toArray, List.set_cons_zero, List.set_cons_succ, List.getElem_toArray, List.getElem_cons_zero, List.getElem_cons_succ]
  refine regs.held_skip (i := 12) rfl (by kernel_rfl) (by kernel_rfl) (by kernel_rfl) (fun _ _ _ h => h) (by rfl) ?_
  simp only [Act.put, List.setIfInBounds_toArray, List.set_cons_zero, List.set_cons_succ, List.getElem_toArray, List.getElem_cons_zero, List.getElem_cons_succ]
  refine regs.held_take (i := 13) (v := .bool false) rfl (by kernel_rfl) (by kernel_rfl) (by kernel_rfl) (fun _ _ _ h => h) (by rfl) (fun w' hb => by go_simp) ?_
  simp only [Act.put, List.setIfInBounds_toArray, List.set_cons_zero, List.set_cons_succ, List.getElem_toArray, List.getElem_cons_zero, List.getElem_cons_succ]
  refine regs.held_done (by kernel_rfl) ?_ _
  have hk7 := HK7.out
  go_wp2_with fail
  refine (HQ.out S xs w7 HXS.out HSZ.out).mono ?_
  rintro e w20 ⟨v20, rfl, hM20, hb20⟩
  obtain ⟨a20, c20, rfl⟩ := hM20.form
  obtain ⟨l20, hl20⟩ : ∃ l20, l20 = (parseM xs).data.length := ⟨_, rfl⟩
  rw [← hl20] at hM20 ⊢
  clear hl20
  have hk20 : Below u.heap.size u w20 := hk7.trans (hb20.mono hk7.size)
  obtain ⟨z, hz⟩ : ∃ z, z = w20.alloc (.cells #[.int .i64 (parseM xs).stream, .slice a20 l20 c20] 24) := ⟨_, rfl⟩
  have hbz : Below w20.heap.size w20 z := by rw [hz]; exact (Below.refl _ _).alloc (Nat.le_refl _) _
  have hwz : Below w.heap.size w z := HBU.out.trans ((hk20.trans (hbz.mono hk20.size)).mono HBU.out.size)
  have g2 : z.heap[w20.heap.size]? = some (.cells #[.int .i64 (parseM xs).stream, .slice a20 l20 c20] 24 (0, 0)) := by rw [hz]; exact heap_alloc_new _ _
  obtain ⟨z0, z1⟩ := box2_cells g2
  have HM20 := hide (hM20.later hbz)
  have HWZ := hide hwz
  have HZ := hide hz
  clear a0 a1 b0 b1 g2 hwz hbz hk20 hb20 hM20 hz hk7
  have hq1 : Below z.heap.size z z := Below.refl _ _
  go_wp2
  go_ret
  have := HWZ.out
  rw [HZ.out] at this
  exact ⟨rfl, this⟩

set_option maxHeartbeats 1500000 in
theorem tturns_rwr (hP : CPrint 9) (hQ : CParse 5) (m n : Ms) (m1 : Option Addr) (m2 m3 : Nat) (n1 : Option Addr) (n2 n3 : Nat) (S : ByteArray) (xs : List UInt8) (w : World) (HXS : Hid (S.data.toList = xs)) (HSZ : Hid (S.size ≤ 140737488355328)) (HM : Hid (Mv w (.agg #[.int .i64 m.stream, .slice m1 m2 m3]) m)) (HN : Hid (Mv w (.agg #[.int .i64 n.stream, .slice n1 n2 n3]) n)) (HR1 : Hid (wrongMsgL m.stream m.data = 0)) (r1 : (wrongMsgL m.stream m.data == 0) = true) (r2 : (wrongMsgL n.stream n.data == 0) = false) (HR3 : Hid (parseE xs = 0)) (r3 : (parseE xs != 0) = false) :
    Calls Tryd.prog 4 #[.string S, .agg #[.int .i64 m.stream, .slice m1 m2 m3], .agg #[.int .i64 n.stream, .slice n1 n2 n3]] w fun e w' => e = .returned (.bool true) ∧ Below w.heap.size w w' := by
  obtain ⟨u, hu⟩ : ∃ u, u = (w.alloc (.cells #[.int .i64 m.stream, .slice m1 m2 m3] 24)).alloc (.cells #[.int .i64 n.stream, .slice n1 n2 n3] 24) := ⟨_, rfl⟩
  have hbu : Below w.heap.size w u := by rw [hu]; exact ((Below.refl _ _).alloc (Nat.le_refl _) _).alloc (by simp) _
  have h1 : u.heap[w.heap.size]? = some (.cells #[.int .i64 m.stream, .slice m1 m2 m3] 24 (0, 0)) := by rw [hu]; exact (Below.heap_alloc _ _ _ (by simp)).trans (heap_alloc_new w _)
  have h2 : u.heap[w.heap.size + 1]? = some (.cells #[.int .i64 n.stream, .slice n1 n2 n3] 24 (0, 0)) := by
    rw [hu]
    have e : w.heap.size + 1 = (w.alloc (.cells #[.int .i64 m.stream, .slice m1 m2 m3] 24)).heap.size := by simp
    rw [e]; exact heap_alloc_new _ _
  obtain ⟨a0, a1⟩ := box2_cells h1
  obtain ⟨b0, b1⟩ := box2_cells h2
  have AL := hide (alive3_any hP hQ u)
  have HP := hide hP
  have HQ := hide hQ
  have HBU := hide hbu
  have HU := hide hu
  have HMu := hide (HM.out.later hbu)
  have HNu := hide (HN.out.later hbu)
  clear hP hQ h1 h2 hbu hu HM HN
  go_enter Tryd.func4, Tryd.ntmps4
  go_wp2_with fail
  rw [← HU.out]
  refine AL.out.mono ?_
  rintro e w1 ⟨rfl, hk1⟩
  clear AL HU
  go_wp2_with fail
  refine (refMsg_right (HMu.out.later hk1)).mono ?_
  rintro e w2 ⟨rfl, hb2⟩
  have hk2 : Below u.heap.size u w2 := hk1.trans (hb2.mono hk1.size)
  clear hb2 hk1
  go_wp2_with fail
  refine (HP.out _ m w2 (HMu.out.later hk2) HR1.out).mono ?_
  rintro e w3 ⟨rfl, hb3⟩
  have hk3 : Below u.heap.size u w3 := hk2.trans (hb3.mono hk2.size)
  clear hb3 hk2
  go_wp2_with fail
  have hq := HQ.out ⟨(printL m).toArray⟩ (printL m) w3 (by simp) (by
    have hm := right_msg HR1.out
    show (printL m).toArray.size ≤ _
    simp only [List.size_toArray, printL, List.length_cons, len_hex]
    omega)
  rw [(parse_print m HR1.out).1, (parse_print m HR1.out).2] at hq
  refine hq.mono ?_
  clear hq
  rintro e w4 ⟨v4, rfl, hM4, hb4⟩
  obtain ⟨a4, c4, rfl⟩ := hM4.form
  obtain ⟨l4, hl4⟩ : ∃ l4, l4 = m.data.length := ⟨_, rfl⟩
  rw [← hl4] at hM4 ⊢
  clear hl4
  have hk4 : Below u.heap.size u w4 := hk3.trans (hb4.mono hk3.size)
  have hk5 : Below u.heap.size u (w4.alloc (.cells #[.int .i64 m.stream, .slice a4 l4 c4] 24)) := hk4.alloc hk4.size _
  have HM4 := hide (hM4.later ((Below.refl w4.heap.size w4).alloc (Nat.le_refl _) (.cells #[.int .i64 m.stream, .slice a4 l4 c4] 24)))
  clear hb4 hk3 hk4 hM4
  go_wp2_with fail
  refine (refSameMsg_any _ _ m m _ (HMu.out.later hk5) HM4.out).mono ?_
  rw [(sameM_iff m m).2 rfl]
  rintro e w6 ⟨rfl, hb6⟩
  have hk6 : Below u.heap.size u w6 := hk5.trans (hb6.mono hk5.size)
  clear hb6 hk5 HM4
  go_wp2_with fail
  have HK6 : Hid (Below u.heap.size u w6.drew) := Below.drew hk6
  clear hk6
  refine regs.held_begin (by kernel_rfl) ?_
  refine regs.held_take (i := 0) (v := .agg #[.int .i64 n.stream, .slice n1 n2 n3]) rfl (by kernel_rfl) (by kernel_rfl) (by kernel_rfl) (fun _ _ _ h => h) (by rfl) (fun w' hb => by have hb0 := HK6.out.trans (hb.mono HK6.out.size); go_simp) ?_
  simp only [Act.put, List.setIfInBounds_toArray, List.set_cons_zero, List.set_cons_succ, List.getElem_toArray, List.getElem_cons_zero]
  refine regs.held_step (i := 1) rfl (by kernel_rfl) (fun K hK => ?_)
  go_simp
  go_wp2_with ((go_at_call 8; refine (refMsg_right (HNu.out.later HK6.out)).mono ?_; rintro e w7 ⟨rfl, hb7⟩; have HK7 : Hid (Below u.heap.size u w7) := HK6.out.trans (hb7.mono HK6.out.size); have HS7 := hide hb7; clear hb7))
  refine hK.out _ _ HS7.out ?_
  clear hK K
  refine regs.held_take (i := 2) (v := .bool false) rfl (by kernel_rfl) (by kernel_rfl) (by kernel_rfl) (fun _ _ _ h => h) (by rfl) (fun w' hb => by go_simp) ?_
  simp only [Act.put, List.setIfInBounds_toArray, List.set_cons_zero, List.set_cons_succ, List.getElem_toArray, List.getElem_cons_zero, List.getElem_cons_succ]
  refine regs.held_take (i := 3) (v := .bool false) rfl (by kernel_rfl) (by kernel_rfl) (by kernel_rfl) (fun _ _ _ h => h) (by rfl) (fun w' hb => by go_simp) ?_
  simp only [Act.put, List.setIfInBounds_toArray, List.set_cons_zero, List.set_cons_succ, List.getElem_toArray, List.getElem_cons_zero, List.getElem_cons_succ]
  refine regs.held_skip (i := 4) rfl (by kernel_rfl) (by kernel_rfl) (by kernel_rfl) (fun _ _ _ h => h) (by rfl) ?_
  simp only [Act.put, List.setIfInBounds_toArray, List.set_cons_zero, List.set_cons_succ, List.getElem_toArray, List.getElem_cons_zero, List.getElem_cons_succ]
  refine regs.held_skip (i := 5) rfl (by kernel_rfl) (by kernel_rfl) (by kernel_rfl) (fun _ _ _ h => h) (by rfl) ?_
  simp only [Act.put, List.setIfInBounds_toArray, List.set_cons_zero, List.set_cons_succ, List.getElem_toArray, List.getElem_cons_zero, List.getElem_cons_succ]
  refine regs.held_skip (i := 6) rfl (by kernel_rfl) (by kernel_rfl) (by kernel_rfl) (fun _ _ _ h => h) (by rfl) ?_
  simp only [Act.put, List.setIfInBounds_toArray, List.set_cons_zero, List.set_cons_succ, List.getElem_toArray, List.getElem_cons_zero, List.getElem_cons_succ]
  refine regs.held_skip (i := 7) rfl (by kernel_rfl) (by kernel_rfl) (by kernel_rfl) (fun _ _ _ h => h) (by rfl) ?_
  simp only [Act.put, List.setIfInBounds_toArray, List.set_cons_zero, List.set_cons_succ, List.getElem_toArray, List.getElem_cons_zero, List.getElem_cons_succ]
  refine regs.held_skip (i := 8) rfl (by kernel_rfl) (by kernel_rfl) (by kernel_rfl) (fun _ _ _ h => h) (by rfl) ?_
  simp only [Act.put, List.setIfInBounds_toArray, List.set_cons_zero, List.set_cons_succ, List.getElem_toArray, List.getElem_cons_zero, List.getElem_cons_succ]
  refine regs.held_skip (i := 9) rfl (by kernel_rfl) (by kernel_rfl) (by kernel_rfl) (fun _ _ _ h => h) (by rfl) ?_
  simp only [Act.put, List.setIfInBounds_toArray, List.set_cons_zero, List.set_cons_succ, List.getElem_toArray, List.getElem_cons_zero, List.getElem_cons_succ]
  refine regs.held_skip (i := 10) rfl (by kernel_rfl) (by kernel_rfl) (by kernel_rfl) (fun _ _ _ h => h) (by rfl) ?_
  simp only [Act.put, List.setIfInBounds_toArray, List.set_cons_zero, List.set_cons_succ, List.getElem_toArray, List.getElem_cons_zero, List.getElem_cons_succ]
  refine regs.held_skip (i := 11) rfl (by kernel_rfl) (by kernel_rfl) (by kernel_rfl) (fun _ _ _ h => h) (by rfl) ?_
  simp only [Act.put, List.setIfInBounds_toArray, List.set_cons_zero, List.set_cons_succ, List.getElem_toArray, List.getElem_cons_zero, List.getElem_cons_succ]
  refine regs.held_skip (i := 12) rfl (by kernel_rfl) (by kernel_rfl) (by kernel_rfl) (fun _ _ _ h => h) (by rfl) ?_
  simp only [Act.put, List.setIfInBounds_toArray, List.set_cons_zero, List.set_cons_succ, List.getElem_toArray, List.getElem_cons_zero, List.getElem_cons_succ]
  refine regs.held_take (i := 13) (v := .bool false) rfl (by kernel_rfl) (by kernel_rfl) (by kernel_rfl) (fun _ _ _ h => h) (by rfl) (fun w' hb => by go_simp) ?_
  simp only [Act.put, List.setIfInBounds_toArray, List.set_cons_zero, List.set_cons_succ, List.getElem_toArray, List.getElem_cons_zero, List.getElem_cons_succ]
  refine regs.held_done (by kernel_rfl) ?_ _
  have hk7 := HK7.out
  go_wp2_with fail
  refine (HQ.out S xs w7 HXS.out HSZ.out).mono ?_
  rintro e w20 ⟨v20, rfl, hM20, hb20⟩
  obtain ⟨a20, c20, rfl⟩ := hM20.form
  obtain ⟨l20, hl20⟩ : ∃ l20, l20 = (parseM xs).data.length := ⟨_, rfl⟩
  rw [← hl20] at hM20 ⊢
  clear hl20
  have hk20 : Below u.heap.size u w20 := hk7.trans (hb20.mono hk7.size)
  obtain ⟨z, hz⟩ : ∃ z, z = w20.alloc (.cells #[.int .i64 (parseM xs).stream, .slice a20 l20 c20] 24) := ⟨_, rfl⟩
  have hbz : Below w20.heap.size w20 z := by rw [hz]; exact (Below.refl _ _).alloc (Nat.le_refl _) _
  have hwz : Below w.heap.size w z := HBU.out.trans ((hk20.trans (hbz.mono hk20.size)).mono HBU.out.size)
  have g2 : z.heap[w20.heap.size]? = some (.cells #[.int .i64 (parseM xs).stream, .slice a20 l20 c20] 24 (0, 0)) := by rw [hz]; exact heap_alloc_new _ _
  obtain ⟨z0, z1⟩ := box2_cells g2
  have HM20 := hide (hM20.later hbz)
  have HWZ := hide hwz
  have HZ := hide hz
  clear a0 a1 b0 b1 g2 hwz hbz hk20 hb20 hM20 hz hk7
  have hq1 : Below z.heap.size z z := Below.refl _ _
  go_wp2_with fail
  rw [← HZ.out]
  refine (HP.out _ (parseM xs) z HM20.out (print_parse xs HR3.out).1).mono ?_
  rw [(print_parse xs HR3.out).2]
  rintro e w21 ⟨rfl, hb21⟩
  have hse : (xs == S.toList) = true := by rw [show S.toList = xs from (ByteArray.toList_eq S).trans HXS.out]; simp
  go_wp2_with fail
  refine (refMsg_right (HM20.out.later hb21)).mono ?_
  rw [(print_parse xs HR3.out).1]
  rintro e w22 ⟨rfl, hb22⟩
  have hq2 : Below z.heap.size z w22 := hb21.trans (hb22.mono hb21.size)
  go_wp2
  go_ret
  exact ⟨rfl, HWZ.out.trans (hq2.mono HWZ.out.size)⟩

set_option maxHeartbeats 1500000 in
theorem tturns_rrw (hP : CPrint 9) (hQ : CParse 5) (m n : Ms) (m1 : Option Addr) (m2 m3 : Nat) (n1 : Option Addr) (n2 n3 : Nat) (S : ByteArray) (xs : List UInt8) (w : World) (HXS : Hid (S.data.toList = xs)) (HSZ : Hid (S.size ≤ 140737488355328)) (HM : Hid (Mv w (.agg #[.int .i64 m.stream, .slice m1 m2 m3]) m)) (HN : Hid (Mv w (.agg #[.int .i64 n.stream, .slice n1 n2 n3]) n)) (HR1 : Hid (wrongMsgL m.stream m.data = 0)) (r1 : (wrongMsgL m.stream m.data == 0) = true) (HR2 : Hid (wrongMsgL n.stream n.data = 0)) (r2 : (wrongMsgL n.stream n.data == 0) = true) (r3 : (parseE xs != 0) = true) :
    Calls Tryd.prog 4 #[.string S, .agg #[.int .i64 m.stream, .slice m1 m2 m3], .agg #[.int .i64 n.stream, .slice n1 n2 n3]] w fun e w' => e = .returned (.bool true) ∧ Below w.heap.size w w' := by
  obtain ⟨u, hu⟩ : ∃ u, u = (w.alloc (.cells #[.int .i64 m.stream, .slice m1 m2 m3] 24)).alloc (.cells #[.int .i64 n.stream, .slice n1 n2 n3] 24) := ⟨_, rfl⟩
  have hbu : Below w.heap.size w u := by rw [hu]; exact ((Below.refl _ _).alloc (Nat.le_refl _) _).alloc (by simp) _
  have h1 : u.heap[w.heap.size]? = some (.cells #[.int .i64 m.stream, .slice m1 m2 m3] 24 (0, 0)) := by rw [hu]; exact (Below.heap_alloc _ _ _ (by simp)).trans (heap_alloc_new w _)
  have h2 : u.heap[w.heap.size + 1]? = some (.cells #[.int .i64 n.stream, .slice n1 n2 n3] 24 (0, 0)) := by
    rw [hu]
    have e : w.heap.size + 1 = (w.alloc (.cells #[.int .i64 m.stream, .slice m1 m2 m3] 24)).heap.size := by simp
    rw [e]; exact heap_alloc_new _ _
  obtain ⟨a0, a1⟩ := box2_cells h1
  obtain ⟨b0, b1⟩ := box2_cells h2
  have AL := hide (alive3_any hP hQ u)
  have HP := hide hP
  have HQ := hide hQ
  have HBU := hide hbu
  have HU := hide hu
  have HMu := hide (HM.out.later hbu)
  have HNu := hide (HN.out.later hbu)
  clear hP hQ h1 h2 hbu hu HM HN
  go_enter Tryd.func4, Tryd.ntmps4
  go_wp2_with fail
  rw [← HU.out]
  refine AL.out.mono ?_
  rintro e w1 ⟨rfl, hk1⟩
  clear AL HU
  go_wp2_with fail
  refine (refMsg_right (HMu.out.later hk1)).mono ?_
  rintro e w2 ⟨rfl, hb2⟩
  have hk2 : Below u.heap.size u w2 := hk1.trans (hb2.mono hk1.size)
  clear hb2 hk1
  go_wp2_with fail
  refine (HP.out _ m w2 (HMu.out.later hk2) HR1.out).mono ?_
  rintro e w3 ⟨rfl, hb3⟩
  have hk3 : Below u.heap.size u w3 := hk2.trans (hb3.mono hk2.size)
  clear hb3 hk2
  go_wp2_with fail
  have hq := HQ.out ⟨(printL m).toArray⟩ (printL m) w3 (by simp) (by
    have hm := right_msg HR1.out
    show (printL m).toArray.size ≤ _
    simp only [List.size_toArray, printL, List.length_cons, len_hex]
    omega)
  rw [(parse_print m HR1.out).1, (parse_print m HR1.out).2] at hq
  refine hq.mono ?_
  clear hq
  rintro e w4 ⟨v4, rfl, hM4, hb4⟩
  obtain ⟨a4, c4, rfl⟩ := hM4.form
  obtain ⟨l4, hl4⟩ : ∃ l4, l4 = m.data.length := ⟨_, rfl⟩
  rw [← hl4] at hM4 ⊢
  clear hl4
  have hk4 : Below u.heap.size u w4 := hk3.trans (hb4.mono hk3.size)
  have hk5 : Below u.heap.size u (w4.alloc (.cells #[.int .i64 m.stream, .slice a4 l4 c4] 24)) := hk4.alloc hk4.size _
  have HM4 := hide (hM4.later ((Below.refl w4.heap.size w4).alloc (Nat.le_refl _) (.cells #[.int .i64 m.stream, .slice a4 l4 c4] 24)))
  clear hb4 hk3 hk4 hM4
  go_wp2_with fail
  refine (refSameMsg_any _ _ m m _ (HMu.out.later hk5) HM4.out).mono ?_
  rw [(sameM_iff m m).2 rfl]
  rintro e w6 ⟨rfl, hb6⟩
  have hk6 : Below u.heap.size u w6 := hk5.trans (hb6.mono hk5.size)
  clear hb6 hk5 HM4
  go_wp2_with fail
  have HK6 : Hid (Below u.heap.size u w6.drew) := Below.drew hk6
  clear hk6
  refine regs.held_begin (by kernel_rfl) ?_
  refine regs.held_take (i := 0) (v := .agg #[.int .i64 n.stream, .slice n1 n2 n3]) rfl (by kernel_rfl) (by kernel_rfl) (by kernel_rfl) (fun _ _ _ h => h) (by rfl) (fun w' hb => by have hb0 := HK6.out.trans (hb.mono HK6.out.size); go_simp) ?_
  simp only [Act.put, List.setIfInBounds_toArray, List.set_cons_zero, List.set_cons_succ, List.getElem_toArray, List.getElem_cons_zero]
  refine regs.held_step (i := 1) rfl (by kernel_rfl) (fun K hK => ?_)
  go_simp
  go_wp2_with ((go_at_call 8; refine (refMsg_right (HNu.out.later HK6.out)).mono ?_; rintro e w7 ⟨rfl, hb7⟩; have HK7 : Hid (Below u.heap.size u w7) := HK6.out.trans (hb7.mono HK6.out.size); have HS7 := hide hb7; clear hb7))
  refine hK.out _ _ HS7.out ?_
  clear hK K
  refine regs.held_take (i := 2) (v := .bool true) rfl (by kernel_rfl) (by kernel_rfl) (by kernel_rfl) (fun _ _ _ h => h) (by rfl) (fun w' hb => by go_simp) ?_
  simp only [Act.put, List.setIfInBounds_toArray, List.set_cons_zero, List.set_cons_succ, List.getElem_toArray, List.getElem_cons_zero, List.getElem_cons_succ]
  refine regs.held_take (i := 3) (v := .bool true) rfl (by kernel_rfl) (by kernel_rfl) (by kernel_rfl) (fun _ _ _ h => h) (by rfl) (fun w' hb => by go_simp) ?_
  simp only [Act.put, List.setIfInBounds_toArray, List.set_cons_zero, List.set_cons_succ, List.getElem_toArray, List.getElem_cons_zero, List.getElem_cons_succ]
  refine regs.held_take (i := 4) (v := .agg #[.int .i64 m.stream, .slice m1 m2 m3]) rfl (by kernel_rfl) (by kernel_rfl) (by kernel_rfl) (fun _ _ _ h => h) (by rfl) (fun w' hb => by have hb0 := HK7.out.trans (hb.mono HK7.out.size); go_simp) ?_
  simp only [Act.put, List.setIfInBounds_toArray, List.set_cons_zero, List.set_cons_succ, List.getElem_toArray, List.getElem_cons_zero, List.getElem_cons_succ]
  refine regs.held_take (i := 6) (v := .agg #[.int .i64 n.stream, .slice n1 n2 n3]) rfl (by kernel_rfl) (by kernel_rfl) (by kernel_rfl) (fun _ _ _ h => h) (by rfl) (fun w' hb => by have hb0 := HK7.out.trans (hb.mono HK7.out.size); go_simp) ?_
  simp only [Act.put, List.setIfInBounds_toArray, List.set_cons_zero, List.set_cons_succ, List.getElem_toArray, List.getElem_cons_zero, List.getElem_cons_succ]
  refine regs.held_take (i := 9) (v := .agg #[.int .i64 m.stream, .slice m1 m2 m3]) rfl (by kernel_rfl) (by kernel_rfl) (by kernel_rfl) (fun _ _ _ h => h) (by rfl) (fun w' hb => by have hb0 := HK7.out.trans (hb.mono HK7.out.size); go_simp) ?_
  simp only [Act.put, List.setIfInBounds_toArray, List.set_cons_zero, List.set_cons_succ, List.getElem_toArray, List.getElem_cons_zero, List.getElem_cons_succ]
  refine regs.held_take (i := 10) (v := .agg #[.int .i64 n.stream, .slice n1 n2 n3]) rfl (by kernel_rfl) (by kernel_rfl) (by kernel_rfl) (fun _ _ _ h => h) (by rfl) (fun w' hb => by have hb0 := HK7.out.trans (hb.mono HK7.out.size); go_simp) ?_
  simp only [Act.put, List.setIfInBounds_toArray, List.set_cons_zero, List.set_cons_succ, List.getElem_toArray, List.getElem_cons_zero, List.getElem_cons_succ]
  refine regs.held_step (i := 5) rfl (by kernel_rfl) (fun K hK => ?_)
  go_simp
  go_wp2_with ((go_at_call 9; refine (HP.out _ m w7 (HMu.out.later HK7.out) HR1.out).mono ?_; rintro e w8 ⟨rfl, hb8⟩; have HK8 : Hid (Below u.heap.size u w8) := HK7.out.trans (hb8.mono HK7.out.size); have HS8 := hide hb8; clear hb8))
  refine hK.out _ _ HS8.out ?_
  clear hK K
  refine regs.held_step (i := 7) rfl (by kernel_rfl) (fun K hK => ?_)
  go_simp
  go_wp2_with ((go_at_call 9; refine (HP.out _ n w8 (HNu.out.later HK8.out) HR2.out).mono ?_; rintro e w9 ⟨rfl, hb9⟩; have HK9 : Hid (Below u.heap.size u w9) := HK8.out.trans (hb9.mono HK8.out.size); have HS9 := hide hb9; clear hb9))
  refine hK.out _ _ HS9.out ?_
  clear hK K
  refine regs.held_take (i := 8) (v := .bool (sameM m n)) rfl (by kernel_rfl) (by kernel_rfl) (by kernel_rfl) (fun _ _ _ h => h) (by rfl) (fun w' hb => by have hun := print_inj m n HR1.out HR2.out; go_simp) ?_
  simp only [Act.put, List.setIfInBounds_toArray, List.set_cons_zero, List.set_cons_succ, List.getElem_toArray, List.getElem_cons_zero, List.getElem_cons_succ]
  refine regs.held_step (i := 11) rfl (by kernel_rfl) (fun K hK => ?_)
  go_simp
  go_wp2_with ((go_at_call 7; refine (refSameMsg_any _ _ m n w9 (HMu.out.later HK9.out) (HNu.out.later HK9.out)).mono ?_; rintro e w10 ⟨rfl, hb10⟩; have HK10 : Hid (Below u.heap.size u w10) := HK9.out.trans (hb10.mono HK9.out.size); have HS10 := hide hb10; clear hb10))
  refine hK.out _ _ HS10.out ?_
  clear hK K
  refine regs.held_take (i := 12) (v := .bool false) rfl (by kernel_rfl) (by kernel_rfl) (by kernel_rfl) (fun _ _ _ h => h) (by rfl) (fun w' hb => by go_simp) ?_
  simp only [Act.put, List.setIfInBounds_toArray, List.set_cons_zero, List.set_cons_succ, List.getElem_toArray, List.getElem_cons_zero, List.getElem_cons_succ]
  refine regs.held_take (i := 13) (v := .bool false) rfl (by kernel_rfl) (by kernel_rfl) (by kernel_rfl) (fun _ _ _ h => h) (by rfl) (fun w' hb => by go_simp) ?_
  simp only [Act.put, List.setIfInBounds_toArray, List.set_cons_zero, List.set_cons_succ, List.getElem_toArray, List.getElem_cons_zero, List.getElem_cons_succ]
  refine regs.held_done (by kernel_rfl) ?_ _
  have hk10 := HK10.out
  go_wp2_with fail
  refine (HQ.out S xs w10 HXS.out HSZ.out).mono ?_
  rintro e w20 ⟨v20, rfl, hM20, hb20⟩
  obtain ⟨a20, c20, rfl⟩ := hM20.form
  obtain ⟨l20, hl20⟩ : ∃ l20, l20 = (parseM xs).data.length := ⟨_, rfl⟩
  rw [← hl20] at hM20 ⊢
  clear hl20
  have hk20 : Below u.heap.size u w20 := hk10.trans (hb20.mono hk10.size)
  obtain ⟨z, hz⟩ : ∃ z, z = w20.alloc (.cells #[.int .i64 (parseM xs).stream, .slice a20 l20 c20] 24) := ⟨_, rfl⟩
  have hbz : Below w20.heap.size w20 z := by rw [hz]; exact (Below.refl _ _).alloc (Nat.le_refl _) _
  have hwz : Below w.heap.size w z := HBU.out.trans ((hk20.trans (hbz.mono hk20.size)).mono HBU.out.size)
  have g2 : z.heap[w20.heap.size]? = some (.cells #[.int .i64 (parseM xs).stream, .slice a20 l20 c20] 24 (0, 0)) := by rw [hz]; exact heap_alloc_new _ _
  obtain ⟨z0, z1⟩ := box2_cells g2
  have HM20 := hide (hM20.later hbz)
  have HWZ := hide hwz
  have HZ := hide hz
  clear a0 a1 b0 b1 g2 hwz hbz hk20 hb20 hM20 hz hk10
  have hq1 : Below z.heap.size z z := Below.refl _ _
  go_wp2
  go_ret
  have := HWZ.out
  rw [HZ.out] at this
  exact ⟨rfl, this⟩

set_option maxHeartbeats 1500000 in
theorem tturns_rrr (hP : CPrint 9) (hQ : CParse 5) (m n : Ms) (m1 : Option Addr) (m2 m3 : Nat) (n1 : Option Addr) (n2 n3 : Nat) (S : ByteArray) (xs : List UInt8) (w : World) (HXS : Hid (S.data.toList = xs)) (HSZ : Hid (S.size ≤ 140737488355328)) (HM : Hid (Mv w (.agg #[.int .i64 m.stream, .slice m1 m2 m3]) m)) (HN : Hid (Mv w (.agg #[.int .i64 n.stream, .slice n1 n2 n3]) n)) (HR1 : Hid (wrongMsgL m.stream m.data = 0)) (r1 : (wrongMsgL m.stream m.data == 0) = true) (HR2 : Hid (wrongMsgL n.stream n.data = 0)) (r2 : (wrongMsgL n.stream n.data == 0) = true) (HR3 : Hid (parseE xs = 0)) (r3 : (parseE xs != 0) = false) :
    Calls Tryd.prog 4 #[.string S, .agg #[.int .i64 m.stream, .slice m1 m2 m3], .agg #[.int .i64 n.stream, .slice n1 n2 n3]] w fun e w' => e = .returned (.bool true) ∧ Below w.heap.size w w' := by
  obtain ⟨u, hu⟩ : ∃ u, u = (w.alloc (.cells #[.int .i64 m.stream, .slice m1 m2 m3] 24)).alloc (.cells #[.int .i64 n.stream, .slice n1 n2 n3] 24) := ⟨_, rfl⟩
  have hbu : Below w.heap.size w u := by rw [hu]; exact ((Below.refl _ _).alloc (Nat.le_refl _) _).alloc (by simp) _
  have h1 : u.heap[w.heap.size]? = some (.cells #[.int .i64 m.stream, .slice m1 m2 m3] 24 (0, 0)) := by rw [hu]; exact (Below.heap_alloc _ _ _ (by simp)).trans (heap_alloc_new w _)
  have h2 : u.heap[w.heap.size + 1]? = some (.cells #[.int .i64 n.stream, .slice n1 n2 n3] 24 (0, 0)) := by
    rw [hu]
    have e : w.heap.size + 1 = (w.alloc (.cells #[.int .i64 m.stream, .slice m1 m2 m3] 24)).heap.size := by simp
    rw [e]; exact heap_alloc_new _ _
  obtain ⟨a0, a1⟩ := box2_cells h1
  obtain ⟨b0, b1⟩ := box2_cells h2
  have AL := hide (alive3_any hP hQ u)
  have HP := hide hP
  have HQ := hide hQ
  have HBU := hide hbu
  have HU := hide hu
  have HMu := hide (HM.out.later hbu)
  have HNu := hide (HN.out.later hbu)
  clear hP hQ h1 h2 hbu hu HM HN
  go_enter Tryd.func4, Tryd.ntmps4
  go_wp2_with fail
  rw [← HU.out]
  refine AL.out.mono ?_
  rintro e w1 ⟨rfl, hk1⟩
  clear AL HU
  go_wp2_with fail
  refine (refMsg_right (HMu.out.later hk1)).mono ?_
  rintro e w2 ⟨rfl, hb2⟩
  have hk2 : Below u.heap.size u w2 := hk1.trans (hb2.mono hk1.size)
  clear hb2 hk1
  go_wp2_with fail
  refine (HP.out _ m w2 (HMu.out.later hk2) HR1.out).mono ?_
  rintro e w3 ⟨rfl, hb3⟩
  have hk3 : Below u.heap.size u w3 := hk2.trans (hb3.mono hk2.size)
  clear hb3 hk2
  go_wp2_with fail
  have hq := HQ.out ⟨(printL m).toArray⟩ (printL m) w3 (by simp) (by
    have hm := right_msg HR1.out
    show (printL m).toArray.size ≤ _
    simp only [List.size_toArray, printL, List.length_cons, len_hex]
    omega)
  rw [(parse_print m HR1.out).1, (parse_print m HR1.out).2] at hq
  refine hq.mono ?_
  clear hq
  rintro e w4 ⟨v4, rfl, hM4, hb4⟩
  obtain ⟨a4, c4, rfl⟩ := hM4.form
  obtain ⟨l4, hl4⟩ : ∃ l4, l4 = m.data.length := ⟨_, rfl⟩
  rw [← hl4] at hM4 ⊢
  clear hl4
  have hk4 : Below u.heap.size u w4 := hk3.trans (hb4.mono hk3.size)
  have hk5 : Below u.heap.size u (w4.alloc (.cells #[.int .i64 m.stream, .slice a4 l4 c4] 24)) := hk4.alloc hk4.size _
  have HM4 := hide (hM4.later ((Below.refl w4.heap.size w4).alloc (Nat.le_refl _) (.cells #[.int .i64 m.stream, .slice a4 l4 c4] 24)))
  clear hb4 hk3 hk4 hM4
  go_wp2_with fail
  refine (refSameMsg_any _ _ m m _ (HMu.out.later hk5) HM4.out).mono ?_
  rw [(sameM_iff m m).2 rfl]
  rintro e w6 ⟨rfl, hb6⟩
  have hk6 : Below u.heap.size u w6 := hk5.trans (hb6.mono hk5.size)
  clear hb6 hk5 HM4
  go_wp2_with fail
  have HK6 : Hid (Below u.heap.size u w6.drew) := Below.drew hk6
  clear hk6
  refine regs.held_begin (by kernel_rfl) ?_
  refine regs.held_take (i := 0) (v := .agg #[.int .i64 n.stream, .slice n1 n2 n3]) rfl (by kernel_rfl) (by kernel_rfl) (by kernel_rfl) (fun _ _ _ h => h) (by rfl) (fun w' hb => by have hb0 := HK6.out.trans (hb.mono HK6.out.size); go_simp) ?_
  simp only [Act.put, List.setIfInBounds_toArray, List.set_cons_zero, List.set_cons_succ, List.getElem_toArray, List.getElem_cons_zero]
  refine regs.held_step (i := 1) rfl (by kernel_rfl) (fun K hK => ?_)
  go_simp
  go_wp2_with ((go_at_call 8; refine (refMsg_right (HNu.out.later HK6.out)).mono ?_; rintro e w7 ⟨rfl, hb7⟩; have HK7 : Hid (Below u.heap.size u w7) := HK6.out.trans (hb7.mono HK6.out.size); have HS7 := hide hb7; clear hb7))
  refine hK.out _ _ HS7.out ?_
  clear hK K
  refine regs.held_take (i := 2) (v := .bool true) rfl (by kernel_rfl) (by kernel_rfl) (by kernel_rfl) (fun _ _ _ h => h) (by rfl) (fun w' hb => by go_simp) ?_
  simp only [Act.put, List.setIfInBounds_toArray, List.set_cons_zero, List.set_cons_succ, List.getElem_toArray, List.getElem_cons_zero, List.getElem_cons_succ]
  refine regs.held_take (i := 3) (v := .bool true) rfl (by kernel_rfl) (by kernel_rfl) (by kernel_rfl) (fun _ _ _ h => h) (by rfl) (fun w' hb => by go_simp) ?_
  simp only [Act.put, List.setIfInBounds_toArray, List.set_cons_zero, List.set_cons_succ, List.getElem_toArray, List.getElem_cons_zero, List.getElem_cons_succ]
  refine regs.held_take (i := 4) (v := .agg #[.int .i64 m.stream, .slice m1 m2 m3]) rfl (by kernel_rfl) (by kernel_rfl) (by kernel_rfl) (fun _ _ _ h => h) (by rfl) (fun w' hb => by have hb0 := HK7.out.trans (hb.mono HK7.out.size); go_simp) ?_
  simp only [Act.put, List.setIfInBounds_toArray, List.set_cons_zero, List.set_cons_succ, List.getElem_toArray, List.getElem_cons_zero, List.getElem_cons_succ]
  refine regs.held_take (i := 6) (v := .agg #[.int .i64 n.stream, .slice n1 n2 n3]) rfl (by kernel_rfl) (by kernel_rfl) (by kernel_rfl) (fun _ _ _ h => h) (by rfl) (fun w' hb => by have hb0 := HK7.out.trans (hb.mono HK7.out.size); go_simp) ?_
  simp only [Act.put, List.setIfInBounds_toArray, List.set_cons_zero, List.set_cons_succ, List.getElem_toArray, List.getElem_cons_zero, List.getElem_cons_succ]
  refine regs.held_take (i := 9) (v := .agg #[.int .i64 m.stream, .slice m1 m2 m3]) rfl (by kernel_rfl) (by kernel_rfl) (by kernel_rfl) (fun _ _ _ h => h) (by rfl) (fun w' hb => by have hb0 := HK7.out.trans (hb.mono HK7.out.size); go_simp) ?_
  simp only [Act.put, List.setIfInBounds_toArray, List.set_cons_zero, List.set_cons_succ, List.getElem_toArray, List.getElem_cons_zero, List.getElem_cons_succ]
  refine regs.held_take (i := 10) (v := .agg #[.int .i64 n.stream, .slice n1 n2 n3]) rfl (by kernel_rfl) (by kernel_rfl) (by kernel_rfl) (fun _ _ _ h => h) (by rfl) (fun w' hb => by have hb0 := HK7.out.trans (hb.mono HK7.out.size); go_simp) ?_
  simp only [Act.put, List.setIfInBounds_toArray, List.set_cons_zero, List.set_cons_succ, List.getElem_toArray, List.getElem_cons_zero, List.getElem_cons_succ]
  refine regs.held_step (i := 5) rfl (by kernel_rfl) (fun K hK => ?_)
  go_simp
  go_wp2_with ((go_at_call 9; refine (HP.out _ m w7 (HMu.out.later HK7.out) HR1.out).mono ?_; rintro e w8 ⟨rfl, hb8⟩; have HK8 : Hid (Below u.heap.size u w8) := HK7.out.trans (hb8.mono HK7.out.size); have HS8 := hide hb8; clear hb8))
  refine hK.out _ _ HS8.out ?_
  clear hK K
  refine regs.held_step (i := 7) rfl (by kernel_rfl) (fun K hK => ?_)
  go_simp
  go_wp2_with ((go_at_call 9; refine (HP.out _ n w8 (HNu.out.later HK8.out) HR2.out).mono ?_; rintro e w9 ⟨rfl, hb9⟩; have HK9 : Hid (Below u.heap.size u w9) := HK8.out.trans (hb9.mono HK8.out.size); have HS9 := hide hb9; clear hb9))
  refine hK.out _ _ HS9.out ?_
  clear hK K
  refine regs.held_take (i := 8) (v := .bool (sameM m n)) rfl (by kernel_rfl) (by kernel_rfl) (by kernel_rfl) (fun _ _ _ h => h) (by rfl) (fun w' hb => by have hun := print_inj m n HR1.out HR2.out; go_simp) ?_
  simp only [Act.put, List.setIfInBounds_toArray, List.set_cons_zero, List.set_cons_succ, List.getElem_toArray, List.getElem_cons_zero, List.getElem_cons_succ]
  refine regs.held_step (i := 11) rfl (by kernel_rfl) (fun K hK => ?_)
  go_simp
  go_wp2_with ((go_at_call 7; refine (refSameMsg_any _ _ m n w9 (HMu.out.later HK9.out) (HNu.out.later HK9.out)).mono ?_; rintro e w10 ⟨rfl, hb10⟩; have HK10 : Hid (Below u.heap.size u w10) := HK9.out.trans (hb10.mono HK9.out.size); have HS10 := hide hb10; clear hb10))
  refine hK.out _ _ HS10.out ?_
  clear hK K
  refine regs.held_take (i := 12) (v := .bool false) rfl (by kernel_rfl) (by kernel_rfl) (by kernel_rfl) (fun _ _ _ h => h) (by rfl) (fun w' hb => by go_simp) ?_
  simp only [Act.put, List.setIfInBounds_toArray, List.set_cons_zero, List.set_cons_succ, List.getElem_toArray, List.getElem_cons_zero, List.getElem_cons_succ]
  refine regs.held_take (i := 13) (v := .bool false) rfl (by kernel_rfl) (by kernel_rfl) (by kernel_rfl) (fun _ _ _ h => h) (by rfl) (fun w' hb => by go_simp) ?_
  simp only [Act.put, List.setIfInBounds_toArray, List.set_cons_zero, List.set_cons_succ, List.getElem_toArray, List.getElem_cons_zero, List.getElem_cons_succ]
  refine regs.held_done (by kernel_rfl) ?_ _
  have hk10 := HK10.out
  go_wp2_with fail
  refine (HQ.out S xs w10 HXS.out HSZ.out).mono ?_
  rintro e w20 ⟨v20, rfl, hM20, hb20⟩
  obtain ⟨a20, c20, rfl⟩ := hM20.form
  obtain ⟨l20, hl20⟩ : ∃ l20, l20 = (parseM xs).data.length := ⟨_, rfl⟩
  rw [← hl20] at hM20 ⊢
  clear hl20
  have hk20 : Below u.heap.size u w20 := hk10.trans (hb20.mono hk10.size)
  obtain ⟨z, hz⟩ : ∃ z, z = w20.alloc (.cells #[.int .i64 (parseM xs).stream, .slice a20 l20 c20] 24) := ⟨_, rfl⟩
  have hbz : Below w20.heap.size w20 z := by rw [hz]; exact (Below.refl _ _).alloc (Nat.le_refl _) _
  have hwz : Below w.heap.size w z := HBU.out.trans ((hk20.trans (hbz.mono hk20.size)).mono HBU.out.size)
  have g2 : z.heap[w20.heap.size]? = some (.cells #[.int .i64 (parseM xs).stream, .slice a20 l20 c20] 24 (0, 0)) := by rw [hz]; exact heap_alloc_new _ _
  obtain ⟨z0, z1⟩ := box2_cells g2
  have HM20 := hide (hM20.later hbz)
  have HWZ := hide hwz
  have HZ := hide hz
  clear a0 a1 b0 b1 g2 hwz hbz hk20 hb20 hM20 hz hk10
  have hq1 : Below z.heap.size z z := Below.refl _ _
  go_wp2_with fail
  rw [← HZ.out]
  refine (HP.out _ (parseM xs) z HM20.out (print_parse xs HR3.out).1).mono ?_
  rw [(print_parse xs HR3.out).2]
  rintro e w21 ⟨rfl, hb21⟩
  have hse : (xs == S.toList) = true := by rw [show S.toList = xs from (ByteArray.toList_eq S).trans HXS.out]; simp
  go_wp2_with fail
  refine (refMsg_right (HM20.out.later hb21)).mono ?_
  rw [(print_parse xs HR3.out).1]
  rintro e w22 ⟨rfl, hb22⟩
  have hq2 : Below z.heap.size z w22 := hb21.trans (hb22.mono hb21.size)
  go_wp2
  go_ret
  exact ⟨rfl, HWZ.out.trans (hq2.mono HWZ.out.size)⟩

theorem tturns_any (hP : CPrint 9) (hQ : CParse 5) (m n : Ms) (v v' : Value) (S : ByteArray) (w : World) (hsz : S.size ≤ 140737488355328) (hM : Mv w v m) (hN : Mv w v' n) :
    Calls Tryd.prog 4 #[.string S, v, v'] w fun e w' => e = .returned (.bool true) ∧ Below w.heap.size w w' := by
  obtain ⟨m1, m3, rfl⟩ := hM.form
  obtain ⟨n1, n3, rfl⟩ := hN.form
  by_cases h3 : parseE S.data.toList = 0
  · by_cases h1 : wrongMsgL m.stream m.data = 0
    · by_cases h2 : wrongMsgL n.stream n.data = 0
      · exact tturns_rrr hP hQ m n m1 _ m3 n1 _ n3 S _ w rfl hsz hM hN h1 (by simpa using h1) h2 (by simpa using h2) h3 (by simpa using h3)
      · exact tturns_rwr hP hQ m n m1 _ m3 n1 _ n3 S _ w rfl hsz hM hN h1 (by simpa using h1) (by simpa using h2) h3 (by simpa using h3)
    · exact tturns_wwr hP hQ m n m1 _ m3 n1 _ n3 S _ w rfl hsz hM hN (by simpa using h1) h3 (by simpa using h3)
  · by_cases h1 : wrongMsgL m.stream m.data = 0
    · by_cases h2 : wrongMsgL n.stream n.data = 0
      · exact tturns_rrw hP hQ m n m1 _ m3 n1 _ n3 S _ w rfl hsz hM hN h1 (by simpa using h1) h2 (by simpa using h2) (by simpa using h3)
      · exact tturns_rww hP hQ m n m1 _ m3 n1 _ n3 S _ w rfl hsz hM hN h1 (by simpa using h1) (by simpa using h2) (by simpa using h3)
    · exact tturns_www hP hQ m n m1 _ m3 n1 _ n3 S _ w rfl hsz hM hN (by simpa using h1) (by simpa using h3)
end Go.Proofs.YtlomffhofionnaaDoor.leaf
