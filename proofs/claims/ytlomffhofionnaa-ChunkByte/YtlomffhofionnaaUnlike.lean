/-
  What the functions of chapter 2 are held to, and the walk of the law ChunkUnlike over them.
-/
import Derived.Test.YtlomffhofionnaaSame
import Derived.Test.YtlomffhofionnaaReadData
import Derived.Test.YtlomffhofionnaaBytes
import Derived.Test.YtlomffhofionnaaPureTurn
import Derived.Test.YtlomffhofionnaaRegs
namespace Go.Proofs.Ytlomffhofionnaa.leaf
set_option linter.unusedVariables false
open Go.RowKit
open mth

def COwn (f n : Nat) : Prop := ∀ v c w, Cv w v c → c.data.length ≤ n → c.early.length ≤ n → Calls Try.prog f #[v] w fun e w' => ∃ v', e = .returned v' ∧ Cv w' v' c ∧ Below w.heap.size w w'
def CWrongMsg (f : Nat) : Prop := ∀ s dv d w, Bs w dv d → d.length ≤ maxLen → I64 s → Calls Try.prog f #[.agg #[.int .i64 s, dv]] w fun e w' => e = .returned (.int .i64 (wrongMsgL s d)) ∧ Below w.heap.size w w'
def CWrong (f : Nat) : Prop := ∀ v c w, Cv w v c → Calls Try.prog f #[v] w fun e w' => e = .returned (.int .i64 (wrongL c)) ∧ Below w.heap.size w w'
def CBytes (f : Nat) : Prop := ∀ v c w, Cv w v c → wrongL c = 0 → Calls Try.prog f #[v] w fun e w' => ∃ v', e = .returned v' ∧ w'.ownsRow w.heap.size 5 1 v' ((bodyL c).length + 2) ((sealL (bodyL c)).map B) ∧ Below w.heap.size w w'
def CRead (f n : Nat) : Prop := ∀ a cap xs w, Bs w (.slice a xs.length cap) xs → xs.length ≤ 140737488355328 → xs.length ≤ n → Calls Try.prog f #[.slice a xs.length cap] w fun e w' => ∃ v', e = .returned (.tuple #[v', .int .i64 (readE xs)]) ∧ Cv w' v' (readC xs) ∧ Below w.heap.size w w'

/-- A boxed chunk, in every later world. -/
theorem box_cells {u : World} {g : Nat} {x0 x1 x2 x3 x4 x5 : Value} {t : TypeId} (h : u.heap[g]? = some (.cells #[x0, x1, x2, x3, x4, x5] t (0, 0))) :
    (∀ w', Below u.heap.size u w' → w'.cell? ⟨g, 0, none⟩ = some x0) ∧ (∀ w', Below u.heap.size u w' → w'.cell? ⟨g, 1, none⟩ = some x1) ∧ (∀ w', Below u.heap.size u w' → w'.cell? ⟨g, 2, none⟩ = some x2) ∧
    (∀ w', Below u.heap.size u w' → w'.cell? ⟨g, 3, none⟩ = some x3) ∧ (∀ w', Below u.heap.size u w' → w'.cell? ⟨g, 4, none⟩ = some x4) ∧ (∀ w', Below u.heap.size u w' → w'.cell? ⟨g, 5, none⟩ = some x5) := by
  have hz : g < u.heap.size := (Array.getElem?_eq_some_iff.1 h).1
  have hc : ∀ w', Below u.heap.size u w' → w'.heap[g]? = some (.cells #[x0, x1, x2, x3, x4, x5] t (0, 0)) := fun w' hb => (hb.block g hz).trans h
  refine ⟨fun w' hb => ?_, fun w' hb => ?_, fun w' hb => ?_, fun w' hb => ?_, fun w' hb => ?_, fun w' hb => ?_⟩
  all_goals
    rw [cell_of_row w' g _ _ t (0, 0) (hc w' hb)]
    rfl

set_option maxHeartbeats 8000000 in
theorem unlike_a (hW : CWrong 16) (hB : CBytes 24) (alive : ∀ w, Calls Try.prog 26 #[] w fun e w' => e = .returned (.bool true) ∧ Below w.heap.size w w')
    (a b : Ch) (da ea db eb : Value) (w : World) (HA : Hid (Cv w (.agg #[.int .i64 a.kind, .int .i64 a.number, .int .i64 a.stream, .int .i64 a.place, da, ea]) a)) (HB : Hid (Cv w (.agg #[.int .i64 b.kind, .int .i64 b.number, .int .i64 b.stream, .int .i64 b.place, db, eb]) b)) (hne : (wrongL a != 0) = true) :
    Calls Try.prog 6 #[.agg #[.int .i64 a.kind, .int .i64 a.number, .int .i64 a.stream, .int .i64 a.place, da, ea], .agg #[.int .i64 b.kind, .int .i64 b.number, .int .i64 b.stream, .int .i64 b.place, db, eb]] w fun e w' => e = .returned (.bool true) ∧ Below w.heap.size w w' := by
  obtain ⟨u, hu⟩ : ∃ u, u = (w.alloc (.cells #[.int .i64 a.kind, .int .i64 a.number, .int .i64 a.stream, .int .i64 a.place, da, ea] 32)).alloc (.cells #[.int .i64 b.kind, .int .i64 b.number, .int .i64 b.stream, .int .i64 b.place, db, eb] 32) := ⟨_, rfl⟩
  have hbu : Below w.heap.size w u := by rw [hu]; exact ((Below.refl _ _).alloc (Nat.le_refl _) _).alloc (by simp) _
  have h1 : u.heap[w.heap.size]? = some (.cells #[.int .i64 a.kind, .int .i64 a.number, .int .i64 a.stream, .int .i64 a.place, da, ea] 32 (0, 0)) := by
    rw [hu]; exact (Below.heap_alloc _ _ _ (by simp)).trans (heap_alloc_new w _)
  have h2 : u.heap[w.heap.size + 1]? = some (.cells #[.int .i64 b.kind, .int .i64 b.number, .int .i64 b.stream, .int .i64 b.place, db, eb] 32 (0, 0)) := by
    rw [hu]
    have e : w.heap.size + 1 = (w.alloc (.cells #[.int .i64 a.kind, .int .i64 a.number, .int .i64 a.stream, .int .i64 a.place, da, ea] 32)).heap.size := by simp
    rw [e]; exact heap_alloc_new _ _
  obtain ⟨a0, a1, a2, a3, a4, a5⟩ := box_cells h1
  obtain ⟨b0, b1, b2, b3, b4, b5⟩ := box_cells h2
  have HW := hide hW
  have HBY := hide hB
  have AL := hide (alive u)
  have HBU := hide hbu
  have HU := hide hu
  clear hW hB alive h1 h2 hbu hu
  go_enter Try.func6, Try.ntmps6
  go_wp2_with fail
  rw [← HU.out]
  refine AL.out.mono ?_
  rintro e w1 ⟨rfl, hb1⟩
  have HK1 : Hid (Below u.heap.size u w1.drew) := Below.drew hb1
  clear hb1 AL HU
  go_wp2_with fail
  refine regs.held_begin (by kernel_rfl) ?_
  refine regs.held_take (i := 0) (v := .agg #[.int .i64 a.kind, .int .i64 a.number, .int .i64 a.stream, .int .i64 a.place, da, ea]) rfl (by kernel_rfl) (by kernel_rfl) (by kernel_rfl) (fun _ _ _ h => h) (by rfl) (fun w' hb => by have hb0 := HK1.out.trans (hb.mono HK1.out.size); go_simp) ?_
  simp only [Act.put, List.setIfInBounds_toArray, List.set_cons_zero, List.set_cons_succ, List.getElem_toArray, List.getElem_cons_zero]
  refine regs.held_step (i := 1) rfl (by kernel_rfl) (fun K hK => ?_)
  go_simp
  go_wp2_with ((go_at_call 16; refine (HW.out _ a w1.drew (HA.out.later (HBU.out.trans (HK1.out.mono HBU.out.size)))).mono ?_; rintro e w2 ⟨rfl, hb2⟩; have HK2 : Hid (Below u.heap.size u w2) := HK1.out.trans (hb2.mono HK1.out.size); have HS2 := hide hb2; clear hb2))
  refine hK.out _ _ HS2.out ?_
  clear hK K
  refine regs.held_take (i := 2) (v := .bool true) rfl (by kernel_rfl) (by kernel_rfl) (by kernel_rfl) (fun _ _ _ h => h) (by rfl) (fun w' hb => by go_simp) ?_
  simp only [Act.put, List.setIfInBounds_toArray, List.set_cons_zero, List.set_cons_succ, List.getElem_toArray, List.getElem_cons_zero, List.getElem_cons_succ]
  refine regs.held_take (i := 3) (v := .bool true) rfl (by kernel_rfl) (by kernel_rfl) (by kernel_rfl) (fun _ _ _ h => h) (by rfl) (fun w' hb => by go_simp) ?_
  simp only [Act.put, List.setIfInBounds_toArray, List.set_cons_zero, List.set_cons_succ, List.getElem_toArray, List.getElem_cons_zero, List.getElem_cons_succ]
  refine regs.held_skip (i := 4) rfl (by kernel_rfl) (by kernel_rfl) (by kernel_rfl) (fun _ _ _ h => h) (by rfl) ?_
  simp only [Act.put, List.setIfInBounds_toArray, List.set_cons_zero, List.set_cons_succ, List.getElem_toArray, List.getElem_cons_zero, List.getElem_cons_succ]
  refine regs.held_skip (i := 5) rfl (by kernel_rfl) (by kernel_rfl) (by kernel_rfl) (fun _ _ _ h => h) (by rfl) ?_
  simp only [Act.put, List.setIfInBounds_toArray, List.set_cons_zero, List.set_cons_succ, List.getElem_toArray, List.getElem_cons_zero, List.getElem_cons_succ]
  refine regs.held_skip (i := 6) rfl (by kernel_rfl) (by kernel_rfl) (by kernel_rfl) (fun _ _ _ h => h) (by rfl) ?_
  simp only [Act.put, List.setIfInBounds_toArray, List.set_cons_zero, List.set_cons_succ, List.getElem_toArray, List.getElem_cons_zero, List.getElem_cons_succ]
  refine regs.held_take (i := 7) (v := .bool true) rfl (by kernel_rfl) (by kernel_rfl) (by kernel_rfl) (fun _ _ _ h => h) (by rfl) (fun w' hb => by go_simp) ?_
  simp only [Act.put, List.setIfInBounds_toArray, List.set_cons_zero, List.set_cons_succ, List.getElem_toArray, List.getElem_cons_zero, List.getElem_cons_succ]
  refine regs.held_take (i := 8) (v := .bool true) rfl (by kernel_rfl) (by kernel_rfl) (by kernel_rfl) (fun _ _ _ h => h) (by rfl) (fun w' hb => by go_simp) ?_
  simp only [Act.put, List.setIfInBounds_toArray, List.set_cons_zero, List.set_cons_succ, List.getElem_toArray, List.getElem_cons_zero, List.getElem_cons_succ]
  refine regs.held_skip (i := 9) rfl (by kernel_rfl) (by kernel_rfl) (by kernel_rfl) (fun _ _ _ h => h) (by rfl) ?_
  simp only [Act.put, List.setIfInBounds_toArray, List.set_cons_zero, List.set_cons_succ, List.getElem_toArray, List.getElem_cons_zero, List.getElem_cons_succ]
  refine regs.held_skip (i := 10) rfl (by kernel_rfl) (by kernel_rfl) (by kernel_rfl) (fun _ _ _ h => h) (by rfl) ?_
  simp only [Act.put, List.setIfInBounds_toArray, List.set_cons_zero, List.set_cons_succ, List.getElem_toArray, List.getElem_cons_zero, List.getElem_cons_succ]
  refine regs.held_skip (i := 11) rfl (by kernel_rfl) (by kernel_rfl) (by kernel_rfl) (fun _ _ _ h => h) (by rfl) ?_
  simp only [Act.put, List.setIfInBounds_toArray, List.set_cons_zero, List.set_cons_succ, List.getElem_toArray, List.getElem_cons_zero, List.getElem_cons_succ]
  refine regs.held_skip (i := 12) rfl (by kernel_rfl) (by kernel_rfl) (by kernel_rfl) (fun _ _ _ h => h) (by rfl) ?_
  simp only [Act.put, List.setIfInBounds_toArray, List.set_cons_zero, List.set_cons_succ, List.getElem_toArray, List.getElem_cons_zero, List.getElem_cons_succ]
  refine regs.held_skip (i := 13) rfl (by kernel_rfl) (by kernel_rfl) (by kernel_rfl) (fun _ _ _ h => h) (by rfl) ?_
  simp only [Act.put, List.setIfInBounds_toArray, List.set_cons_zero, List.set_cons_succ, List.getElem_toArray, List.getElem_cons_zero, List.getElem_cons_succ]
  refine regs.held_skip (i := 14) rfl (by kernel_rfl) (by kernel_rfl) (by kernel_rfl) (fun _ _ _ h => h) (by rfl) ?_
  simp only [Act.put, List.setIfInBounds_toArray, List.set_cons_zero, List.set_cons_succ, List.getElem_toArray, List.getElem_cons_zero, List.getElem_cons_succ]
  refine regs.held_skip (i := 15) rfl (by kernel_rfl) (by kernel_rfl) (by kernel_rfl) (fun _ _ _ h => h) (by rfl) ?_
  simp only [Act.put, List.setIfInBounds_toArray, List.set_cons_zero, List.set_cons_succ, List.getElem_toArray, List.getElem_cons_zero, List.getElem_cons_succ]
  refine regs.held_skip (i := 16) rfl (by kernel_rfl) (by kernel_rfl) (by kernel_rfl) (fun _ _ _ h => h) (by rfl) ?_
  simp only [Act.put, List.setIfInBounds_toArray, List.set_cons_zero, List.set_cons_succ, List.getElem_toArray, List.getElem_cons_zero, List.getElem_cons_succ]
  refine regs.held_skip (i := 17) rfl (by kernel_rfl) (by kernel_rfl) (by kernel_rfl) (fun _ _ _ h => h) (by rfl) ?_
  simp only [Act.put, List.setIfInBounds_toArray, List.set_cons_zero, List.set_cons_succ, List.getElem_toArray, List.getElem_cons_zero, List.getElem_cons_succ]
  refine regs.held_skip (i := 18) rfl (by kernel_rfl) (by kernel_rfl) (by kernel_rfl) (fun _ _ _ h => h) (by rfl) ?_
  simp only [Act.put, List.setIfInBounds_toArray, List.set_cons_zero, List.set_cons_succ, List.getElem_toArray, List.getElem_cons_zero, List.getElem_cons_succ]
  refine regs.held_skip (i := 19) rfl (by kernel_rfl) (by kernel_rfl) (by kernel_rfl) (fun _ _ _ h => h) (by rfl) ?_
  simp only [Act.put, List.setIfInBounds_toArray, List.set_cons_zero, List.set_cons_succ, List.getElem_toArray, List.getElem_cons_zero, List.getElem_cons_succ]
  refine regs.held_take (i := 20) (v := .bool true) rfl (by kernel_rfl) (by kernel_rfl) (by kernel_rfl) (fun _ _ _ h => h) (by rfl) (fun w' hb => by go_simp) ?_
  simp only [Act.put, List.setIfInBounds_toArray, List.set_cons_zero, List.set_cons_succ, List.getElem_toArray, List.getElem_cons_zero, List.getElem_cons_succ]
  refine regs.held_take (i := 21) (v := .bool true) rfl (by kernel_rfl) (by kernel_rfl) (by kernel_rfl) (fun _ _ _ h => h) (by rfl) (fun w' hb => by go_simp) ?_
  simp only [Act.put, List.setIfInBounds_toArray, List.set_cons_zero, List.set_cons_succ, List.getElem_toArray, List.getElem_cons_zero, List.getElem_cons_succ]
  refine regs.held_done (by kernel_rfl) ?_ _
  go_wp2
  go_ret
  exact ⟨rfl, HBU.out.trans (HK2.out.mono HBU.out.size)⟩

set_option maxHeartbeats 8000000 in
theorem unlike_b (hW : CWrong 16) (hB : CBytes 24) (alive : ∀ w, Calls Try.prog 26 #[] w fun e w' => e = .returned (.bool true) ∧ Below w.heap.size w w')
    (a b : Ch) (da ea db eb : Value) (w : World) (HA : Hid (Cv w (.agg #[.int .i64 a.kind, .int .i64 a.number, .int .i64 a.stream, .int .i64 a.place, da, ea]) a)) (HB : Hid (Cv w (.agg #[.int .i64 b.kind, .int .i64 b.number, .int .i64 b.stream, .int .i64 b.place, db, eb]) b)) (hne : (wrongL a != 0) = false) (hne2 : (wrongL b != 0) = true) :
    Calls Try.prog 6 #[.agg #[.int .i64 a.kind, .int .i64 a.number, .int .i64 a.stream, .int .i64 a.place, da, ea], .agg #[.int .i64 b.kind, .int .i64 b.number, .int .i64 b.stream, .int .i64 b.place, db, eb]] w fun e w' => e = .returned (.bool true) ∧ Below w.heap.size w w' := by
  obtain ⟨u, hu⟩ : ∃ u, u = (w.alloc (.cells #[.int .i64 a.kind, .int .i64 a.number, .int .i64 a.stream, .int .i64 a.place, da, ea] 32)).alloc (.cells #[.int .i64 b.kind, .int .i64 b.number, .int .i64 b.stream, .int .i64 b.place, db, eb] 32) := ⟨_, rfl⟩
  have hbu : Below w.heap.size w u := by rw [hu]; exact ((Below.refl _ _).alloc (Nat.le_refl _) _).alloc (by simp) _
  have h1 : u.heap[w.heap.size]? = some (.cells #[.int .i64 a.kind, .int .i64 a.number, .int .i64 a.stream, .int .i64 a.place, da, ea] 32 (0, 0)) := by
    rw [hu]; exact (Below.heap_alloc _ _ _ (by simp)).trans (heap_alloc_new w _)
  have h2 : u.heap[w.heap.size + 1]? = some (.cells #[.int .i64 b.kind, .int .i64 b.number, .int .i64 b.stream, .int .i64 b.place, db, eb] 32 (0, 0)) := by
    rw [hu]
    have e : w.heap.size + 1 = (w.alloc (.cells #[.int .i64 a.kind, .int .i64 a.number, .int .i64 a.stream, .int .i64 a.place, da, ea] 32)).heap.size := by simp
    rw [e]; exact heap_alloc_new _ _
  obtain ⟨a0, a1, a2, a3, a4, a5⟩ := box_cells h1
  obtain ⟨b0, b1, b2, b3, b4, b5⟩ := box_cells h2
  have HW := hide hW
  have HBY := hide hB
  have AL := hide (alive u)
  have HBU := hide hbu
  have HU := hide hu
  clear hW hB alive h1 h2 hbu hu
  go_enter Try.func6, Try.ntmps6
  go_wp2_with fail
  rw [← HU.out]
  refine AL.out.mono ?_
  rintro e w1 ⟨rfl, hb1⟩
  have HK1 : Hid (Below u.heap.size u w1.drew) := Below.drew hb1
  clear hb1 AL HU
  go_wp2_with fail
  refine regs.held_begin (by kernel_rfl) ?_
  refine regs.held_take (i := 0) (v := .agg #[.int .i64 a.kind, .int .i64 a.number, .int .i64 a.stream, .int .i64 a.place, da, ea]) rfl (by kernel_rfl) (by kernel_rfl) (by kernel_rfl) (fun _ _ _ h => h) (by rfl) (fun w' hb => by have hb0 := HK1.out.trans (hb.mono HK1.out.size); go_simp) ?_
  simp only [Act.put, List.setIfInBounds_toArray, List.set_cons_zero, List.set_cons_succ, List.getElem_toArray, List.getElem_cons_zero]
  refine regs.held_step (i := 1) rfl (by kernel_rfl) (fun K hK => ?_)
  go_simp
  go_wp2_with ((go_at_call 16; refine (HW.out _ a w1.drew (HA.out.later (HBU.out.trans (HK1.out.mono HBU.out.size)))).mono ?_; rintro e w2 ⟨rfl, hb2⟩; have HK2 : Hid (Below u.heap.size u w2) := HK1.out.trans (hb2.mono HK1.out.size); have HS2 := hide hb2; clear hb2))
  refine hK.out _ _ HS2.out ?_
  clear hK K
  refine regs.held_take (i := 2) (v := .bool false) rfl (by kernel_rfl) (by kernel_rfl) (by kernel_rfl) (fun _ _ _ h => h) (by rfl) (fun w' hb => by go_simp) ?_
  simp only [Act.put, List.setIfInBounds_toArray, List.set_cons_zero, List.set_cons_succ, List.getElem_toArray, List.getElem_cons_zero, List.getElem_cons_succ]
  refine regs.held_take (i := 3) (v := .bool false) rfl (by kernel_rfl) (by kernel_rfl) (by kernel_rfl) (fun _ _ _ h => h) (by rfl) (fun w' hb => by go_simp) ?_
  simp only [Act.put, List.setIfInBounds_toArray, List.set_cons_zero, List.set_cons_succ, List.getElem_toArray, List.getElem_cons_zero, List.getElem_cons_succ]
  refine regs.held_take (i := 4) (v := .agg #[.int .i64 b.kind, .int .i64 b.number, .int .i64 b.stream, .int .i64 b.place, db, eb]) rfl (by kernel_rfl) (by kernel_rfl) (by kernel_rfl) (fun _ _ _ h => h) (by rfl) (fun w' hb => by have hb0 := HK2.out.trans (hb.mono HK2.out.size); go_simp) ?_
  simp only [Act.put, List.setIfInBounds_toArray, List.set_cons_zero, List.set_cons_succ, List.getElem_toArray, List.getElem_cons_zero, List.getElem_cons_succ]
  refine regs.held_step (i := 5) rfl (by kernel_rfl) (fun K hK => ?_)
  go_simp
  go_wp2_with ((go_at_call 16; refine (HW.out _ b w2 (HB.out.later (HBU.out.trans (HK2.out.mono HBU.out.size)))).mono ?_; rintro e w3 ⟨rfl, hb3⟩; have HK3 : Hid (Below u.heap.size u w3) := HK2.out.trans (hb3.mono HK2.out.size); have HS3 := hide hb3; clear hb3))
  refine hK.out _ _ HS3.out ?_
  clear hK K
  refine regs.held_take (i := 6) (v := .bool true) rfl (by kernel_rfl) (by kernel_rfl) (by kernel_rfl) (fun _ _ _ h => h) (by rfl) (fun w' hb => by go_simp) ?_
  simp only [Act.put, List.setIfInBounds_toArray, List.set_cons_zero, List.set_cons_succ, List.getElem_toArray, List.getElem_cons_zero, List.getElem_cons_succ]
  refine regs.held_take (i := 7) (v := .bool true) rfl (by kernel_rfl) (by kernel_rfl) (by kernel_rfl) (fun _ _ _ h => h) (by rfl) (fun w' hb => by go_simp) ?_
  simp only [Act.put, List.setIfInBounds_toArray, List.set_cons_zero, List.set_cons_succ, List.getElem_toArray, List.getElem_cons_zero, List.getElem_cons_succ]
  refine regs.held_take (i := 8) (v := .bool true) rfl (by kernel_rfl) (by kernel_rfl) (by kernel_rfl) (fun _ _ _ h => h) (by rfl) (fun w' hb => by go_simp) ?_
  simp only [Act.put, List.setIfInBounds_toArray, List.set_cons_zero, List.set_cons_succ, List.getElem_toArray, List.getElem_cons_zero, List.getElem_cons_succ]
  refine regs.held_skip (i := 9) rfl (by kernel_rfl) (by kernel_rfl) (by kernel_rfl) (fun _ _ _ h => h) (by rfl) ?_
  simp only [Act.put, List.setIfInBounds_toArray, List.set_cons_zero, List.set_cons_succ, List.getElem_toArray, List.getElem_cons_zero, List.getElem_cons_succ]
  refine regs.held_skip (i := 10) rfl (by kernel_rfl) (by kernel_rfl) (by kernel_rfl) (fun _ _ _ h => h) (by rfl) ?_
  simp only [Act.put, List.setIfInBounds_toArray, List.set_cons_zero, List.set_cons_succ, List.getElem_toArray, List.getElem_cons_zero, List.getElem_cons_succ]
  refine regs.held_skip (i := 11) rfl (by kernel_rfl) (by kernel_rfl) (by kernel_rfl) (fun _ _ _ h => h) (by rfl) ?_
  simp only [Act.put, List.setIfInBounds_toArray, List.set_cons_zero, List.set_cons_succ, List.getElem_toArray, List.getElem_cons_zero, List.getElem_cons_succ]
  refine regs.held_skip (i := 12) rfl (by kernel_rfl) (by kernel_rfl) (by kernel_rfl) (fun _ _ _ h => h) (by rfl) ?_
  simp only [Act.put, List.setIfInBounds_toArray, List.set_cons_zero, List.set_cons_succ, List.getElem_toArray, List.getElem_cons_zero, List.getElem_cons_succ]
  refine regs.held_skip (i := 13) rfl (by kernel_rfl) (by kernel_rfl) (by kernel_rfl) (fun _ _ _ h => h) (by rfl) ?_
  simp only [Act.put, List.setIfInBounds_toArray, List.set_cons_zero, List.set_cons_succ, List.getElem_toArray, List.getElem_cons_zero, List.getElem_cons_succ]
  refine regs.held_skip (i := 14) rfl (by kernel_rfl) (by kernel_rfl) (by kernel_rfl) (fun _ _ _ h => h) (by rfl) ?_
  simp only [Act.put, List.setIfInBounds_toArray, List.set_cons_zero, List.set_cons_succ, List.getElem_toArray, List.getElem_cons_zero, List.getElem_cons_succ]
  refine regs.held_skip (i := 15) rfl (by kernel_rfl) (by kernel_rfl) (by kernel_rfl) (fun _ _ _ h => h) (by rfl) ?_
  simp only [Act.put, List.setIfInBounds_toArray, List.set_cons_zero, List.set_cons_succ, List.getElem_toArray, List.getElem_cons_zero, List.getElem_cons_succ]
  refine regs.held_skip (i := 16) rfl (by kernel_rfl) (by kernel_rfl) (by kernel_rfl) (fun _ _ _ h => h) (by rfl) ?_
  simp only [Act.put, List.setIfInBounds_toArray, List.set_cons_zero, List.set_cons_succ, List.getElem_toArray, List.getElem_cons_zero, List.getElem_cons_succ]
  refine regs.held_skip (i := 17) rfl (by kernel_rfl) (by kernel_rfl) (by kernel_rfl) (fun _ _ _ h => h) (by rfl) ?_
  simp only [Act.put, List.setIfInBounds_toArray, List.set_cons_zero, List.set_cons_succ, List.getElem_toArray, List.getElem_cons_zero, List.getElem_cons_succ]
  refine regs.held_skip (i := 18) rfl (by kernel_rfl) (by kernel_rfl) (by kernel_rfl) (fun _ _ _ h => h) (by rfl) ?_
  simp only [Act.put, List.setIfInBounds_toArray, List.set_cons_zero, List.set_cons_succ, List.getElem_toArray, List.getElem_cons_zero, List.getElem_cons_succ]
  refine regs.held_skip (i := 19) rfl (by kernel_rfl) (by kernel_rfl) (by kernel_rfl) (fun _ _ _ h => h) (by rfl) ?_
  simp only [Act.put, List.setIfInBounds_toArray, List.set_cons_zero, List.set_cons_succ, List.getElem_toArray, List.getElem_cons_zero, List.getElem_cons_succ]
  refine regs.held_take (i := 20) (v := .bool true) rfl (by kernel_rfl) (by kernel_rfl) (by kernel_rfl) (fun _ _ _ h => h) (by rfl) (fun w' hb => by go_simp) ?_
  simp only [Act.put, List.setIfInBounds_toArray, List.set_cons_zero, List.set_cons_succ, List.getElem_toArray, List.getElem_cons_zero, List.getElem_cons_succ]
  refine regs.held_take (i := 21) (v := .bool true) rfl (by kernel_rfl) (by kernel_rfl) (by kernel_rfl) (fun _ _ _ h => h) (by rfl) (fun w' hb => by go_simp) ?_
  simp only [Act.put, List.setIfInBounds_toArray, List.set_cons_zero, List.set_cons_succ, List.getElem_toArray, List.getElem_cons_zero, List.getElem_cons_succ]
  refine regs.held_done (by kernel_rfl) ?_ _
  go_wp2
  go_ret
  exact ⟨rfl, HBU.out.trans (HK3.out.mono HBU.out.size)⟩

set_option maxHeartbeats 8000000 in
theorem unlike_ab (hW : CWrong 16) (hB : CBytes 24) (alive : ∀ w, Calls Try.prog 26 #[] w fun e w' => e = .returned (.bool true) ∧ Below w.heap.size w w')
    (a b : Ch) (da ea db eb : Value) (w : World) (HA : Hid (Cv w (.agg #[.int .i64 a.kind, .int .i64 a.number, .int .i64 a.stream, .int .i64 a.place, da, ea]) a)) (HB : Hid (Cv w (.agg #[.int .i64 b.kind, .int .i64 b.number, .int .i64 b.stream, .int .i64 b.place, db, eb]) b)) (ha : wrongL a = 0) (hb : wrongL b = 0) (hne : (wrongL a != 0) = false) (hne2 : (wrongL b != 0) = false) (hu : Hid ((sealL (bodyL a) == sealL (bodyL b)) = sameC a b)) :
    Calls Try.prog 6 #[.agg #[.int .i64 a.kind, .int .i64 a.number, .int .i64 a.stream, .int .i64 a.place, da, ea], .agg #[.int .i64 b.kind, .int .i64 b.number, .int .i64 b.stream, .int .i64 b.place, db, eb]] w fun e w' => e = .returned (.bool true) ∧ Below w.heap.size w w' := by
  obtain ⟨u, hu'⟩ : ∃ u, u = (w.alloc (.cells #[.int .i64 a.kind, .int .i64 a.number, .int .i64 a.stream, .int .i64 a.place, da, ea] 32)).alloc (.cells #[.int .i64 b.kind, .int .i64 b.number, .int .i64 b.stream, .int .i64 b.place, db, eb] 32) := ⟨_, rfl⟩
  have hbu : Below w.heap.size w u := by rw [hu']; exact ((Below.refl _ _).alloc (Nat.le_refl _) _).alloc (by simp) _
  have h1 : u.heap[w.heap.size]? = some (.cells #[.int .i64 a.kind, .int .i64 a.number, .int .i64 a.stream, .int .i64 a.place, da, ea] 32 (0, 0)) := by
    rw [hu']; exact (Below.heap_alloc _ _ _ (by simp)).trans (heap_alloc_new w _)
  have h2 : u.heap[w.heap.size + 1]? = some (.cells #[.int .i64 b.kind, .int .i64 b.number, .int .i64 b.stream, .int .i64 b.place, db, eb] 32 (0, 0)) := by
    rw [hu']
    have e : w.heap.size + 1 = (w.alloc (.cells #[.int .i64 a.kind, .int .i64 a.number, .int .i64 a.stream, .int .i64 a.place, da, ea] 32)).heap.size := by simp
    rw [e]; exact heap_alloc_new _ _
  obtain ⟨a0, a1, a2, a3, a4, a5⟩ := box_cells h1
  obtain ⟨b0, b1, b2, b3, b4, b5⟩ := box_cells h2
  have H0A := hide ha
  have H0B := hide hb
  clear ha hb
  have HUN := hu
  clear hu
  have HW := hide hW
  have HBY := hide hB
  have AL := hide (alive u)
  have HBU := hide hbu
  have HU := hide hu'
  clear hW hB alive h1 h2 hbu hu'
  go_enter Try.func6, Try.ntmps6
  go_wp2_with fail
  rw [← HU.out]
  refine AL.out.mono ?_
  rintro e w1 ⟨rfl, hb1⟩
  have HK1 : Hid (Below u.heap.size u w1.drew) := Below.drew hb1
  clear hb1 AL HU
  go_wp2_with fail
  refine regs.held_begin (by kernel_rfl) ?_
  refine regs.held_take (i := 0) (v := .agg #[.int .i64 a.kind, .int .i64 a.number, .int .i64 a.stream, .int .i64 a.place, da, ea]) rfl (by kernel_rfl) (by kernel_rfl) (by kernel_rfl) (fun _ _ _ h => h) (by rfl) (fun w' hb => by have hb0 := HK1.out.trans (hb.mono HK1.out.size); go_simp) ?_
  simp only [Act.put, List.setIfInBounds_toArray, List.set_cons_zero, List.set_cons_succ, List.getElem_toArray, List.getElem_cons_zero]
  refine regs.held_step (i := 1) rfl (by kernel_rfl) (fun K hK => ?_)
  go_simp
  go_wp2_with ((go_at_call 16; refine (HW.out _ a w1.drew (HA.out.later (HBU.out.trans (HK1.out.mono HBU.out.size)))).mono ?_; rintro e w2 ⟨rfl, hb2⟩; have HK2 : Hid (Below u.heap.size u w2) := HK1.out.trans (hb2.mono HK1.out.size); have HS2 := hide hb2; clear hb2))
  refine hK.out _ _ HS2.out ?_
  clear hK K
  refine regs.held_take (i := 2) (v := .bool false) rfl (by kernel_rfl) (by kernel_rfl) (by kernel_rfl) (fun _ _ _ h => h) (by rfl) (fun w' hb => by go_simp) ?_
  simp only [Act.put, List.setIfInBounds_toArray, List.set_cons_zero, List.set_cons_succ, List.getElem_toArray, List.getElem_cons_zero, List.getElem_cons_succ]
  refine regs.held_take (i := 3) (v := .bool false) rfl (by kernel_rfl) (by kernel_rfl) (by kernel_rfl) (fun _ _ _ h => h) (by rfl) (fun w' hb => by go_simp) ?_
  simp only [Act.put, List.setIfInBounds_toArray, List.set_cons_zero, List.set_cons_succ, List.getElem_toArray, List.getElem_cons_zero, List.getElem_cons_succ]
  refine regs.held_take (i := 4) (v := .agg #[.int .i64 b.kind, .int .i64 b.number, .int .i64 b.stream, .int .i64 b.place, db, eb]) rfl (by kernel_rfl) (by kernel_rfl) (by kernel_rfl) (fun _ _ _ h => h) (by rfl) (fun w' hb => by have hb0 := HK2.out.trans (hb.mono HK2.out.size); go_simp) ?_
  simp only [Act.put, List.setIfInBounds_toArray, List.set_cons_zero, List.set_cons_succ, List.getElem_toArray, List.getElem_cons_zero, List.getElem_cons_succ]
  refine regs.held_step (i := 5) rfl (by kernel_rfl) (fun K hK => ?_)
  go_simp
  go_wp2_with ((go_at_call 16; refine (HW.out _ b w2 (HB.out.later (HBU.out.trans (HK2.out.mono HBU.out.size)))).mono ?_; rintro e w3 ⟨rfl, hb3⟩; have HK3 : Hid (Below u.heap.size u w3) := HK2.out.trans (hb3.mono HK2.out.size); have HS3 := hide hb3; clear hb3))
  refine hK.out _ _ HS3.out ?_
  clear hK K
  refine regs.held_take (i := 6) (v := .bool false) rfl (by kernel_rfl) (by kernel_rfl) (by kernel_rfl) (fun _ _ _ h => h) (by rfl) (fun w' hb => by go_simp) ?_
  simp only [Act.put, List.setIfInBounds_toArray, List.set_cons_zero, List.set_cons_succ, List.getElem_toArray, List.getElem_cons_zero, List.getElem_cons_succ]
  refine regs.held_take (i := 7) (v := .bool false) rfl (by kernel_rfl) (by kernel_rfl) (by kernel_rfl) (fun _ _ _ h => h) (by rfl) (fun w' hb => by go_simp) ?_
  simp only [Act.put, List.setIfInBounds_toArray, List.set_cons_zero, List.set_cons_succ, List.getElem_toArray, List.getElem_cons_zero, List.getElem_cons_succ]
  refine regs.held_take (i := 8) (v := .bool false) rfl (by kernel_rfl) (by kernel_rfl) (by kernel_rfl) (fun _ _ _ h => h) (by rfl) (fun w' hb => by go_simp) ?_
  simp only [Act.put, List.setIfInBounds_toArray, List.set_cons_zero, List.set_cons_succ, List.getElem_toArray, List.getElem_cons_zero, List.getElem_cons_succ]
  refine regs.held_take (i := 9) (v := .agg #[.int .i64 a.kind, .int .i64 a.number, .int .i64 a.stream, .int .i64 a.place, da, ea]) rfl (by kernel_rfl) (by kernel_rfl) (by kernel_rfl) (fun _ _ _ h => h) (by rfl) (fun w' hb => by have hb0 := HK3.out.trans (hb.mono HK3.out.size); go_simp) ?_
  simp only [Act.put, List.setIfInBounds_toArray, List.set_cons_zero, List.set_cons_succ, List.getElem_toArray, List.getElem_cons_zero, List.getElem_cons_succ]
  refine regs.held_take (i := 12) (v := .agg #[.int .i64 b.kind, .int .i64 b.number, .int .i64 b.stream, .int .i64 b.place, db, eb]) rfl (by kernel_rfl) (by kernel_rfl) (by kernel_rfl) (fun _ _ _ h => h) (by rfl) (fun w' hb => by have hb0 := HK3.out.trans (hb.mono HK3.out.size); go_simp) ?_
  simp only [Act.put, List.setIfInBounds_toArray, List.set_cons_zero, List.set_cons_succ, List.getElem_toArray, List.getElem_cons_zero, List.getElem_cons_succ]
  refine regs.held_take (i := 16) (v := .agg #[.int .i64 a.kind, .int .i64 a.number, .int .i64 a.stream, .int .i64 a.place, da, ea]) rfl (by kernel_rfl) (by kernel_rfl) (by kernel_rfl) (fun _ _ _ h => h) (by rfl) (fun w' hb => by have hb0 := HK3.out.trans (hb.mono HK3.out.size); go_simp) ?_
  simp only [Act.put, List.setIfInBounds_toArray, List.set_cons_zero, List.set_cons_succ, List.getElem_toArray, List.getElem_cons_zero, List.getElem_cons_succ]
  refine regs.held_take (i := 17) (v := .agg #[.int .i64 b.kind, .int .i64 b.number, .int .i64 b.stream, .int .i64 b.place, db, eb]) rfl (by kernel_rfl) (by kernel_rfl) (by kernel_rfl) (fun _ _ _ h => h) (by rfl) (fun w' hb => by have hb0 := HK3.out.trans (hb.mono HK3.out.size); go_simp) ?_
  simp only [Act.put, List.setIfInBounds_toArray, List.set_cons_zero, List.set_cons_succ, List.getElem_toArray, List.getElem_cons_zero, List.getElem_cons_succ]
  refine regs.held_step (i := 10) rfl (by kernel_rfl) (fun K hK => ?_)
  go_simp
  go_wp2_with ((go_at_call 24; refine (HBY.out _ a w3 (HA.out.later (HBU.out.trans (HK3.out.mono HBU.out.size))) H0A.out).mono ?_; rintro e w4 ⟨v4, rfl, hown4, hb4⟩; have HK4 : Hid (Below u.heap.size u w4) := HK3.out.trans (hb4.mono HK3.out.size); have HS4 := hide hb4; have HO4 := hide hown4; clear hb4 hown4))
  refine hK.out _ _ HS4.out ?_
  clear hK K
  refine regs.held_take (i := 11) (v := .string ⟨(sealL (bodyL a)).toArray⟩) rfl (by kernel_rfl) (by kernel_rfl) (by kernel_rfl) (fun _ _ _ h => h) (by rfl) (fun w' hb => by have hc := conv_run ((owns_Bs HO4.out).later hb); go_simp) ?_
  simp only [Act.put, List.setIfInBounds_toArray, List.set_cons_zero, List.set_cons_succ, List.getElem_toArray, List.getElem_cons_zero, List.getElem_cons_succ]
  refine regs.held_step (i := 13) rfl (by kernel_rfl) (fun K hK => ?_)
  go_simp
  go_wp2_with ((go_at_call 24; refine (HBY.out _ b w4 (HB.out.later (HBU.out.trans (HK4.out.mono HBU.out.size))) H0B.out).mono ?_; rintro e w5 ⟨v5, rfl, hown5, hb5⟩; have HK5 : Hid (Below u.heap.size u w5) := HK4.out.trans (hb5.mono HK4.out.size); have HS5 := hide hb5; have HO5 := hide hown5; clear hb5 hown5))
  refine hK.out _ _ HS5.out ?_
  clear hK K
  refine regs.held_take (i := 14) (v := .string ⟨(sealL (bodyL b)).toArray⟩) rfl (by kernel_rfl) (by kernel_rfl) (by kernel_rfl) (fun _ _ _ h => h) (by rfl) (fun w' hb => by have hc := conv_run ((owns_Bs HO5.out).later hb); go_simp) ?_
  simp only [Act.put, List.setIfInBounds_toArray, List.set_cons_zero, List.set_cons_succ, List.getElem_toArray, List.getElem_cons_zero, List.getElem_cons_succ]
  refine regs.held_take (i := 15) (v := .bool (sameC a b)) rfl (by kernel_rfl) (by kernel_rfl) (by kernel_rfl) (fun _ _ _ h => h) (by rfl) (fun w' hb => by have hun := HUN.out; go_simp) ?_
  simp only [Act.put, List.setIfInBounds_toArray, List.set_cons_zero, List.set_cons_succ, List.getElem_toArray, List.getElem_cons_zero, List.getElem_cons_succ]
  refine regs.held_step (i := 18) rfl (by kernel_rfl) (fun K hK => ?_)
  go_simp
  go_wp2_with ((go_at_call 20; refine (refSame_any _ _ a b w5 (HA.out.later (HBU.out.trans (HK5.out.mono HBU.out.size))) (HB.out.later (HBU.out.trans (HK5.out.mono HBU.out.size)))).mono ?_; rintro e w6 ⟨rfl, hb6⟩; have HK6 : Hid (Below u.heap.size u w6) := HK5.out.trans (hb6.mono HK5.out.size); have HS6 := hide hb6; clear hb6))
  refine hK.out _ _ HS6.out ?_
  clear hK K
  refine regs.held_take (i := 19) (v := .bool true) rfl (by kernel_rfl) (by kernel_rfl) (by kernel_rfl) (fun _ _ _ h => h) (by rfl) (fun w' hb => by go_simp) ?_
  simp only [Act.put, List.setIfInBounds_toArray, List.set_cons_zero, List.set_cons_succ, List.getElem_toArray, List.getElem_cons_zero, List.getElem_cons_succ]
  refine regs.held_take (i := 20) (v := .bool true) rfl (by kernel_rfl) (by kernel_rfl) (by kernel_rfl) (fun _ _ _ h => h) (by rfl) (fun w' hb => by go_simp) ?_
  simp only [Act.put, List.setIfInBounds_toArray, List.set_cons_zero, List.set_cons_succ, List.getElem_toArray, List.getElem_cons_zero, List.getElem_cons_succ]
  refine regs.held_take (i := 21) (v := .bool true) rfl (by kernel_rfl) (by kernel_rfl) (by kernel_rfl) (fun _ _ _ h => h) (by rfl) (fun w' hb => by go_simp) ?_
  simp only [Act.put, List.setIfInBounds_toArray, List.set_cons_zero, List.set_cons_succ, List.getElem_toArray, List.getElem_cons_zero, List.getElem_cons_succ]
  refine regs.held_done (by kernel_rfl) ?_ _
  go_wp2
  go_ret
  exact ⟨rfl, HBU.out.trans (HK6.out.mono HBU.out.size)⟩

end Go.Proofs.Ytlomffhofionnaa.leaf
