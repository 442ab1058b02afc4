/-
  The closed fact that the laws of chapter 2 ask first.
-/
import Derived.Test.YtlomffhofionnaaUnlike
import Derived.Lib.SlBytesConst
namespace Go.Proofs.Ytlomffhofionnaa.leaf
set_option linter.unusedVariables false
open Go.RowKit
open mth

theorem Cv.form {w : World} {v : Value} {c : Ch} (h : Cv w v c) : ∃ ab nb cb ae ne ce, v = .agg #[.int .i64 c.kind, .int .i64 c.number, .int .i64 c.stream, .int .i64 c.place, .slice ab nb cb, .slice ae ne ce] := by
  obtain ⟨dv, ev, rfl, ⟨ab, cb, rfl, -⟩, ⟨ae, ce, rfl, -⟩, -⟩ := h
  exact ⟨_, _, _, _, _, _, rfl⟩
def C0 : Ch := ⟨1, 5, 2, 1, [97, 98], []⟩
theorem C0_right : wrongL C0 = 0 := by decide
theorem C0_len : (sealL (bodyL C0)).length = 8 := by simp [length_sealL, bodyL, C0]
theorem C0_len' : (bodyL C0).length + 2 = 8 := by simp [bodyL, C0]
theorem C0_value (w : World) : Cv ((w.alloc (.cells #[.int .u8 97, .int .u8 98] 5 (2, 3))).alloc (.cells #[.int .i64 1, .int .i64 5, .int .i64 2, .int .i64 1, .slice (some ⟨w.heap.size, 0, none⟩) 2 2, .slice none 0 0] 32)) (.agg #[.int .i64 1, .int .i64 5, .int .i64 2, .int .i64 1, .slice (some ⟨w.heap.size, 0, none⟩) 2 2, .slice none 0 0]) C0 := by
  refine ⟨_, _, rfl, ?_, Is_nil _, by simp [C0, maxLen], by simp [I64, C0], by simp [I64, C0], by simp [I64, C0], by simp [I64, C0]⟩
  refine ⟨_, _, rfl, by simp [C0], fun h => by simp at h, fun i hi => ⟨_, rfl, ?_⟩⟩
  rw [Addr.add_lit, Nat.zero_add]
  have hi2 : i < 2 := hi
  refine (World.cell?_of_block (w := w.alloc (.cells #[.int .u8 97, .int .u8 98] 5 (2, 3))) (Below.heap_alloc _ _ _ (by simp))).trans ?_
  rw [World.cell?_alloc_mark]
  match i, hi2 with
  | 0, _ => rfl
  | 1, _ => rfl

set_option maxHeartbeats 8000000 in
theorem alive2_any (n : Nat) (hn : 8 ≤ n) (hO : COwn 21 n) (hM : CWrongMsg 18) (hW : CWrong 16) (hB : CBytes 24) (hR : CRead 22 n) (w : World) :
    Calls Try.prog 26 #[] w fun e w' => e = .returned (.bool true) ∧ Below w.heap.size w w' := by
  have kc := fun (w : World) (C : Array Value) (n c : Nat) => Lib.run_convert_bytes_const (P := Try.prog) w 22 5 C n c Try.underlying22 Try.underlying5
  obtain ⟨U, hU⟩ : ∃ U, U = (w.alloc (.cells #[.int .u8 97, .int .u8 98] 5 (2, 3))).alloc (.cells #[.int .i64 1, .int .i64 5, .int .i64 2, .int .i64 1, .slice (some ⟨w.heap.size, 0, none⟩) 2 2, .slice none 0 0] 32) := ⟨_, rfl⟩
  have hbU : Below w.heap.size w U := by rw [hU]; exact ((Below.refl _ _).alloc (Nat.le_refl _) _).alloc (by simp) _
  have hUg : U.heap[w.heap.size + 1]? = some (.cells #[.int .i64 1, .int .i64 5, .int .i64 2, .int .i64 1, .slice (some ⟨w.heap.size, 0, none⟩) 2 2, .slice none 0 0] 32 (0, 0)) := by
    rw [hU]
    have e : w.heap.size + 1 = (w.alloc (.cells #[.int .u8 97, .int .u8 98] 5 (2, 3))).heap.size := by simp
    rw [e]; exact heap_alloc_new _ _
  have HC : Hid (Cv U (.agg #[.int .i64 1, .int .i64 5, .int .i64 2, .int .i64 1, .slice (some ⟨w.heap.size, 0, none⟩) 2 2, .slice none 0 0]) C0) := by rw [hU]; exact C0_value w
  have HUG := hide hUg
  have HBU := hide hbU
  have HU := hide hU
  have HO := hide hO
  have HM := hide hM
  have HW := hide hW
  have HBY := hide hB
  have HRD := hide hR
  clear hU hbU hUg hO hM hW hB hR
  go_enter Try.func26, Try.ntmps26
  go_wp2_with fail
  rw [← HU.out]
  clear kc HU
  refine (HBY.out _ C0 U HC.out C0_right).mono ?_
  rintro e w1 ⟨v1, rfl, hown1, hb1⟩
  rw [C0_len'] at hown1
  obtain ⟨g1, c1, rfl, -, -⟩ := hown1.form (by omega)
  go_wp2_with fail
  have hrd := HRD.out (some ⟨g1, 0, none⟩) c1 (sealL (bodyL C0)) w1 (by rw [C0_len]; exact owns_Bs hown1) (by rw [C0_len]; omega) (by rw [C0_len]; omega)
  rw [C0_len, (read_bytes C0 C0_right).1, (read_bytes C0 C0_right).2] at hrd
  refine hrd.mono ?_
  clear hrd
  rintro e w2 ⟨v2, rfl, hC2, hb2⟩
  obtain ⟨ab, nb, cb, ae, ne, ce, hv2⟩ := hC2.form
  have hv3 : v2 = .agg #[.int .i64 1, .int .i64 5, .int .i64 2, .int .i64 1, .slice ab nb cb, .slice ae ne ce] := hv2
  clear hv2
  subst hv3
  go_wp2_with fail
  obtain ⟨u, hu⟩ : ∃ u, u = w2.alloc (.cells #[.int .i64 1, .int .i64 5, .int .i64 2, .int .i64 1, .slice ab nb cb, .slice ae ne ce] 32) := ⟨_, rfl⟩
  have hb12 : Below U.heap.size U w2 := hb1.trans (hb2.mono hb1.size)
  have hbu : Below U.heap.size U u := by rw [hu]; exact hb12.alloc hb12.size _
  have h1 : u.heap[w.heap.size + 1]? = some (.cells #[.int .i64 1, .int .i64 5, .int .i64 2, .int .i64 1, .slice (some ⟨w.heap.size, 0, none⟩) 2 2, .slice none 0 0] 32 (0, 0)) :=
    (hbu.block _ (Array.getElem?_eq_some_iff.1 HUG.out).1).trans HUG.out
  have h2 : u.heap[w2.heap.size]? = some (.cells #[.int .i64 1, .int .i64 5, .int .i64 2, .int .i64 1, .slice ab nb cb, .slice ae ne ce] 32 (0, 0)) := by rw [hu]; exact heap_alloc_new _ _
  have HX : Hid (Cv u (.agg #[.int .i64 1, .int .i64 5, .int .i64 2, .int .i64 1, .slice ab nb cb, .slice ae ne ce]) C0) := by rw [hu]; exact hC2.later ((Below.refl _ _).alloc (Nat.le_refl _) _)
  have HCu : Hid (Cv u (.agg #[.int .i64 1, .int .i64 5, .int .i64 2, .int .i64 1, .slice (some ⟨w.heap.size, 0, none⟩) 2 2, .slice none 0 0]) C0) := HC.out.later hbu
  obtain ⟨a0, a1, a2, a3, a4, a5⟩ := box_cells h1
  obtain ⟨b0, b1, b2, b3, b4, b5⟩ := box_cells h2
  have HBW : Hid (Below w.heap.size w u) := HBU.out.trans (hbu.mono HBU.out.size)
  rw [← hu]
  have HK1 : Hid (Below u.heap.size u u.drew) := Below.drew (Below.refl _ _)
  clear h1 h2 hu hbu hb12 hb1 hb2 hC2 hown1 HC HUG HBU
  go_wp2_with fail
  refine regs.held_begin (by kernel_rfl) ?_
  refine regs.held_take (i := 0) (v := .int .i64 0) rfl (by kernel_rfl) (by kernel_rfl) (by kernel_rfl) (fun _ _ _ h => h) (by rfl) (fun w' hb => by go_simp) ?_
  simp only [Act.put, List.setIfInBounds_toArray, List.set_cons_zero, List.set_cons_succ, List.getElem_toArray, List.getElem_cons_zero]
  refine regs.held_take (i := 1) (v := .bool true) rfl (by kernel_rfl) (by kernel_rfl) (by kernel_rfl) (fun _ _ _ h => h) (by rfl) (fun w' hb => by go_simp) ?_
  simp only [Act.put, List.setIfInBounds_toArray, List.set_cons_zero, List.set_cons_succ, List.getElem_toArray, List.getElem_cons_zero, List.getElem_cons_succ]
  refine regs.held_take (i := 2) (v := .bool true) rfl (by kernel_rfl) (by kernel_rfl) (by kernel_rfl) (fun _ _ _ h => h) (by rfl) (fun w' hb => by go_simp) ?_
  simp only [Act.put, List.setIfInBounds_toArray, List.set_cons_zero, List.set_cons_succ, List.getElem_toArray, List.getElem_cons_zero, List.getElem_cons_succ]
  refine regs.held_take (i := 3) (v := .agg #[.int .i64 1, .int .i64 5, .int .i64 2, .int .i64 1, .slice (some ⟨w.heap.size, 0, none⟩) 2 2, .slice none 0 0]) rfl (by kernel_rfl) (by kernel_rfl) (by kernel_rfl) (fun _ _ _ h => h) (by rfl) (fun w' hb => by have hb0 := HK1.out.trans (hb.mono HK1.out.size); go_simp) ?_
  simp only [Act.put, List.setIfInBounds_toArray, List.set_cons_zero, List.set_cons_succ, List.getElem_toArray, List.getElem_cons_zero, List.getElem_cons_succ]
  refine regs.held_take (i := 4) (v := .agg #[.int .i64 1, .int .i64 5, .int .i64 2, .int .i64 1, .slice ab nb cb, .slice ae ne ce]) rfl (by kernel_rfl) (by kernel_rfl) (by kernel_rfl) (fun _ _ _ h => h) (by rfl) (fun w' hb => by have hb0 := HK1.out.trans (hb.mono HK1.out.size); go_simp) ?_
  simp only [Act.put, List.setIfInBounds_toArray, List.set_cons_zero, List.set_cons_succ, List.getElem_toArray, List.getElem_cons_zero, List.getElem_cons_succ]
  refine regs.held_step (i := 5) rfl (by kernel_rfl) (fun K hK => ?_)
  go_simp
  go_wp2_with ((go_at_call 20; refine (refSame_any _ _ C0 C0 u.drew (HCu.out.later HK1.out) (HX.out.later HK1.out)).mono ?_; rw [(sameC_iff C0 C0).2 rfl]; rintro e w3 ⟨rfl, hb3⟩; have HK3 : Hid (Below u.heap.size u w3) := HK1.out.trans (hb3.mono HK1.out.size); have HS3 := hide hb3; clear hb3))
  refine hK.out _ _ HS3.out ?_
  clear hK K
  refine regs.held_take (i := 6) (v := .bool true) rfl (by kernel_rfl) (by kernel_rfl) (by kernel_rfl) (fun _ _ _ h => h) (by rfl) (fun w' hb => by go_simp) ?_
  simp only [Act.put, List.setIfInBounds_toArray, List.set_cons_zero, List.set_cons_succ, List.getElem_toArray, List.getElem_cons_zero, List.getElem_cons_succ]
  refine regs.held_take (i := 7) (v := .bool true) rfl (by kernel_rfl) (by kernel_rfl) (by kernel_rfl) (fun _ _ _ h => h) (by rfl) (fun w' hb => by go_simp) ?_
  simp only [Act.put, List.setIfInBounds_toArray, List.set_cons_zero, List.set_cons_succ, List.getElem_toArray, List.getElem_cons_zero, List.getElem_cons_succ]
  refine regs.held_take (i := 8) (v := .agg #[.int .i64 1, .int .i64 5, .int .i64 2, .int .i64 1, .slice (some ⟨w.heap.size, 0, none⟩) 2 2, .slice none 0 0]) rfl (by kernel_rfl) (by kernel_rfl) (by kernel_rfl) (fun _ _ _ h => h) (by rfl) (fun w' hb => by have hb0 := HK3.out.trans (hb.mono HK3.out.size); go_simp) ?_
  simp only [Act.put, List.setIfInBounds_toArray, List.set_cons_zero, List.set_cons_succ, List.getElem_toArray, List.getElem_cons_zero, List.getElem_cons_succ]
  refine regs.held_step (i := 9) rfl (by kernel_rfl) (fun K hK => ?_)
  go_simp
  go_wp2_with ((go_at_call 16; refine (HW.out _ C0 w3 (HCu.out.later HK3.out)).mono ?_; rw [C0_right]; rintro e w4 ⟨rfl, hb4⟩; have HK4 : Hid (Below u.heap.size u w4) := HK3.out.trans (hb4.mono HK3.out.size); have HS4 := hide hb4; clear hb4))
  refine hK.out _ _ HS4.out ?_
  clear hK K
  refine regs.held_take (i := 10) (v := .bool true) rfl (by kernel_rfl) (by kernel_rfl) (by kernel_rfl) (fun _ _ _ h => h) (by rfl) (fun w' hb => by go_simp) ?_
  simp only [Act.put, List.setIfInBounds_toArray, List.set_cons_zero, List.set_cons_succ, List.getElem_toArray, List.getElem_cons_zero, List.getElem_cons_succ]
  refine regs.held_take (i := 11) (v := .bool true) rfl (by kernel_rfl) (by kernel_rfl) (by kernel_rfl) (fun _ _ _ h => h) (by rfl) (fun w' hb => by go_simp) ?_
  simp only [Act.put, List.setIfInBounds_toArray, List.set_cons_zero, List.set_cons_succ, List.getElem_toArray, List.getElem_cons_zero, List.getElem_cons_succ]
  refine regs.held_take (i := 12) (v := .bool true) rfl (by kernel_rfl) (by kernel_rfl) (by kernel_rfl) (fun _ _ _ h => h) (by rfl) (fun w' hb => by go_simp) ?_
  simp only [Act.put, List.setIfInBounds_toArray, List.set_cons_zero, List.set_cons_succ, List.getElem_toArray, List.getElem_cons_zero, List.getElem_cons_succ]
  refine regs.held_take (i := 13) (v := .agg #[.int .i64 3, .slice none 0 0]) rfl (by kernel_rfl) (by kernel_rfl) (by kernel_rfl) (fun _ _ _ h => h) (by rfl) (fun w' hb => by go_simp) ?_
  simp only [Act.put, List.setIfInBounds_toArray, List.set_cons_zero, List.set_cons_succ, List.getElem_toArray, List.getElem_cons_zero, List.getElem_cons_succ]
  refine regs.held_step (i := 14) rfl (by kernel_rfl) (fun K hK => ?_)
  go_simp
  go_wp2_with ((go_at_call 18; refine (HM.out 3 (.slice none 0 0) [] w4 (Bs_nil _) (by simp) (by simp [I64])).mono ?_; rw [show wrongMsgL 3 [] = 3 from by decide]; rintro e w5 ⟨rfl, hb5⟩; have HK5 : Hid (Below u.heap.size u w5) := HK4.out.trans (hb5.mono HK4.out.size); have HS5 := hide hb5; clear hb5))
  refine hK.out _ _ HS5.out ?_
  clear hK K
  refine regs.held_take (i := 15) (v := .bool true) rfl (by kernel_rfl) (by kernel_rfl) (by kernel_rfl) (fun _ _ _ h => h) (by rfl) (fun w' hb => by go_simp) ?_
  simp only [Act.put, List.setIfInBounds_toArray, List.set_cons_zero, List.set_cons_succ, List.getElem_toArray, List.getElem_cons_zero, List.getElem_cons_succ]
  refine regs.held_take (i := 16) (v := .bool true) rfl (by kernel_rfl) (by kernel_rfl) (by kernel_rfl) (fun _ _ _ h => h) (by rfl) (fun w' hb => by go_simp) ?_
  simp only [Act.put, List.setIfInBounds_toArray, List.set_cons_zero, List.set_cons_succ, List.getElem_toArray, List.getElem_cons_zero, List.getElem_cons_succ]
  refine regs.held_take (i := 17) (v := .bool true) rfl (by kernel_rfl) (by kernel_rfl) (by kernel_rfl) (fun _ _ _ h => h) (by rfl) (fun w' hb => by go_simp) ?_
  simp only [Act.put, List.setIfInBounds_toArray, List.set_cons_zero, List.set_cons_succ, List.getElem_toArray, List.getElem_cons_zero, List.getElem_cons_succ]
  refine regs.held_take (i := 18) (v := .agg #[.int .i64 1, .int .i64 5, .int .i64 2, .int .i64 1, .slice (some ⟨w.heap.size, 0, none⟩) 2 2, .slice none 0 0]) rfl (by kernel_rfl) (by kernel_rfl) (by kernel_rfl) (fun _ _ _ h => h) (by rfl) (fun w' hb => by have hb0 := HK5.out.trans (hb.mono HK5.out.size); go_simp) ?_
  simp only [Act.put, List.setIfInBounds_toArray, List.set_cons_zero, List.set_cons_succ, List.getElem_toArray, List.getElem_cons_zero, List.getElem_cons_succ]
  refine regs.held_take (i := 20) (v := .agg #[.int .i64 1, .int .i64 5, .int .i64 2, .int .i64 1, .slice (some ⟨w.heap.size, 0, none⟩) 2 2, .slice none 0 0]) rfl (by kernel_rfl) (by kernel_rfl) (by kernel_rfl) (fun _ _ _ h => h) (by rfl) (fun w' hb => by have hb0 := HK5.out.trans (hb.mono HK5.out.size); go_simp) ?_
  simp only [Act.put, List.setIfInBounds_toArray, List.set_cons_zero, List.set_cons_succ, List.getElem_toArray, List.getElem_cons_zero, List.getElem_cons_succ]
  refine regs.held_step (i := 19) rfl (by kernel_rfl) (fun K hK => ?_)
  go_simp
  go_wp2_with ((go_at_call 21; refine (HO.out _ C0 w5 (HCu.out.later HK5.out) (by simp [C0]; omega) (by simp [C0])).mono ?_; rintro e w6 ⟨v6, rfl, hC6, hb6⟩; have HK6 : Hid (Below u.heap.size u w6) := HK5.out.trans (hb6.mono HK5.out.size); have HS6 := hide hb6; have HC6 := hide hC6; clear hb6 hC6))
  refine hK.out _ _ HS6.out ?_
  clear hK K
  refine regs.held_step (i := 21) rfl (by kernel_rfl) (fun K hK => ?_)
  go_simp
  go_wp2_with ((go_at_call 20; refine (refSame_any _ _ C0 C0 w6 HC6.out (HCu.out.later HK6.out)).mono ?_; rw [(sameC_iff C0 C0).2 rfl]; rintro e w7 ⟨rfl, hb7⟩; have HK7 : Hid (Below u.heap.size u w7) := HK6.out.trans (hb7.mono HK6.out.size); have HS7 := hide hb7; clear hb7))
  refine hK.out _ _ HS7.out ?_
  clear hK K
  refine regs.held_take (i := 22) (v := .bool true) rfl (by kernel_rfl) (by kernel_rfl) (by kernel_rfl) (fun _ _ _ h => h) (by rfl) (fun w' hb => by go_simp) ?_
  simp only [Act.put, List.setIfInBounds_toArray, List.set_cons_zero, List.set_cons_succ, List.getElem_toArray, List.getElem_cons_zero, List.getElem_cons_succ]
  refine regs.held_take (i := 23) (v := .bool true) rfl (by kernel_rfl) (by kernel_rfl) (by kernel_rfl) (fun _ _ _ h => h) (by rfl) (fun w' hb => by go_simp) ?_
  simp only [Act.put, List.setIfInBounds_toArray, List.set_cons_zero, List.getElem_toArray, List.getElem_cons_zero, List.getElem_cons_succ]
  refine regs.held_done (by kernel_rfl) ?_ _
  go_wp2
  go_ret
  exact ⟨rfl, HBW.out.trans (HK7.out.mono HBW.out.size)⟩
end Go.Proofs.Ytlomffhofionnaa.leaf
