/-
  The contract of the program's text of a right message.
-/
import Derived.Test.YtlomffhofionnaaDoorMark
import Derived.Test.YtlomffhofionnaaDoorLandItoa
import Derived.Test.YtlomffhofionnaaDoorRegsH
namespace Go.Proofs.YtlomffhofionnaaDoor.leaf
set_option linter.unusedVariables false
open Go.RowKit
open mth

theorem far_cellM {U w1 : World} {row : Option Nat} {g o : Nat} {u : Value} (hg : U.grownBy w1 row) (hr : row ≠ some g) (h : U.cell? ⟨g, o, none⟩ = some u) : w1.cell? ⟨g, o, none⟩ = some u :=
  (hg.cell_far ⟨g, o, none⟩ (World.block_lt_of_cell? U _ h) (fun e => hr e.symm)).trans h
theorem two_cells (x y : UInt8) (u : World) : ∀ j v, ([x, y].map B)[j]? = some v → (u.alloc (.cells #[.int .u8 (i8 x), .int .u8 (i8 y)] 5)).cell? ((⟨u.heap.size, 0, none⟩ : Addr).add j) = some v := by
  intro j v hv
  rw [Addr.add_lit, Nat.zero_add, World.cell?_alloc_mark]
  match j, hv with
  | 0, hv => simpa [B, i8] using hv
  | 1, hv => simpa [B, i8] using hv
  | n + 2, hv => simp at hv
theorem one_cell (x : UInt8) (k : Int) (hk : i8 x = k) (u : World) (n : Nat) (hn : n = u.heap.size) : ∀ j v, ([x].map B)[j]? = some v → (u.alloc (.cells #[.int .u8 k] 5)).cell? ((⟨n, 0, none⟩ : Addr).add j) = some v := by
  intro j v hv
  subst hn hk
  rw [Addr.add_lit, Nat.zero_add, World.cell?_alloc_mark]
  match j, hv with
  | 0, hv => simpa [B, i8] using hv
  | n + 1, hv => simp at hv

theorem and15 (y : UInt8) : bits .and .u8 (y.toNat : Int) 15 = (y.toNat : Int) % 16 := by
  have h : ∀ n : Nat, n < 256 → bits .and .u8 (n : Int) 15 = (n : Int) % 16 := by decide +kernel
  exact h y.toNat y.toNat_lt

set_option maxHeartbeats 4000000 in
theorem landPrint_at (st : Nat) (hst : st < 3) (dv : Value) (d : List UInt8) (w : World) (hd : Bs w dv d) (h6 : d.length ≤ 6) :
    Calls Tryd.prog 9 #[.agg #[.int .i64 (st : Int), dv]] w fun e w' => e = .returned (.string ⟨(printL ⟨st, d⟩).toArray⟩) ∧ Below w.heap.size w w' := by
  obtain ⟨a, cap, rfl, -⟩ := id hd
  obtain ⟨P, hP⟩ : ∃ P : List UInt8, P = [b8 (48 + (st : Int))] ++ [58] := ⟨_, rfl⟩
  have hpr : printL ⟨st, d⟩ = P ++ hexL d := by rw [hP]; rfl
  have hPl : P.length = 2 := by rw [hP]; rfl
  rw [hpr]
  have HD := hide hd
  have HP := hide hP
  clear hd hpr hP
  obtain ⟨U, hU⟩ : ∃ U, U = w.alloc (.cells #[.int .i64 (st : Int), .slice a d.length cap] 24) := ⟨_, rfl⟩
  have hbU : Below w.heap.size w U := by rw [hU]; exact (Below.refl _ _).alloc (Nat.le_refl _) _
  have hUz : U.heap.size = w.heap.size + 1 := by rw [hU]; simp
  have hUg : U.heap[w.heap.size]? = some (.cells #[.int .i64 (st : Int), .slice a d.length cap] 24 (0, 0)) := by rw [hU]; exact heap_alloc_new _ _
  have c0 : U.cell? ⟨w.heap.size, 0, none⟩ = some (.int .i64 (st : Int)) := by rw [cell_of_row U _ 0 _ 24 (0, 0) hUg]; rfl
  obtain ⟨cb, u1, hcv, hO1, hb1, hz1⟩ := bytes_mark U ⟨#[b8 (48 + (st : Int))]⟩ [b8 (48 + (st : Int))] rfl (by unfold maxLen; simp)
  have c1 : u1.cell? ⟨w.heap.size, 1, none⟩ = some (.slice a d.length cap) := by rw [cell_of_row u1 _ 1 _ 24 (0, 0) ((hb1.block _ (by omega)).trans hUg)]; rfl
  rw [hUz] at hcv hO1 hz1
  simp only [List.length_singleton] at hcv hO1
  have HU := hide hU
  have HO1 := hide hO1
  have HB1 := hide (hbU.trans (hb1.mono hbU.size))
  have HC1 := hide c1
  clear hU hUg hO1 hb1 hbU hUz c1
  go_enter Tryd.func9, Tryd.ntmps9
  go_wp2_with fail
  rw [← HU.out]
  go_wp2_with (first
    | (go_at_call 14; refine (itoa_any st hst _).mono ?_; rintro e w1 ⟨rfl, rfl⟩)
    | (at_builtin; go_must (refine wpList_append_mark rfl (.tmp 9) (.tmp 10) rfl (w.heap.size + 1) (.slice (some ⟨w.heap.size + 1, 0, none⟩) 1 cb) [b8 (48 + (st : Int))] [58] rfl (HO1.out.later ((Below.refl _ _).alloc (Nat.le_refl _) _)) ⟨w.heap.size + 2, 0, none⟩ 1 1 rfl rfl (one_cell 58 58 (by decide) _ _ (by simp [hz1])) (by simp) (by simp; omega) ?_; intro g2 c2 w2 hO2 hg2; have hk2 : Below w.heap.size w w2 := (HB1.out.alloc HB1.out.size _).grown hg2 (by simp; omega) (fun k hk => by simp [Value.ownBlock] at hk; omega); have hc2 : w2.cell? ⟨w.heap.size, 1, none⟩ = some (.slice a d.length cap) := far_cellM hg2 (by simp [Value.ownBlock]) (by rw [← HC1.out]; exact World.cell?_alloc_lt _ _ _ (World.block_lt_of_cell? _ _ HC1.out)); rw [← HP.out] at hO2; have hz2 : w.heap.size + 3 ≤ w2.heap.size := (by have := hg2.size; simp [hz1] at this; omega); have HO2 := hide hO2; have HK2 := hide hk2; clear hO2 hg2 hk2)))
  go_loopw [3, 15] (fun s i wr => ∃ (k g c : Nat), k ≤ d.length ∧ i = .int .i64 k ∧ s = .slice (some ⟨g, 0, none⟩) (2 + 2 * k) c ∧ Om wr (w.heap.size + 1) s (P ++ hexL (d.take k)) ∧ w.heap.size + 1 ≤ wr.heap.size ∧ Below w.heap.size w wr) (fun _ i _ => d.length - (intOf i).toNat)
  case atStart => exact ⟨0, g2, c2, Nat.zero_le _, rfl, rfl, by rw [List.take_zero, show hexL [] = [] from rfl, List.append_nil]; exact HO2.out, by omega, HK2.out⟩
  case round =>
    obtain ⟨k, g, c, hk, rfl, rfl, hO, hz, hbr⟩ := hrel
    clear hc2 hz2 c0 hcv
    by_cases hlt : k < d.length
    · obtain ⟨y, hy⟩ := some_at hlt
      have hyb := y.toNat_lt
      obtain ⟨b1, o1, hac, hcs⟩ := (HD.out.later hbr).at (by omega)
      have hcy := hcs k y hy
      clear hcs
      subst hac
      have e1 : ((y.toNat / 16 : Nat) : Int) = (y.toNat : Int) / 16 := by omega
      have e2 : ((y.toNat % 16 : Nat) : Int) = (y.toNat : Int) % 16 := by omega
      have f1 := fun w => hex_at w (y.toNat / 16) (by omega)
      have f2 := fun w => hex_at w (y.toNat % 16) (by omega)
      rw [e1] at f1
      rw [e2] at f2
      have HX := hide (hex_snoc d k y hy)
      have hlen : (P ++ hexL (d.take k)).length = 2 + 2 * k := by rw [List.length_append, hPl, len_hex, List.length_take]; omega
      have HBR := hide hbr
      have HO := hide hO
      clear hbr hy e1 e2 hO
      obtain ⟨X, hX⟩ : ∃ X, X = P ++ hexL (d.take k) := ⟨_, rfl⟩
      rw [← hX] at hlen HO
      have HX2 := hide hX
      have HLN := hide hlen
      clear hX hlen
      have hlt' : (k : Int) < (d.length : Int) := by omega
      have ha15 := and15 y
      go_wp2_with fail
      refine regs.heldS_begin (S := fun _ => True) (by kernel_rfl) ?_
      refine regs.heldS_take (i := 0) (v := .slice (some ⟨g, 0, none⟩) (2 + 2 * k) c) rfl (by kernel_rfl) (by kernel_rfl) (by kernel_rfl) (fun _ _ _ h => h) (by rfl) (fun w' hb => by go_simp) True.intro ?_
      simp only [Act.put, List.setIfInBounds_toArray, List.set_cons_zero, List.set_cons_succ, List.getElem_toArray, List.getElem_cons_zero]
      refine regs.heldS_take (i := 1) (v := .int .u8 (y.toNat : Int)) rfl (by kernel_rfl) (by kernel_rfl) (by kernel_rfl) (fun _ _ _ h => h) (by rfl) (fun w' hb => by go_simp) True.intro ?_
      simp only [Act.put, List.setIfInBounds_toArray, List.set_cons_zero, List.set_cons_succ, List.getElem_toArray, List.getElem_cons_zero, List.getElem_cons_succ]
      refine regs.heldS_take (i := 2) (v := .int .u8 ((y.toNat : Int) / 16)) rfl (by kernel_rfl) (by kernel_rfl) (by kernel_rfl) (fun _ _ _ h => h) (by rfl) (fun w' hb => by go_simp) True.intro ?_
      simp only [Act.put, List.setIfInBounds_toArray, List.set_cons_zero, List.set_cons_succ, List.getElem_toArray, List.getElem_cons_zero, List.getElem_cons_succ]
      refine regs.heldS_take (i := 3) (v := .int .u8 (i8 (hexB (y.toNat / 16)))) rfl (by kernel_rfl) (by kernel_rfl) (by kernel_rfl) (fun _ _ _ h => h) (by rfl) (fun w' hb => by go_simp) True.intro ?_
      simp only [Act.put, List.setIfInBounds_toArray, List.set_cons_zero, List.set_cons_succ, List.getElem_toArray, List.getElem_cons_zero, List.getElem_cons_succ]
      refine regs.heldS_take (i := 4) (v := .int .u8 (y.toNat : Int)) rfl (by kernel_rfl) (by kernel_rfl) (by kernel_rfl) (fun _ _ _ h => h) (by rfl) (fun w' hb => by go_simp) True.intro ?_
      simp only [Act.put, List.setIfInBounds_toArray, List.set_cons_zero, List.set_cons_succ, List.getElem_toArray, List.getElem_cons_zero, List.getElem_cons_succ]
      refine regs.heldS_take (i := 5) (v := .int .u8 ((y.toNat : Int) % 16)) rfl (by kernel_rfl) (by kernel_rfl) (by kernel_rfl) (fun _ _ _ h => h) (by rfl) (fun w' hb => by go_simp) True.intro ?_
      simp only [Act.put, List.setIfInBounds_toArray, List.set_cons_zero, List.set_cons_succ, List.getElem_toArray, List.getElem_cons_zero, List.getElem_cons_succ]
      refine regs.heldS_take (i := 6) (v := .int .u8 (i8 (hexB (y.toNat % 16)))) rfl (by kernel_rfl) (by kernel_rfl) (by kernel_rfl) (fun _ _ _ h => h) (by rfl) (fun w' hb => by go_simp) True.intro ?_
      simp only [Act.put, List.setIfInBounds_toArray, List.set_cons_zero, List.set_cons_succ, List.getElem_toArray, List.getElem_cons_zero, List.getElem_cons_succ]
      refine regs.heldS_ready (rs := [7]) (by kernel_rfl) (by simp) (regs.comes1 ?_)
      refine ⟨_, rfl, fun K hK => ?_⟩
      go_simp
      refine hK.out _ _ True.intro ?_
      clear hK K
      refine regs.heldS_ready (rs := [8]) (by kernel_rfl) (by simp) (regs.comes1 ?_)
      refine ⟨_, rfl, fun K hK => ?_⟩
      refine step_append_mark rfl (.tmp 19) (.tmp 26) rfl (w.heap.size + 1) (.slice (some ⟨g, 0, none⟩) (2 + 2 * k) c) X [hexB (y.toNat / 16), hexB (y.toNat % 16)] rfl (HO.out.later (Below.drew ((Below.refl _ _).alloc (Nat.le_refl _) _))) ⟨wr.heap.size, 0, none⟩ 2 2 rfl rfl (two_cells _ _ wr) (by rw [HLN.out]; omega) (by simp; omega) ?_
      intro g3 c3 w3 hO3 hg3
      have hk3 : Below w.heap.size w w3 := (Below.drew (HBR.out.alloc HBR.out.size _)).grown hg3 (by simp; omega) (fun q hq => by obtain ⟨g', c', hv, h1, h2⟩ := HO.out.form; rw [hv] at hq; simp [Value.ownBlock] at hq; omega)
      have hz3 : w.heap.size + 1 ≤ w3.heap.size := by have := hg3.size; simp at this; omega
      rw [HLN.out] at hO3 ⊢
      rw [HX2.out, List.append_assoc, ← HX.out, show 2 + 2 * k + 2 = 2 + 2 * (k + 1) by omega] at hO3
      rw [show 2 + 2 * k + 2 = 2 + 2 * (k + 1) by omega]
      have HO3 := hide hO3
      have HK3 := hide hk3
      clear hO3 hg3 hk3
      refine hK.out _ _ True.intro ?_
      clear hK K
      simp only [Act.put, List.setIfInBounds_toArray, List.set_cons_zero, List.set_cons_succ, List.getElem_toArray, List.getElem_cons_zero, List.getElem_cons_succ]
      refine regs.heldS_take (i := 9) (v := .slice (some ⟨g3, 0, none⟩) (2 + 2 * (k + 1)) c3) rfl (by kernel_rfl) (by kernel_rfl) (by kernel_rfl) (fun _ _ _ h => h) (by rfl) (fun w' hb => by go_simp) True.intro ?_
      simp only [Act.put, List.setIfInBounds_toArray, List.set_cons_zero, List.set_cons_succ, List.getElem_toArray, List.getElem_cons_zero, List.getElem_cons_succ]
      refine regs.heldS_done (by kernel_rfl) ?_ _
      go_wp2_with fail
      go_roundw
      case rel => exact ⟨k + 1, g3, c3, by omega, by go_num, rfl, HO3.out, hz3, HK3.out⟩
      case measure => simp [intOf]; omega
    · have hke : k = d.length := by omega
      subst hke
      rw [List.take_of_length_le (Nat.le_refl _)] at hO
      have hcr := conv_run hO.bs
      have HBR := hide hbr
      clear hO hbr
      go_wp2
      go_ret
      exact ⟨rfl, HBR.out⟩

theorem landPrint_any : ∀ v m w, Mv w v m → wrongMsgL m.stream m.data = 0 → Calls Tryd.prog 9 #[v] w fun e w' => e = .returned (.string ⟨(printL m).toArray⟩) ∧ Below w.heap.size w w' := by
  intro v m w h hr
  obtain ⟨dv, rfl, hd, -⟩ := h
  have hm := right_msg hr
  obtain ⟨s, d⟩ := m
  simp only at *
  obtain ⟨st, rfl⟩ := Int.eq_ofNat_of_zero_le hm.1
  exact landPrint_at st (by omega) dv d w hd hm.2.2
end Go.Proofs.YtlomffhofionnaaDoor.leaf
