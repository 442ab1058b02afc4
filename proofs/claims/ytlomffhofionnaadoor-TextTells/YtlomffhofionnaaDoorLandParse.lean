/-
  The contract of the program's reading of a text.
-/
import Derived.Test.YtlomffhofionnaaDoorLandItoa
import Derived.Test.YtlomffhofionnaaDoorRegsH
import Derived.Test.YtlomffhofionnaaDoorLandWrong
namespace Go.Proofs.YtlomffhofionnaaDoor.leaf
set_option linter.unusedVariables false
open Go.RowKit
open mth

theorem str_at {S : ByteArray} {xs : List UInt8} (hxs : S.data.toList = xs) {j : Nat} {y : UInt8} (hy : xs[j]? = some y) (k : Int) (hk : k = j) (w : World) : (Instr.index 9 (.string S) (.int .i64 k)).run Tryd.prog w = .ok (.int .u8 (y.toNat : Int)) w := by
  subst hk hxs
  have hj := (List.getElem?_eq_some_iff.1 hy).1
  have hj' : j < S.size := by rw [Array.length_toList] at hj; exact hj
  rw [run_index_string w 9 S .i64 _ Tryd.underlying9, dif_pos ⟨by omega, by omega⟩]
  rw [Array.getElem?_toList, Array.getElem?_eq_getElem (by exact hj')] at hy
  injection hy with hy
  rw [← hy]
  rfl
theorem or4 (x y : UInt8) (hx : 0 ≤ valB x) (hy : 0 ≤ valB y) : bits .or .i64 (valB x * 16) (valB y) = 16 * valB x + valB y := by
  have h : ∀ a b : Nat, a < 16 → b < 16 → bits .or .i64 ((a : Int) * 16) (b : Int) = 16 * (a : Int) + (b : Int) := by
    intro a b ha hb
    have h1 : ∀ a, a < 16 → ∀ b, b < 16 → bits .or .i64 (((a : Nat) : Int) * 16) ((b : Nat) : Int) = 16 * (a : Int) + (b : Int) := by decide +kernel
    exact h1 a ha b hb
  have h0 := val_bd x
  have h1 := val_bd y
  obtain ⟨a, ha⟩ := Int.eq_ofNat_of_zero_le hx
  obtain ⟨b, hb⟩ := Int.eq_ofNat_of_zero_le hy
  rw [ha, hb]
  exact h a b (by omega) (by omega)
theorem take_two (xs : List UInt8) (j : Nat) (y0 y1 : UInt8) (h0 : xs[j]? = some y0) (h1 : xs[j + 1]? = some y1) : xs.take (j + 2) = xs.take j ++ [y0] ++ [y1] := by
  rw [List.take_add_one, List.take_add_one, h0, h1]; rfl
theorem pairs_two (l : List UInt8) (p y : UInt8) (h : l.length % 2 = 0) : pairsL (l ++ [p] ++ [y]) = pairsL l ++ [b8 (16 * valB p + valB y)] := by
  rw [pairs_odd l p y h, pairs_even l p h]
theorem digits_two (l : List UInt8) (p y : UInt8) (h : digitsL l = true) : digitsL (l ++ [p] ++ [y]) = (decide (0 ≤ valB p) && decide (0 ≤ valB y)) := by
  unfold digitsL at *
  simp [List.all_append, h]
theorem digits_not (xs : List UInt8) (j : Nat) (y : UInt8) (h : xs[j]? = some y) (hv : valB y < 0) : digitsL xs = false := by
  unfold digitsL
  rw [List.all_eq_false]
  exact ⟨y, List.mem_of_getElem? h, by simp; omega⟩

theorem owns_formB {w : World} {base e n : Nat} {v : Value} {xs : List Value} (h : w.ownsRow base e 1 v n xs) : ∃ a c, v = .slice a n c := by
  obtain ⟨h1, ⟨rfl, h0⟩ | ⟨g, cap, cur, rfl, _⟩⟩ := h
  · subst h0; exact ⟨none, 0, rfl⟩
  · exact ⟨_, _, rfl⟩
/-- What the digits say, right or wrong. -/
def digitsOk (xs : List UInt8) : Bool := decide (xs.length % 2 = 0) && digitsL xs

set_option maxHeartbeats 1000000 in
theorem digits_odd (S : ByteArray) (w : World) (h : ((S.size : Int) % 2 != 0) = true) (hsz : S.size ≤ 140737488355328) :
    Calls Tryd.prog 15 #[.string S] w fun e w' => e = .returned (.tuple #[.slice none 0 0, .bool false]) ∧ w = w' := by
  go_enter Tryd.func15, Tryd.ntmps15
  go_wp2
  go_ret2
  exact ⟨rfl, rfl⟩

set_option maxRecDepth 100000 in
set_option maxHeartbeats 4000000 in
theorem digits_in (S : ByteArray) (xs : List UInt8) (w : World) (hxs : S.data.toList = xs) (h : ((S.size : Int) % 2 != 0) = false) (hsz : S.size ≤ 140737488355328) (R : Bool) (hR : Hid (R = digitsL xs)) :
    Calls Tryd.prog 15 #[.string S] w fun e w' => ∃ v', e = .returned (.tuple #[v', .bool R]) ∧ (∃ ys, Bs w' v' ys ∧ ys.length ≤ 140737488355328 ∧ (R = true → ys = pairsL xs)) ∧ Below w.heap.size w w' := by
  obtain ⟨i0, hi, hz0, hz1, hz2⟩ := info_parts info5
  have hlen : xs.length = S.size := by rw [← hxs, Array.length_toList]; rfl
  have hev : S.size % 2 = 0 := by simp at h; omega
  have hmk : ∀ u : World, (Instr.makeSlice 22 (.int .i64 0) (.int .i64 ((S.size : Int) / 2))).run Tryd.prog u =
      .ok (.slice (some ⟨u.heap.size, 0, none⟩) 0 (S.size / 2)) (u.alloc (.cells (madeCells #[.int .u8 0] (S.size / 2)) 5)) := fun u => by
    have h := run_make (P := Tryd.prog) u 22 5 i0 (.int .u8 0) Tryd.underlying22 hi hz0 .i64 .i64 0 ((S.size : Int) / 2) (by omega) (by omega) (by rw [hz2]; omega) (by omega)
    have e : ((S.size : Int) / 2).toNat = S.size / 2 := by omega
    rw [e] at h
    simpa [hz1, Value.cells] using h
  have HXS := hide hxs
  have HLEN := hide hlen
  have HEV := hide hev
  clear hlen hxs hev
  go_enter Tryd.func15, Tryd.ntmps15
  go_wp2_with fail
  go_loopw [4, 5] (fun s i wr => ∃ (j : Nat) (a1 : Option Addr) (c1 : Nat), j ≤ S.size ∧ j % 2 = 0 ∧ i = .int .i64 (j : Int) ∧ s = .slice a1 (j / 2) c1 ∧ wr.ownsRow w.heap.size 5 1 s (j / 2) ((pairsL (xs.take j)).map B) ∧ digitsL (xs.take j) = true ∧ Below w.heap.size w wr) (fun _ i _ => S.size - (intOf i).toNat)
  case atStart =>
    exact ⟨0, _, _, Nat.zero_le _, rfl, rfl, rfl, World.ownsRow_made w _ _ (Nat.le_refl _) (by unfold maxLen; omega) (by simp [madeCells]), rfl, (Below.refl _ _).alloc (Nat.le_refl _) _⟩
  case round =>
    obtain ⟨j, a1, c1, hj, hje, rfl, rfl, hO, hD, hb⟩ := hrel
    by_cases hlt : j < S.size
    · have hlt' : (j : Int) < (S.size : Int) := by omega
      have hlt1 : (j : Int) + 1 < (S.size : Int) := by have := HEV.out; omega
      obtain ⟨y0, hy0⟩ := some_at (xs := xs) (k := j) (by rw [HLEN.out]; exact hlt)
      obtain ⟨y1, hy1⟩ := some_at (xs := xs) (k := j + 1) (by rw [HLEN.out]; omega)
      have f0 := fun w => str_at HXS.out hy0 (j : Int) rfl w
      have f1 := fun w => str_at HXS.out hy1 ((j : Int) + 1) (by omega) w
      have hwrap : IntKind.i64.wrap ((j : Int) + 1) = (j : Int) + 1 := by rw [IntKind.wrap_i64]; omega
      have hv0 := val_bd y0
      have hv1 := val_bd y1
      have HY0 := hide hy0
      have HY1 := hide hy1
      have HO := hide hO
      have HDG := hide hD
      have HB := hide hb
      have HJE := hide hje
      clear hy0 hy1 hO hD hb hje hmk h
      go_wp2_with fail
      refine regs.heldS_begin (S := fun x => x = wr.drew) (by kernel_rfl) ?_
      refine regs.heldS_take (i := 0) (v := .string S) rfl (by kernel_rfl) (by kernel_rfl) (by kernel_rfl) (fun _ _ _ h => h) (by rfl) (fun w' hb => by go_simp) rfl ?_
      simp only [Act.put, List.setIfInBounds_toArray, List.set_cons_zero, List.set_cons_succ, List.getElem_toArray, List.getElem_cons_zero]
      refine regs.heldS_take (i := 1) (v := .int .i64 (j : Int)) rfl (by kernel_rfl) (by kernel_rfl) (by kernel_rfl) (fun _ _ _ h => h) (by rfl) (fun w' hb => by go_simp) rfl ?_
      simp only [Act.put, List.setIfInBounds_toArray, List.set_cons_zero, List.set_cons_succ, List.getElem_toArray, List.getElem_cons_zero, List.getElem_cons_succ]
      refine regs.heldS_take (i := 2) (v := .int .u8 (y0.toNat : Int)) rfl (by kernel_rfl) (by kernel_rfl) (by kernel_rfl) (fun _ _ _ h => h) (by rfl) (fun w' hb => by go_simp) rfl ?_
      simp only [Act.put, List.setIfInBounds_toArray, List.set_cons_zero, List.set_cons_succ, List.getElem_toArray, List.getElem_cons_zero, List.getElem_cons_succ]
      refine regs.heldS_take (i := 4) (v := .string S) rfl (by kernel_rfl) (by kernel_rfl) (by kernel_rfl) (fun _ _ _ h => h) (by rfl) (fun w' hb => by go_simp) rfl ?_
      simp only [Act.put, List.setIfInBounds_toArray, List.set_cons_zero, List.set_cons_succ, List.getElem_toArray, List.getElem_cons_zero, List.getElem_cons_succ]
      refine regs.heldS_take (i := 5) (v := .int .i64 (j : Int)) rfl (by kernel_rfl) (by kernel_rfl) (by kernel_rfl) (fun _ _ _ h => h) (by rfl) (fun w' hb => by go_simp) rfl ?_
      simp only [Act.put, List.setIfInBounds_toArray, List.set_cons_zero, List.set_cons_succ, List.getElem_toArray, List.getElem_cons_zero, List.getElem_cons_succ]
      refine regs.heldS_take (i := 6) (v := .int .i64 ((j : Int) + 1)) rfl (by kernel_rfl) (by kernel_rfl) (by kernel_rfl) (fun _ _ _ h => h) (by rfl) (fun w' hb => by go_simp) rfl ?_
      simp only [Act.put, List.setIfInBounds_toArray, List.set_cons_zero, List.set_cons_succ, List.getElem_toArray, List.getElem_cons_zero, List.getElem_cons_succ]
      refine regs.heldS_take (i := 7) (v := .int .u8 (y1.toNat : Int)) rfl (by kernel_rfl) (by kernel_rfl) (by kernel_rfl) (fun _ _ _ h => h) (by rfl) (fun w' hb => by go_simp) rfl ?_
      simp only [Act.put, List.setIfInBounds_toArray, List.set_cons_zero, List.set_cons_succ, List.getElem_toArray, List.getElem_cons_zero, List.getElem_cons_succ]
      refine regs.heldS_ready (rs := [3]) (by kernel_rfl) (by simp) (regs.comes1 ?_)
      refine ⟨_, rfl, fun K hK => ?_⟩
      go_simp
      go_wp2_with ((go_at_call 17; refine (idx_any y0 _).mono ?_; rintro e w' ⟨rfl, rfl⟩))
      refine hK.out _ _ rfl ?_
      clear hK K
      refine regs.heldS_ready (rs := [8]) (by kernel_rfl) (by simp) (regs.comes1 ?_)
      refine ⟨_, rfl, fun K hK => ?_⟩
      go_simp
      go_wp2_with ((go_at_call 17; refine (idx_any y1 _).mono ?_; rintro e w' ⟨rfl, rfl⟩))
      refine hK.out _ _ rfl ?_
      clear hK K
      refine regs.heldS_take (i := 9) (v := .int .i64 (valB y0)) rfl (by kernel_rfl) (by kernel_rfl) (by kernel_rfl) (fun _ _ _ h => h) (by rfl) (fun w' hb => by go_simp) rfl ?_
      simp only [Act.put, List.setIfInBounds_toArray, List.set_cons_zero, List.set_cons_succ, List.getElem_toArray, List.getElem_cons_zero, List.getElem_cons_succ]
      refine regs.heldS_take (i := 10) (v := .int .i64 (valB y1)) rfl (by kernel_rfl) (by kernel_rfl) (by kernel_rfl) (fun _ _ _ h => h) (by rfl) (fun w' hb => by go_simp) rfl ?_
      simp only [Act.put, List.setIfInBounds_toArray, List.set_cons_zero, List.set_cons_succ, List.getElem_toArray, List.getElem_cons_zero, List.getElem_cons_succ]
      refine regs.heldS_done (by kernel_rfl) ?_ _
      rcases (show valB y0 < 0 ∨ (0 ≤ valB y0 ∧ valB y1 < 0) ∨ (0 ≤ valB y0 ∧ 0 ≤ valB y1) by omega) with c | c | c
      · have hr : R = false := hR.out.trans (digits_not xs j y0 HY0.out c)
        subst hr
        go_wp2
        go_ret2
        exact ⟨_, rfl, ⟨[], Bs_nil _, by simp, fun h => by cases h⟩, Below.drew HB.out⟩
      · have hr : R = false := hR.out.trans (digits_not xs (j + 1) y1 HY1.out c.2)
        subst hr
        have c0 := c.1
        have c1' := c.2
        clear c
        go_wp2
        go_ret2
        exact ⟨_, rfl, ⟨[], Bs_nil _, by simp, fun h => by cases h⟩, Below.drew HB.out⟩
      · have ho := or4 y0 y1 c.1 c.2
        have c0 := c.1
        have c1' := c.2
        clear c
        have HTWO := hide (take_two xs j y0 y1 HY0.out HY1.out)
        have HPR : Hid (pairsL (xs.take (j + 2)) = pairsL (xs.take j) ++ [b8 (16 * valB y0 + valB y1)]) := by
          rw [HTWO.out]; exact pairs_two _ _ _ (by rw [List.length_take, HLEN.out]; have := HJE.out; omega)
        have hdt : digitsL (xs.take (j + 2)) = true := by
          rw [HTWO.out, digits_two _ _ _ HDG.out]; simp [c0, c1']
        have HDT := hide hdt
        clear hdt
        obtain ⟨X, hX⟩ : ∃ X, X = pairsL (xs.take j) := ⟨_, rfl⟩
        rw [← hX] at HO HPR
        clear hX HTWO
        go_wp2_with (at_builtin; go_must (refine wpList_append_own _ rfl (.tmp 37) (.tmp 43) 22 rfl w.heap.size 5 i0 (.int .u8 0) 1 1 Tryd.underlying22 hi hz0 hz1 hz2 rfl (by decide) (.slice a1 (j / 2) c1) (j / 2) (X.map B) rfl (HO.out.alloc _) ⟨wr.heap.size, 0, none⟩ 1 1 [.int .u8 (16 * valB y0 + valB y1)] rfl rfl (one_newB wr (.int .u8 (16 * valB y0 + valB y1))) (fun u hu => by simp at hu; subst hu; rfl) (by unfold maxLen; omega) (by omega) (by have := HB.out.size; simp; omega) ?_; intro v2 w2 hown2 hgrow2 hnil2; clear hnil2; have HO2 := hide hown2; have HG2 := hide hgrow2; clear hown2 hgrow2))
        go_roundw
        case rel =>
          have hv : [Value.int .u8 (16 * valB y0 + valB y1)] = [b8 (16 * valB y0 + valB y1)].map B := by simp [B, b8_toNat (show 0 ≤ 16 * valB y0 + valB y1 ∧ 16 * valB y0 + valB y1 ≤ 255 by omega)]
          have ho2 := HO2.out
          rw [hv, ← List.map_append, ← HPR.out] at ho2
          have hb2 : Below w.heap.size w w2 := (Below.drew (HB.out.alloc HB.out.size _)).grown HG2.out (by have := HB.out.size; simp; omega) (fun q hq => by have := (HO.out.lt q hq).1; omega)
          have he : j / 2 + 1 = (j + 2) / 2 := by omega
          rw [he] at ho2
          obtain ⟨a2, c2, rfl⟩ := owns_formB ho2
          exact ⟨j + 2, a2, c2, by omega, by have := HJE.out; omega, by go_num, rfl, ho2, HDT.out, hb2⟩
        case measure => simp [intOf]; omega
    · have hke : j = S.size := by omega
      subst hke
      rw [List.take_of_length_le (by rw [HLEN.out]; exact Nat.le_refl _)] at hO hD
      have hr : R = true := hR.out.trans hD
      subst hr
      have HV := hide (owns_Bs hO)
      have HB := hide hb
      clear hO hD hb h hmk
      go_wp2
      go_ret2
      exact ⟨_, rfl, ⟨HV.out, by rw [len_pairs, HLEN.out]; omega⟩, HB.out⟩

theorem digits_any (S : ByteArray) (xs : List UInt8) (w : World) (hxs : S.data.toList = xs) (hsz : S.size ≤ 140737488355328) :
    Calls Tryd.prog 15 #[.string S] w fun e w' => ∃ v', e = .returned (.tuple #[v', .bool (digitsOk xs)]) ∧ (∃ ys, Bs w' v' ys ∧ ys.length ≤ 140737488355328 ∧ (digitsOk xs = true → ys = pairsL xs)) ∧ Below w.heap.size w w' := by
  have hlen : xs.length = S.size := by rw [← hxs, Array.length_toList]; rfl
  by_cases h : S.size % 2 = 0
  · have e : digitsOk xs = digitsL xs := by unfold digitsOk; rw [hlen]; simp [h]
    rw [e]
    exact digits_in S xs w hxs (by simp; omega) hsz _ rfl
  · have e : digitsOk xs = false := by unfold digitsOk; rw [hlen]; simp [h]
    rw [e]
    exact (digits_odd S w (by simp; omega) hsz).mono fun e w' ⟨h1, h2⟩ => ⟨_, h1, ⟨[], Bs_nil _, by simp, fun h => by cases h⟩, by rw [← h2]; exact Below.refl _ _⟩
end Go.Proofs.YtlomffhofionnaaDoor.leaf
